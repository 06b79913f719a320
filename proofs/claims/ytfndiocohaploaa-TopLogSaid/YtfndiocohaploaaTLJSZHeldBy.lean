/- Own work. -/
import Derived.Deep.RegionHeld
import Derived.KernelRfl
import Derived.Laws.Bits64
import Derived.WalkArith
import Derived.Laws.IdiomStrings
import Derived.Deep.AppendLies
import Derived.Laws.AppendOwn
import Derived.OwnWalk
import Derived.Outline
import Derived.WalkKit
import Derived.WalkSpells
import Derived.WalkLawsBesides
import Derived.Lib.Hide
import Derived.Deep.RegionHeld3
import Derived.BigRegion
import Derived.Laws.Tables
import Derived.Deep.WholeRow
import Derived.Deep.MidRow
import Derived.Laws.CopyOwn
import Derived.Laws.OwnMore
import Derived.Laws.MakeOwn
import Derived.Great.BuildSlice
import Derived.ChangeKeysEq
import Derived.Deep.Cut
import Derived.Test.YtfndiocohaploaaProg
import Derived.Test.YtfndiocohaploaaChecked
import Derived.Laws.BitsAllLaws
namespace Go.HeldBy
open Go
section
variable {P : Program} {ops : Array Oper} {Q : Exit → Act → World → Prop} {md : Region.Mode} {S : World → Prop}
theorem take {i : Nat} {oi : Oper} {v : Value} {fuel : Nat} {listed : Array Bool} {a a' : Act} {w : World} (hi : ops[i]? = some oi) (hs : Region.noSelect ops = true) (hf : Region.free md ops listed i = true)
    (hr : (Region.ready md ops listed).contains i = true) (hQ : ∀ c a w, Q (.panic c) (a.put oi.dst v) w → Q (.panic c) a w) (hw : Region.wanted oi (yielded ops a.tmps) = true)
    (hv : ∀ w, S w → (execOp a.eval oi).run P w = .ok (.value v) w) (he : a.put oi.dst v = a') (hS : S w) (h : wpAnyH P md ops Q S fuel (listed.setIfInBounds i true) a' w) : wpAnyH P md ops Q S (fuel + 1) listed a w :=
  wpAnyH_take hi hs hf hr hQ (.inl ⟨hw, hv⟩) hS (he ▸ h)
theorem skip {i : Nat} {oi : Oper} {fuel : Nat} {listed : Array Bool} {a a' : Act} {w : World} (hi : ops[i]? = some oi) (hs : Region.noSelect ops = true) (hf : Region.free md ops listed i = true)
    (hr : (Region.ready md ops listed).contains i = true) (hQ : ∀ c a w, Q (.panic c) (a.put oi.dst undef) w → Q (.panic c) a w) (hw : Region.wanted oi (yielded ops a.tmps) = false)
    (he : a.put oi.dst undef = a') (hS : S w) (h : wpAnyH P md ops Q S fuel (listed.setIfInBounds i true) a' w) : wpAnyH P md ops Q S (fuel + 1) listed a w :=
  wpAnyH_take hi hs hf hr hQ (.inr ⟨hw, rfl⟩) hS (he ▸ h)
theorem value {i : Nat} {oi : Oper} {v : Value} {fuel : Nat} {listed : Array Bool} {a a' : Act} {w w' : World} (hi : ops[i]? = some oi) (hr : Region.ready md ops listed = [i]) (hw : Region.wanted oi (yielded ops a.tmps) = true)
    (hv : (execOp a.eval oi).run P w = .ok (.value v) w') (he : a.put oi.dst v = a') (hS : S w') (h : wpAnyH P md ops Q S fuel (listed.setIfInBounds i true) a' w') : wpAnyH P md ops Q S (fuel + 1) listed a w := by
  refine wpAnyH_all hr (by simp) fun j hj => ?_
  obtain rfl : j = i := by simpa using hj
  unfold wpOp
  simp only [hi, hw, if_true]
  refine .inl ?_
  unfold Oper.wp
  rw [hv]
  exact ⟨hS, he ▸ h⟩
theorem store {i : Nat} {oi : Oper} {fuel : Nat} {listed : Array Bool} {a a' : Act} {w w' : World} (hi : ops[i]? = some oi) (hr : Region.ready md ops listed = [i]) (hw : Region.wanted oi (yielded ops a.tmps) = true)
    (hv : (execOp a.eval oi).run P w = .ok .skip w') (he : a.put oi.dst undef = a') (hS : S w') (h : wpAnyH P md ops Q S fuel (listed.setIfInBounds i true) a' w') : wpAnyH P md ops Q S (fuel + 1) listed a w := by
  refine wpAnyH_all hr (by simp) fun j hj => ?_
  obtain rfl : j = i := by simpa using hj
  unfold wpOp
  simp only [hi, hw, if_true]
  refine .inl ?_
  unfold Oper.wp
  rw [hv]
  exact ⟨hS, he ▸ h⟩
theorem call {i : Nat} {oi : Oper} {v : Value} {f : FuncId} {args : Array Value} {fuel : Nat} {listed : Array Bool} {a a' : Act} {w : World} (hi : ops[i]? = some oi) (hr : Region.ready md ops listed = [i]) (hw : Region.wanted oi (yielded ops a.tmps) = true)
    (hv : (execOp a.eval oi).run P w = .ok (.enter f args) w) (he : a.put oi.dst v = a')
    (h : Calls P f args w fun e w' => e = .returned v ∧ S w' ∧ wpAnyH P md ops Q S fuel (listed.setIfInBounds i true) a' w') : wpAnyH P md ops Q S (fuel + 1) listed a w := by
  refine wpAnyH_all hr (by simp) fun j hj => ?_
  obtain rfl : j = i := by simpa using hj
  unfold wpOp
  simp only [hi, hw, if_true]
  refine .inl ?_
  unfold Oper.wp
  rw [hv]
  exact h.mono fun e w' ⟨h1, h2, h3⟩ => by subst h1; exact ⟨h2, he ▸ h3⟩
theorem gen {fuel : Nat} {listed : Array Bool} {a : Act} {w : World} (F : World → Prop) (hF : F w) (h : ∀ w1, F w1 → wpAnyH P md ops Q S fuel listed a w1) : wpAnyH P md ops Q S fuel listed a w := h w hF
end
end Go.HeldBy
namespace Go.Proofs.Ytfndiocohaploaa.L
abbrev Bytes := List UInt8
def need (n : Nat) : Nat := if n < 1 ∨ 1024 < n then 0 else (n + 71) / 64
theorem need_pos {n : Nat} (h : 1 ≤ n) (h2 : n ≤ 1024) : need n = (n + 71) / 64 := by unfold need; rw [if_neg (by omega)]
theorem need_le (n : Nat) : need n ≤ 17 := by unfold need; split <;> omega
theorem need_zero {n : Nat} : need n = 0 ↔ n < 1 ∨ 1024 < n := by unfold need; split <;> omega
theorem need_room {n : Nat} (h : need n ≠ 0) : 1 ≤ n ∧ n ≤ 1024 ∧ n + 8 ≤ need n * 64 ∧ need n * 64 < n + 72 := by
  have h1 := mt need_zero.2 h
  rw [need_pos (by omega) (by omega)]
  omega
def step (p : Nat × Nat) (b : UInt8) : Nat × Nat := ((p.1 + b.toNat) % 65521, (p.2 + (p.1 + b.toNat) % 65521) % 65521)
def half (l : Bytes) : Nat × Nat := l.foldl step (1, 0)
def sum (l : Bytes) : Nat := (half l).2 * 65536 + (half l).1
theorem half_snoc (l : Bytes) (b : UInt8) : half (l ++ [b]) = step (half l) b := by unfold half; rw [List.foldl_append]; rfl
theorem half_lt (l : Bytes) : (half l).1 < 65521 ∧ (half l).2 < 65521 := by
  rcases List.eq_nil_or_concat l with rfl | ⟨l, b, rfl⟩
  · exact ⟨by decide, by decide⟩
  · rw [List.concat_eq_append, half_snoc]
    exact ⟨Nat.mod_lt _ (by decide), Nat.mod_lt _ (by decide)⟩
theorem sum_lt (l : Bytes) : sum l < 4294967296 := by have := half_lt l; unfold sum; omega
def u8 (n : Nat) : UInt8 := UInt8.ofNat n
theorem u8_nat (n : Nat) : (u8 n).toNat = n % 256 := by unfold u8; simp
def head (l : Bytes) (n : Nat) : Bytes := [u8 (l.length / 256), u8 l.length, u8 (n / 256), u8 n, u8 (sum l / 16777216), u8 (sum l / 65536), u8 (sum l / 256), u8 (sum l)]
theorem head_length (l : Bytes) (n : Nat) : (head l n).length = 8 := rfl
def laid (l : Bytes) (n : Nat) : Bytes := head l n ++ l ++ List.replicate (need l.length * 64 - (8 + l.length)) 0
theorem laid_length {l : Bytes} (h : need l.length ≠ 0) (n : Nat) : (laid l n).length = need l.length * 64 := by
  have := need_room h
  unfold laid
  rw [List.length_append, List.length_append, List.length_replicate, head_length]
  omega
def lenOf (b : Bytes) : Nat := (b.getD 0 0).toNat * 256 + (b.getD 1 0).toNat
theorem lenOf_laid {l : Bytes} (h : l.length < 65536) (n : Nat) (r : Bytes) : lenOf (laid l n ++ r) = l.length := by
  have e : laid l n ++ r = u8 (l.length / 256) :: u8 l.length :: ((laid l n).drop 2 ++ r) := rfl
  rw [e]
  unfold lenOf
  simp only [List.getD_cons_zero, List.getD_cons_succ, u8_nat]
  omega
def first (b : Bytes) (n : Nat) : Option Bytes :=
  if b.length = 0 ∨ need (lenOf b) = 0 ∨ b.length < need (lenOf b) * 64 then none
  else if laid ((b.drop 8).take (lenOf b)) n = b.take (need (lenOf b) * 64) then some ((b.drop 8).take (lenOf b)) else none
theorem first_some {b r : Bytes} {n : Nat} (h : first b n = some r) : need r.length ≠ 0 ∧ b.take (need r.length * 64) = laid r n ∧ need r.length * 64 ≤ b.length ∧ r = (b.drop 8).take r.length ∧ lenOf b = r.length := by
  unfold first at h
  split at h
  · cases h
  · next h1 =>
    split at h
    · next h2 =>
      cases h
      have h3 : need (lenOf b) ≠ 0 := by omega
      have h4 := need_room h3
      have hl : ((b.drop 8).take (lenOf b)).length = lenOf b := by rw [List.length_take, List.length_drop]; omega
      rw [hl]
      exact ⟨h3, h2.symm, by omega, rfl, rfl⟩
    · cases h
theorem drop8_laid (l : Bytes) (n : Nat) (r : Bytes) : ((laid l n ++ r).drop 8).take l.length = l := by
  have e : (laid l n ++ r).drop 8 = l ++ (List.replicate (need l.length * 64 - (8 + l.length)) 0 ++ r) := by
    unfold laid
    rw [List.append_assoc, List.append_assoc]
    rfl
  rw [e, List.take_left]
theorem first_laid {l : Bytes} (h : need l.length ≠ 0) (n : Nat) (r : Bytes) : first (laid l n ++ r) n = some l := by
  have h1 := need_room h
  have hl : lenOf (laid l n ++ r) = l.length := lenOf_laid (by omega) n r
  have hn := laid_length h n
  unfold first
  rw [hl, drop8_laid, if_neg (by rw [List.length_append, hn]; omega), if_pos]
  rw [show need l.length * 64 = (laid l n).length from hn.symm, List.take_left]
theorem first_of_take {b c r : Bytes} {n : Nat} (h : first b n = some r) (hc : c.take (need r.length * 64) = b.take (need r.length * 64)) : first c n = some r := by
  obtain ⟨h1, h2, h3, h4, h5⟩ := first_some h
  have e : c = laid r n ++ c.drop (need r.length * 64) := by rw [← h2, ← hc, List.take_append_drop]
  rw [e]
  exact first_laid h1 n _
def wholes : Nat → Bytes → Nat → List Bytes
  | 0, _, _ => []
  | k + 1, b, n => match first b n with
    | none => []
    | some r => r :: wholes k (b.drop (need r.length * 64)) (n + 1)
def blks : List Bytes → Nat
  | [] => 0
  | r :: l => need r.length + blks l
theorem blks_cons (r : Bytes) (l : List Bytes) : blks (r :: l) = need r.length + blks l := rfl
theorem blks_append (a b : List Bytes) : blks (a ++ b) = blks a + blks b := by
  induction a with
  | nil => simp [blks]
  | cons r a ih => simp [blks, ih, Nat.add_assoc]
def Begin : List Bytes → Bytes → Nat → Prop
  | [], _, _ => True
  | r :: L, b, n => first b n = some r ∧ Begin L (b.drop (need r.length * 64)) (n + 1)
def All (L : List Bytes) (b : Bytes) (n : Nat) : Prop := Begin L b n ∧ first (b.drop (blks L * 64)) (n + L.length) = none
theorem Begin.snoc {L : List Bytes} {b : Bytes} {n : Nat} (h : Begin L b n) {r : Bytes} (hr : first (b.drop (blks L * 64)) (n + L.length) = some r) : Begin (L ++ [r]) b n := by
  induction L generalizing b n with
  | nil => exact ⟨by simpa [blks] using hr, trivial⟩
  | cons x L ih =>
    refine ⟨h.1, ih h.2 ?_⟩
    rw [List.drop_drop, ← hr]
    congr 1
    · congr 1
      rw [blks_cons]
      omega
    · rw [List.length_cons]; omega
theorem Begin.app {L : List Bytes} {b : Bytes} {n : Nat} (h : Begin L b n) {M : List Bytes} (hm : Begin M (b.drop (blks L * 64)) (n + L.length)) : Begin (L ++ M) b n := by
  induction L generalizing b n with
  | nil => simpa [blks] using hm
  | cons x L ih =>
    refine ⟨h.1, ih h.2 ?_⟩
    rw [List.drop_drop]
    have e1 : need x.length * 64 + blks L * 64 = blks (x :: L) * 64 := by rw [blks_cons]; omega
    have e2 : n + 1 + L.length = n + (x :: L).length := by rw [List.length_cons]; omega
    rw [e1, e2]
    exact hm
theorem Begin.le {L : List Bytes} {b : Bytes} {n : Nat} (h : Begin L b n) : blks L * 64 ≤ b.length := by
  induction L generalizing b n with
  | nil => simp [blks]
  | cons x L ih =>
    have h1 := ih h.2
    obtain ⟨-, -, h2, -⟩ := first_some h.1
    rw [List.length_drop] at h1
    rw [blks_cons]
    omega
theorem Begin.pos {L : List Bytes} {b : Bytes} {n : Nat} (h : Begin L b n) : L.length ≤ blks L := by
  induction L generalizing b n with
  | nil => simp [blks]
  | cons x L ih =>
    have h1 := ih h.2
    obtain ⟨h2, -⟩ := first_some h.1
    rw [blks_cons, List.length_cons]
    omega
theorem Begin.of_take {L : List Bytes} {b c : Bytes} {n : Nat} (h : Begin L b n) (hc : c.take (blks L * 64) = b.take (blks L * 64)) : Begin L c n := by
  induction L generalizing b c n with
  | nil => trivial
  | cons x L ih =>
    have e : blks (x :: L) * 64 = need x.length * 64 + blks L * 64 := by rw [blks_cons]; omega
    rw [e] at hc
    refine ⟨first_of_take h.1 ?_, ih h.2 ?_⟩
    · have := congrArg (List.take (need x.length * 64)) hc
      rwa [List.take_take, List.take_take, Nat.min_eq_left (by omega)] at this
    · have := congrArg (List.drop (need x.length * 64)) hc
      rwa [List.drop_take, List.drop_take, Nat.add_sub_cancel_left] at this
theorem begin_wholes (k : Nat) (b : Bytes) (n : Nat) : Begin (wholes k b n) b n := by
  induction k generalizing b n with
  | zero => trivial
  | succ k ih =>
    unfold wholes
    split
    · trivial
    · next r h => exact ⟨h, ih _ _⟩
theorem All.unique {L M : List Bytes} {b : Bytes} {n : Nat} (h : All L b n) (k : All M b n) : L = M := by
  induction L generalizing M b n with
  | nil =>
    cases M with
    | nil => rfl
    | cons y M =>
      have h2 : first b n = none := by simpa [blks] using h.2
      have h3 : first b n = some y := k.1.1
      rw [h2] at h3
      cases h3
  | cons x L ih =>
    cases M with
    | nil =>
      have h2 : first b n = none := by simpa [blks] using k.2
      have h3 : first b n = some x := h.1.1
      rw [h2] at h3
      cases h3
    | cons y M =>
      have h1 : first b n = some x := h.1.1
      have h2 : first b n = some y := k.1.1
      obtain rfl : x = y := Option.some.inj (h1.symm.trans h2)
      have tl : ∀ {K : List Bytes}, All (x :: K) b n → All K (b.drop (need x.length * 64)) (n + 1) := by
        intro K hK
        refine ⟨hK.1.2, ?_⟩
        have := hK.2
        rw [List.drop_drop]
        have e1 : need x.length * 64 + blks K * 64 = blks (x :: K) * 64 := by rw [blks_cons]; omega
        have e2 : n + 1 + K.length = n + (x :: K).length := by rw [List.length_cons]; omega
        rw [e1, e2]
        exact this
      rw [ih (tl h) (tl k)]
theorem all_wholes (k : Nat) (b : Bytes) (n : Nat) (hk : b.length < k * 64 + 64) : All (wholes k b n) b n := by
  refine ⟨begin_wholes k b n, ?_⟩
  induction k generalizing b n with
  | zero =>
    show first (b.drop 0) n = none
    rw [List.drop_zero]
    unfold first
    split
    · rfl
    · next h1 =>
      have := need_room (show need (lenOf b) ≠ 0 by omega)
      omega
  | succ k ih =>
    unfold wholes
    split
    · next h =>
      simpa [blks] using h
    · next r h =>
      obtain ⟨h1, h2, h3, -⟩ := first_some h
      have := ih (b.drop (need r.length * 64)) (n + 1) (by rw [List.length_drop]; omega)
      rw [List.drop_drop] at this
      have e1 : need r.length * 64 + blks (wholes k (b.drop (need r.length * 64)) (n + 1)) * 64 = blks (r :: wholes k (b.drop (need r.length * 64)) (n + 1)) * 64 := by rw [blks_cons]; omega
      have e2 : n + 1 + (wholes k (b.drop (need r.length * 64)) (n + 1)).length = n + (r :: wholes k (b.drop (need r.length * 64)) (n + 1)).length := by rw [List.length_cons]; omega
      rw [← e1, ← e2]
      exact this
def recs (b : Bytes) : List Bytes := wholes b.length b 1
theorem recs_all (b : Bytes) : All (recs b) b 1 := all_wholes _ _ _ (by omega)
theorem recs_of {L : List Bytes} {b : Bytes} (h : All L b 1) : L = recs b := h.unique (recs_all b)
end Go.Proofs.Ytfndiocohaploaa.L
namespace Go.Proofs.Ytfndiocohaploaa.L
open Go Go.RowKit
open Go.Lib
theorem wp_gen {P : Program} {c : Code} {Q : Exit → Act → World → Prop} {a : Act} {W : World} (F : World → Prop) (hF : F W) (h : ∀ W1, F W1 → Code.wp P c Q a W1) : Code.wp P c Q a W := h W hF
theorem then_gen {K : Act → World → Prop} {Q : Exit → Act → World → Prop} {e : Exit} {a : Act} {W : World} (F : World → Prop) (hF : F W) (h : ∀ W1, F W1 → Exit.then K Q e a W1) : Exit.then K Q e a W := h W hF
def bv (b : UInt8) : Value := .int .u8 b.toNat
def Held (W : World) (B : Nat) (v : Value) (l : Bytes) : Prop := W.ownsRow B 5 1 v l.length (l.map bv)
theorem Held.nil (W : World) (B : Nat) : Held W B (.slice none 0 0) [] := World.ownsRow_nil W B _ _
structure Grew (W : World) (v : Value) (W' : World) (v' : Value) : Prop where
  by_ : W.grownBy W' v.ownBlock
  at_ : v'.ownBlock = v.ownBlock ∨ ∃ k, v'.ownBlock = some k ∧ W.heap.size ≤ k
theorem Grew.refl (W : World) (v : Value) : Grew W v W v := ⟨⟨rfl, rfl, rfl, Nat.le_refl _, fun _ _ _ => rfl⟩, .inl rfl⟩
theorem Grew.trans {W W1 W2 : World} {v v1 v2 : Value} (h : Grew W v W1 v1) (k : Grew W1 v1 W2 v2) : Grew W v W2 v2 where
  by_ := by
    refine ⟨k.by_.os.trans h.by_.os, k.by_.tape.trans h.by_.tape, k.by_.output.trans h.by_.output, Nat.le_trans h.by_.size k.by_.size, fun j hj hne => ?_⟩
    have hs := h.by_.size
    refine (k.by_.block j (by omega) ?_).trans (h.by_.block j hj hne)
    rcases h.at_ with e | ⟨m, e, hm⟩
    · rw [e]; exact hne
    · rw [e]; intro hx; cases hx; omega
  at_ := by
    have hs := h.by_.size
    rcases k.at_ with e | ⟨m, e, hm⟩
    · rw [e]; exact h.at_
    · exact .inr ⟨m, e, by omega⟩
theorem Grew.below {W W' : World} {v v' : Value} {B : Nat} {l : Bytes} (h : Grew W v W' v') (hH : Held W B v l) (hB : B ≤ W.heap.size) : Below B W W' :=
  ⟨h.by_.os, h.by_.tape, h.by_.output, h.by_.size, fun k hk => h.by_.block k (by omega) (fun e => by have := World.ownsRow.lt hH k e.symm; omega)⟩
theorem Held.alloc {W : World} {B : Nat} {v : Value} {l : Bytes} (h : Held W B v l) (x : Go.Obj) : Held (W.alloc x) B v l := World.ownsRow.alloc h x
theorem Held.kept {W W' : World} {B : Nat} {v u : Value} {l : Bytes} (h : Held W B v l) {u' : Value} (hg : Grew W u W' u') (hne : v.ownBlock = none ∨ v.ownBlock ≠ u.ownBlock) : Held W' B v l := World.ownsRow.kept h hg.by_ hne
theorem Held.rebase {W : World} {B : Nat} {v : Value} {l : Bytes} (h : Held W B v l) {C : Nat} (hC : ∀ k, v.ownBlock = some k → C ≤ k) : Held W C v l := by
  refine ⟨h.1, ?_⟩
  rcases h.2 with hn | ⟨g, cap, cur, hv, -, rest⟩
  · exact .inl hn
  · exact .inr ⟨g, cap, cur, hv, hC g (by rw [hv]; rfl), rest⟩
theorem infoByte : (Try.prog.info? 5).map (fun i => (i.zero, i.size, i.bytes)) = some (some (.int .u8 0), 1, 1) := by kernel_rfl
def BytesIn (W : World) (v : Value) (l : Bytes) : Prop :=
  (∃ c, v = .slice none 0 c ∧ l = []) ∨ ∃ g off cap, v = .slice (some ⟨g, off, none⟩) l.length cap ∧ l.length ≤ cap ∧ cap ≤ maxLen ∧ g < W.heap.size ∧ ∀ i (h : i < l.length), W.cell? ⟨g, off + i, none⟩ = some (bv l[i])
section
variable {W W' : World} {v : Value} {l : Bytes} {B r : Nat}
theorem BytesIn.kept (h : BytesIn W v l) {row : Option Nat} (hg : W.grownBy W' row) (hne : v.ownBlock = none ∨ v.ownBlock ≠ row) : BytesIn W' v l := by
  rcases h with h | ⟨g, off, cap, rfl, h1, h2, h3, h4⟩
  · exact .inl h
  · exact .inr ⟨g, off, cap, rfl, h1, h2, Nat.lt_of_lt_of_le h3 hg.size, fun i hi => hg.cell (h4 i hi) (by simpa [Value.ownBlock] using hne)⟩
theorem BytesIn.lt (h : BytesIn W v l) {k : Nat} (hk : v.ownBlock = some k) : k < W.heap.size := by
  rcases h with ⟨c, rfl, -⟩ | ⟨g, off, cap, rfl, h1, h2, h3, h4⟩
  · cases hk
  · simp [Value.ownBlock] at hk
    omega
theorem BytesIn.below (h : BytesIn W v l) (hb : Below B W W') (hB : ∀ k, v.ownBlock = some k → k < B) : BytesIn W' v l := by
  rcases h with h | ⟨g, off, cap, rfl, h1, h2, h3, h4⟩
  · exact .inl h
  · exact .inr ⟨g, off, cap, rfl, h1, h2, Nat.lt_of_lt_of_le h3 hb.size, fun i hi => (hb.cell (p := ⟨g, off + i, none⟩) (hB g rfl)).trans (h4 i hi)⟩
theorem BytesIn.after (h : BytesIn W v l) (hb : Below W.heap.size W W') : BytesIn W' v l := h.below hb (fun _ hk => h.lt hk)
theorem BytesIn.shape (h : BytesIn W v l) : ∃ a k c, v = .slice a k c := by
  rcases h with ⟨c, rfl, -⟩ | ⟨g, off, cap, rfl, -⟩
  · exact ⟨_, _, _, rfl⟩
  · exact ⟨_, _, _, rfl⟩
theorem BytesIn.alloc (h : BytesIn W v l) (x : Go.Obj) : BytesIn (W.alloc x) v l := h.kept (World.grownBy_alloc W x none) (by cases v.ownBlock <;> simp)
theorem Held.bytes (h : Held W B v l) : BytesIn W v l := by
  have hcells := fun g (hg : v.ownBlock = some g) => World.ownsRow.cells (g := g) h hg
  obtain ⟨h1, h2⟩ := h
  rcases h2 with ⟨rfl, hn⟩ | ⟨g, cap, cur, rfl, hb, hg, hnc, hcm, hcs, ht⟩
  · exact .inl ⟨0, rfl, List.length_eq_zero_iff.1 hn⟩
  · refine .inr ⟨g, 0, cap, rfl, hnc, hcm, (Array.getElem?_eq_some_iff.1 hg).1, fun i hi => ?_⟩
    have := hcells g rfl i (bv l[i]) (by rw [List.getElem?_map, List.getElem?_eq_getElem hi]; rfl)
    have hadd : (⟨g, 0, none⟩ : Addr).add i = ⟨g, 0 + i, none⟩ := by unfold Addr.add; split <;> simp_all
    rw [hadd] at this
    exact this
theorem BytesIn.str (h : BytesIn W v l) (dst : TypeId) (hd : Try.prog.underlying dst = some .string) : (convert 48 dst v).run Try.prog W = .ok (.string ⟨l.toArray⟩) W := by
  rcases h with ⟨c, rfl, rfl⟩ | ⟨g, off, cap, rfl, h1, h2, h3, h4⟩
  · exact run_convert_bytes_nil W 48 5 Try.underlying48 Try.underlying5 0 c dst hd
  · refine run_convert_bytes_back W 48 dst 5 ⟨g, off, none⟩ cap l Try.underlying48 Try.underlying5 hd fun j hj => ?_
    have hadd : (⟨g, off, none⟩ : Addr).add j = ⟨g, off + j, none⟩ := by unfold Addr.add; split <;> simp_all
    rw [hadd]
    exact h4 j hj
end
theorem sizeByte (w : World) : (sizeOf (Try.prog.elem 48)).run Try.prog w = .ok 1 w := by kernel_rfl
theorem sliceByte : Try.prog.underlying 48 = some (.slice (Try.prog.elem 48)) := by kernel_rfl
theorem add_zero' (g off : Nat) : (⟨g, off, none⟩ : Addr).add 0 = ⟨g, off, none⟩ := rfl
theorem add_lit' (g off n : Nat) : (⟨g, off, none⟩ : Addr).add n = ⟨g, off + n, none⟩ := by unfold Addr.add; split <;> simp_all
section
variable {W W' : World} {v : Value} {l : Bytes}
theorem BytesIn.head (h : BytesIn W v l) {n : Nat} (hn : n ≤ l.length) (k : IntKind) :
    ∃ v1, (∀ w, (Instr.slice 48 v none (some (.int k n)) none).run Try.prog w = .ok v1 w) ∧ BytesIn W v1 (l.take n) ∧ v1.ownBlock = v.ownBlock := by
  rcases h with ⟨c, rfl, rfl⟩ | ⟨g, off, cap, rfl, h1, h2, h3, h4⟩
  · obtain rfl : n = 0 := by simpa using hn
    refine ⟨.slice none 0 c, fun w => ?_, .inl ⟨c, rfl, rfl⟩, rfl⟩
    rw [run_slice_h w 48 none 0 c sliceByte k (0 : Nat) (by omega) (by omega), sizeByte]
    simp [Result.andThen, sliced]
  · have hl : (l.take n).length = n := by rw [List.length_take]; omega
    refine ⟨.slice (some ⟨g, off, none⟩) n cap, fun w => ?_, .inr ⟨g, off, cap, by rw [hl], by omega, h2, h3, fun i hi => ?_⟩, rfl⟩
    · rw [run_slice_h w 48 (some ⟨g, off, none⟩) l.length cap sliceByte k n (by omega) (by omega), sizeByte]
      simp [Result.andThen, sliced, add_zero']
    · rw [h4 i (by omega)]
      simp
theorem BytesIn.tail (h : BytesIn W v l) {n : Nat} (hn : n ≤ l.length) (k : IntKind) :
    ∃ v1, (∀ w, (Instr.slice 48 v (some (.int k n)) none none).run Try.prog w = .ok v1 w) ∧ BytesIn W v1 (l.drop n) ∧ v1.ownBlock = v.ownBlock := by
  rcases h with ⟨c, rfl, rfl⟩ | ⟨g, off, cap, rfl, h1, h2, h3, h4⟩
  · obtain rfl : n = 0 := by simpa using hn
    refine ⟨.slice none 0 c, fun w => ?_, .inl ⟨c, rfl, rfl⟩, rfl⟩
    rw [run_slice_l w 48 none 0 c sliceByte k (0 : Nat) (by omega) (by omega), sizeByte]
    simp [Result.andThen, sliced]
  · have hl : (l.drop n).length = l.length - n := List.length_drop
    by_cases hc : cap = n
    · refine ⟨.slice (some ⟨g, off, none⟩) (l.length - n) (cap - n), fun w => ?_, .inr ⟨g, off, cap - n, by rw [hl], by omega, by omega, h3, fun i hi => by omega⟩, rfl⟩
      rw [run_slice_l w 48 (some ⟨g, off, none⟩) l.length cap sliceByte k n (by omega) (by omega), sizeByte]
      simp [Result.andThen, sliced, hc]
    · refine ⟨.slice (some ⟨g, off + n, none⟩) (l.length - n) (cap - n), fun w => ?_, .inr ⟨g, off + n, cap - n, by rw [hl], by omega, by omega, h3, fun i hi => ?_⟩, rfl⟩
      · rw [run_slice_l w 48 (some ⟨g, off, none⟩) l.length cap sliceByte k n (by omega) (by omega), sizeByte]
        simp [Result.andThen, sliced, hc, add_lit']
      · have := h4 (n + i) (by omega)
        rw [show off + n + i = off + (n + i) by omega, this]
        simp
theorem BytesIn.len (h : BytesIn W v l) (ty : TypeId) (w : World) : (Builtin.len_ #[48] ty #[v]).run Try.prog w = .ok (goInt l.length) w := by
  rcases h with ⟨c, rfl, rfl⟩ | ⟨g, off, cap, rfl, -⟩
  · simp [go_sem, Builtin.len_, run_underlying sliceByte]
  · simp [go_sem, Builtin.len_, run_underlying sliceByte]
theorem BytesIn.small (h : BytesIn W v l) : l.length ≤ maxLen := by
  rcases h with ⟨c, rfl, rfl⟩ | ⟨g, off, cap, rfl, h1, h2, -⟩
  · simp
  · omega
end
theorem run_append_heldB (W : World) (ty : TypeId) (B : Nat) (v : Value) (l : Bytes) (hH : Held W B v l) (ad : Addr) (c : Nat) (m : Bytes) (hm : ∀ j u, (m.map bv)[j]? = some u → W.cell? (ad.add j) = some u)
    (hlen : l.length + m.length ≤ 140737488355328) (hB : B ≤ W.heap.size) :
    ∃ v' W', (Builtin.append_ #[48, 48] ty #[v, .slice (some ad) m.length c]).run Try.prog W = .ok v' W' ∧ Held W' B v' (l ++ m) ∧ Grew W v W' v' := by
  obtain ⟨i, hi, hz, hs, hb⟩ := info_parts infoByte
  have hl : (m.map bv).length = m.length * 1 := by simp
  have h1 : ∀ u ∈ m.map bv, u.oneCell' = true := by
    intro u hu
    obtain ⟨b, -, rfl⟩ := List.mem_map.1 hu
    rfl
  have h63 : l.length + m.length ≤ maxLen := by unfold maxLen; omega
  obtain ⟨v', W', hr, hown, hgrow, hnil⟩ := run_append_own (P := Try.prog) W B 48 ty 5 i (.int .u8 0) 1 1 Try.underlying48 hi hz hs hb rfl (by decide) v l.length (l.map bv) hH ad m.length c (m.map bv) hl hm h1 h63 (by omega) hB
  refine ⟨v', W', hr, by unfold Held; rw [List.length_append, List.map_append]; exact hown, hgrow, ?_⟩
  rcases hH.2 with ⟨rfl, hn⟩ | ⟨g, cap, cur, rfl, hbg, hg, hnc, hcm, hcs, htake⟩
  · by_cases h0 : m.length = 0
    · rw [hnil.2 ⟨rfl, h0⟩]
      exact .inl rfl
    · have hr2 := run_append_nil (P := Try.prog) W 48 ty 5 i (.int .u8 0) Try.underlying48 hi hz ad m.length c (m.map bv) (by rw [hs]; exact hl) hm (by omega) (by omega) (by rw [hb]; omega)
      rw [hr2] at hr
      cases hr
      exact .inr ⟨_, rfl, Nat.le_refl _⟩
  · by_cases hroom : l.length + m.length ≤ cap
    · have hr2 := run_append_room (P := Try.prog) W 48 ty 5 i Try.underlying48 hi g l.length cap cur hg ad m.length c (m.map bv) (by rw [hs]; exact hl) hm h1 hroom (by rw [hs, hl, hcs]; omega)
      rw [hr2] at hr
      cases hr
      exact .inl rfl
    · have hr2 := run_append_grow (P := Try.prog) W 48 ty 5 i (.int .u8 0) Try.underlying48 hi hz ⟨g, 0, none⟩ l.length cap (l.map bv) (by rw [hs]; exact hH.1) (World.ownsRow.cells (g := g) hH rfl) ad m.length c (m.map bv) (by rw [hs]; exact hl) hm (by omega) (by omega) (growslice_fits (by omega) (by rw [hb]; omega))
      rw [hr2] at hr
      cases hr
      exact .inr ⟨_, rfl, Nat.le_refl _⟩
theorem run_append_none (W : World) (ty : TypeId) (B : Nat) (v : Value) (l : Bytes) (hH : Held W B v l) (c : Nat) : (Builtin.append_ #[48, 48] ty #[v, .slice none 0 c]).run Try.prog W = .ok v W := by
  obtain ⟨i, hi, hz, hs, hb⟩ := info_parts infoByte
  rcases hH.2 with ⟨rfl, hn⟩ | ⟨g, cap, cur, rfl, hbg, hg, hnc, hcm, hcs, htake⟩
  · simp [Builtin.append_, run_underlying (P := Try.prog) Try.underlying48, sizeOf, typeInfo, hi, Builtin.lenOf, Builtin.firstCells]
  · simp [Builtin.append_, run_underlying (P := Try.prog) Try.underlying48, sizeOf, typeInfo, hi, hs, Builtin.lenOf, Builtin.firstCells, hnc]
    rfl
theorem run_append_bytes (W : World) (ty : TypeId) (B : Nat) (v : Value) (l : Bytes) (hH : Held W B v l) (x : Value) (m : Bytes) (hx : BytesIn W x m) (hlen : l.length + m.length ≤ 140737488355328) (hB : B ≤ W.heap.size) :
    ∃ v' W', (Builtin.append_ #[48, 48] ty #[v, x]).run Try.prog W = .ok v' W' ∧ Held W' B v' (l ++ m) ∧ Grew W v W' v' := by
  rcases hx with ⟨c, rfl, rfl⟩ | ⟨g, off, cap, rfl, h1, h2, h3, h4⟩
  · exact ⟨v, W, run_append_none W ty B v l hH c, by rw [List.append_nil]; exact hH, Grew.refl _ _⟩
  · refine run_append_heldB W ty B v l hH ⟨g, off, none⟩ cap m (fun j u hj => ?_) hlen hB
    obtain ⟨hj1, hj2⟩ := List.getElem?_eq_some_iff.1 hj
    rw [add_lit', h4 j (by simpa using hj1), ← hj2]
    simp
theorem wpList_append_bytes {ops : Array Oper} {rest : List Oper} {o : Oper} {a : Act} {W : World} {Q : Exit → Act → World → Prop} (hgd : o.guard = none) (s x : Operand)
    (ho : o.op = .call { callee := .builtin .append, args := #[s, x], argTypes := #[48, 48] })
    (B : Nat) (v : Value) (l : Bytes) (hs : a.eval s = v) (hH : Held W B v l) (y : Value) (m : Bytes) (hy : a.eval x = y) (hx : BytesIn W y m)
    (hlen : l.length + m.length ≤ 140737488355328) (hB : B ≤ W.heap.size) (h : ∀ v' W', Held W' B v' (l ++ m) → Grew W v W' v' → wpList Try.prog ops Q rest (a.put o.dst v') W') : wpList Try.prog ops Q (o :: rest) a W := by
  obtain ⟨v', W', hr, hH', hG⟩ := run_append_bytes W o.type B v l hH y m hx hlen hB
  refine wpList_plain hgd fun _ hK => ?_
  unfold Oper.wp execOp
  simp only [ho, resolve, invoke, builtin, Sem.run_bind, Sem.run_pure, Result.andThen_ok, List.map_toArray, List.map_cons, List.map_nil, hs, hy]
  rw [hr]
  exact hK _ _ (h v' W' hH' hG)
end Go.Proofs.Ytfndiocohaploaa.L
namespace Go.Proofs.Ytfndiocohaploaa.L
open Go Go.RowKit
open Go.Lib
theorem infoBlk : (Try.prog.info? 88).map (fun i => (i.zero, i.size, i.bytes)) = some (some (.agg ((List.replicate 64 (0 : UInt8)).map bv).toArray), 64, 64) := by kernel_rfl
theorem sizeBlk : (Try.prog.info? 88).map (·.size) = some 64 := by kernel_rfl
theorem undBlk : Try.prog.underlying 88 = some (.array 64 5) := by kernel_rfl
theorem sliceBlk : Try.prog.underlying 68 = some (.slice (Try.prog.elem 68)) := by kernel_rfl
theorem sliceBlk' : Try.prog.underlying 68 = some (.slice 88) := by kernel_rfl
theorem sizeElemBlk (w : World) : (sizeOf (Try.prog.elem 68)).run Try.prog w = .ok 64 w := by kernel_rfl
def encA (l : Bytes) : Value := .agg (l.map bv).toArray
theorem one_bv (l : Bytes) : ∀ u ∈ l.map bv, u.oneCell' = true := by
  intro u hu
  obtain ⟨b, -, rfl⟩ := List.mem_map.1 hu
  rfl
theorem all_bv (l : Bytes) : (l.map bv).toArray.all (·.oneCell') = true := by
  rw [Array.all_eq_true]
  intro i hi
  refine one_bv l _ ?_
  rw [List.getElem_toArray]
  exact List.getElem_mem _
def blk (l : Bytes) (i : Nat) : Bytes := (l.drop (i * 64)).take 64
theorem blk_length {l : Bytes} {k i : Nat} (hl : l.length = k * 64) (hi : i < k) : (blk l i).length = 64 := by unfold blk; rw [List.length_take, List.length_drop]; omega
def LiesA (W : World) (g off : Nat) (l : Bytes) : Prop := ∀ i (h : i < l.length), W.cell? ⟨g, off + i, none⟩ = some (bv l[i])
theorem LiesA.range {W : World} {g off : Nat} {l : Bytes} (h : LiesA W g off l) : W.rangeAt g off (l.map bv) := fun j v hj => by
  obtain ⟨h1, h2⟩ := List.getElem?_eq_some_iff.1 hj
  rw [h j (by simpa using h1), ← h2]
  simp
theorem LiesA.part {W : World} {g off : Nat} {l : Bytes} (h : LiesA W g off l) (n m : Nat) : LiesA W g (off + n) ((l.drop n).take m) := fun i hi => by
  have hi' : n + i < l.length := by rw [List.length_take, List.length_drop] at hi; omega
  rw [Nat.add_assoc, h (n + i) hi']
  simp
theorem LiesA.of_heap {W W' : World} {g off : Nat} {l : Bytes} (h : LiesA W g off l) (he : W'.heap[g]? = W.heap[g]?) : LiesA W' g off l := fun i hi => (World.cell?_of_block (w := W) he).trans (h i hi)
def BlksIn (W : World) (v : Value) (k : Nat) (l : Bytes) : Prop :=
  l.length = k * 64 ∧ ((∃ c, v = .slice none 0 c ∧ k = 0) ∨ ∃ g off cap, v = .slice (some ⟨g, off, none⟩) k cap ∧ k ≤ cap ∧ cap ≤ maxLen ∧ g < W.heap.size ∧ LiesA W g off l)
section
variable {W W' : World} {v : Value} {k : Nat} {l : Bytes} {B : Nat}
theorem BlksIn.below (h : BlksIn W v k l) (hb : Below B W W') (hB : ∀ g, v.ownBlock = some g → g < B) : BlksIn W' v k l := by
  refine ⟨h.1, ?_⟩
  rcases h.2 with h | ⟨g, off, cap, rfl, h1, h2, h3, h4⟩
  · exact .inl h
  · exact .inr ⟨g, off, cap, rfl, h1, h2, Nat.lt_of_lt_of_le h3 hb.size, h4.of_heap (hb.block g (hB g rfl))⟩
theorem BlksIn.lt (h : BlksIn W v k l) {g : Nat} (hk : v.ownBlock = some g) : g < W.heap.size := by
  rcases h.2 with ⟨c, rfl, -⟩ | ⟨g, off, cap, rfl, h1, h2, h3, h4⟩
  · cases hk
  · simp [Value.ownBlock] at hk
    omega
theorem BlksIn.after (h : BlksIn W v k l) (hb : Below W.heap.size W W') : BlksIn W' v k l := h.below hb (fun _ hk => h.lt hk)
theorem BlksIn.of_heap (h : BlksIn W v k l) (hs : W.heap.size ≤ W'.heap.size) (he : ∀ g, v.ownBlock = some g → W'.heap[g]? = W.heap[g]?) : BlksIn W' v k l := by
  refine ⟨h.1, ?_⟩
  rcases h.2 with h | ⟨g, off, cap, rfl, h1, h2, h3, h4⟩
  · exact .inl h
  · exact .inr ⟨g, off, cap, rfl, h1, h2, Nat.lt_of_lt_of_le h3 hs, h4.of_heap (he g rfl)⟩
theorem BlksIn.drew (h : BlksIn W v k l) : BlksIn W.drew v k l := h
theorem BlksIn.small (h : BlksIn W v k l) : k ≤ maxLen := by
  rcases h.2 with ⟨c, rfl, rfl⟩ | ⟨g, off, cap, rfl, h1, h2, -⟩
  · exact Nat.zero_le _
  · omega
theorem BlksIn.shape (h : BlksIn W v k l) : ∃ a c, v = .slice a k c := by
  rcases h.2 with ⟨c, rfl, rfl⟩ | ⟨g, off, cap, rfl, -⟩
  · exact ⟨_, _, rfl⟩
  · exact ⟨_, _, rfl⟩
theorem BlksIn.head (h : BlksIn W v k l) {n : Nat} (hn : n ≤ k) (ki : IntKind) :
    ∃ v1, (∀ w, (Instr.slice 68 v none (some (.int ki n)) none).run Try.prog w = .ok v1 w) ∧ BlksIn W v1 n (l.take (n * 64)) ∧ v1.ownBlock = v.ownBlock := by
  have hl : (l.take (n * 64)).length = n * 64 := by rw [List.length_take, h.1]; omega
  rcases h.2 with ⟨c, rfl, rfl⟩ | ⟨g, off, cap, rfl, h1, h2, h3, h4⟩
  · obtain rfl : n = 0 := by omega
    refine ⟨.slice none 0 c, fun w => ?_, ⟨hl, .inl ⟨c, rfl, rfl⟩⟩, rfl⟩
    rw [run_slice_h w 68 none 0 c sliceBlk ki (0 : Nat) (by omega) (by omega), sizeElemBlk]
    simp [Result.andThen, sliced]
  · refine ⟨.slice (some ⟨g, off, none⟩) n cap, fun w => ?_, ⟨hl, .inr ⟨g, off, cap, rfl, by omega, h2, h3, ?_⟩⟩, rfl⟩
    · rw [run_slice_h w 68 (some ⟨g, off, none⟩) k cap sliceBlk ki n (by omega) (by omega), sizeElemBlk]
      simp [Result.andThen, sliced, add_zero']
    · have := h4.part 0 (n * 64)
      rwa [Nat.add_zero, List.drop_zero] at this
theorem BlksIn.head3 (h : BlksIn W v k l) {n : Nat} (hn : n ≤ k) (ki km : IntKind) :
    ∃ v1, (∀ w, (Instr.slice 68 v none (some (.int ki n)) (some (.int km n))).run Try.prog w = .ok v1 w) ∧ BlksIn W v1 n (l.take (n * 64)) ∧ v1.ownBlock = v.ownBlock := by
  have hl : (l.take (n * 64)).length = n * 64 := by rw [List.length_take, h.1]; omega
  rcases h.2 with ⟨c, rfl, rfl⟩ | ⟨g, off, cap, rfl, h1, h2, h3, h4⟩
  · obtain rfl : n = 0 := by omega
    refine ⟨.slice none 0 0, fun w => ?_, ⟨hl, .inl ⟨0, rfl, rfl⟩⟩, rfl⟩
    rw [run_slice_hm w 68 none 0 c sliceBlk ki km (0 : Nat) (0 : Nat) (by omega) (by omega) (by omega), sizeElemBlk]
    simp [Result.andThen, sliced]
  · refine ⟨.slice (some ⟨g, off, none⟩) n n, fun w => ?_, ⟨hl, .inr ⟨g, off, n, rfl, by omega, by omega, h3, ?_⟩⟩, rfl⟩
    · rw [run_slice_hm w 68 (some ⟨g, off, none⟩) k cap sliceBlk ki km n n (by omega) (by omega) (by omega), sizeElemBlk]
      simp [Result.andThen, sliced, add_zero']
    · have := h4.part 0 (n * 64)
      rwa [Nat.add_zero, List.drop_zero] at this
theorem BlksIn.tail (h : BlksIn W v k l) {n : Nat} (hn : n ≤ k) (ki : IntKind) :
    ∃ v1, (∀ w, (Instr.slice 68 v (some (.int ki n)) none none).run Try.prog w = .ok v1 w) ∧ BlksIn W v1 (k - n) (l.drop (n * 64)) ∧ v1.ownBlock = v.ownBlock := by
  have hl : (l.drop (n * 64)).length = (k - n) * 64 := by rw [List.length_drop, h.1]; omega
  rcases h.2 with ⟨c, rfl, rfl⟩ | ⟨g, off, cap, rfl, h1, h2, h3, h4⟩
  · obtain rfl : n = 0 := by omega
    refine ⟨.slice none 0 c, fun w => ?_, ⟨hl, .inl ⟨c, rfl, rfl⟩⟩, rfl⟩
    rw [run_slice_l w 68 none 0 c sliceBlk ki (0 : Nat) (by omega) (by omega), sizeElemBlk]
    simp [Result.andThen, sliced]
  · by_cases hc : cap = n
    · obtain rfl : k = n := by omega
      refine ⟨.slice (some ⟨g, off, none⟩) (k - k) (cap - k), fun w => ?_, ⟨hl, .inr ⟨g, off, cap - k, rfl, by omega, by omega, h3, fun i hi => by omega⟩⟩, rfl⟩
      rw [run_slice_l w 68 (some ⟨g, off, none⟩) k cap sliceBlk ki k (by omega) (by omega), sizeElemBlk]
      simp [Result.andThen, sliced, hc]
    · refine ⟨.slice (some ⟨g, off + n * 64, none⟩) (k - n) (cap - n), fun w => ?_, ⟨hl, .inr ⟨g, off + n * 64, cap - n, rfl, by omega, by omega, h3, ?_⟩⟩, rfl⟩
      · rw [run_slice_l w 68 (some ⟨g, off, none⟩) k cap sliceBlk ki n (by omega) (by omega), sizeElemBlk]
        simp [Result.andThen, sliced, hc, add_lit']
      · have := h4.part (n * 64) (l.length - n * 64)
        rwa [List.take_of_length_le (by rw [List.length_drop]; omega)] at this
theorem BlksIn.at (h : BlksIn W v k l) {i : Nat} (hi : i < k) : ∃ g off cap, v = .slice (some ⟨g, off, none⟩) k cap ∧ g < W.heap.size ∧ LiesA W g (off + i * 64) (blk l i) := by
  rcases h.2 with ⟨c, rfl, rfl⟩ | ⟨g, off, cap, rfl, h1, h2, h3, h4⟩
  · omega
  · exact ⟨g, off, cap, rfl, h3, h4.part _ _⟩
end
theorem load_blk {W : World} {g off : Nat} {l : Bytes} (h : LiesA W g off l) (hl : l.length = 64) {oi : Oper} {a : Act} {x : Operand} (ho : oi.op = .load 88 x) (hx : a.eval x = .pointer (some ⟨g, off, none⟩)) :
    (execOp a.eval oi).run Try.prog W = .ok (.value (encA l)) W := by
  unfold execOp
  simp only [ho, hx, Instr.loadAt, Instr.sureAddr, Sem.run_bind, Sem.run_pure, Result.andThen_ok, run_loadVar_mid W g off 88 (l.map bv) _ h.range undBlk rfl (by rw [List.length_map, hl]; exact sizeBlk)]
  rfl
theorem wpList_load_blk {ops : Array Oper} {rest : List Oper} {oi : Oper} {a : Act} {W : World} {Q : Exit → Act → World → Prop} {g off : Nat} {l : Bytes} {x : Operand} (hg : oi.guard = none) (ho : oi.op = .load 88 x) (hx : a.eval x = .pointer (some ⟨g, off, none⟩))
    (h : LiesA W g off l) (hl : l.length = 64) (hn : wpList Try.prog ops Q rest (a.put oi.dst (encA l)) W) : wpList Try.prog ops Q (oi :: rest) a W :=
  wpList_plain hg fun K hK => by
    unfold Oper.wp
    rw [load_blk h hl ho hx]
    exact hK _ _ hn
def Row (W : World) (B : Nat) (v : Value) (k : Nat) (l : Bytes) : Prop :=
  l.length = k * 64 ∧ ((v = .slice none 0 0 ∧ k = 0) ∨ ∃ g cap cur, v = .slice (some ⟨g, 0, none⟩) k cap ∧ B ≤ g ∧ W.heap[g]? = some (.cells cur 88 (0, 0)) ∧ k ≤ cap ∧ cap ≤ maxLen ∧ cap * 64 ≤ cur.size ∧ cur.toList.take (k * 64) = l.map bv)
section
variable {W W' : World} {v : Value} {k : Nat} {l : Bytes} {B : Nat}
theorem Row.nil (W : World) (B : Nat) : Row W B (.slice none 0 0) 0 [] := ⟨rfl, .inl ⟨rfl, rfl⟩⟩
theorem Row.lies {W : World} {g : Nat} {cur : Array Value} {k : Nat} {l : Bytes} (hg : W.heap[g]? = some (.cells cur 88 (0, 0))) (hl : l.length = k * 64) (ht : cur.toList.take (k * 64) = l.map bv) : LiesA W g 0 l := fun i hi => by
  rw [cell_of_row W g _ _ _ _ hg, Nat.zero_add, ← Array.getElem?_toList]
  have h1 := congrArg (fun z => z[i]?) ht
  simp only [List.getElem?_take, List.getElem?_map] at h1
  rw [if_pos (by omega)] at h1
  rw [h1, List.getElem?_eq_getElem hi]
  rfl
theorem Row.blks (h : Row W B v k l) : BlksIn W v k l := by
  refine ⟨h.1, ?_⟩
  rcases h.2 with ⟨rfl, rfl⟩ | ⟨g, cap, cur, rfl, -, hg, h1, h2, -, ht⟩
  · exact .inl ⟨0, rfl, rfl⟩
  · exact .inr ⟨g, 0, cap, rfl, h1, h2, (Array.getElem?_eq_some_iff.1 hg).1, Row.lies hg h.1 ht⟩
theorem Row.of_heap (h : Row W B v k l) (he : ∀ g, v.ownBlock = some g → W'.heap[g]? = W.heap[g]?) : Row W' B v k l := by
  refine ⟨h.1, ?_⟩
  rcases h.2 with h | ⟨g, cap, cur, rfl, h1, h2, h3⟩
  · exact .inl h
  · exact .inr ⟨g, cap, cur, rfl, h1, (he g rfl).trans h2, h3⟩
theorem Row.lt (h : Row W B v k l) {g : Nat} (hk : v.ownBlock = some g) : g < W.heap.size := h.blks.lt hk
theorem Row.low (h : Row W B v k l) {g : Nat} (hk : v.ownBlock = some g) : B ≤ g := by
  rcases h.2 with ⟨rfl, rfl⟩ | ⟨g', cap, cur, rfl, h1, -⟩
  · cases hk
  · simp [Value.ownBlock] at hk
    omega
theorem Row.after (h : Row W B v k l) (hb : Below W.heap.size W W') : Row W' B v k l := h.of_heap fun g hg => hb.block g (h.lt hg)
theorem Row.head (h : Row W B v k l) {n : Nat} (hn : n ≤ k) (ki : IntKind) :
    ∃ v1, (∀ w, (Instr.slice 68 v none (some (.int ki n)) none).run Try.prog w = .ok v1 w) ∧ Row W B v1 n (l.take (n * 64)) ∧ v1.ownBlock = v.ownBlock := by
  have hl : (l.take (n * 64)).length = n * 64 := by rw [List.length_take, h.1]; omega
  rcases h.2 with ⟨rfl, rfl⟩ | ⟨g, cap, cur, rfl, h1, h2, h3, h4, h5, h6⟩
  · obtain rfl : n = 0 := by omega
    refine ⟨.slice none 0 0, fun w => ?_, ⟨hl, .inl ⟨rfl, rfl⟩⟩, rfl⟩
    rw [run_slice_h w 68 none 0 0 sliceBlk ki (0 : Nat) (by omega) (by omega), sizeElemBlk]
    simp [Result.andThen, sliced]
  · refine ⟨.slice (some ⟨g, 0, none⟩) n cap, fun w => ?_, ⟨hl, .inr ⟨g, cap, cur, rfl, h1, h2, by omega, h4, h5, ?_⟩⟩, rfl⟩
    · rw [run_slice_h w 68 (some ⟨g, 0, none⟩) k cap sliceBlk ki n (by omega) (by omega), sizeElemBlk]
      simp [Result.andThen, sliced, add_zero']
    · rw [List.map_take, ← h6, List.take_take, Nat.min_eq_left (by omega)]
theorem Row.head3 (h : Row W B v k l) {n : Nat} (hn : n ≤ k) (ki km : IntKind) :
    ∃ v1, (∀ w, (Instr.slice 68 v none (some (.int ki n)) (some (.int km n))).run Try.prog w = .ok v1 w) ∧ Row W B v1 n (l.take (n * 64)) ∧ v1.ownBlock = v.ownBlock := by
  have hl : (l.take (n * 64)).length = n * 64 := by rw [List.length_take, h.1]; omega
  rcases h.2 with ⟨rfl, rfl⟩ | ⟨g, cap, cur, rfl, h1, h2, h3, h4, h5, h6⟩
  · obtain rfl : n = 0 := by omega
    refine ⟨.slice none 0 0, fun w => ?_, ⟨hl, .inl ⟨rfl, rfl⟩⟩, rfl⟩
    rw [run_slice_hm w 68 none 0 0 sliceBlk ki km (0 : Nat) (0 : Nat) (by omega) (by omega) (by omega), sizeElemBlk]
    simp [Result.andThen, sliced]
  · refine ⟨.slice (some ⟨g, 0, none⟩) n n, fun w => ?_, ⟨hl, .inr ⟨g, n, cur, rfl, h1, h2, by omega, by omega, by omega, ?_⟩⟩, rfl⟩
    · rw [run_slice_hm w 68 (some ⟨g, 0, none⟩) k cap sliceBlk ki km n n (by omega) (by omega) (by omega), sizeElemBlk]
      simp [Result.andThen, sliced, add_zero']
    · rw [List.map_take, ← h6, List.take_take, Nat.min_eq_left (by omega)]
end
theorem run_append_row (W : World) (ty : TypeId) (B : Nat) (v : Value) (k : Nat) (l : Bytes) (hH : Row W B v k l) (x : Value) (m : Nat) (lm : Bytes) (hx : BlksIn W x m lm) (hlen : k + m ≤ 1000000000000) (hB : B ≤ W.heap.size) :
    ∃ v' W', (Builtin.append_ #[68, 68] ty #[v, x]).run Try.prog W = .ok v' W' ∧ Row W' B v' (k + m) (l ++ lm) ∧ Grew W v W' v' := by
  obtain ⟨i, hi, hz, hs, hb⟩ := info_parts infoBlk
  have hll : (l ++ lm).length = (k + m) * 64 := by rw [List.length_append, hH.1, hx.1]; omega
  have hmax : (1000000000000 : Nat) ≤ maxLen := by decide
  have hzs : (Value.agg ((List.replicate 64 (0 : UInt8)).map bv).toArray).cells.size = 64 := by simp [Value.cells]
  rcases hx.2 with ⟨c, rfl, rfl⟩ | ⟨gx, off, cx, rfl, hx1, hx2, hx3, hx4⟩
  · have h0 : lm = [] := List.eq_nil_of_length_eq_zero (by simpa using hx.1)
    subst h0
    refine ⟨v, W, ?_, by simpa using hH, Grew.refl _ _⟩
    rcases hH.2 with ⟨rfl, rfl⟩ | ⟨g, cap, cur, rfl, h1, h2, h3, h4, h5, h6⟩
    · simp [Builtin.append_, run_underlying (P := Try.prog) sliceBlk', sizeOf, typeInfo, hi, Builtin.lenOf, Builtin.firstCells]
    · simp [Builtin.append_, run_underlying (P := Try.prog) sliceBlk', sizeOf, typeInfo, hi, hs, Builtin.lenOf, Builtin.firstCells, h3]
      rfl
  have hl : (lm.map bv).length = m * i.size := by rw [List.length_map, hx.1, hs]
  have hm : ∀ j u, (lm.map bv)[j]? = some u → W.cell? ((⟨gx, off, none⟩ : Addr).add j) = some u := fun j u hj => by
    rw [add_lit']
    exact hx4.range j u hj
  have grown : ∀ (old : Nat), (W.drew.alloc (.cells ((l.map bv).toArray ++ (lm.map bv).toArray ++ Builtin.zeroCells (Value.agg ((List.replicate 64 (0 : UInt8)).map bv).toArray).cells (grownCap W (k + m) old 88 - (k + m))) 88)).heap[W.heap.size]? = some (.cells ((l.map bv).toArray ++ (lm.map bv).toArray ++ Builtin.zeroCells (Value.agg ((List.replicate 64 (0 : UInt8)).map bv).toArray).cells (grownCap W (k + m) old 88 - (k + m))) 88 (0, 0)) := fun old => heap_alloc_new W.drew _
  have grow2 : ∀ (old : Nat), Row (W.drew.alloc (.cells ((l.map bv).toArray ++ (lm.map bv).toArray ++ Builtin.zeroCells (Value.agg ((List.replicate 64 (0 : UInt8)).map bv).toArray).cells (grownCap W (k + m) old 88 - (k + m))) 88)) B (.slice (some ⟨W.heap.size, 0, none⟩) (k + m) (grownCap W (k + m) old 88)) (k + m) (l ++ lm) := by
    intro old
    have hge := grownCap_ge W (k + m) old 88
    have hcm : grownCap W (k + m) old 88 ≤ maxLen := grownCap_le_maxLen W (k + m) old 88 (by omega)
    refine ⟨hll, .inr ⟨W.heap.size, _, _, rfl, hB, grown old, hge, hcm, ?_, ?_⟩⟩
    · simp only [Array.size_append, List.size_toArray, size_zeroCells, hzs, List.length_map, hH.1, hx.1, ← Nat.add_mul]
      omega
    · simp only [Array.toList_append, List.append_assoc]
      rw [← List.append_assoc, ← hll, ← List.map_append, ← List.length_map (f := bv)]
      exact List.take_left
  have grow3 : ∀ (old : Nat) (u : Value), Grew W u (W.drew.alloc (.cells ((l.map bv).toArray ++ (lm.map bv).toArray ++ Builtin.zeroCells (Value.agg ((List.replicate 64 (0 : UInt8)).map bv).toArray).cells (grownCap W (k + m) old 88 - (k + m))) 88)) (.slice (some ⟨W.heap.size, 0, none⟩) (k + m) (grownCap W (k + m) old 88)) := fun old u =>
    ⟨⟨rfl, rfl, rfl, by simp, fun j hj _ => Go.heap_alloc_old W.drew _ hj⟩, .inr ⟨_, rfl, Nat.le_refl _⟩⟩
  rcases hH.2 with ⟨rfl, rfl⟩ | ⟨g, cap, cur, rfl, h1, h2, h3, h4, h5, h6⟩
  · have h0 : l = [] := List.eq_nil_of_length_eq_zero (by simpa using hH.1)
    subst h0
    by_cases hm0 : m = 0
    · subst hm0
      have h0 : lm = [] := List.eq_nil_of_length_eq_zero (by simpa using hx.1)
      subst h0
      refine ⟨.slice none 0 0, W, ?_, Row.nil _ _, Grew.refl _ _⟩
      simp [Builtin.append_, run_underlying (P := Try.prog) sliceBlk', sizeOf, typeInfo, hi, Builtin.lenOf, Builtin.firstCells, loadCells, loadCellsFrom]
    · have hr := run_append_nil (P := Try.prog) W 68 ty 88 i _ sliceBlk' hi hz ⟨gx, off, none⟩ m cx (lm.map bv) hl hm (by omega) (by omega) (by rw [hb]; omega)
      have e1 := grow2 0
      have e2 := grow3 0 (.slice none 0 0)
      simp only [Nat.zero_add, List.nil_append, List.map_nil, Array.empty_append] at e1 e2 ⊢
      exact ⟨_, _, hr, e1, e2⟩
  · by_cases hroom : k + m ≤ cap
    · have hr := run_append_room (P := Try.prog) W 68 ty 88 i sliceBlk' hi g k cap cur h2 ⟨gx, off, none⟩ m cx (lm.map bv) hl hm (one_bv lm) hroom (by rw [hs, List.length_map, hx.1]; omega)
      refine ⟨_, _, hr, ⟨hll, .inr ⟨g, cap, _, rfl, h1, setRow_heap W g cur _ _ _ h2, hroom, h4, ?_, ?_⟩⟩, ⟨⟨rfl, rfl, rfl, by simp, fun j _ hj => setRow_other W g j _ (fun e => hj (by simp [Value.ownBlock, e]))⟩, .inl rfl⟩⟩
      · simp only [List.size_toArray, List.length_append, List.length_take, List.length_drop, Array.length_toList, List.length_map, hs, hx.1]
        omega
      · rw [hs, h6, ← hll, ← List.map_append, ← List.length_map (f := bv)]
        exact List.take_left
    · have hr := run_append_grow (P := Try.prog) W 68 ty 88 i _ sliceBlk' hi hz ⟨g, 0, none⟩ k cap (l.map bv) (by rw [List.length_map, hH.1, hs]) (fun j u hj => by rw [add_lit']; exact (Row.lies h2 hH.1 h6).range j u hj) ⟨gx, off, none⟩ m cx (lm.map bv) hl hm (by omega) (by omega) (growslice_fits (by omega) (by rw [hb]; omega))
      exact ⟨_, _, hr, grow2 cap, grow3 cap _⟩
theorem wpList_append_row {ops : Array Oper} {rest : List Oper} {o : Oper} {a : Act} {W : World} {Q : Exit → Act → World → Prop} (hgd : o.guard = none) (s x : Operand)
    (ho : o.op = .call { callee := .builtin .append, args := #[s, x], argTypes := #[68, 68] })
    (B : Nat) (v : Value) (k : Nat) (l : Bytes) (hs : a.eval s = v) (hH : Row W B v k l) (y : Value) (m : Nat) (lm : Bytes) (hy : a.eval x = y) (hx : BlksIn W y m lm)
    (hlen : k + m ≤ 1000000000000) (hB : B ≤ W.heap.size) (h : ∀ v' W', Row W' B v' (k + m) (l ++ lm) → Grew W v W' v' → wpList Try.prog ops Q rest (a.put o.dst v') W') : wpList Try.prog ops Q (o :: rest) a W := by
  obtain ⟨v', W', hr, hH', hG⟩ := run_append_row W o.type B v k l hH y m lm hx hlen hB
  refine wpList_plain hgd fun _ hK => ?_
  unfold Oper.wp execOp
  simp only [ho, resolve, invoke, builtin, Sem.run_bind, Sem.run_pure, Result.andThen_ok, List.map_toArray, List.map_cons, List.map_nil, hs, hy]
  rw [hr]
  exact hK _ _ (h v' W' hH' hG)
theorem run_eqItems_bytes (d : Nat) (W : World) (a b : Bytes) (hab : a.length = b.length) : ∀ (is : List Nat), (∀ i ∈ is, i < a.length) →
    (Op.eqItems (d + 1) 5 1 (a.map bv).toArray (b.map bv).toArray is).run Try.prog W = .ok (is.all fun i => a[i]? == b[i]?) W
  | [], _ => by simp [Op.eqItems]
  | i :: is, h => by
    have hi := h i (List.mem_cons_self ..)
    have pe : ∀ (l : Bytes) (hl : i < l.length), (part 5 (l.map bv).toArray i).run Try.prog W = .ok (bv l[i]) W := fun l hl => run_part_plain (P := Try.prog) W (e := 5) (by kernel_rfl) (by simp [List.getElem?_eq_getElem hl])
    have e1 : (Op.equalIn (d + 1) 5 (bv a[i]) (bv (b[i]'(by omega)))).run Try.prog W = .ok (a[i]? == b[i]?) W := by
      unfold bv
      rw [run_equalIn_int W d 5 .u8 .u8 _ _ Try.underlying5, List.getElem?_eq_getElem hi, List.getElem?_eq_getElem (show i < b.length by omega)]
      congr 1
      rw [Bool.eq_iff_iff, beq_iff_eq, beq_iff_eq, Option.some.injEq]
      constructor
      · intro h
        exact UInt8.toNat_inj.1 (by omega)
      · intro h
        rw [h]
    unfold Op.eqItems
    rw [Nat.mul_one, Sem.run_bind, pe a hi, Result.andThen_ok, Sem.run_bind, pe b (by omega), Result.andThen_ok, Sem.run_bind, e1, Result.andThen_ok]
    cases hx : (a[i]? == b[i]?) with
    | false => simp [hx]
    | true =>
      simp only [Bool.not_true, Bool.false_eq_true, if_false]
      rw [run_eqItems_bytes d W a b hab is fun j hj => h j (List.mem_cons_of_mem _ hj)]
      simp [hx]
set_option maxRecDepth 100000 in
theorem run_neq_blk (W : World) (a b : Bytes) (ha : a.length = 64) (hb : b.length = 64) : (binOp .neq 88 (encA a) (encA b)).run Try.prog W = .ok (.bool (!decide (a = b))) W := by
  obtain ⟨i, hi, -, hs, -⟩ := info_parts infoByte
  have h1 : (Op.equalIn 10000 88 (encA a) (encA b)).run Try.prog W = .ok (decide (a = b)) W := by
    unfold encA
    rw [show (10000 : Nat) = 9999 + 1 from rfl, run_equalIn_array W 9999 _ _ undBlk hi, show Try.prog.cellsOf 5 = 1 from by kernel_rfl, run_eqItems_bytes 9998 W a b (by omega) _ (fun i hi => by have := List.mem_range.1 hi; omega)]
    congr 1
    rw [Bool.eq_iff_iff, List.all_eq_true, decide_eq_true_iff]
    constructor
    · intro h
      apply List.ext_getElem?
      intro j
      by_cases hj : j < 64
      · simpa using h j (List.mem_range.2 hj)
      · rw [List.getElem?_eq_none (by omega), List.getElem?_eq_none (by omega)]
    · rintro rfl j -
      simp
  unfold encA at h1 ⊢
  rw [run_neq_struct, h1]
  rfl
theorem exec_neq_blk (W : World) {a b : Bytes} (ha : a.length = 64) (hb : b.length = 64) {oi : Oper} {ac : Act} {p q : Operand} {ty : TypeId} (ho : oi.op = .binOp .neq 88 p q ty) (hp : ac.eval p = encA a) (hq : ac.eval q = encA b) : (execOp ac.eval oi).run Try.prog W = .ok (.value (.bool (!decide (a = b)))) W := by
  have hg : (eqGuard .neq 88 p q (encA a) (encA b)).run Try.prog W = .ok () W := run_eqGuard_agg (P := Try.prog) W .neq 88 p q _ _ (by kernel_rfl)
  unfold execOp
  simp only [ho, hp, hq, Sem.run_bind, hg, Result.andThen_ok, run_neq_blk W a b ha hb, Sem.run_pure]
end Go.Proofs.Ytfndiocohaploaa.L
namespace Go.Proofs.Ytfndiocohaploaa.L
open Go Go.RowKit
open Go.Lib
theorem half_take (l : Bytes) (i : Nat) (h : i < l.length) : half (l.take (i + 1)) = step (half (l.take i)) l[i] := by
  rw [List.take_succ_eq_append_getElem h, half_snoc]
theorem or_join (a b i : Nat) (h : b < 2 ^ i) : a * 2 ^ i ||| b = a * 2 ^ i + b := by rw [Nat.mul_comm, Nat.two_pow_add_eq_or_of_lt h]
theorem u32_join (a b : Nat) (ha : a < 65536) (hb : b < 65536) : bits .or .u32 ((a : Int) * 65536) (b : Int) = ((a * 65536 + b : Nat) : Int) := by
  have h := u32_or_nat (a * 65536) b (by omega) (by omega)
  rw [show (((a * 65536 : Nat)) : Int) = (a : Int) * 65536 by omega] at h
  rw [h]
  congr 1
  exact or_join a b 16 (by omega)
theorem i64_or_nat (a b : Nat) (ha : a < 9223372036854775808) (hb : b < 9223372036854775808) : bits .or .i64 (a : Int) (b : Int) = ((a ||| b : Nat) : Int) := by
  have hx : a ||| b < 2 ^ 63 := Nat.or_lt_two_pow (by omega) (by omega)
  have e : ∀ x : Nat, x < 9223372036854775808 → (BitVec.ofInt 64 (x : Int)).toNat = x := fun x hx => by
    rw [BitVec.ofInt_natCast, BitVec.toNat_ofNat]; exact Nat.mod_eq_of_lt (by omega)
  show IntKind.i64.wrap ((BitVec.ofInt 64 (a : Int) ||| BitVec.ofInt 64 (b : Int)).toNat : Int) = _
  rw [BitVec.toNat_or, e a ha, e b hb]
  simp only [IntKind.wrap, IntKind.bits, IntKind.signed]
  go_num
theorem i64_join (a b : Nat) (ha : a < 256) (hb : b < 256) : bits .or .i64 ((a : Int) * 256) (b : Int) = ((a * 256 + b : Nat) : Int) := by
  have h := i64_or_nat (a * 256) b (by omega) (by omega)
  rw [show (((a * 256 : Nat)) : Int) = (a : Int) * 256 by omega] at h
  rw [h]
  congr 1
  exact or_join a b 8 (by omega)
set_option maxHeartbeats 400000 in
theorem sum_any (v : Value) (l : Bytes) (w : World) (hv : BytesIn w v l) :
    Calls Try.prog 70 #[v] w fun e w' => e = .returned (.int .u32 (sum l : Nat)) ∧ w' = w := by
  rcases hv with ⟨c, rfl, rfl⟩ | ⟨g, off, cap, rfl, h1, h2, h3, h4⟩
  · go_enter Try.func70, Try.ntmps70
    go_wp2
    go_loopw [3, 4, 9] (fun lo hi iv w' => lo = .int .u32 1 ∧ hi = .int .u32 0 ∧ iv = .int .i64 0 ∧ w' = w) (fun _ _ _ _ => 0)
    case atStart => exact ⟨rfl, rfl, rfl, rfl⟩
    case round =>
      obtain ⟨rfl, rfl, rfl, rfl⟩ := hrel
      go_wp2
      go_ret
      exact ⟨rfl, rfl⟩
  · have HC := Lib.hid h4
    have hlen : l.length ≤ 9223372036854775807 := by have : maxLen = 9223372036854775807 := rfl; omega
    clear h4 h3
    go_enter Try.func70, Try.ntmps70
    go_wp2
    go_loopw [3, 4, 9] (fun lo hi iv w' => ∃ i : Nat, i ≤ l.length ∧ lo = .int .u32 ((half (l.take i)).1 : Nat) ∧ hi = .int .u32 ((half (l.take i)).2 : Nat) ∧ iv = .int .i64 (i : Int) ∧ w' = w) (fun _ _ iv _ => l.length - (RowKit.intOf iv).toNat)
    case atStart => exact ⟨0, Nat.zero_le _, rfl, rfl, rfl, rfl⟩
    case round =>
      obtain ⟨i, hi, rfl, rfl, rfl, rfl⟩ := hrel
      have hlt := half_lt (l.take i)
      by_cases hp : i < l.length
      · have hp' : (i : Int) < (l.length : Int) := by omega
        have b1 : wr.cell? ⟨g, off + i, none⟩ = some (.int .u8 (l[i].toNat : Int)) := HC.out i hp
        have HS : Hid (half (l.take (i + 1)) = step (half (l.take i)) l[i]) := half_take l i hp
        have hb : l[i].toNat < 256 := l[i].toNat_lt
        generalize half (l.take i) = p at *
        generalize hq : l[i].toNat = q at *
        have HQ := Lib.hid hq
        clear hq
        obtain ⟨h5, h6⟩ := hlt
        go_wp2
        have e := HS.out
        unfold step at e
        rw [HQ.out] at e
        exact ⟨⟨i + 1, by omega, by rw [e]; congr 1, by rw [e]; congr 1, by go_num, trivial⟩, by simp [RowKit.intOf]; omega⟩
      · have hp' : ¬ (i : Int) < (l.length : Int) := by omega
        obtain rfl : i = l.length := by omega
        rw [List.take_length] at *
        have HS : Hid (sum l = (half l).2 * 65536 + (half l).1) := rfl
        go_wp2
        go_ret
        refine ⟨?_, rfl⟩
        show Ending.returned (.int .u32 (bits .or .u32 (((half l).2 : Nat) * 65536) ((half l).1 : Nat))) = _
        rw [u32_join _ _ (by omega) (by omega), HS.out]
theorem need_any (n : Int) (w : World) (hn : -9223372036854775808 ≤ n ∧ n ≤ 9223372036854775807) :
    Calls Try.prog 31 #[.int .i64 n] w fun e w' => e = .returned (.int .i64 (need n.toNat : Nat)) ∧ w' = w := by
  have HN : Hid (∀ m : Nat, (m : Int) = n → 1 ≤ m → m ≤ 1024 → ((need m : Nat) : Int) = (n + 71) / 64) := fun m h1 h2 h3 => by rw [need_pos h2 h3]; omega
  by_cases h1 : n < 1
  · have e : Hid (need n.toNat = 0) := need_zero.2 (by omega)
    go_enter Try.func31, Try.ntmps31
    go_wp2
    go_ret
    exact ⟨by rw [e.out]; rfl, rfl⟩
  · by_cases h2 : 1024 < n
    · have e : Hid (need n.toNat = 0) := need_zero.2 (by omega)
      go_enter Try.func31, Try.ntmps31
      go_wp2
      go_ret
      exact ⟨by rw [e.out]; rfl, rfl⟩
    · go_enter Try.func31, Try.ntmps31
      go_wp2
      go_ret
      refine ⟨?_, rfl⟩
      show Ending.returned (.int .i64 ((8 + n + 64 - 1) / 64)) = _
      rw [HN.out n.toNat (by omega) (by omega) (by omega), show 8 + n + 64 - 1 = n + 71 by omega]
end Go.Proofs.Ytfndiocohaploaa.L
namespace Go.Proofs.Ytfndiocohaploaa.L
open Go Go.RowKit
open Go.Lib
abbrev t64 : TypeId := 88
abbrev t8 : TypeId := 103
def zs (n : Nat) : Bytes := List.replicate n 0
theorem zs_length (n : Nat) : (zs n).length = n := List.length_replicate
theorem zero64 (w : World) : (zeroValue t64).run Try.prog w = .ok (.agg ((zs 64).map bv).toArray) w := by kernel_rfl
theorem zero8 (w : World) : (zeroValue t8).run Try.prog w = .ok (.agg ((zs 8).map bv).toArray) w := by kernel_rfl
theorem und8 : Try.prog.underlying t8 = some (.array 8 5) := by kernel_rfl
theorem size8 : (Try.prog.info? t8).map (·.size) = some 8 := by kernel_rfl
def BoxB (W : World) (b : Nat) (t : TypeId) (l : Bytes) : Prop := W.heap[b]? = some (.cells (l.map bv).toArray t (0, 0))
section
variable {W W' : World} {b : Nat} {t : TypeId} {l : Bytes}
theorem BoxB.lt (h : BoxB W b t l) : b < W.heap.size := (Array.getElem?_eq_some_iff.1 h).1
theorem BoxB.of_heap (h : BoxB W b t l) (he : W'.heap[b]? = W.heap[b]?) : BoxB W' b t l := he.trans h
theorem BoxB.after (h : BoxB W b t l) (hb : Below W.heap.size W W') : BoxB W' b t l := h.of_heap (hb.block b h.lt)
theorem BoxB.lies (h : BoxB W b t l) : LiesA W b 0 l := fun i hi => by
  rw [cell_of_row W b _ _ _ _ h, Nat.zero_add]
  simp [hi]
theorem BoxB.bytes (h : BoxB W b t l) (hl : l.length ≤ maxLen) : BytesIn W (.slice (some ⟨b, 0, none⟩) l.length l.length) l :=
  .inr ⟨b, 0, l.length, rfl, Nat.le_refl _, hl, h.lt, h.lies⟩
theorem BoxB.bytesN (h : BoxB W b t l) {n : Nat} (hl : l.length = n) (hn : n ≤ maxLen) : BytesIn W (.slice (some ⟨b, 0, none⟩) n n) l := by
  subst hl
  exact h.bytes hn
end
theorem wpList_alloc_box {ops : Array Oper} {rest : List Oper} {o : Oper} {a : Act} {W : World} {Q : Exit → Act → World → Prop} (hg : o.guard = none) (t : TypeId) (ho : o.op = .alloc t) (l : Bytes) (hz : ∀ w, (zeroValue t).run Try.prog w = .ok (.agg (l.map bv).toArray) w)
    (h : ∀ W2, BoxB W2 W.heap.size t l → Below W.heap.size W W2 → wpList Try.prog ops Q rest (a.put o.dst (.pointer (some ⟨W.heap.size, 0, none⟩))) W2) : wpList Try.prog ops Q (o :: rest) a W := by
  refine wpList_plain hg fun K hK => ?_
  unfold Oper.wp execOp
  simp only [ho, Sem.run_bind, Instr.alloc, hz, Result.andThen_ok, newVar, newRow, run_newObj_alloc, Sem.run_pure]
  exact hK _ _ (h _ (heap_alloc_new W _) ((Below.refl _ _).alloc (Nat.le_refl _) _))
theorem wpList_box_blk {ops : Array Oper} {rest : List Oper} {o : Oper} {a : Act} {W : World} {Q : Exit → Act → World → Prop} (hg : o.guard = none) (x : Operand) (ho : o.op = .box t64 x) (l : Bytes) (hx : a.eval x = encA l)
    (h : ∀ W2, BoxB W2 W.heap.size t64 l → Below W.heap.size W W2 → wpList Try.prog ops Q rest (a.put o.dst (.pointer (some ⟨W.heap.size, 0, none⟩))) W2) : wpList Try.prog ops Q (o :: rest) a W := by
  refine wpList_plain hg fun K hK => ?_
  unfold Oper.wp execOp
  simp only [ho, hx, Sem.run_bind, Instr.box, newVar, newRow, run_newObj_alloc, Sem.run_pure, Result.andThen_ok]
  exact hK _ _ (h _ (heap_alloc_new W _) ((Below.refl _ _).alloc (Nat.le_refl _) _))
theorem store_box {W : World} {b : Nat} {t : TypeId} {l0 l : Bytes} (h0 : BoxB W b t l0) (hl : l0.length = l.length) (hi : (Try.prog.info? t).map (·.size) = some l.length) : ∃ V, (∀ {oi : Oper} {a : Act} {p q : Operand}, oi.op = .store t p q → a.eval p = .pointer (some ⟨b, 0, none⟩) → a.eval q = encA l → (execOp a.eval oi).run Try.prog W = .ok .skip V) ∧
    BoxB V b t l ∧ (∀ g, g ≠ b → V.heap[g]? = W.heap[g]?) ∧ (∀ B A, Below B A W → B ≤ b → Below B A V) := by
  refine ⟨W.setRow b (l.map bv).toArray, fun {oi a p q} ho hp hq => ?_, setRow_heap _ _ _ _ _ _ h0, fun g hg => setRow_other W b g _ hg, fun _ _ h1 h2 => below_setRow h1 h2 _⟩
  have h1 := run_storeVar_row (P := Try.prog) W b t t _ (l.map bv).toArray h0 (by simpa using hi) (by simp [hl]) (all_bv l)
  unfold execOp
  have hq' : a.eval q = .agg (l.map bv).toArray := hq
  simp [ho, hp, hq', Instr.storeAt, Instr.sureAddr, h1, Result.andThen]
theorem wpList_store_box {ops : Array Oper} {rest : List Oper} {o : Oper} {a : Act} {W : World} {Q : Exit → Act → World → Prop} (hg : o.guard = none) (t : TypeId) (p q : Operand) (ho : o.op = .store t p q) (b : Nat) (l0 l : Bytes) (hp : a.eval p = .pointer (some ⟨b, 0, none⟩)) (hq : a.eval q = encA l)
    (h0 : BoxB W b t l0) (hl : l0.length = l.length) (hi : (Try.prog.info? t).map (·.size) = some l.length)
    (h : ∀ V, BoxB V b t l → (∀ g, g ≠ b → V.heap[g]? = W.heap[g]?) → (∀ B A, Below B A W → B ≤ b → Below B A V) → wpList Try.prog ops Q rest (a.put o.dst undef) V) : wpList Try.prog ops Q (o :: rest) a W := by
  obtain ⟨V, h1, h2, h3, h4⟩ := store_box h0 hl hi
  refine wpList_plain hg fun K hK => ?_
  unfold Oper.wp
  rw [h1 ho hp hq]
  exact hK _ _ (h V h2 h3 h4)
theorem grown_of_below {W W' : World} (h : Below W.heap.size W W') (row : Option Nat) : W.grownBy W' row := ⟨h.os, h.tape, h.output, h.size, fun k hk _ => h.block k hk⟩
theorem grew_of_below {W W' : World} (h : Below W.heap.size W W') (v : Value) : Grew W v W' v := ⟨grown_of_below h _, .inl rfl⟩
theorem Held.after {W W' : World} {B : Nat} {v : Value} {l : Bytes} (h : Held W B v l) (hb : Below W.heap.size W W') : Held W' B v l := World.ownsRow.kept h (grown_of_below hb none) (by cases v.ownBlock <;> simp)
theorem Held.lt {W : World} {B : Nat} {v : Value} {l : Bytes} (h : Held W B v l) {g : Nat} (hg : v.ownBlock = some g) : g < W.heap.size := (World.ownsRow.lt h _ hg).2
theorem Held.low {W : World} {B : Nat} {v : Value} {l : Bytes} (h : Held W B v l) {g : Nat} (hk : v.ownBlock = some g) : B ≤ g := by
  rcases h.2 with ⟨rfl, -⟩ | ⟨g', cap, cur, rfl, h1, -⟩
  · cases hk
  · simp [Value.ownBlock] at hk
    omega
theorem Held.of_heap {W W' : World} {B : Nat} {v : Value} {l : Bytes} (h : Held W B v l) (he : ∀ g, v.ownBlock = some g → W'.heap[g]? = W.heap[g]?) : Held W' B v l := by
  refine ⟨h.1, ?_⟩
  rcases h.2 with h | ⟨g, cap, cur, rfl, h1, h2, h3⟩
  · exact .inl h
  · exact .inr ⟨g, cap, cur, rfl, h1, (he g rfl).trans h2, h3⟩
end Go.Proofs.Ytfndiocohaploaa.L
namespace Go.Proofs.Ytfndiocohaploaa.L
open Go Go.RowKit
open Go.Lib
theorem wpList_build_box {ops : Array Oper} {rest : List Oper} {o : Oper} {a : Act} {w : World} {Q : Exit → Act → World → Prop} (hg : o.guard = none) (t : TypeId) (parts : Array (Nat × Operand)) (ho : o.op = .build t parts) (cs : Array Value) (l : Bytes)
    (hf : Try.prog.built t (parts.toList.map fun (i, x) => (i, a.eval x)) = some cs) (hl : cs = (l.map bv).toArray) (h : ∀ x, Hid (x = encA l) → wpList Try.prog ops Q rest (a.put o.dst x) w) : wpList Try.prog ops Q (o :: rest) a w := by
  subst hl
  exact wpList_build hg t parts ho (by rw [Array.toList_map, hf]; rfl) (by rw [Array.toList_map, hf]; exact h _ rfl)
theorem built8 (a b c d e f g h : Int) : Try.prog.built t8 [(0, .int .u8 a), (1, .int .u8 b), (2, .int .u8 c), (3, .int .u8 d), (4, .int .u8 e), (5, .int .u8 f), (6, .int .u8 g), (7, .int .u8 h)] = some #[.int .u8 a, .int .u8 b, .int .u8 c, .int .u8 d, .int .u8 e, .int .u8 f, .int .u8 g, .int .u8 h] := by kernel_rfl
theorem bv_u8 {n : Nat} {z : Int} (h : z = ((n % 256 : Nat) : Int)) : Value.int .u8 z = bv (u8 n) := by unfold bv; rw [u8_nat, h]
theorem head_cells (l : Bytes) (n s : Nat) (hs : sum l = s) (h4 : s < 4294967296) : Hid (#[.int .u8 ((l.length : Int) / 256 % 256), .int .u8 ((l.length : Int) % 256), .int .u8 ((n : Int) / 256 % 256), .int .u8 ((n : Int) % 256), .int .u8 ((s : Int) / 16777216), .int .u8 ((s : Int) / 65536 % 256), .int .u8 ((s : Int) / 256 % 256), .int .u8 ((s : Int) % 256)] = ((head l n).map bv).toArray) := by
  have e0 : ∀ m : Nat, bv (u8 m) = .int .u8 ((m : Int) % 256) := fun m => (bv_u8 (by omega)).symm
  have e1 : ∀ m k : Nat, bv (u8 (m / k)) = .int .u8 ((m : Int) / k % 256) := fun m k => by rw [e0]; rfl
  have e2 : bv (u8 (s / 16777216)) = .int .u8 ((s : Int) / 16777216) := (bv_u8 (by omega)).symm
  show _ = _
  unfold head
  rw [hs]
  simp only [List.map_cons, List.map_nil]
  rw [e1, e1, e2, e1, e1, e0, e0, e0]
  rfl
set_option maxRecDepth 100000 in
set_option maxHeartbeats 400000 in
theorem headOf_any (v : Value) (l : Bytes) (n : Nat) (w : World) (hv : BytesIn w v l) (hl : l.length ≤ 100000) (hn : n ≤ 1000000000000) :
    Calls Try.prog 54 #[v, .int .i64 (n : Int)] w fun e w' => e = .returned (encA (head l n)) ∧ Below w.heap.size w w' := by
  obtain ⟨a, k, c, rfl⟩ := hv.shape
  obtain rfl : k = l.length := by rcases hv with ⟨c, h, rfl⟩ | ⟨g, off, cap, h, -⟩ <;> cases h <;> rfl
  have HV := Lib.hid hv
  have HS : Hid (sum l < 4294967296) := sum_lt l
  clear hv
  go_enter Try.func54, Try.ntmps54
  go_wp2_with (refine wpList_alloc_box rfl t8 rfl (zs 8) zero8 ?_)
  intro W2 hx2 hb2
  have HX2 := Lib.hid hx2
  have HB2 := Lib.hid hb2
  clear hx2 hb2
  have HSU : Hid (Calls Try.prog 70 #[.slice a l.length c] W2 fun e w' => e = .returned (.int .u32 (sum l : Nat)) ∧ w' = W2) := sum_any _ l W2 (HV.out.after HB2.out)
  have hs4 := HS.out
  go_wp2_with (go_at_call 70; refine HSU.out.mono ?_)
  rintro e w' ⟨rfl, rfl⟩
  clear HSU
  generalize hsum : sum l = s at *
  have HSE := Lib.hid hsum
  clear hsum
  have HQ0 := head_cells l n s HSE.out hs4
  have hl8 : (head l n).length = 8 := rfl
  generalize hE : head l n = hd at *
  have HE := Lib.hid hE
  clear hE
  have HQ := HQ0
  have HL8 := Lib.hid hl8
  clear HQ0 hl8
  go_wp2_with (refine wpList_build_box rfl t8 _ rfl #[.int .u8 ((l.length : Int) / 256 % 256), .int .u8 ((l.length : Int) % 256), .int .u8 ((n : Int) / 256 % 256), .int .u8 ((n : Int) % 256), .int .u8 ((s : Int) / 16777216), .int .u8 ((s : Int) / 65536 % 256), .int .u8 ((s : Int) / 256 % 256), .int .u8 ((s : Int) % 256)] hd ?_ HQ.out ?_; (focus exact built8 _ _ _ _ _ _ _ _))
  intro x HXE
  go_wp2_with (refine wpList_store_box rfl t8 _ _ rfl w.heap.size (zs 8) hd rfl HXE.out HX2.out (by rw [HL8.out]; rfl) (by rw [HL8.out]; exact size8) ?_)
  intro V hx ho hb
  have HX := Lib.hid hx
  have HB : Hid (Below w.heap.size w V) := hb _ _ HB2.out (Nat.le_refl _)
  clear hx ho hb
  go_wp2
  refine bodyPost_ret (results_cell_row rfl _ _ w.heap.size t8 (hd.map bv).toArray (0, 0) _ rfl HX.out und8 rfl (by rw [List.size_toArray, List.length_map, HL8.out]; exact size8)) rfl ?_
  exact ⟨by rw [HE.out]; rfl, HB.out⟩
theorem lenOf_eq (b : Bytes) (h : 2 ≤ b.length) : lenOf b = b[0].toNat * 256 + b[1].toNat := by
  unfold lenOf
  simp [List.getD, List.getElem?_eq_getElem (show 0 < b.length by omega), List.getElem?_eq_getElem (show 1 < b.length by omega)]
set_option maxRecDepth 100000 in
set_option maxHeartbeats 400000 in
theorem lengthOf_any (b : Bytes) (w : World) (hb : b.length = 64) :
    Calls Try.prog 61 #[encA b] w fun e w' => e = .returned (.int .i64 (lenOf b : Nat)) ∧ Below w.heap.size w w' := by
  have HE : Hid (lenOf b = b[0].toNat * 256 + b[1].toNat) := lenOf_eq b (by omega)
  obtain ⟨v, hv⟩ : ∃ v, v = encA b := ⟨_, rfl⟩
  have HV := Lib.hid hv
  rw [← hv]
  clear hv
  go_enter Try.func61, Try.ntmps61
  go_wp2_with (refine wpList_box_blk rfl _ rfl b HV.out ?_)
  intro W2 hx hb2
  have HB2 := Lib.hid hb2
  have b0 : W2.cell? ⟨w.heap.size, 0, none⟩ = some (.int .u8 (b[0].toNat : Int)) := hx.lies 0 (by omega)
  have b1 : W2.cell? ⟨w.heap.size, 1, none⟩ = some (.int .u8 (b[1].toNat : Int)) := hx.lies 1 (by omega)
  clear hx hb2
  have h0 : b[0].toNat < 256 := b[0].toNat_lt
  have h1 : b[1].toNat < 256 := b[1].toNat_lt
  go_wp2
  go_ret
  refine ⟨?_, HB2.out⟩
  show Ending.returned (.int .i64 (bits .or .i64 ((b[0].toNat : Int) * 256) (b[1].toNat : Int))) = _
  rw [i64_join _ _ h0 h1, HE.out]
end Go.Proofs.Ytfndiocohaploaa.L
