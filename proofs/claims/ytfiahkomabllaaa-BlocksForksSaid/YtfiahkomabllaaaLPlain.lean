/- A log of bytes in blocks of 64: plain facts, no program is named here. -/
import Derived.Laws.Bits64
import Derived.WalkArith
namespace Go.Proofs.Ytfiahkomabllaaa.L

abbrev Bytes := List UInt8
/-- How many blocks a record of so many bytes needs. -/
def need (n : Nat) : Nat := if n < 1 ∨ 1024 < n then 0 else (n + 71) / 64
theorem need_pos {n : Nat} (h : 1 ≤ n) (h2 : n ≤ 1024) : need n = (n + 71) / 64 := by unfold need; rw [if_neg (by omega)]
theorem need_le (n : Nat) : need n ≤ 17 := by unfold need; split <;> omega
theorem need_zero {n : Nat} : need n = 0 ↔ n < 1 ∨ 1024 < n := by unfold need; split <;> omega
theorem need_room {n : Nat} (h : need n ≠ 0) : 1 ≤ n ∧ n ≤ 1024 ∧ n + 8 ≤ need n * 64 ∧ need n * 64 < n + 72 := by
  have h1 := mt need_zero.2 h
  rw [need_pos (by omega) (by omega)]
  omega

/-- The check sum's two halves, one byte further. -/
def step (p : Nat × Nat) (b : UInt8) : Nat × Nat := ((p.1 + b.toNat) % 65521, (p.2 + (p.1 + b.toNat) % 65521) % 65521)
def half (l : Bytes) : Nat × Nat := l.foldl step (1, 0)
def sum (l : Bytes) : Nat := (half l).2 * 65536 + (half l).1
theorem half_snoc (l : Bytes) (b : UInt8) : half (l ++ [b]) = step (half l) b := by unfold half; rw [List.foldl_append]; rfl
theorem half_lt (l : Bytes) : (half l).1 < 65521 ∧ (half l).2 < 65521 := by
  rcases List.eq_nil_or_concat l with rfl | ⟨l, b, rfl⟩
  · exact ⟨by decide, by decide⟩
  · rw [List.concat_eq_append, half_snoc]
    exact ⟨Nat.mod_lt _ (by decide), Nat.mod_lt _ (by decide)⟩
theorem sum_lt (l : Bytes) : sum l < 4294967296 := by have := half_lt l; unfold sum; omega

def u8 (n : Nat) : UInt8 := UInt8.ofNat n
theorem u8_nat (n : Nat) : (u8 n).toNat = n % 256 := by unfold u8; simp
theorem u8_mod {a b : Nat} (h : a % 256 = b % 256) : u8 a = u8 b := by
  apply UInt8.toNat_inj.1
  rw [u8_nat, u8_nat, h]
/-- A record's head; its number. -/
def head (l : Bytes) (n : Nat) : Bytes := [u8 (l.length / 256), u8 l.length, u8 (n / 256), u8 n, u8 (sum l / 16777216), u8 (sum l / 65536), u8 (sum l / 256), u8 (sum l)]
theorem head_length (l : Bytes) (n : Nat) : (head l n).length = 8 := rfl
theorem head_mod (l : Bytes) (n : Nat) : head l (n % 65536) = head l n := by
  unfold head
  rw [u8_mod (show n % 65536 / 256 % 256 = n / 256 % 256 by omega), u8_mod (show n % 65536 % 256 = n % 256 by omega)]
/-- A record on its blocks. -/
def laid (l : Bytes) (n : Nat) : Bytes := head l n ++ l ++ List.replicate (need l.length * 64 - (8 + l.length)) 0
theorem laid_mod (l : Bytes) (n : Nat) : laid l (n % 65536) = laid l n := by unfold laid; rw [head_mod]
theorem laid_length {l : Bytes} (h : need l.length ≠ 0) (n : Nat) : (laid l n).length = need l.length * 64 := by
  have := need_room h
  unfold laid
  rw [List.length_append, List.length_append, List.length_replicate, head_length]
  omega
theorem laid_0 (l : Bytes) (n : Nat) : (laid l n).take 2 = [u8 (l.length / 256), u8 l.length] := rfl

/-- What a head says of the length. -/
def lenOf (b : Bytes) : Nat := (b.getD 0 0).toNat * 256 + (b.getD 1 0).toNat
theorem lenOf_laid {l : Bytes} (h : l.length < 65536) (n : Nat) (r : Bytes) : lenOf (laid l n ++ r) = l.length := by
  have e : laid l n ++ r = u8 (l.length / 256) :: u8 l.length :: ((laid l n).drop 2 ++ r) := rfl
  rw [e]
  unfold lenOf
  simp only [List.getD_cons_zero, List.getD_cons_succ, u8_nat]
  omega
/-- The record that blocks begin with, if it is a whole one of that number. -/
def first (b : Bytes) (n : Nat) : Option Bytes :=
  if b.length = 0 ∨ need (lenOf b) = 0 ∨ b.length < need (lenOf b) * 64 then none
  else if laid ((b.drop 8).take (lenOf b)) n = b.take (need (lenOf b) * 64) then some ((b.drop 8).take (lenOf b)) else none
theorem first_some {b r : Bytes} {n : Nat} (h : first b n = some r) : need r.length ≠ 0 ∧ b.take (need r.length * 64) = laid r n ∧ need r.length * 64 ≤ b.length ∧ r = (b.drop 8).take r.length ∧ lenOf b = r.length := by
  unfold first at h
  split at h
  · cases h
  · next h1 =>
    split at h
    · next h2 =>
      cases h
      have h3 : need (lenOf b) ≠ 0 := by omega
      have h4 := need_room h3
      have hl : ((b.drop 8).take (lenOf b)).length = lenOf b := by rw [List.length_take, List.length_drop]; omega
      rw [hl]
      exact ⟨h3, h2.symm, by omega, rfl, rfl⟩
    · cases h
theorem drop8_laid (l : Bytes) (n : Nat) (r : Bytes) : ((laid l n ++ r).drop 8).take l.length = l := by
  have e : (laid l n ++ r).drop 8 = l ++ (List.replicate (need l.length * 64 - (8 + l.length)) 0 ++ r) := by
    unfold laid
    rw [List.append_assoc, List.append_assoc]
    rfl
  rw [e, List.take_left]
theorem first_laid {l : Bytes} (h : need l.length ≠ 0) (n : Nat) (r : Bytes) : first (laid l n ++ r) n = some l := by
  have h1 := need_room h
  have hl : lenOf (laid l n ++ r) = l.length := lenOf_laid (by omega) n r
  have hn := laid_length h n
  unfold first
  rw [hl, drop8_laid, if_neg (by rw [List.length_append, hn]; omega), if_pos]
  rw [show need l.length * 64 = (laid l n).length from hn.symm, List.take_left]
/-- It is the blocks' beginning alone that tells. -/
theorem first_of_take {b c r : Bytes} {n : Nat} (h : first b n = some r) (hc : c.take (need r.length * 64) = b.take (need r.length * 64)) : first c n = some r := by
  obtain ⟨h1, h2, h3, h4, h5⟩ := first_some h
  have e : c = laid r n ++ c.drop (need r.length * 64) := by rw [← h2, ← hc, List.take_append_drop]
  rw [e]
  exact first_laid h1 n _

/-- The whole records; so many at most (fuel). -/
def wholes : Nat → Bytes → Nat → List Bytes
  | 0, _, _ => []
  | k + 1, b, n => match first b n with
    | none => []
    | some r => r :: wholes k (b.drop (need r.length * 64)) (n + 1)
/-- So many blocks they are. -/
def blks : List Bytes → Nat
  | [] => 0
  | r :: l => need r.length + blks l
theorem blks_cons (r : Bytes) (l : List Bytes) : blks (r :: l) = need r.length + blks l := rfl
theorem blks_append (a b : List Bytes) : blks (a ++ b) = blks a + blks b := by
  induction a with
  | nil => simp [blks]
  | cons r a ih => simp [blks, ih, Nat.add_assoc]
/-- L are whole records at the beginning of b, of numbers from n on. -/
def Begin : List Bytes → Bytes → Nat → Prop
  | [], _, _ => True
  | r :: L, b, n => first b n = some r ∧ Begin L (b.drop (need r.length * 64)) (n + 1)
/-- They are all. -/
def All (L : List Bytes) (b : Bytes) (n : Nat) : Prop := Begin L b n ∧ first (b.drop (blks L * 64)) (n + L.length) = none
theorem Begin.snoc {L : List Bytes} {b : Bytes} {n : Nat} (h : Begin L b n) {r : Bytes} (hr : first (b.drop (blks L * 64)) (n + L.length) = some r) : Begin (L ++ [r]) b n := by
  induction L generalizing b n with
  | nil => exact ⟨by simpa [blks] using hr, trivial⟩
  | cons x L ih =>
    refine ⟨h.1, ih h.2 ?_⟩
    rw [List.drop_drop, ← hr]
    congr 1
    · congr 1
      rw [blks_cons]
      omega
    · rw [List.length_cons]; omega
theorem Begin.app {L : List Bytes} {b : Bytes} {n : Nat} (h : Begin L b n) {M : List Bytes} (hm : Begin M (b.drop (blks L * 64)) (n + L.length)) : Begin (L ++ M) b n := by
  induction L generalizing b n with
  | nil => simpa [blks] using hm
  | cons x L ih =>
    refine ⟨h.1, ih h.2 ?_⟩
    rw [List.drop_drop]
    have e1 : need x.length * 64 + blks L * 64 = blks (x :: L) * 64 := by rw [blks_cons]; omega
    have e2 : n + 1 + L.length = n + (x :: L).length := by rw [List.length_cons]; omega
    rw [e1, e2]
    exact hm
theorem Begin.le {L : List Bytes} {b : Bytes} {n : Nat} (h : Begin L b n) : blks L * 64 ≤ b.length := by
  induction L generalizing b n with
  | nil => simp [blks]
  | cons x L ih =>
    have h1 := ih h.2
    obtain ⟨-, -, h2, -⟩ := first_some h.1
    rw [List.length_drop] at h1
    rw [blks_cons]
    omega
theorem Begin.pos {L : List Bytes} {b : Bytes} {n : Nat} (h : Begin L b n) : L.length ≤ blks L := by
  induction L generalizing b n with
  | nil => simp [blks]
  | cons x L ih =>
    have h1 := ih h.2
    obtain ⟨h2, -⟩ := first_some h.1
    rw [blks_cons, List.length_cons]
    omega
/-- What lies behind them is of no account. -/
theorem Begin.of_take {L : List Bytes} {b c : Bytes} {n : Nat} (h : Begin L b n) (hc : c.take (blks L * 64) = b.take (blks L * 64)) : Begin L c n := by
  induction L generalizing b c n with
  | nil => trivial
  | cons x L ih =>
    have e : blks (x :: L) * 64 = need x.length * 64 + blks L * 64 := by rw [blks_cons]; omega
    rw [e] at hc
    refine ⟨first_of_take h.1 ?_, ih h.2 ?_⟩
    · have := congrArg (List.take (need x.length * 64)) hc
      rwa [List.take_take, List.take_take, Nat.min_eq_left (by omega)] at this
    · have := congrArg (List.drop (need x.length * 64)) hc
      rwa [List.drop_take, List.drop_take, Nat.add_sub_cancel_left] at this
theorem begin_wholes (k : Nat) (b : Bytes) (n : Nat) : Begin (wholes k b n) b n := by
  induction k generalizing b n with
  | zero => trivial
  | succ k ih =>
    unfold wholes
    split
    · trivial
    · next r h => exact ⟨h, ih _ _⟩
/-- There is one row of whole records, and no more. -/
theorem All.unique {L M : List Bytes} {b : Bytes} {n : Nat} (h : All L b n) (k : All M b n) : L = M := by
  induction L generalizing M b n with
  | nil =>
    cases M with
    | nil => rfl
    | cons y M =>
      have h2 : first b n = none := by simpa [blks] using h.2
      have h3 : first b n = some y := k.1.1
      rw [h2] at h3
      cases h3
  | cons x L ih =>
    cases M with
    | nil =>
      have h2 : first b n = none := by simpa [blks] using k.2
      have h3 : first b n = some x := h.1.1
      rw [h2] at h3
      cases h3
    | cons y M =>
      have h1 : first b n = some x := h.1.1
      have h2 : first b n = some y := k.1.1
      obtain rfl : x = y := Option.some.inj (h1.symm.trans h2)
      have tl : ∀ {K : List Bytes}, All (x :: K) b n → All K (b.drop (need x.length * 64)) (n + 1) := by
        intro K hK
        refine ⟨hK.1.2, ?_⟩
        have := hK.2
        rw [List.drop_drop]
        have e1 : need x.length * 64 + blks K * 64 = blks (x :: K) * 64 := by rw [blks_cons]; omega
        have e2 : n + 1 + K.length = n + (x :: K).length := by rw [List.length_cons]; omega
        rw [e1, e2]
        exact this
      rw [ih (tl h) (tl k)]
theorem first_nil (n : Nat) : first [] n = none := rfl
theorem all_wholes (k : Nat) (b : Bytes) (n : Nat) (hk : b.length < k * 64 + 64) : All (wholes k b n) b n := by
  refine ⟨begin_wholes k b n, ?_⟩
  induction k generalizing b n with
  | zero =>
    show first (b.drop 0) n = none
    rw [List.drop_zero]
    unfold first
    split
    · rfl
    · next h1 =>
      have := need_room (show need (lenOf b) ≠ 0 by omega)
      omega
  | succ k ih =>
    unfold wholes
    split
    · next h =>
      simpa [blks] using h
    · next r h =>
      obtain ⟨h1, h2, h3, -⟩ := first_some h
      have := ih (b.drop (need r.length * 64)) (n + 1) (by rw [List.length_drop]; omega)
      rw [List.drop_drop] at this
      have e1 : need r.length * 64 + blks (wholes k (b.drop (need r.length * 64)) (n + 1)) * 64 = blks (r :: wholes k (b.drop (need r.length * 64)) (n + 1)) * 64 := by rw [blks_cons]; omega
      have e2 : n + 1 + (wholes k (b.drop (need r.length * 64)) (n + 1)).length = n + (r :: wholes k (b.drop (need r.length * 64)) (n + 1)).length := by rw [List.length_cons]; omega
      rw [← e1, ← e2]
      exact this
/-- All the whole records of b. -/
def recs (b : Bytes) : List Bytes := wholes b.length b 1
theorem recs_all (b : Bytes) : All (recs b) b 1 := all_wholes _ _ _ (by omega)
theorem recs_of {L : List Bytes} {b : Bytes} (h : All L b 1) : L = recs b := h.unique (recs_all b)
end Go.Proofs.Ytfiahkomabllaaa.L
