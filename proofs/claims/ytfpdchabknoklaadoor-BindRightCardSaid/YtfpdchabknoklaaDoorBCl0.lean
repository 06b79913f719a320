/- What is done next for a volume. -/
import Derived.Test.YtfpdchabknoklaaDoorBFits0
import Derived.Test.YtfpdchabknoklaaDoorBClaim
import Derived.Test.YtfpdchabknoklaaDoorKAct
import Derived.Test.YtfpdchabknoklaaDoorBRHandle
import Derived.Test.YtfpdchabknoklaaDoorKRefG
import Derived.Test.YtfpdchabknoklaaDoorKUniqT
import Derived.Test.YtfpdchabknoklaaDoorBRBest
import Derived.Test.YtfpdchabknoklaaDoorBRef
import Derived.Test.YtfpdchabknoklaaDoorKUniq
import Derived.Test.YtfpdchabknoklaaDoorKSnap
namespace Go.Proofs.YtfpdchabknoklaaDoor.O.B
open Go Go.Lib

def claimedN (l : List Obj) (v : Obj) : Bool := ((thereL 3 l).find? fun c => decide (refN c = v.claim)).isSome
def atN (l : List Obj) (v : Obj) : Bool := ((thereL 5 l).find? fun a => decide (a.volume = v.name)).isSome
def cutN (l : List Obj) (v : Obj) : Bool := ((thereL 7 l).find? fun s => decide (s.volume = v.name) && (s.phase == 10)).isSome
def inUseN (l : List Obj) (v : Obj) : Bool := atN l v || cutN l v
def erasingN (v : Obj) (next : Int) : Obj := { v with phase := 6, num := next }
def givenN (v : Obj) (next : Int) : Obj := if v.keep = true then { v with phase := 5 } else erasingN v next
def volumeN (l : List Obj) (ver : Int) (name : ByteArray) : Ac := match getL l 4 name with
  | none => nothing
  | some v => if v.phase = 4 ∧ v.deleting = true ∧ v.keep = false then writeA (erasingN v (IntKind.u64.wrap (ver + 1)))
    else if v.phase = 3 ∧ claimedN l v = false then writeA (givenN v (IntKind.u64.wrap (ver + 1)))
    else if v.phase = 6 ∧ inUseN l v = false then askA ⟨2, v.name, v.num, 0, E0, E0, E0⟩ else nothing

/-- A claim that is bound, and its volume. -/
def restC (c : Obj) : Obj := { c with kind := 3, phase := 3, deleting := false }
def restV (c : Obj) : Obj := { Z0 with kind := 4, name := c.volume, phase := 3, claim := refN (restC c) }
theorem rest_claim (l : List Obj) (c : Obj) (ver : Int) : claimN (restC c :: restV c :: l) ver c.name = nothing := by
  have hg : getL (restC c :: restV c :: l) 3 c.name = some (restC c) := by
    unfold getL
    exact List.find?_cons_of_pos (by simp [restC])
  unfold claimN
  rw [hg]
  show (if handleN (restC c) = E0 then nothing else if (3 : Int) = 3 then letN (restC c :: restV c :: l) (restC c) else _) = nothing
  split
  · rfl
  · rw [if_pos rfl]
    unfold letN
    rw [if_pos]
    show (!false || _) = true
    rfl
theorem rest_volume (l : List Obj) (c : Obj) (ver : Int) : volumeN (restC c :: restV c :: l) ver c.volume = nothing := by
  have hg : getL (restC c :: restV c :: l) 4 c.volume = some (restV c) := by
    unfold getL
    rw [List.find?_cons_of_neg (by simp [restC])]
    exact List.find?_cons_of_pos (by simp [restV])
  have hin : restC c ∈ thereL 3 (restC c :: restV c :: l) := there_in (i := 0) (by simp) rfl (fun j hj => absurd hj (by omega))
  have hc : claimedN (restC c :: restV c :: l) (restV c) = true := by
    unfold claimedN
    rw [List.find?_isSome]
    exact ⟨restC c, hin, by simp [restV]⟩
  unfold volumeN
  rw [hg]
  dsimp only
  rw [if_neg (fun h : (restV c).phase = 4 ∧ _ => absurd (show (3 : Int) = 4 from h.1) (by decide)), if_neg (fun h : (restV c).phase = 3 ∧ _ => by rw [hc] at h; cases h.2), if_neg (fun h : (restV c).phase = 6 ∧ _ => absurd (show (3 : Int) = 6 from h.1) (by decide))]
/-- What is written for a volume: given up with Keep, or erased; then it had no claim, or was nobody's. -/
theorem keeps_cases (l : List Obj) (ver : Int) (name : ByteArray) : (volumeN l ver name).act ≠ 1 ∨ ((volumeN l ver name).act = 1 ∧ (volumeN l ver name).obj.phase = 5 ∧ (volumeN l ver name).obj.keep = true) ∨
    ∃ v, getL l 4 name = some v ∧ volumeN l ver name = writeA (erasingN v (IntKind.u64.wrap (ver + 1))) ∧ v.keep = false ∧ (v.phase = 4 ∨ v.phase = 3 ∧ claimedN l v = false) := by
  unfold volumeN
  cases hg : getL l 4 name with
  | none => exact .inl (by show (0 : Int) ≠ 1; decide)
  | some v =>
    dsimp only
    by_cases h1 : v.phase = 4 ∧ v.deleting = true ∧ v.keep = false
    · rw [if_pos h1]
      exact .inr (.inr ⟨v, rfl, rfl, h1.2.2, .inl h1.1⟩)
    rw [if_neg h1]
    by_cases h2 : v.phase = 3 ∧ claimedN l v = false
    · rw [if_pos h2]
      unfold givenN
      cases hk : v.keep with
      | true => exact .inr (.inl ⟨rfl, rfl, rfl⟩)
      | false => exact .inr (.inr ⟨v, rfl, rfl, hk, .inr h2⟩)
    rw [if_neg h2]
    by_cases h3 : v.phase = 6 ∧ inUseN l v = false
    · rw [if_pos h3]
      exact .inl (by show (3 : Int) ≠ 1; decide)
    · rw [if_neg h3]
      exact .inl (by show (0 : Int) ≠ 1; decide)
theorem not_claimed {l : List Obj} {v : Obj} {i : Nat} (h : claimedN l v = false) (hi : i < l.length) (hk : l[i].kind = 3) (hr : refN l[i] = v.claim) (hf : ∀ j (hj : j < i), ¬ (l[j].kind = l[i].kind ∧ l[j].name = l[i].name)) : False := by
  unfold claimedN at h
  have h1 : ((thereL 3 l).find? fun c => decide (refN c = v.claim)).isSome = true := by
    rw [List.find?_isSome]
    exact ⟨l[i], there_in hi hk hf, by simpa using hr⟩
  rw [h] at h1
  cases h1
end Go.Proofs.YtfpdchabknoklaaDoor.O.B
namespace Go.Proofs.YtfpdchabknoklaaDoor.O.B
open Go Go.RowKit Go.Shelf Go.Lib RangeMap KM
attribute [local go_sem] Oper.semAt_some

theorem exec_eql_str {W : World} {r s : ByteArray} {v : Bool} {oi : Oper} {a : Act} {x y : Operand} {t : TypeId} (ho : oi.op = .binOp .eql 9 x y t) (hx : a.eval x = .string r) (hy : a.eval y = .string s) (hv : decide (r = s) = v) :
    (execOp a.eval oi).run Tryd.prog W = .ok (.value (.bool v)) W := by
  subst hv
  rw [← eqB]
  unfold execOp
  simp only [ho, hx, hy]
  go_simp
theorem exec_eql_u64 {W : World} {r s : Int} {v : Bool} {oi : Oper} {a : Act} {x y : Operand} {t : TypeId} (ho : oi.op = .binOp .eql 23 x y t) (hx : a.eval x = .int .u64 r) (hy : a.eval y = .int .u64 s) (hv : (r == s) = v) :
    (execOp a.eval oi).run Tryd.prog W = .ok (.value (.bool v)) W := by
  subst hv
  unfold execOp
  simp only [ho, hx, hy]
  go_simp

theorem exec_obj_eql {W : World} {A B : Obj} {oi : Oper} {a : Act} {x y : Operand} {t : TypeId} (ho : oi.op = .binOp .eql 31 x y t) (hx : a.eval x = encO A) (hy : a.eval y = encO B) :
    (execOp a.eval oi).run Tryd.prog W = .ok (.value (.bool (decide (A = B)))) W := by
  have h := eql_obj A B W
  have hg : (eqGuard .eql 31 x y (encO A) (encO B)).run Tryd.prog W = .ok () W := by kernel_rfl
  unfold execOp
  simp only [ho, hx, hy, Sem.run_bind, Result.andThen_ok, hg, h]
  rfl
theorem exec_obj_same {W : World} {A : Obj} {oi : Oper} {a : Act} {x y : Operand} {t : TypeId} (ho : oi.op = .binOp .eql 31 x y t) (hx : a.eval x = encO A) (hy : a.eval y = encO A) :
    (execOp a.eval oi).run Tryd.prog W = .ok (.value (.bool true)) W := by
  have h := exec_obj_eql (W := W) ho hx hy
  rw [show decide (A = A) = true by simp] at h
  exact h
end Go.Proofs.YtfpdchabknoklaaDoor.O.B
namespace Go.Proofs.YtfpdchabknoklaaDoor.O.B
open Go Go.RowKit Go.Shelf Go.Lib RangeMap KM
attribute [local go_sem] Oper.semAt_some

theorem exec_kind_is {W : World} {r s : Int} {v : Bool} {oi : Oper} {a : Act} {x y : Operand} {t : TypeId} (ho : oi.op = .binOp .eql 27 x y t) (hx : a.eval x = .int .u8 r) (hy : a.eval y = .int .u8 s) (hv : (r == s) = v) :
    (execOp a.eval oi).run Tryd.prog W = .ok (.value (.bool v)) W := by
  subst hv
  unfold execOp
  simp only [ho, hx, hy]
  go_simp
def usesC (c y : Obj) : Bool := ((y.kind == 6) && decide (y.claim = c.name)) || ((y.kind == 5) && decide (y.volume = c.volume))
theorem used_is (l : List Obj) (c : Obj) : (uniqL l).any (usesC c) = (wantedN l c || atNodeN l c) := by
  unfold wantedN atNodeN
  rw [there_uniq, there_uniq, Bool.eq_iff_iff, Bool.or_eq_true, List.find?_isSome, List.find?_isSome, List.any_eq_true]
  unfold usesC
  simp only [List.mem_filter, decide_eq_true_eq, Bool.and_eq_true, Bool.or_eq_true, beq_iff_eq]
  constructor
  · rintro ⟨x, h1, ⟨h2, h3⟩ | ⟨h2, h3⟩⟩
    · exact .inl ⟨x, ⟨h1, h2⟩, h3⟩
    · exact .inr ⟨x, ⟨h1, h2⟩, h3⟩
  · rintro (⟨x, ⟨h1, h2⟩, h3⟩ | ⟨x, ⟨h1, h2⟩, h3⟩)
    · exact ⟨x, h1, .inl ⟨h2, h3⟩⟩
    · exact ⟨x, h1, .inr ⟨h2, h3⟩⟩
theorem any_none {p : Obj → Bool} {L : List Obj} (h : ∀ i (hi : i < L.length), p L[i] = false) : L.any p = false := by
  rw [List.any_eq_false]
  intro x hx
  obtain ⟨i, hi, rfl⟩ := List.mem_iff_getElem.1 hx
  rw [h i hi]
  decide
theorem any_one {p : Obj → Bool} {L : List Obj} {i : Nat} (hi : i < L.length) (h : p L[i] = true) : L.any p = true := List.any_eq_true.2 ⟨L[i], List.getElem_mem hi, h⟩

set_option maxRecDepth 100000 in
set_option maxHeartbeats 8000000 in
theorem rused_any (L : List Obj) (s : Value) (c : Obj) (w : World) (hl : ObjsIn w s L) :
    Calls Tryd.prog 29 #[s, encO c] w fun e w' => e = .returned (.bool (L.any (usesC c))) ∧ Below w.heap.size w w' := by
  obtain ⟨o, cp, rfl, hm, -⟩ := id hl
  have HL := Lib.hid hl
  clear hl
  obtain ⟨r, hr⟩ : ∃ r, L.any (usesC c) = r := ⟨_, rfl⟩
  rw [hr]
  have HR := Lib.hid hr
  clear hr
  unfold encO
  go_enter Tryd.func29, Tryd.ntmps29
  go_upto_region 1 with (fail)
  refine wp_gen (fun V => BoxO V w.heap.size c ∧ Below w.heap.size w V) ⟨BoxO.new w c, (Below.refl _ _).alloc (Nat.le_refl _) _⟩ ?_
  rintro V0 ⟨hc0, hlw0⟩
  have HC := Lib.hid hc0
  have HW := Lib.hid hlw0
  have HLV := Lib.hid (HL.out.after hlw0)
  clear hc0 hlw0 HL
  go_wp2_with (fail)
  go_loopw [5] (fun i wr => ∃ j : Nat, i = .int .i64 (j : Int) ∧ j ≤ L.length ∧ Hid (∀ p (hp : p < L.length), p < j → usesC c L[p] = false) ∧ Below V0.heap.size V0 wr) (fun i _ => L.length - (RowKit.intOf i).toNat)
  case atStart => exact ⟨0, rfl, Nat.zero_le _, by show ∀ p _, _ → _; intro p _ h; exact absurd h (by omega), Below.refl _ _⟩
  case round =>
    obtain ⟨j, rfl, hj, HNO, hlow⟩ := hrel
    have HLOW := Lib.hid hlow
    clear hlow
    by_cases hlt : j < L.length
    · have hlt' : (j : Int) < (L.length : Int) := by omega
      obtain ⟨o', c', he, -, hi⟩ := id HLV.out
      cases he
      obtain ⟨g, off, rfl, -, -⟩ := hi j hlt
      obtain ⟨y, hy⟩ : ∃ y, L[j] = y := ⟨_, rfl⟩
      have hrows : ∀ V : World, ObjsIn V (.slice (some ⟨g, off, none⟩) L.length cp) L → V.rangeAt g (off + j * 20) (cellsO y).toList := fun V hV => by
        obtain ⟨o2, c2, e2, -, h2⟩ := hV
        cases e2
        obtain ⟨g3, off3, e3, -, h3⟩ := h2 j hlt
        cases e3
        rw [← hy]
        exact h3
      have HROWS := Lib.hid hrows
      have HNX : Hid (usesC c y = false → ∀ p (hp : p < L.length), p < j + 1 → usesC c L[p] = false) := by
        show _ → ∀ p _, _ → _
        intro hf p hp h
        rcases Nat.lt_or_ge p j with h1 | h1
        · exact HNO.out p hp h1
        · obtain rfl : p = j := by omega
          rw [hy]
          exact hf
      have HYES : Hid (usesC c y = true → r = true) := fun h => by rw [← HR.out]; exact any_one hlt (by rw [hy]; exact h)
      have HLL := Lib.hid (HLV.out.after HLOW.out)
      have HCC := Lib.hid (HC.out.after HLOW.out)
      have HWW := HLOW
      clear hi hy hrows HLOW HNO
      go_upto_region 4 with (fail)
      cases k6 : (y.kind == 6) with
      | true =>
        have K6 := Lib.hid k6
        have k5 : (y.kind == 5) = false := by have : y.kind = 6 := by simpa using k6
                                              rw [this]; rfl
        have K5 := Lib.hid k5
        by_cases m6 : y.claim = c.name
        · have M6 : Hid (decide (y.claim = c.name) = true) := decide_eq_true m6
          have HF : Hid (usesC c y = true) := by show _ = _; unfold usesC; rw [k6, M6.out]; rfl
          clear k6 k5 m6
          refine wp_region_held_drew (S := fun V => ObjsIn V (.slice (some ⟨g, off, none⟩) L.length cp) L ∧ BoxO V w.heap.size c ∧ Below V0.heap.size V0 V) (by kernel_rfl) ⟨HLL.out, HCC.out, HWW.out.drew⟩ (fun _ => ?_)
          refine HeldBy.gen (fun V => ObjsIn V (.slice (some ⟨g, off, none⟩) L.length cp) L ∧ BoxO V w.heap.size c ∧ Below V0.heap.size V0 V) ⟨HLL.out, HCC.out, HWW.out.drew⟩ ?_
          clear HLL HCC HWW
          rintro U0 HS
          refine HeldBy.take (i := 0) rfl (by kernel_rfl) (by kernel_rfl) (by kernel_rfl) (fun _ _ _ h => h) (by rfl) (fun _ _ => by first | (go_simp; rfl) | (go_simp; done)) (by go_simp; rfl) HS ?_
          refine HeldBy.take (i := 1) rfl (by kernel_rfl) (by kernel_rfl) (by kernel_rfl) (fun _ _ _ h => h) (by rfl) (fun _ _ => by first | (go_simp; rfl) | (go_simp; done)) (by go_simp; rfl) HS ?_
          refine HeldBy.take (i := 2) rfl (by kernel_rfl) (by kernel_rfl) (by kernel_rfl) (fun _ _ _ h => h) (by rfl) (fun _ _ => by first | (go_simp; rfl) | (go_simp; done)) (by go_simp; rfl) HS ?_
          refine HeldBy.take (i := 3) rfl (by kernel_rfl) (by kernel_rfl) (by kernel_rfl) (fun _ _ _ h => h) (by rfl) (fun _ _ => by first | (go_simp; rfl) | (go_simp; done)) (by go_simp; rfl) HS ?_
          refine HeldBy.take (i := 4) (v := .int .u8 y.kind) rfl (by kernel_rfl) (by kernel_rfl) (by kernel_rfl) (fun _ _ _ h => h) (by rfl) (fun V hV => by have h := row_cell (HROWS.out V hV.1) 0 _ rfl; rw [Nat.add_zero] at h; first | (go_simp; rfl) | (go_simp; done)) (by go_simp; rfl) HS ?_
          refine HeldBy.take (i := 5) (v := .bool true) rfl (by kernel_rfl) (by kernel_rfl) (by kernel_rfl) (fun _ _ _ h => h) (by rfl) (fun _ _ => exec_kind_is rfl rfl rfl K6.out) (by go_simp; rfl) HS ?_
          refine HeldBy.take (i := 6) rfl (by kernel_rfl) (by kernel_rfl) (by kernel_rfl) (fun _ _ _ h => h) (by rfl) (fun _ _ => by first | (go_simp; rfl) | (go_simp; done)) (by go_simp; rfl) HS ?_
          refine HeldBy.take (i := 7) rfl (by kernel_rfl) (by kernel_rfl) (by kernel_rfl) (fun _ _ _ h => h) (by rfl) (fun _ _ => by first | (go_simp; rfl) | (go_simp; done)) (by go_simp; rfl) HS ?_
          refine HeldBy.take (i := 8) rfl (by kernel_rfl) (by kernel_rfl) (by kernel_rfl) (fun _ _ _ h => h) (by rfl) (fun _ _ => by first | (go_simp; rfl) | (go_simp; done)) (by go_simp; rfl) HS ?_
          refine HeldBy.take (i := 9) rfl (by kernel_rfl) (by kernel_rfl) (by kernel_rfl) (fun _ _ _ h => h) (by rfl) (fun _ _ => by first | (go_simp; rfl) | (go_simp; done)) (by go_simp; rfl) HS ?_
          refine HeldBy.take (i := 10) rfl (by kernel_rfl) (by kernel_rfl) (by kernel_rfl) (fun _ _ _ h => h) (by rfl) (fun _ _ => by first | (go_simp; rfl) | (go_simp; done)) (by go_simp; rfl) HS ?_
          refine HeldBy.take (i := 11) (v := .string y.claim) rfl (by kernel_rfl) (by kernel_rfl) (by kernel_rfl) (fun _ _ _ h => h) (by rfl) (fun V hV => by have h := row_cell (HROWS.out V hV.1) 14 _ rfl; first | (go_simp; rfl) | (go_simp; done)) (by go_simp; rfl) HS ?_
          refine HeldBy.take (i := 12) rfl (by kernel_rfl) (by kernel_rfl) (by kernel_rfl) (fun _ _ _ h => h) (by rfl) (fun _ _ => by first | (go_simp; rfl) | (go_simp; done)) (by go_simp; rfl) HS ?_
          refine HeldBy.take (i := 13) (v := .string c.name) rfl (by kernel_rfl) (by kernel_rfl) (by kernel_rfl) (fun _ _ _ h => h) (by rfl) (fun V hV => by have h := hV.2.1.c1; first | (go_simp; rfl) | (go_simp; done)) (by go_simp; rfl) HS ?_
          refine HeldBy.take (i := 14) (v := .bool true) rfl (by kernel_rfl) (by kernel_rfl) (by kernel_rfl) (fun _ _ _ h => h) (by rfl) (fun _ _ => exec_eql_str rfl rfl rfl M6.out) (by go_simp; rfl) HS ?_
          refine HeldBy.take (i := 15) rfl (by kernel_rfl) (by kernel_rfl) (by kernel_rfl) (fun _ _ _ h => h) (by rfl) (fun _ _ => by first | (go_simp; rfl) | (go_simp; done)) (by go_simp; rfl) HS ?_
          refine HeldBy.take (i := 16) rfl (by kernel_rfl) (by kernel_rfl) (by kernel_rfl) (fun _ _ _ h => h) (by rfl) (fun _ _ => by first | (go_simp; rfl) | (go_simp; done)) (by go_simp; rfl) HS ?_
          refine HeldBy.skip (i := 17) rfl (by kernel_rfl) (by kernel_rfl) (by kernel_rfl) (fun _ _ _ h => h) (by rfl) (by go_simp; rfl) HS ?_
          refine HeldBy.skip (i := 18) rfl (by kernel_rfl) (by kernel_rfl) (by kernel_rfl) (fun _ _ _ h => h) (by rfl) (by go_simp; rfl) HS ?_
          refine HeldBy.skip (i := 19) rfl (by kernel_rfl) (by kernel_rfl) (by kernel_rfl) (fun _ _ _ h => h) (by rfl) (by go_simp; rfl) HS ?_
          refine HeldBy.skip (i := 20) rfl (by kernel_rfl) (by kernel_rfl) (by kernel_rfl) (fun _ _ _ h => h) (by rfl) (by go_simp; rfl) HS ?_
          refine HeldBy.skip (i := 21) rfl (by kernel_rfl) (by kernel_rfl) (by kernel_rfl) (fun _ _ _ h => h) (by rfl) (by go_simp; rfl) HS ?_
          refine HeldBy.skip (i := 22) rfl (by kernel_rfl) (by kernel_rfl) (by kernel_rfl) (fun _ _ _ h => h) (by rfl) (by go_simp; rfl) HS ?_
          refine HeldBy.skip (i := 23) rfl (by kernel_rfl) (by kernel_rfl) (by kernel_rfl) (fun _ _ _ h => h) (by rfl) (by go_simp; rfl) HS ?_
          refine HeldBy.skip (i := 24) rfl (by kernel_rfl) (by kernel_rfl) (by kernel_rfl) (fun _ _ _ h => h) (by rfl) (by go_simp; rfl) HS ?_
          refine HeldBy.skip (i := 25) rfl (by kernel_rfl) (by kernel_rfl) (by kernel_rfl) (fun _ _ _ h => h) (by rfl) (by go_simp; rfl) HS ?_
          refine HeldBy.skip (i := 26) rfl (by kernel_rfl) (by kernel_rfl) (by kernel_rfl) (fun _ _ _ h => h) (by rfl) (by go_simp; rfl) HS ?_
          refine HeldBy.skip (i := 27) rfl (by kernel_rfl) (by kernel_rfl) (by kernel_rfl) (fun _ _ _ h => h) (by rfl) (by go_simp; rfl) HS ?_
          refine HeldBy.skip (i := 28) rfl (by kernel_rfl) (by kernel_rfl) (by kernel_rfl) (fun _ _ _ h => h) (by rfl) (by go_simp; rfl) HS ?_
          refine HeldBy.skip (i := 29) rfl (by kernel_rfl) (by kernel_rfl) (by kernel_rfl) (fun _ _ _ h => h) (by rfl) (by go_simp; rfl) HS ?_
          refine HeldBy.skip (i := 30) rfl (by kernel_rfl) (by kernel_rfl) (by kernel_rfl) (fun _ _ _ h => h) (by rfl) (by go_simp; rfl) HS ?_
          refine HeldBy.skip (i := 31) rfl (by kernel_rfl) (by kernel_rfl) (by kernel_rfl) (fun _ _ _ h => h) (by rfl) (by go_simp; rfl) HS ?_
          refine HeldBy.skip (i := 32) rfl (by kernel_rfl) (by kernel_rfl) (by kernel_rfl) (fun _ _ _ h => h) (by rfl) (by go_simp; rfl) HS ?_
          refine HeldBy.take (i := 33) rfl (by kernel_rfl) (by kernel_rfl) (by kernel_rfl) (fun _ _ _ h => h) (by rfl) (fun _ _ => by first | (go_simp; rfl) | (go_simp; done)) (by go_simp; rfl) HS ?_
          refine wpAnyH_done (by kernel_rfl) ?_ _
          have HVV := Lib.hid (HYES.out HF.out)
          have HW5 := Lib.hid (HW.out.trans (HS.2.2.mono HW.out.size))
          clear HS HROWS HNX HYES HF K6 K5 M6
          go_wp2
          go_ret
          exact ⟨by rw [HVV.out]; rfl, HW5.out⟩
        · have M6 : Hid (decide (y.claim = c.name) = false) := decide_eq_false m6
          have HF : Hid (usesC c y = false) := by show _ = _; unfold usesC; rw [k6, k5, M6.out]; rfl
          clear k6 k5 m6
          refine wp_region_held_drew (S := fun V => ObjsIn V (.slice (some ⟨g, off, none⟩) L.length cp) L ∧ BoxO V w.heap.size c ∧ Below V0.heap.size V0 V) (by kernel_rfl) ⟨HLL.out, HCC.out, HWW.out.drew⟩ (fun _ => ?_)
          refine HeldBy.gen (fun V => ObjsIn V (.slice (some ⟨g, off, none⟩) L.length cp) L ∧ BoxO V w.heap.size c ∧ Below V0.heap.size V0 V) ⟨HLL.out, HCC.out, HWW.out.drew⟩ ?_
          clear HLL HCC HWW
          rintro U0 HS
          refine HeldBy.take (i := 0) rfl (by kernel_rfl) (by kernel_rfl) (by kernel_rfl) (fun _ _ _ h => h) (by rfl) (fun _ _ => by first | (go_simp; rfl) | (go_simp; done)) (by go_simp; rfl) HS ?_
          refine HeldBy.take (i := 1) rfl (by kernel_rfl) (by kernel_rfl) (by kernel_rfl) (fun _ _ _ h => h) (by rfl) (fun _ _ => by first | (go_simp; rfl) | (go_simp; done)) (by go_simp; rfl) HS ?_
          refine HeldBy.take (i := 2) rfl (by kernel_rfl) (by kernel_rfl) (by kernel_rfl) (fun _ _ _ h => h) (by rfl) (fun _ _ => by first | (go_simp; rfl) | (go_simp; done)) (by go_simp; rfl) HS ?_
          refine HeldBy.take (i := 3) rfl (by kernel_rfl) (by kernel_rfl) (by kernel_rfl) (fun _ _ _ h => h) (by rfl) (fun _ _ => by first | (go_simp; rfl) | (go_simp; done)) (by go_simp; rfl) HS ?_
          refine HeldBy.take (i := 4) (v := .int .u8 y.kind) rfl (by kernel_rfl) (by kernel_rfl) (by kernel_rfl) (fun _ _ _ h => h) (by rfl) (fun V hV => by have h := row_cell (HROWS.out V hV.1) 0 _ rfl; rw [Nat.add_zero] at h; first | (go_simp; rfl) | (go_simp; done)) (by go_simp; rfl) HS ?_
          refine HeldBy.take (i := 5) (v := .bool true) rfl (by kernel_rfl) (by kernel_rfl) (by kernel_rfl) (fun _ _ _ h => h) (by rfl) (fun _ _ => exec_kind_is rfl rfl rfl K6.out) (by go_simp; rfl) HS ?_
          refine HeldBy.take (i := 6) rfl (by kernel_rfl) (by kernel_rfl) (by kernel_rfl) (fun _ _ _ h => h) (by rfl) (fun _ _ => by first | (go_simp; rfl) | (go_simp; done)) (by go_simp; rfl) HS ?_
          refine HeldBy.take (i := 7) rfl (by kernel_rfl) (by kernel_rfl) (by kernel_rfl) (fun _ _ _ h => h) (by rfl) (fun _ _ => by first | (go_simp; rfl) | (go_simp; done)) (by go_simp; rfl) HS ?_
          refine HeldBy.take (i := 8) rfl (by kernel_rfl) (by kernel_rfl) (by kernel_rfl) (fun _ _ _ h => h) (by rfl) (fun _ _ => by first | (go_simp; rfl) | (go_simp; done)) (by go_simp; rfl) HS ?_
          refine HeldBy.take (i := 9) rfl (by kernel_rfl) (by kernel_rfl) (by kernel_rfl) (fun _ _ _ h => h) (by rfl) (fun _ _ => by first | (go_simp; rfl) | (go_simp; done)) (by go_simp; rfl) HS ?_
          refine HeldBy.take (i := 10) rfl (by kernel_rfl) (by kernel_rfl) (by kernel_rfl) (fun _ _ _ h => h) (by rfl) (fun _ _ => by first | (go_simp; rfl) | (go_simp; done)) (by go_simp; rfl) HS ?_
          refine HeldBy.take (i := 11) (v := .string y.claim) rfl (by kernel_rfl) (by kernel_rfl) (by kernel_rfl) (fun _ _ _ h => h) (by rfl) (fun V hV => by have h := row_cell (HROWS.out V hV.1) 14 _ rfl; first | (go_simp; rfl) | (go_simp; done)) (by go_simp; rfl) HS ?_
          refine HeldBy.take (i := 12) rfl (by kernel_rfl) (by kernel_rfl) (by kernel_rfl) (fun _ _ _ h => h) (by rfl) (fun _ _ => by first | (go_simp; rfl) | (go_simp; done)) (by go_simp; rfl) HS ?_
          refine HeldBy.take (i := 13) (v := .string c.name) rfl (by kernel_rfl) (by kernel_rfl) (by kernel_rfl) (fun _ _ _ h => h) (by rfl) (fun V hV => by have h := hV.2.1.c1; first | (go_simp; rfl) | (go_simp; done)) (by go_simp; rfl) HS ?_
          refine HeldBy.take (i := 14) (v := .bool false) rfl (by kernel_rfl) (by kernel_rfl) (by kernel_rfl) (fun _ _ _ h => h) (by rfl) (fun _ _ => exec_eql_str rfl rfl rfl M6.out) (by go_simp; rfl) HS ?_
          refine HeldBy.take (i := 15) rfl (by kernel_rfl) (by kernel_rfl) (by kernel_rfl) (fun _ _ _ h => h) (by rfl) (fun _ _ => by first | (go_simp; rfl) | (go_simp; done)) (by go_simp; rfl) HS ?_
          refine HeldBy.take (i := 16) rfl (by kernel_rfl) (by kernel_rfl) (by kernel_rfl) (fun _ _ _ h => h) (by rfl) (fun _ _ => by first | (go_simp; rfl) | (go_simp; done)) (by go_simp; rfl) HS ?_
          refine HeldBy.take (i := 17) rfl (by kernel_rfl) (by kernel_rfl) (by kernel_rfl) (fun _ _ _ h => h) (by rfl) (fun _ _ => by first | (go_simp; rfl) | (go_simp; done)) (by go_simp; rfl) HS ?_
          refine HeldBy.take (i := 18) rfl (by kernel_rfl) (by kernel_rfl) (by kernel_rfl) (fun _ _ _ h => h) (by rfl) (fun _ _ => by first | (go_simp; rfl) | (go_simp; done)) (by go_simp; rfl) HS ?_
          refine HeldBy.take (i := 19) rfl (by kernel_rfl) (by kernel_rfl) (by kernel_rfl) (fun _ _ _ h => h) (by rfl) (fun _ _ => by first | (go_simp; rfl) | (go_simp; done)) (by go_simp; rfl) HS ?_
          refine HeldBy.take (i := 20) rfl (by kernel_rfl) (by kernel_rfl) (by kernel_rfl) (fun _ _ _ h => h) (by rfl) (fun _ _ => by first | (go_simp; rfl) | (go_simp; done)) (by go_simp; rfl) HS ?_
          refine HeldBy.take (i := 21) (v := .int .u8 y.kind) rfl (by kernel_rfl) (by kernel_rfl) (by kernel_rfl) (fun _ _ _ h => h) (by rfl) (fun V hV => by have h := row_cell (HROWS.out V hV.1) 0 _ rfl; rw [Nat.add_zero] at h; first | (go_simp; rfl) | (go_simp; done)) (by go_simp; rfl) HS ?_
          refine HeldBy.take (i := 22) (v := .bool false) rfl (by kernel_rfl) (by kernel_rfl) (by kernel_rfl) (fun _ _ _ h => h) (by rfl) (fun _ _ => exec_kind_is rfl rfl rfl K5.out) (by go_simp; rfl) HS ?_
          refine HeldBy.take (i := 23) rfl (by kernel_rfl) (by kernel_rfl) (by kernel_rfl) (fun _ _ _ h => h) (by rfl) (fun _ _ => by first | (go_simp; rfl) | (go_simp; done)) (by go_simp; rfl) HS ?_
          refine HeldBy.skip (i := 24) rfl (by kernel_rfl) (by kernel_rfl) (by kernel_rfl) (fun _ _ _ h => h) (by rfl) (by go_simp; rfl) HS ?_
          refine HeldBy.skip (i := 25) rfl (by kernel_rfl) (by kernel_rfl) (by kernel_rfl) (fun _ _ _ h => h) (by rfl) (by go_simp; rfl) HS ?_
          refine HeldBy.skip (i := 26) rfl (by kernel_rfl) (by kernel_rfl) (by kernel_rfl) (fun _ _ _ h => h) (by rfl) (by go_simp; rfl) HS ?_
          refine HeldBy.skip (i := 27) rfl (by kernel_rfl) (by kernel_rfl) (by kernel_rfl) (fun _ _ _ h => h) (by rfl) (by go_simp; rfl) HS ?_
          refine HeldBy.skip (i := 28) rfl (by kernel_rfl) (by kernel_rfl) (by kernel_rfl) (fun _ _ _ h => h) (by rfl) (by go_simp; rfl) HS ?_
          refine HeldBy.skip (i := 29) rfl (by kernel_rfl) (by kernel_rfl) (by kernel_rfl) (fun _ _ _ h => h) (by rfl) (by go_simp; rfl) HS ?_
          refine HeldBy.skip (i := 30) rfl (by kernel_rfl) (by kernel_rfl) (by kernel_rfl) (fun _ _ _ h => h) (by rfl) (by go_simp; rfl) HS ?_
          refine HeldBy.skip (i := 31) rfl (by kernel_rfl) (by kernel_rfl) (by kernel_rfl) (fun _ _ _ h => h) (by rfl) (by go_simp; rfl) HS ?_
          refine HeldBy.take (i := 32) rfl (by kernel_rfl) (by kernel_rfl) (by kernel_rfl) (fun _ _ _ h => h) (by rfl) (fun _ _ => by first | (go_simp; rfl) | (go_simp; done)) (by go_simp; rfl) HS ?_
          refine HeldBy.take (i := 33) rfl (by kernel_rfl) (by kernel_rfl) (by kernel_rfl) (fun _ _ _ h => h) (by rfl) (fun _ _ => by first | (go_simp; rfl) | (go_simp; done)) (by go_simp; rfl) HS ?_
          refine wpAnyH_done (by kernel_rfl) ?_ _
          have HNN := Lib.hid (HNX.out HF.out)
          have HW5 := Lib.hid HS.2.2
          clear HS HROWS HNX HYES HF K6 K5 M6
          go_wp2
          go_roundw
          case rel => exact ⟨j + 1, by go_num, by omega, HNN, HW5.out⟩
          case measure => simp [RowKit.intOf]; omega
      | false =>
        have K6 := Lib.hid k6
        cases k5 : (y.kind == 5) with
        | true =>
          have K5 := Lib.hid k5
          by_cases m5 : y.volume = c.volume
          · have M5 : Hid (decide (y.volume = c.volume) = true) := decide_eq_true m5
            have HF : Hid (usesC c y = true) := by show _ = _; unfold usesC; rw [k6, k5, M5.out]; rfl
            clear k6 k5 m5
            refine wp_region_held_drew (S := fun V => ObjsIn V (.slice (some ⟨g, off, none⟩) L.length cp) L ∧ BoxO V w.heap.size c ∧ Below V0.heap.size V0 V) (by kernel_rfl) ⟨HLL.out, HCC.out, HWW.out.drew⟩ (fun _ => ?_)
            refine HeldBy.gen (fun V => ObjsIn V (.slice (some ⟨g, off, none⟩) L.length cp) L ∧ BoxO V w.heap.size c ∧ Below V0.heap.size V0 V) ⟨HLL.out, HCC.out, HWW.out.drew⟩ ?_
            clear HLL HCC HWW
            rintro U0 HS
            refine HeldBy.take (i := 0) rfl (by kernel_rfl) (by kernel_rfl) (by kernel_rfl) (fun _ _ _ h => h) (by rfl) (fun _ _ => by first | (go_simp; rfl) | (go_simp; done)) (by go_simp; rfl) HS ?_
            refine HeldBy.take (i := 1) rfl (by kernel_rfl) (by kernel_rfl) (by kernel_rfl) (fun _ _ _ h => h) (by rfl) (fun _ _ => by first | (go_simp; rfl) | (go_simp; done)) (by go_simp; rfl) HS ?_
            refine HeldBy.take (i := 2) rfl (by kernel_rfl) (by kernel_rfl) (by kernel_rfl) (fun _ _ _ h => h) (by rfl) (fun _ _ => by first | (go_simp; rfl) | (go_simp; done)) (by go_simp; rfl) HS ?_
            refine HeldBy.take (i := 3) rfl (by kernel_rfl) (by kernel_rfl) (by kernel_rfl) (fun _ _ _ h => h) (by rfl) (fun _ _ => by first | (go_simp; rfl) | (go_simp; done)) (by go_simp; rfl) HS ?_
            refine HeldBy.take (i := 4) (v := .int .u8 y.kind) rfl (by kernel_rfl) (by kernel_rfl) (by kernel_rfl) (fun _ _ _ h => h) (by rfl) (fun V hV => by have h := row_cell (HROWS.out V hV.1) 0 _ rfl; rw [Nat.add_zero] at h; first | (go_simp; rfl) | (go_simp; done)) (by go_simp; rfl) HS ?_
            refine HeldBy.take (i := 5) (v := .bool false) rfl (by kernel_rfl) (by kernel_rfl) (by kernel_rfl) (fun _ _ _ h => h) (by rfl) (fun _ _ => exec_kind_is rfl rfl rfl K6.out) (by go_simp; rfl) HS ?_
            refine HeldBy.take (i := 6) rfl (by kernel_rfl) (by kernel_rfl) (by kernel_rfl) (fun _ _ _ h => h) (by rfl) (fun _ _ => by first | (go_simp; rfl) | (go_simp; done)) (by go_simp; rfl) HS ?_
            refine HeldBy.skip (i := 7) rfl (by kernel_rfl) (by kernel_rfl) (by kernel_rfl) (fun _ _ _ h => h) (by rfl) (by go_simp; rfl) HS ?_
            refine HeldBy.skip (i := 8) rfl (by kernel_rfl) (by kernel_rfl) (by kernel_rfl) (fun _ _ _ h => h) (by rfl) (by go_simp; rfl) HS ?_
            refine HeldBy.skip (i := 9) rfl (by kernel_rfl) (by kernel_rfl) (by kernel_rfl) (fun _ _ _ h => h) (by rfl) (by go_simp; rfl) HS ?_
            refine HeldBy.skip (i := 10) rfl (by kernel_rfl) (by kernel_rfl) (by kernel_rfl) (fun _ _ _ h => h) (by rfl) (by go_simp; rfl) HS ?_
            refine HeldBy.skip (i := 11) rfl (by kernel_rfl) (by kernel_rfl) (by kernel_rfl) (fun _ _ _ h => h) (by rfl) (by go_simp; rfl) HS ?_
            refine HeldBy.skip (i := 12) rfl (by kernel_rfl) (by kernel_rfl) (by kernel_rfl) (fun _ _ _ h => h) (by rfl) (by go_simp; rfl) HS ?_
            refine HeldBy.skip (i := 13) rfl (by kernel_rfl) (by kernel_rfl) (by kernel_rfl) (fun _ _ _ h => h) (by rfl) (by go_simp; rfl) HS ?_
            refine HeldBy.skip (i := 14) rfl (by kernel_rfl) (by kernel_rfl) (by kernel_rfl) (fun _ _ _ h => h) (by rfl) (by go_simp; rfl) HS ?_
            refine HeldBy.take (i := 15) rfl (by kernel_rfl) (by kernel_rfl) (by kernel_rfl) (fun _ _ _ h => h) (by rfl) (fun _ _ => by first | (go_simp; rfl) | (go_simp; done)) (by go_simp; rfl) HS ?_
            refine HeldBy.take (i := 16) rfl (by kernel_rfl) (by kernel_rfl) (by kernel_rfl) (fun _ _ _ h => h) (by rfl) (fun _ _ => by first | (go_simp; rfl) | (go_simp; done)) (by go_simp; rfl) HS ?_
            refine HeldBy.take (i := 17) rfl (by kernel_rfl) (by kernel_rfl) (by kernel_rfl) (fun _ _ _ h => h) (by rfl) (fun _ _ => by first | (go_simp; rfl) | (go_simp; done)) (by go_simp; rfl) HS ?_
            refine HeldBy.take (i := 18) rfl (by kernel_rfl) (by kernel_rfl) (by kernel_rfl) (fun _ _ _ h => h) (by rfl) (fun _ _ => by first | (go_simp; rfl) | (go_simp; done)) (by go_simp; rfl) HS ?_
            refine HeldBy.take (i := 19) rfl (by kernel_rfl) (by kernel_rfl) (by kernel_rfl) (fun _ _ _ h => h) (by rfl) (fun _ _ => by first | (go_simp; rfl) | (go_simp; done)) (by go_simp; rfl) HS ?_
            refine HeldBy.take (i := 20) rfl (by kernel_rfl) (by kernel_rfl) (by kernel_rfl) (fun _ _ _ h => h) (by rfl) (fun _ _ => by first | (go_simp; rfl) | (go_simp; done)) (by go_simp; rfl) HS ?_
            refine HeldBy.take (i := 21) (v := .int .u8 y.kind) rfl (by kernel_rfl) (by kernel_rfl) (by kernel_rfl) (fun _ _ _ h => h) (by rfl) (fun V hV => by have h := row_cell (HROWS.out V hV.1) 0 _ rfl; rw [Nat.add_zero] at h; first | (go_simp; rfl) | (go_simp; done)) (by go_simp; rfl) HS ?_
            refine HeldBy.take (i := 22) (v := .bool true) rfl (by kernel_rfl) (by kernel_rfl) (by kernel_rfl) (fun _ _ _ h => h) (by rfl) (fun _ _ => exec_kind_is rfl rfl rfl K5.out) (by go_simp; rfl) HS ?_
            refine HeldBy.take (i := 23) rfl (by kernel_rfl) (by kernel_rfl) (by kernel_rfl) (fun _ _ _ h => h) (by rfl) (fun _ _ => by first | (go_simp; rfl) | (go_simp; done)) (by go_simp; rfl) HS ?_
            refine HeldBy.take (i := 24) rfl (by kernel_rfl) (by kernel_rfl) (by kernel_rfl) (fun _ _ _ h => h) (by rfl) (fun _ _ => by first | (go_simp; rfl) | (go_simp; done)) (by go_simp; rfl) HS ?_
            refine HeldBy.take (i := 25) rfl (by kernel_rfl) (by kernel_rfl) (by kernel_rfl) (fun _ _ _ h => h) (by rfl) (fun _ _ => by first | (go_simp; rfl) | (go_simp; done)) (by go_simp; rfl) HS ?_
            refine HeldBy.take (i := 26) rfl (by kernel_rfl) (by kernel_rfl) (by kernel_rfl) (fun _ _ _ h => h) (by rfl) (fun _ _ => by first | (go_simp; rfl) | (go_simp; done)) (by go_simp; rfl) HS ?_
            refine HeldBy.take (i := 27) rfl (by kernel_rfl) (by kernel_rfl) (by kernel_rfl) (fun _ _ _ h => h) (by rfl) (fun _ _ => by first | (go_simp; rfl) | (go_simp; done)) (by go_simp; rfl) HS ?_
            refine HeldBy.take (i := 28) (v := .string y.volume) rfl (by kernel_rfl) (by kernel_rfl) (by kernel_rfl) (fun _ _ _ h => h) (by rfl) (fun V hV => by have h := row_cell (HROWS.out V hV.1) 15 _ rfl; first | (go_simp; rfl) | (go_simp; done)) (by go_simp; rfl) HS ?_
            refine HeldBy.take (i := 29) rfl (by kernel_rfl) (by kernel_rfl) (by kernel_rfl) (fun _ _ _ h => h) (by rfl) (fun _ _ => by first | (go_simp; rfl) | (go_simp; done)) (by go_simp; rfl) HS ?_
            refine HeldBy.take (i := 30) (v := .string c.volume) rfl (by kernel_rfl) (by kernel_rfl) (by kernel_rfl) (fun _ _ _ h => h) (by rfl) (fun V hV => by have h := hV.2.1.c15; first | (go_simp; rfl) | (go_simp; done)) (by go_simp; rfl) HS ?_
            refine HeldBy.take (i := 31) (v := .bool true) rfl (by kernel_rfl) (by kernel_rfl) (by kernel_rfl) (fun _ _ _ h => h) (by rfl) (fun _ _ => exec_eql_str rfl rfl rfl M5.out) (by go_simp; rfl) HS ?_
            refine HeldBy.take (i := 32) rfl (by kernel_rfl) (by kernel_rfl) (by kernel_rfl) (fun _ _ _ h => h) (by rfl) (fun _ _ => by first | (go_simp; rfl) | (go_simp; done)) (by go_simp; rfl) HS ?_
            refine HeldBy.take (i := 33) rfl (by kernel_rfl) (by kernel_rfl) (by kernel_rfl) (fun _ _ _ h => h) (by rfl) (fun _ _ => by first | (go_simp; rfl) | (go_simp; done)) (by go_simp; rfl) HS ?_
            refine wpAnyH_done (by kernel_rfl) ?_ _
            have HVV := Lib.hid (HYES.out HF.out)
            have HW5 := Lib.hid (HW.out.trans (HS.2.2.mono HW.out.size))
            clear HS HROWS HNX HYES HF K6 K5 M5
            go_wp2
            go_ret
            exact ⟨by rw [HVV.out]; rfl, HW5.out⟩
          · have M5 : Hid (decide (y.volume = c.volume) = false) := decide_eq_false m5
            have HF : Hid (usesC c y = false) := by show _ = _; unfold usesC; rw [k6, k5, M5.out]; rfl
            clear k6 k5 m5
            refine wp_region_held_drew (S := fun V => ObjsIn V (.slice (some ⟨g, off, none⟩) L.length cp) L ∧ BoxO V w.heap.size c ∧ Below V0.heap.size V0 V) (by kernel_rfl) ⟨HLL.out, HCC.out, HWW.out.drew⟩ (fun _ => ?_)
            refine HeldBy.gen (fun V => ObjsIn V (.slice (some ⟨g, off, none⟩) L.length cp) L ∧ BoxO V w.heap.size c ∧ Below V0.heap.size V0 V) ⟨HLL.out, HCC.out, HWW.out.drew⟩ ?_
            clear HLL HCC HWW
            rintro U0 HS
            refine HeldBy.take (i := 0) rfl (by kernel_rfl) (by kernel_rfl) (by kernel_rfl) (fun _ _ _ h => h) (by rfl) (fun _ _ => by first | (go_simp; rfl) | (go_simp; done)) (by go_simp; rfl) HS ?_
            refine HeldBy.take (i := 1) rfl (by kernel_rfl) (by kernel_rfl) (by kernel_rfl) (fun _ _ _ h => h) (by rfl) (fun _ _ => by first | (go_simp; rfl) | (go_simp; done)) (by go_simp; rfl) HS ?_
            refine HeldBy.take (i := 2) rfl (by kernel_rfl) (by kernel_rfl) (by kernel_rfl) (fun _ _ _ h => h) (by rfl) (fun _ _ => by first | (go_simp; rfl) | (go_simp; done)) (by go_simp; rfl) HS ?_
            refine HeldBy.take (i := 3) rfl (by kernel_rfl) (by kernel_rfl) (by kernel_rfl) (fun _ _ _ h => h) (by rfl) (fun _ _ => by first | (go_simp; rfl) | (go_simp; done)) (by go_simp; rfl) HS ?_
            refine HeldBy.take (i := 4) (v := .int .u8 y.kind) rfl (by kernel_rfl) (by kernel_rfl) (by kernel_rfl) (fun _ _ _ h => h) (by rfl) (fun V hV => by have h := row_cell (HROWS.out V hV.1) 0 _ rfl; rw [Nat.add_zero] at h; first | (go_simp; rfl) | (go_simp; done)) (by go_simp; rfl) HS ?_
            refine HeldBy.take (i := 5) (v := .bool false) rfl (by kernel_rfl) (by kernel_rfl) (by kernel_rfl) (fun _ _ _ h => h) (by rfl) (fun _ _ => exec_kind_is rfl rfl rfl K6.out) (by go_simp; rfl) HS ?_
            refine HeldBy.take (i := 6) rfl (by kernel_rfl) (by kernel_rfl) (by kernel_rfl) (fun _ _ _ h => h) (by rfl) (fun _ _ => by first | (go_simp; rfl) | (go_simp; done)) (by go_simp; rfl) HS ?_
            refine HeldBy.skip (i := 7) rfl (by kernel_rfl) (by kernel_rfl) (by kernel_rfl) (fun _ _ _ h => h) (by rfl) (by go_simp; rfl) HS ?_
            refine HeldBy.skip (i := 8) rfl (by kernel_rfl) (by kernel_rfl) (by kernel_rfl) (fun _ _ _ h => h) (by rfl) (by go_simp; rfl) HS ?_
            refine HeldBy.skip (i := 9) rfl (by kernel_rfl) (by kernel_rfl) (by kernel_rfl) (fun _ _ _ h => h) (by rfl) (by go_simp; rfl) HS ?_
            refine HeldBy.skip (i := 10) rfl (by kernel_rfl) (by kernel_rfl) (by kernel_rfl) (fun _ _ _ h => h) (by rfl) (by go_simp; rfl) HS ?_
            refine HeldBy.skip (i := 11) rfl (by kernel_rfl) (by kernel_rfl) (by kernel_rfl) (fun _ _ _ h => h) (by rfl) (by go_simp; rfl) HS ?_
            refine HeldBy.skip (i := 12) rfl (by kernel_rfl) (by kernel_rfl) (by kernel_rfl) (fun _ _ _ h => h) (by rfl) (by go_simp; rfl) HS ?_
            refine HeldBy.skip (i := 13) rfl (by kernel_rfl) (by kernel_rfl) (by kernel_rfl) (fun _ _ _ h => h) (by rfl) (by go_simp; rfl) HS ?_
            refine HeldBy.skip (i := 14) rfl (by kernel_rfl) (by kernel_rfl) (by kernel_rfl) (fun _ _ _ h => h) (by rfl) (by go_simp; rfl) HS ?_
            refine HeldBy.take (i := 15) rfl (by kernel_rfl) (by kernel_rfl) (by kernel_rfl) (fun _ _ _ h => h) (by rfl) (fun _ _ => by first | (go_simp; rfl) | (go_simp; done)) (by go_simp; rfl) HS ?_
            refine HeldBy.take (i := 16) rfl (by kernel_rfl) (by kernel_rfl) (by kernel_rfl) (fun _ _ _ h => h) (by rfl) (fun _ _ => by first | (go_simp; rfl) | (go_simp; done)) (by go_simp; rfl) HS ?_
            refine HeldBy.take (i := 17) rfl (by kernel_rfl) (by kernel_rfl) (by kernel_rfl) (fun _ _ _ h => h) (by rfl) (fun _ _ => by first | (go_simp; rfl) | (go_simp; done)) (by go_simp; rfl) HS ?_
            refine HeldBy.take (i := 18) rfl (by kernel_rfl) (by kernel_rfl) (by kernel_rfl) (fun _ _ _ h => h) (by rfl) (fun _ _ => by first | (go_simp; rfl) | (go_simp; done)) (by go_simp; rfl) HS ?_
            refine HeldBy.take (i := 19) rfl (by kernel_rfl) (by kernel_rfl) (by kernel_rfl) (fun _ _ _ h => h) (by rfl) (fun _ _ => by first | (go_simp; rfl) | (go_simp; done)) (by go_simp; rfl) HS ?_
            refine HeldBy.take (i := 20) rfl (by kernel_rfl) (by kernel_rfl) (by kernel_rfl) (fun _ _ _ h => h) (by rfl) (fun _ _ => by first | (go_simp; rfl) | (go_simp; done)) (by go_simp; rfl) HS ?_
            refine HeldBy.take (i := 21) (v := .int .u8 y.kind) rfl (by kernel_rfl) (by kernel_rfl) (by kernel_rfl) (fun _ _ _ h => h) (by rfl) (fun V hV => by have h := row_cell (HROWS.out V hV.1) 0 _ rfl; rw [Nat.add_zero] at h; first | (go_simp; rfl) | (go_simp; done)) (by go_simp; rfl) HS ?_
            refine HeldBy.take (i := 22) (v := .bool true) rfl (by kernel_rfl) (by kernel_rfl) (by kernel_rfl) (fun _ _ _ h => h) (by rfl) (fun _ _ => exec_kind_is rfl rfl rfl K5.out) (by go_simp; rfl) HS ?_
            refine HeldBy.take (i := 23) rfl (by kernel_rfl) (by kernel_rfl) (by kernel_rfl) (fun _ _ _ h => h) (by rfl) (fun _ _ => by first | (go_simp; rfl) | (go_simp; done)) (by go_simp; rfl) HS ?_
            refine HeldBy.take (i := 24) rfl (by kernel_rfl) (by kernel_rfl) (by kernel_rfl) (fun _ _ _ h => h) (by rfl) (fun _ _ => by first | (go_simp; rfl) | (go_simp; done)) (by go_simp; rfl) HS ?_
            refine HeldBy.take (i := 25) rfl (by kernel_rfl) (by kernel_rfl) (by kernel_rfl) (fun _ _ _ h => h) (by rfl) (fun _ _ => by first | (go_simp; rfl) | (go_simp; done)) (by go_simp; rfl) HS ?_
            refine HeldBy.take (i := 26) rfl (by kernel_rfl) (by kernel_rfl) (by kernel_rfl) (fun _ _ _ h => h) (by rfl) (fun _ _ => by first | (go_simp; rfl) | (go_simp; done)) (by go_simp; rfl) HS ?_
            refine HeldBy.take (i := 27) rfl (by kernel_rfl) (by kernel_rfl) (by kernel_rfl) (fun _ _ _ h => h) (by rfl) (fun _ _ => by first | (go_simp; rfl) | (go_simp; done)) (by go_simp; rfl) HS ?_
            refine HeldBy.take (i := 28) (v := .string y.volume) rfl (by kernel_rfl) (by kernel_rfl) (by kernel_rfl) (fun _ _ _ h => h) (by rfl) (fun V hV => by have h := row_cell (HROWS.out V hV.1) 15 _ rfl; first | (go_simp; rfl) | (go_simp; done)) (by go_simp; rfl) HS ?_
            refine HeldBy.take (i := 29) rfl (by kernel_rfl) (by kernel_rfl) (by kernel_rfl) (fun _ _ _ h => h) (by rfl) (fun _ _ => by first | (go_simp; rfl) | (go_simp; done)) (by go_simp; rfl) HS ?_
            refine HeldBy.take (i := 30) (v := .string c.volume) rfl (by kernel_rfl) (by kernel_rfl) (by kernel_rfl) (fun _ _ _ h => h) (by rfl) (fun V hV => by have h := hV.2.1.c15; first | (go_simp; rfl) | (go_simp; done)) (by go_simp; rfl) HS ?_
            refine HeldBy.take (i := 31) (v := .bool false) rfl (by kernel_rfl) (by kernel_rfl) (by kernel_rfl) (fun _ _ _ h => h) (by rfl) (fun _ _ => exec_eql_str rfl rfl rfl M5.out) (by go_simp; rfl) HS ?_
            refine HeldBy.take (i := 32) rfl (by kernel_rfl) (by kernel_rfl) (by kernel_rfl) (fun _ _ _ h => h) (by rfl) (fun _ _ => by first | (go_simp; rfl) | (go_simp; done)) (by go_simp; rfl) HS ?_
            refine HeldBy.take (i := 33) rfl (by kernel_rfl) (by kernel_rfl) (by kernel_rfl) (fun _ _ _ h => h) (by rfl) (fun _ _ => by first | (go_simp; rfl) | (go_simp; done)) (by go_simp; rfl) HS ?_
            refine wpAnyH_done (by kernel_rfl) ?_ _
            have HNN := Lib.hid (HNX.out HF.out)
            have HW5 := Lib.hid HS.2.2
            clear HS HROWS HNX HYES HF K6 K5 M5
            go_wp2
            go_roundw
            case rel => exact ⟨j + 1, by go_num, by omega, HNN, HW5.out⟩
            case measure => simp [RowKit.intOf]; omega
        | false =>
          have K5 := Lib.hid k5
          have HF : Hid (usesC c y = false) := by show _ = _; unfold usesC; rw [k6, k5]; rfl
          clear k6 k5
          refine wp_region_held_drew (S := fun V => ObjsIn V (.slice (some ⟨g, off, none⟩) L.length cp) L ∧ BoxO V w.heap.size c ∧ Below V0.heap.size V0 V) (by kernel_rfl) ⟨HLL.out, HCC.out, HWW.out.drew⟩ (fun _ => ?_)
          refine HeldBy.gen (fun V => ObjsIn V (.slice (some ⟨g, off, none⟩) L.length cp) L ∧ BoxO V w.heap.size c ∧ Below V0.heap.size V0 V) ⟨HLL.out, HCC.out, HWW.out.drew⟩ ?_
          clear HLL HCC HWW
          rintro U0 HS
          refine HeldBy.take (i := 0) rfl (by kernel_rfl) (by kernel_rfl) (by kernel_rfl) (fun _ _ _ h => h) (by rfl) (fun _ _ => by first | (go_simp; rfl) | (go_simp; done)) (by go_simp; rfl) HS ?_
          refine HeldBy.take (i := 1) rfl (by kernel_rfl) (by kernel_rfl) (by kernel_rfl) (fun _ _ _ h => h) (by rfl) (fun _ _ => by first | (go_simp; rfl) | (go_simp; done)) (by go_simp; rfl) HS ?_
          refine HeldBy.take (i := 2) rfl (by kernel_rfl) (by kernel_rfl) (by kernel_rfl) (fun _ _ _ h => h) (by rfl) (fun _ _ => by first | (go_simp; rfl) | (go_simp; done)) (by go_simp; rfl) HS ?_
          refine HeldBy.take (i := 3) rfl (by kernel_rfl) (by kernel_rfl) (by kernel_rfl) (fun _ _ _ h => h) (by rfl) (fun _ _ => by first | (go_simp; rfl) | (go_simp; done)) (by go_simp; rfl) HS ?_
          refine HeldBy.take (i := 4) (v := .int .u8 y.kind) rfl (by kernel_rfl) (by kernel_rfl) (by kernel_rfl) (fun _ _ _ h => h) (by rfl) (fun V hV => by have h := row_cell (HROWS.out V hV.1) 0 _ rfl; rw [Nat.add_zero] at h; first | (go_simp; rfl) | (go_simp; done)) (by go_simp; rfl) HS ?_
          refine HeldBy.take (i := 5) (v := .bool false) rfl (by kernel_rfl) (by kernel_rfl) (by kernel_rfl) (fun _ _ _ h => h) (by rfl) (fun _ _ => exec_kind_is rfl rfl rfl K6.out) (by go_simp; rfl) HS ?_
          refine HeldBy.take (i := 6) rfl (by kernel_rfl) (by kernel_rfl) (by kernel_rfl) (fun _ _ _ h => h) (by rfl) (fun _ _ => by first | (go_simp; rfl) | (go_simp; done)) (by go_simp; rfl) HS ?_
          refine HeldBy.skip (i := 7) rfl (by kernel_rfl) (by kernel_rfl) (by kernel_rfl) (fun _ _ _ h => h) (by rfl) (by go_simp; rfl) HS ?_
          refine HeldBy.skip (i := 8) rfl (by kernel_rfl) (by kernel_rfl) (by kernel_rfl) (fun _ _ _ h => h) (by rfl) (by go_simp; rfl) HS ?_
          refine HeldBy.skip (i := 9) rfl (by kernel_rfl) (by kernel_rfl) (by kernel_rfl) (fun _ _ _ h => h) (by rfl) (by go_simp; rfl) HS ?_
          refine HeldBy.skip (i := 10) rfl (by kernel_rfl) (by kernel_rfl) (by kernel_rfl) (fun _ _ _ h => h) (by rfl) (by go_simp; rfl) HS ?_
          refine HeldBy.skip (i := 11) rfl (by kernel_rfl) (by kernel_rfl) (by kernel_rfl) (fun _ _ _ h => h) (by rfl) (by go_simp; rfl) HS ?_
          refine HeldBy.skip (i := 12) rfl (by kernel_rfl) (by kernel_rfl) (by kernel_rfl) (fun _ _ _ h => h) (by rfl) (by go_simp; rfl) HS ?_
          refine HeldBy.skip (i := 13) rfl (by kernel_rfl) (by kernel_rfl) (by kernel_rfl) (fun _ _ _ h => h) (by rfl) (by go_simp; rfl) HS ?_
          refine HeldBy.skip (i := 14) rfl (by kernel_rfl) (by kernel_rfl) (by kernel_rfl) (fun _ _ _ h => h) (by rfl) (by go_simp; rfl) HS ?_
          refine HeldBy.take (i := 15) rfl (by kernel_rfl) (by kernel_rfl) (by kernel_rfl) (fun _ _ _ h => h) (by rfl) (fun _ _ => by first | (go_simp; rfl) | (go_simp; done)) (by go_simp; rfl) HS ?_
          refine HeldBy.take (i := 16) rfl (by kernel_rfl) (by kernel_rfl) (by kernel_rfl) (fun _ _ _ h => h) (by rfl) (fun _ _ => by first | (go_simp; rfl) | (go_simp; done)) (by go_simp; rfl) HS ?_
          refine HeldBy.take (i := 17) rfl (by kernel_rfl) (by kernel_rfl) (by kernel_rfl) (fun _ _ _ h => h) (by rfl) (fun _ _ => by first | (go_simp; rfl) | (go_simp; done)) (by go_simp; rfl) HS ?_
          refine HeldBy.take (i := 18) rfl (by kernel_rfl) (by kernel_rfl) (by kernel_rfl) (fun _ _ _ h => h) (by rfl) (fun _ _ => by first | (go_simp; rfl) | (go_simp; done)) (by go_simp; rfl) HS ?_
          refine HeldBy.take (i := 19) rfl (by kernel_rfl) (by kernel_rfl) (by kernel_rfl) (fun _ _ _ h => h) (by rfl) (fun _ _ => by first | (go_simp; rfl) | (go_simp; done)) (by go_simp; rfl) HS ?_
          refine HeldBy.take (i := 20) rfl (by kernel_rfl) (by kernel_rfl) (by kernel_rfl) (fun _ _ _ h => h) (by rfl) (fun _ _ => by first | (go_simp; rfl) | (go_simp; done)) (by go_simp; rfl) HS ?_
          refine HeldBy.take (i := 21) (v := .int .u8 y.kind) rfl (by kernel_rfl) (by kernel_rfl) (by kernel_rfl) (fun _ _ _ h => h) (by rfl) (fun V hV => by have h := row_cell (HROWS.out V hV.1) 0 _ rfl; rw [Nat.add_zero] at h; first | (go_simp; rfl) | (go_simp; done)) (by go_simp; rfl) HS ?_
          refine HeldBy.take (i := 22) (v := .bool false) rfl (by kernel_rfl) (by kernel_rfl) (by kernel_rfl) (fun _ _ _ h => h) (by rfl) (fun _ _ => exec_kind_is rfl rfl rfl K5.out) (by go_simp; rfl) HS ?_
          refine HeldBy.take (i := 23) rfl (by kernel_rfl) (by kernel_rfl) (by kernel_rfl) (fun _ _ _ h => h) (by rfl) (fun _ _ => by first | (go_simp; rfl) | (go_simp; done)) (by go_simp; rfl) HS ?_
          refine HeldBy.skip (i := 24) rfl (by kernel_rfl) (by kernel_rfl) (by kernel_rfl) (fun _ _ _ h => h) (by rfl) (by go_simp; rfl) HS ?_
          refine HeldBy.skip (i := 25) rfl (by kernel_rfl) (by kernel_rfl) (by kernel_rfl) (fun _ _ _ h => h) (by rfl) (by go_simp; rfl) HS ?_
          refine HeldBy.skip (i := 26) rfl (by kernel_rfl) (by kernel_rfl) (by kernel_rfl) (fun _ _ _ h => h) (by rfl) (by go_simp; rfl) HS ?_
          refine HeldBy.skip (i := 27) rfl (by kernel_rfl) (by kernel_rfl) (by kernel_rfl) (fun _ _ _ h => h) (by rfl) (by go_simp; rfl) HS ?_
          refine HeldBy.skip (i := 28) rfl (by kernel_rfl) (by kernel_rfl) (by kernel_rfl) (fun _ _ _ h => h) (by rfl) (by go_simp; rfl) HS ?_
          refine HeldBy.skip (i := 29) rfl (by kernel_rfl) (by kernel_rfl) (by kernel_rfl) (fun _ _ _ h => h) (by rfl) (by go_simp; rfl) HS ?_
          refine HeldBy.skip (i := 30) rfl (by kernel_rfl) (by kernel_rfl) (by kernel_rfl) (fun _ _ _ h => h) (by rfl) (by go_simp; rfl) HS ?_
          refine HeldBy.skip (i := 31) rfl (by kernel_rfl) (by kernel_rfl) (by kernel_rfl) (fun _ _ _ h => h) (by rfl) (by go_simp; rfl) HS ?_
          refine HeldBy.take (i := 32) rfl (by kernel_rfl) (by kernel_rfl) (by kernel_rfl) (fun _ _ _ h => h) (by rfl) (fun _ _ => by first | (go_simp; rfl) | (go_simp; done)) (by go_simp; rfl) HS ?_
          refine HeldBy.take (i := 33) rfl (by kernel_rfl) (by kernel_rfl) (by kernel_rfl) (fun _ _ _ h => h) (by rfl) (fun _ _ => by first | (go_simp; rfl) | (go_simp; done)) (by go_simp; rfl) HS ?_
          refine wpAnyH_done (by kernel_rfl) ?_ _
          have HNN := Lib.hid (HNX.out HF.out)
          have HW5 := Lib.hid HS.2.2
          clear HS HROWS HNX HYES HF K6 K5
          go_wp2
          go_roundw
          case rel => exact ⟨j + 1, by go_num, by omega, HNN, HW5.out⟩
          case measure => simp [RowKit.intOf]; omega
    · have hlt' : ¬ (j : Int) < (L.length : Int) := by omega
      have HVV : Hid (r = false) := by show _ = _; rw [← HR.out]; exact any_none fun i hi => HNO.out i hi (by omega)
      have HX := Lib.hid (HW.out.trans (HLOW.out.mono HW.out.size))
      clear HNO HLOW
      go_wp2
      go_ret
      exact ⟨by rw [HVV.out]; rfl, HX.out⟩
end Go.Proofs.YtfpdchabknoklaaDoor.O.B
namespace Go.Proofs.YtfpdchabknoklaaDoor.O.B
open Go Go.RowKit Go.Shelf Go.Lib RangeMap KM
attribute [local go_sem] Oper.semAt_some

def fitC (c y : Obj) : Bool := decide (y.kind = 4) && decide (y.claim = refN c)
theorem vol_is (l : List Obj) (c : Obj) : leastL (fitC c) nameB' (uniqL l) = volN l c := by
  unfold volN leastL
  rw [there_uniq]
  exact fold_kind (fun o => decide (o.claim = refN c)) nameB' (uniqL l) none
theorem least_take' (f : Obj → Bool) (g : Obj → Obj → Bool) {L : List Obj} {j : Nat} (h : j < L.length) : leastL f g (L.take (j + 1)) = stepL f g (leastL f g (L.take j)) L[j] := by
  rw [List.take_succ_eq_append_getElem h, least_snoc]

theorem exec_lss_str {W : World} {r s : ByteArray} {v : Bool} {oi : Oper} {a : Act} {x y : Operand} {t : TypeId} (ho : oi.op = .binOp .lss 9 x y t) (hx : a.eval x = .string r) (hy : a.eval y = .string s) (hv : Op.bytesLess r.toList s.toList = v) :
    (execOp a.eval oi).run Tryd.prog W = .ok (.value (.bool v)) W := by
  subst hv
  unfold execOp
  simp only [ho, hx, hy]
  go_simp

set_option maxRecDepth 100000 in
set_option maxHeartbeats 8000000 in
theorem rvol_any (L : List Obj) (s : Value) (c : Obj) (w : World) (hl : ObjsIn w s L) (ht : Tab w) (hb : 0 ≤ c.born ∧ c.born ≤ 18446744073709551615) (hn : c.name.size ≤ 140737488351232) :
    Calls Tryd.prog 31 #[s, encO c] w fun e w' => e = .returned (.tuple #[encO ((leastL (fitC c) nameB' L).getD O0), .bool (leastL (fitC c) nameB' L).isSome]) ∧ Below w.heap.size w w' := by
  obtain ⟨o, cp, rfl, hm, -⟩ := id hl
  have HL := Lib.hid hl
  have HT := Lib.hid ht
  have HRF := Lib.hid (fun V (hV : Tab V) => rref_any c V hV hb hn)
  clear hl ht hb hn
  obtain ⟨R, hR⟩ : ∃ R, leastL (fitC c) nameB' L = R := ⟨_, rfl⟩
  rw [hR]
  have HBU := Lib.hid hR
  clear hR
  obtain ⟨rf, hrf⟩ : ∃ rf, refN c = rf := ⟨_, rfl⟩
  rw [hrf] at HRF
  have HRFN := Lib.hid hrf
  clear hrf
  unfold encO
  go_enter Tryd.func31, Tryd.ntmps31
  go_upto_region 1 with (fail)
  refine wp_gen (fun V => BoxO V w.heap.size c ∧ BoxO V (w.heap.size + 1) O0 ∧ Below w.heap.size w V) (chain2 w _ _) ?_
  rintro X ⟨hc0, ho0, hlw0⟩
  have HCX := Lib.hid hc0
  have HOX := Lib.hid ho0
  have HWX := Lib.hid hlw0
  have HLX := Lib.hid (HL.out.after hlw0)
  have HTX := Lib.hid (HT.out.after hlw0)
  clear hc0 ho0 hlw0 HL HT
  go_upto_region 2 with (fail)
  refine wp_gen (fun V => BoxO V X.heap.size O0 ∧ Below X.heap.size X V) ⟨heap_alloc_new _ _, (Below.refl _ _).alloc (Nat.le_refl _) _⟩ ?_
  rintro Y ⟨hb0, hly⟩
  have HB0 := Lib.hid hb0
  have HLY := Lib.hid hly
  clear hb0 hly
  go_wp2_with (fail)
  go_loopw [7, 8] (fun fv iv wr => ∃ (j : Nat) (best : Option Obj) (fd : Bool), fv = .bool fd ∧ iv = .int .i64 (j : Int) ∧ j ≤ L.length ∧ Hid (best.isSome = fd) ∧ Hid (leastL (fitC c) nameB' (L.take j) = best) ∧ BoxO wr X.heap.size (best.getD O0) ∧ Below X.heap.size X wr) (fun _ iv _ => L.length - (RowKit.intOf iv).toNat)
  case atStart => exact ⟨0, none, false, rfl, rfl, Nat.zero_le _, rfl, rfl, HB0.out, HLY.out⟩
  case round =>
    obtain ⟨j, best, fd, rfl, rfl, hj, HFD, HBT, hbb, hlow⟩ := hrel
    have HLOW := Lib.hid hlow
    have HBB := Lib.hid hbb
    clear hlow hbb HB0 HLY
    by_cases hlt : j < L.length
    · have hlt' : (j : Int) < (L.length : Int) := by omega
      obtain ⟨o', c', he, -, hi⟩ := id HLX.out
      cases he
      obtain ⟨g, off, rfl, -, -⟩ := hi j hlt
      obtain ⟨x, hx⟩ : ∃ x, L[j] = x := ⟨_, rfl⟩
      have hrows : ∀ V : World, ObjsIn V (.slice (some ⟨g, off, none⟩) L.length cp) L → V.rangeAt g (off + j * 20) (cellsO x).toList := fun V hV => by
        obtain ⟨o2, c2, e2, -, h2⟩ := hV
        cases e2
        obtain ⟨g3, off3, e3, -, h3⟩ := h2 j hlt
        cases e3
        rw [← hx]
        exact h3
      have HROWS := Lib.hid hrows
      have htk := least_take' (fitC c) nameB' hlt
      rw [hx, HBT.out] at htk
      have HTK := Lib.hid htk
      have HLL := Lib.hid (HLX.out.after HLOW.out)
      have HCC := Lib.hid (HCX.out.after HLOW.out)
      have HTT := Lib.hid (HTX.out.after HLOW.out)
      have HBX := HBB
      have HWW := HLOW
      clear hi hx hrows htk HLOW HBB HBT
      go_upto_region 6 with (fail)
      cases k4 : (x.kind == 4) with
      | false =>
        have K4 := Lib.hid k4
        have HT2 : Hid (leastL (fitC c) nameB' (L.take (j + 1)) = best) := by
          show _ = _
          rw [HTK.out, step_no]
          have k4d : decide (x.kind = 4) = false := k4
          unfold fitC
          rw [k4d]
          rfl
        clear k4
        refine wp_region_held_drew (S := fun V => ObjsIn V (.slice (some ⟨g, off, none⟩) L.length cp) L ∧ BoxO V w.heap.size c ∧ Tab V ∧ BoxO V X.heap.size (best.getD O0) ∧ Below X.heap.size X V) (by kernel_rfl) ⟨HLL.out, HCC.out, HTT.out.drew, HBX.out, HWW.out.drew⟩ (fun _ => ?_)
        refine HeldBy.gen (fun V => ObjsIn V (.slice (some ⟨g, off, none⟩) L.length cp) L ∧ BoxO V w.heap.size c ∧ Tab V ∧ BoxO V X.heap.size (best.getD O0) ∧ Below X.heap.size X V) ⟨HLL.out, HCC.out, HTT.out.drew, HBX.out, HWW.out.drew⟩ ?_
        clear HLL HCC HTT HBX HWW
        rintro U0 HS
        refine HeldBy.take (i := 0) rfl (by kernel_rfl) (by kernel_rfl) (by kernel_rfl) (fun _ _ _ h => h) (by rfl) (fun _ _ => by first | (go_simp; rfl) | (go_simp; done)) (by go_simp; rfl) HS ?_
        refine HeldBy.take (i := 1) rfl (by kernel_rfl) (by kernel_rfl) (by kernel_rfl) (fun _ _ _ h => h) (by rfl) (fun _ _ => by first | (go_simp; rfl) | (go_simp; done)) (by go_simp; rfl) HS ?_
        refine HeldBy.take (i := 2) rfl (by kernel_rfl) (by kernel_rfl) (by kernel_rfl) (fun _ _ _ h => h) (by rfl) (fun _ _ => by first | (go_simp; rfl) | (go_simp; done)) (by go_simp; rfl) HS ?_
        refine HeldBy.take (i := 3) rfl (by kernel_rfl) (by kernel_rfl) (by kernel_rfl) (fun _ _ _ h => h) (by rfl) (fun _ _ => by first | (go_simp; rfl) | (go_simp; done)) (by go_simp; rfl) HS ?_
        refine HeldBy.take (i := 4) (v := .int .u8 x.kind) rfl (by kernel_rfl) (by kernel_rfl) (by kernel_rfl) (fun _ _ _ h => h) (by rfl) (fun V hV => by have h := row_cell (HROWS.out V hV.1) 0 _ rfl; rw [Nat.add_zero] at h; first | (go_simp; rfl) | (go_simp; done)) (by go_simp; rfl) HS ?_
        refine HeldBy.take (i := 5) (v := .bool false) rfl (by kernel_rfl) (by kernel_rfl) (by kernel_rfl) (fun _ _ _ h => h) (by rfl) (fun _ _ => exec_kind_is rfl rfl rfl K4.out) (by go_simp; rfl) HS ?_
        refine HeldBy.take (i := 6) rfl (by kernel_rfl) (by kernel_rfl) (by kernel_rfl) (fun _ _ _ h => h) (by rfl) (fun _ _ => by first | (go_simp; rfl) | (go_simp; done)) (by go_simp; rfl) HS ?_
        refine HeldBy.skip (i := 7) rfl (by kernel_rfl) (by kernel_rfl) (by kernel_rfl) (fun _ _ _ h => h) (by rfl) (by go_simp; rfl) HS ?_
        refine HeldBy.skip (i := 8) rfl (by kernel_rfl) (by kernel_rfl) (by kernel_rfl) (fun _ _ _ h => h) (by rfl) (by go_simp; rfl) HS ?_
        refine HeldBy.skip (i := 9) rfl (by kernel_rfl) (by kernel_rfl) (by kernel_rfl) (fun _ _ _ h => h) (by rfl) (by go_simp; rfl) HS ?_
        refine HeldBy.skip (i := 10) rfl (by kernel_rfl) (by kernel_rfl) (by kernel_rfl) (fun _ _ _ h => h) (by rfl) (by go_simp; rfl) HS ?_
        refine HeldBy.skip (i := 11) rfl (by kernel_rfl) (by kernel_rfl) (by kernel_rfl) (fun _ _ _ h => h) (by rfl) (by go_simp; rfl) HS ?_
        refine HeldBy.skip (i := 12) rfl (by kernel_rfl) (by kernel_rfl) (by kernel_rfl) (fun _ _ _ h => h) (by rfl) (by go_simp; rfl) HS ?_
        refine HeldBy.skip (i := 13) rfl (by kernel_rfl) (by kernel_rfl) (by kernel_rfl) (fun _ _ _ h => h) (by rfl) (by go_simp; rfl) HS ?_
        refine HeldBy.skip (i := 14) rfl (by kernel_rfl) (by kernel_rfl) (by kernel_rfl) (fun _ _ _ h => h) (by rfl) (by go_simp; rfl) HS ?_
        refine HeldBy.take (i := 15) rfl (by kernel_rfl) (by kernel_rfl) (by kernel_rfl) (fun _ _ _ h => h) (by rfl) (fun _ _ => by first | (go_simp; rfl) | (go_simp; done)) (by go_simp; rfl) HS ?_
        refine HeldBy.take (i := 16) rfl (by kernel_rfl) (by kernel_rfl) (by kernel_rfl) (fun _ _ _ h => h) (by rfl) (fun _ _ => by first | (go_simp; rfl) | (go_simp; done)) (by go_simp; rfl) HS ?_
        refine HeldBy.skip (i := 17) rfl (by kernel_rfl) (by kernel_rfl) (by kernel_rfl) (fun _ _ _ h => h) (by rfl) (by go_simp; rfl) HS ?_
        refine HeldBy.skip (i := 18) rfl (by kernel_rfl) (by kernel_rfl) (by kernel_rfl) (fun _ _ _ h => h) (by rfl) (by go_simp; rfl) HS ?_
        refine HeldBy.skip (i := 19) rfl (by kernel_rfl) (by kernel_rfl) (by kernel_rfl) (fun _ _ _ h => h) (by rfl) (by go_simp; rfl) HS ?_
        refine HeldBy.skip (i := 20) rfl (by kernel_rfl) (by kernel_rfl) (by kernel_rfl) (fun _ _ _ h => h) (by rfl) (by go_simp; rfl) HS ?_
        refine HeldBy.skip (i := 21) rfl (by kernel_rfl) (by kernel_rfl) (by kernel_rfl) (fun _ _ _ h => h) (by rfl) (by go_simp; rfl) HS ?_
        refine HeldBy.skip (i := 22) rfl (by kernel_rfl) (by kernel_rfl) (by kernel_rfl) (fun _ _ _ h => h) (by rfl) (by go_simp; rfl) HS ?_
        refine HeldBy.skip (i := 23) rfl (by kernel_rfl) (by kernel_rfl) (by kernel_rfl) (fun _ _ _ h => h) (by rfl) (by go_simp; rfl) HS ?_
        refine HeldBy.skip (i := 24) rfl (by kernel_rfl) (by kernel_rfl) (by kernel_rfl) (fun _ _ _ h => h) (by rfl) (by go_simp; rfl) HS ?_
        refine HeldBy.skip (i := 25) rfl (by kernel_rfl) (by kernel_rfl) (by kernel_rfl) (fun _ _ _ h => h) (by rfl) (by go_simp; rfl) HS ?_
        refine HeldBy.skip (i := 26) rfl (by kernel_rfl) (by kernel_rfl) (by kernel_rfl) (fun _ _ _ h => h) (by rfl) (by go_simp; rfl) HS ?_
        refine HeldBy.skip (i := 27) rfl (by kernel_rfl) (by kernel_rfl) (by kernel_rfl) (fun _ _ _ h => h) (by rfl) (by go_simp; rfl) HS ?_
        refine HeldBy.skip (i := 28) rfl (by kernel_rfl) (by kernel_rfl) (by kernel_rfl) (fun _ _ _ h => h) (by rfl) (by go_simp; rfl) HS ?_
        refine HeldBy.take (i := 29) rfl (by kernel_rfl) (by kernel_rfl) (by kernel_rfl) (fun _ _ _ h => h) (by rfl) (fun _ _ => by first | (go_simp; rfl) | (go_simp; done)) (by go_simp; rfl) HS ?_
        refine wpAnyH_done (by kernel_rfl) ?_ _
        have HB5 := Lib.hid HS.2.2.2.1
        have HW5 := Lib.hid HS.2.2.2.2
        clear HS HROWS HTK K4
        go_wp2
        go_roundw
        case rel => exact ⟨j + 1, best, fd, rfl, by go_num, by omega, HFD, HT2, HB5.out, HW5.out⟩
        case measure => simp [RowKit.intOf]; omega
      | true =>
        have K4 := Lib.hid k4
        have k4d : decide (x.kind = 4) = true := k4
        by_cases me : x.claim = rf
        · have ME : Hid (decide (x.claim = rf) = true) := decide_eq_true me
          have HF : Hid (fitC c x = true) := by show _ = _; unfold fitC; rw [k4d, HRFN.out, ME.out]; rfl
          clear k4 k4d me
          cases best with
          | none =>
            have hfd : fd = false := HFD.out.symm
            subst hfd
            have HT2 : Hid (leastL (fitC c) nameB' (L.take (j + 1)) = some x) := by show _ = _; rw [HTK.out, step_new HF.out]
            replace HBX : Hid (BoxO _ X.heap.size O0) := HBX
            clear HF
            refine wp_region_held_drew (S := fun V => ObjsIn V (.slice (some ⟨g, off, none⟩) L.length cp) L ∧ BoxO V w.heap.size c ∧ Tab V ∧ BoxO V X.heap.size (O0) ∧ Below X.heap.size X V) (by kernel_rfl) ⟨HLL.out, HCC.out, HTT.out.drew, HBX.out, HWW.out.drew⟩ (fun _ => ?_)
            refine HeldBy.gen (fun V => ObjsIn V (.slice (some ⟨g, off, none⟩) L.length cp) L ∧ BoxO V w.heap.size c ∧ Tab V ∧ BoxO V X.heap.size (O0) ∧ Below X.heap.size X V) ⟨HLL.out, HCC.out, HTT.out.drew, HBX.out, HWW.out.drew⟩ ?_
            clear HLL HCC HTT HBX HWW
            rintro U0 HS
            refine HeldBy.take (i := 0) rfl (by kernel_rfl) (by kernel_rfl) (by kernel_rfl) (fun _ _ _ h => h) (by rfl) (fun _ _ => by first | (go_simp; rfl) | (go_simp; done)) (by go_simp; rfl) HS ?_
            refine HeldBy.take (i := 1) rfl (by kernel_rfl) (by kernel_rfl) (by kernel_rfl) (fun _ _ _ h => h) (by rfl) (fun _ _ => by first | (go_simp; rfl) | (go_simp; done)) (by go_simp; rfl) HS ?_
            refine HeldBy.take (i := 2) rfl (by kernel_rfl) (by kernel_rfl) (by kernel_rfl) (fun _ _ _ h => h) (by rfl) (fun _ _ => by first | (go_simp; rfl) | (go_simp; done)) (by go_simp; rfl) HS ?_
            refine HeldBy.take (i := 3) rfl (by kernel_rfl) (by kernel_rfl) (by kernel_rfl) (fun _ _ _ h => h) (by rfl) (fun _ _ => by first | (go_simp; rfl) | (go_simp; done)) (by go_simp; rfl) HS ?_
            refine HeldBy.take (i := 4) (v := .int .u8 x.kind) rfl (by kernel_rfl) (by kernel_rfl) (by kernel_rfl) (fun _ _ _ h => h) (by rfl) (fun V hV => by have h := row_cell (HROWS.out V hV.1) 0 _ rfl; rw [Nat.add_zero] at h; first | (go_simp; rfl) | (go_simp; done)) (by go_simp; rfl) HS ?_
            refine HeldBy.take (i := 5) (v := .bool true) rfl (by kernel_rfl) (by kernel_rfl) (by kernel_rfl) (fun _ _ _ h => h) (by rfl) (fun _ _ => exec_kind_is rfl rfl rfl K4.out) (by go_simp; rfl) HS ?_
            refine HeldBy.take (i := 6) rfl (by kernel_rfl) (by kernel_rfl) (by kernel_rfl) (fun _ _ _ h => h) (by rfl) (fun _ _ => by first | (go_simp; rfl) | (go_simp; done)) (by go_simp; rfl) HS ?_
            refine HeldBy.take (i := 7) rfl (by kernel_rfl) (by kernel_rfl) (by kernel_rfl) (fun _ _ _ h => h) (by rfl) (fun _ _ => by first | (go_simp; rfl) | (go_simp; done)) (by go_simp; rfl) HS ?_
            refine HeldBy.take (i := 8) rfl (by kernel_rfl) (by kernel_rfl) (by kernel_rfl) (fun _ _ _ h => h) (by rfl) (fun _ _ => by first | (go_simp; rfl) | (go_simp; done)) (by go_simp; rfl) HS ?_
            refine HeldBy.take (i := 9) rfl (by kernel_rfl) (by kernel_rfl) (by kernel_rfl) (fun _ _ _ h => h) (by rfl) (fun _ _ => by first | (go_simp; rfl) | (go_simp; done)) (by go_simp; rfl) HS ?_
            refine HeldBy.take (i := 10) rfl (by kernel_rfl) (by kernel_rfl) (by kernel_rfl) (fun _ _ _ h => h) (by rfl) (fun _ _ => by first | (go_simp; rfl) | (go_simp; done)) (by go_simp; rfl) HS ?_
            refine HeldBy.take (i := 11) (v := .string x.claim) rfl (by kernel_rfl) (by kernel_rfl) (by kernel_rfl) (fun _ _ _ h => h) (by rfl) (fun V hV => by have h := row_cell (HROWS.out V hV.1) 14 _ rfl; first | (go_simp; rfl) | (go_simp; done)) (by go_simp; rfl) HS ?_
            refine HeldBy.take (i := 12) (v := encO c) rfl (by kernel_rfl) (by kernel_rfl) (by kernel_rfl) (fun _ _ _ h => h) (by rfl) (fun V hV => load_obj hV.2.1 rfl rfl) (by go_simp; rfl) HS ?_
            refine HeldBy.call (i := 13) (v := .string rf) rfl (by kernel_rfl) (by rfl) (by go_simp; exact ⟨rfl, rfl⟩) (by go_simp; rfl) ?_
            refine (HRF.out _ HS.2.2.1).mono ?_
            rintro e U1 ⟨rfl, hb⟩
            replace HS : ObjsIn U1 (.slice (some ⟨g, off, none⟩) L.length cp) L ∧ BoxO U1 w.heap.size c ∧ Tab U1 ∧ BoxO U1 X.heap.size (O0) ∧ Below X.heap.size X U1 := ⟨HS.1.after hb, HS.2.1.after hb, HS.2.2.1.after hb, HS.2.2.2.1.after hb, HS.2.2.2.2.trans (hb.mono HS.2.2.2.2.size)⟩
            refine ⟨rfl, HS, ?_⟩
            clear hb
            refine HeldBy.take (i := 14) (v := .bool true) rfl (by kernel_rfl) (by kernel_rfl) (by kernel_rfl) (fun _ _ _ h => h) (by rfl) (fun _ _ => exec_eql_str rfl rfl rfl ME.out) (by go_simp; rfl) HS ?_
            refine HeldBy.take (i := 15) rfl (by kernel_rfl) (by kernel_rfl) (by kernel_rfl) (fun _ _ _ h => h) (by rfl) (fun _ _ => by first | (go_simp; rfl) | (go_simp; done)) (by go_simp; rfl) HS ?_
            refine HeldBy.take (i := 16) rfl (by kernel_rfl) (by kernel_rfl) (by kernel_rfl) (fun _ _ _ h => h) (by rfl) (fun _ _ => by first | (go_simp; rfl) | (go_simp; done)) (by go_simp; rfl) HS ?_
            refine HeldBy.take (i := 17) rfl (by kernel_rfl) (by kernel_rfl) (by kernel_rfl) (fun _ _ _ h => h) (by rfl) (fun _ _ => by first | (go_simp; rfl) | (go_simp; done)) (by go_simp; rfl) HS ?_
            refine HeldBy.take (i := 18) rfl (by kernel_rfl) (by kernel_rfl) (by kernel_rfl) (fun _ _ _ h => h) (by rfl) (fun _ _ => by first | (go_simp; rfl) | (go_simp; done)) (by go_simp; rfl) HS ?_
            refine HeldBy.take (i := 19) rfl (by kernel_rfl) (by kernel_rfl) (by kernel_rfl) (fun _ _ _ h => h) (by rfl) (fun _ _ => by first | (go_simp; rfl) | (go_simp; done)) (by go_simp; rfl) HS ?_
            refine HeldBy.skip (i := 20) rfl (by kernel_rfl) (by kernel_rfl) (by kernel_rfl) (fun _ _ _ h => h) (by rfl) (by go_simp; rfl) HS ?_
            refine HeldBy.skip (i := 21) rfl (by kernel_rfl) (by kernel_rfl) (by kernel_rfl) (fun _ _ _ h => h) (by rfl) (by go_simp; rfl) HS ?_
            refine HeldBy.skip (i := 22) rfl (by kernel_rfl) (by kernel_rfl) (by kernel_rfl) (fun _ _ _ h => h) (by rfl) (by go_simp; rfl) HS ?_
            refine HeldBy.skip (i := 23) rfl (by kernel_rfl) (by kernel_rfl) (by kernel_rfl) (fun _ _ _ h => h) (by rfl) (by go_simp; rfl) HS ?_
            refine HeldBy.skip (i := 24) rfl (by kernel_rfl) (by kernel_rfl) (by kernel_rfl) (fun _ _ _ h => h) (by rfl) (by go_simp; rfl) HS ?_
            refine HeldBy.skip (i := 25) rfl (by kernel_rfl) (by kernel_rfl) (by kernel_rfl) (fun _ _ _ h => h) (by rfl) (by go_simp; rfl) HS ?_
            refine HeldBy.skip (i := 26) rfl (by kernel_rfl) (by kernel_rfl) (by kernel_rfl) (fun _ _ _ h => h) (by rfl) (by go_simp; rfl) HS ?_
            refine HeldBy.skip (i := 27) rfl (by kernel_rfl) (by kernel_rfl) (by kernel_rfl) (fun _ _ _ h => h) (by rfl) (by go_simp; rfl) HS ?_
            refine HeldBy.take (i := 28) rfl (by kernel_rfl) (by kernel_rfl) (by kernel_rfl) (fun _ _ _ h => h) (by rfl) (fun _ _ => by first | (go_simp; rfl) | (go_simp; done)) (by go_simp; rfl) HS ?_
            refine HeldBy.take (i := 29) rfl (by kernel_rfl) (by kernel_rfl) (by kernel_rfl) (fun _ _ _ h => h) (by rfl) (fun _ _ => by first | (go_simp; rfl) | (go_simp; done)) (by go_simp; rfl) HS ?_
            refine wpAnyH_done (by kernel_rfl) ?_ _
            have hbx5 := HS.2.2.2.1
            have HW5 := Lib.hid HS.2.2.2.2
            have hrow5 := HROWS.out _ HS.1
            obtain ⟨V9, st9, o9, -, l9⟩ := storing hbx5 x
            have HV9 := Lib.hid (l9 _ _ HW5.out (Nat.le_refl _))
            have HO9 := Lib.hid o9
            clear o9 l9 hbx5 HS HROWS HTK K4 ME
            go_upto_region 7 with (fail)
            go_wp2_with (first | (refine wpList_got rfl (load_mid hrow5 rfl rfl) ?_) | (refine wpList_skip rfl (st9 rfl rfl rfl) ?_))
            go_roundw
            case rel => exact ⟨j + 1, some x, true, rfl, by go_num, by omega, rfl, HT2, HO9.out, HV9.out⟩
            case measure => simp [RowKit.intOf]; omega
          | some b =>
            have hfd : fd = true := HFD.out.symm
            subst hfd
            replace HBX : Hid (BoxO _ X.heap.size b) := HBX
            cases ml : Op.bytesLess x.name.toList b.name.toList with
            | true =>
              have ML := Lib.hid ml
              have HT2 : Hid (leastL (fitC c) nameB' (L.take (j + 1)) = some x) := by show _ = _; rw [HTK.out, step_less HF.out (show nameB' x b = true from ml)]
              clear HF ml
              refine wp_region_held_drew (S := fun V => ObjsIn V (.slice (some ⟨g, off, none⟩) L.length cp) L ∧ BoxO V w.heap.size c ∧ Tab V ∧ BoxO V X.heap.size (b) ∧ Below X.heap.size X V) (by kernel_rfl) ⟨HLL.out, HCC.out, HTT.out.drew, HBX.out, HWW.out.drew⟩ (fun _ => ?_)
              refine HeldBy.gen (fun V => ObjsIn V (.slice (some ⟨g, off, none⟩) L.length cp) L ∧ BoxO V w.heap.size c ∧ Tab V ∧ BoxO V X.heap.size (b) ∧ Below X.heap.size X V) ⟨HLL.out, HCC.out, HTT.out.drew, HBX.out, HWW.out.drew⟩ ?_
              clear HLL HCC HTT HBX HWW
              rintro U0 HS
              refine HeldBy.take (i := 0) rfl (by kernel_rfl) (by kernel_rfl) (by kernel_rfl) (fun _ _ _ h => h) (by rfl) (fun _ _ => by first | (go_simp; rfl) | (go_simp; done)) (by go_simp; rfl) HS ?_
              refine HeldBy.take (i := 1) rfl (by kernel_rfl) (by kernel_rfl) (by kernel_rfl) (fun _ _ _ h => h) (by rfl) (fun _ _ => by first | (go_simp; rfl) | (go_simp; done)) (by go_simp; rfl) HS ?_
              refine HeldBy.take (i := 2) rfl (by kernel_rfl) (by kernel_rfl) (by kernel_rfl) (fun _ _ _ h => h) (by rfl) (fun _ _ => by first | (go_simp; rfl) | (go_simp; done)) (by go_simp; rfl) HS ?_
              refine HeldBy.take (i := 3) rfl (by kernel_rfl) (by kernel_rfl) (by kernel_rfl) (fun _ _ _ h => h) (by rfl) (fun _ _ => by first | (go_simp; rfl) | (go_simp; done)) (by go_simp; rfl) HS ?_
              refine HeldBy.take (i := 4) (v := .int .u8 x.kind) rfl (by kernel_rfl) (by kernel_rfl) (by kernel_rfl) (fun _ _ _ h => h) (by rfl) (fun V hV => by have h := row_cell (HROWS.out V hV.1) 0 _ rfl; rw [Nat.add_zero] at h; first | (go_simp; rfl) | (go_simp; done)) (by go_simp; rfl) HS ?_
              refine HeldBy.take (i := 5) (v := .bool true) rfl (by kernel_rfl) (by kernel_rfl) (by kernel_rfl) (fun _ _ _ h => h) (by rfl) (fun _ _ => exec_kind_is rfl rfl rfl K4.out) (by go_simp; rfl) HS ?_
              refine HeldBy.take (i := 6) rfl (by kernel_rfl) (by kernel_rfl) (by kernel_rfl) (fun _ _ _ h => h) (by rfl) (fun _ _ => by first | (go_simp; rfl) | (go_simp; done)) (by go_simp; rfl) HS ?_
              refine HeldBy.take (i := 7) rfl (by kernel_rfl) (by kernel_rfl) (by kernel_rfl) (fun _ _ _ h => h) (by rfl) (fun _ _ => by first | (go_simp; rfl) | (go_simp; done)) (by go_simp; rfl) HS ?_
              refine HeldBy.take (i := 8) rfl (by kernel_rfl) (by kernel_rfl) (by kernel_rfl) (fun _ _ _ h => h) (by rfl) (fun _ _ => by first | (go_simp; rfl) | (go_simp; done)) (by go_simp; rfl) HS ?_
              refine HeldBy.take (i := 9) rfl (by kernel_rfl) (by kernel_rfl) (by kernel_rfl) (fun _ _ _ h => h) (by rfl) (fun _ _ => by first | (go_simp; rfl) | (go_simp; done)) (by go_simp; rfl) HS ?_
              refine HeldBy.take (i := 10) rfl (by kernel_rfl) (by kernel_rfl) (by kernel_rfl) (fun _ _ _ h => h) (by rfl) (fun _ _ => by first | (go_simp; rfl) | (go_simp; done)) (by go_simp; rfl) HS ?_
              refine HeldBy.take (i := 11) (v := .string x.claim) rfl (by kernel_rfl) (by kernel_rfl) (by kernel_rfl) (fun _ _ _ h => h) (by rfl) (fun V hV => by have h := row_cell (HROWS.out V hV.1) 14 _ rfl; first | (go_simp; rfl) | (go_simp; done)) (by go_simp; rfl) HS ?_
              refine HeldBy.take (i := 12) (v := encO c) rfl (by kernel_rfl) (by kernel_rfl) (by kernel_rfl) (fun _ _ _ h => h) (by rfl) (fun V hV => load_obj hV.2.1 rfl rfl) (by go_simp; rfl) HS ?_
              refine HeldBy.call (i := 13) (v := .string rf) rfl (by kernel_rfl) (by rfl) (by go_simp; exact ⟨rfl, rfl⟩) (by go_simp; rfl) ?_
              refine (HRF.out _ HS.2.2.1).mono ?_
              rintro e U1 ⟨rfl, hb⟩
              replace HS : ObjsIn U1 (.slice (some ⟨g, off, none⟩) L.length cp) L ∧ BoxO U1 w.heap.size c ∧ Tab U1 ∧ BoxO U1 X.heap.size (b) ∧ Below X.heap.size X U1 := ⟨HS.1.after hb, HS.2.1.after hb, HS.2.2.1.after hb, HS.2.2.2.1.after hb, HS.2.2.2.2.trans (hb.mono HS.2.2.2.2.size)⟩
              refine ⟨rfl, HS, ?_⟩
              clear hb
              refine HeldBy.take (i := 14) (v := .bool true) rfl (by kernel_rfl) (by kernel_rfl) (by kernel_rfl) (fun _ _ _ h => h) (by rfl) (fun _ _ => exec_eql_str rfl rfl rfl ME.out) (by go_simp; rfl) HS ?_
              refine HeldBy.take (i := 15) rfl (by kernel_rfl) (by kernel_rfl) (by kernel_rfl) (fun _ _ _ h => h) (by rfl) (fun _ _ => by first | (go_simp; rfl) | (go_simp; done)) (by go_simp; rfl) HS ?_
              refine HeldBy.take (i := 16) rfl (by kernel_rfl) (by kernel_rfl) (by kernel_rfl) (fun _ _ _ h => h) (by rfl) (fun _ _ => by first | (go_simp; rfl) | (go_simp; done)) (by go_simp; rfl) HS ?_
              refine HeldBy.take (i := 17) rfl (by kernel_rfl) (by kernel_rfl) (by kernel_rfl) (fun _ _ _ h => h) (by rfl) (fun _ _ => by first | (go_simp; rfl) | (go_simp; done)) (by go_simp; rfl) HS ?_
              refine HeldBy.take (i := 18) rfl (by kernel_rfl) (by kernel_rfl) (by kernel_rfl) (fun _ _ _ h => h) (by rfl) (fun _ _ => by first | (go_simp; rfl) | (go_simp; done)) (by go_simp; rfl) HS ?_
              refine HeldBy.take (i := 19) rfl (by kernel_rfl) (by kernel_rfl) (by kernel_rfl) (fun _ _ _ h => h) (by rfl) (fun _ _ => by first | (go_simp; rfl) | (go_simp; done)) (by go_simp; rfl) HS ?_
              refine HeldBy.take (i := 20) rfl (by kernel_rfl) (by kernel_rfl) (by kernel_rfl) (fun _ _ _ h => h) (by rfl) (fun _ _ => by first | (go_simp; rfl) | (go_simp; done)) (by go_simp; rfl) HS ?_
              refine HeldBy.take (i := 21) rfl (by kernel_rfl) (by kernel_rfl) (by kernel_rfl) (fun _ _ _ h => h) (by rfl) (fun _ _ => by first | (go_simp; rfl) | (go_simp; done)) (by go_simp; rfl) HS ?_
              refine HeldBy.take (i := 22) rfl (by kernel_rfl) (by kernel_rfl) (by kernel_rfl) (fun _ _ _ h => h) (by rfl) (fun _ _ => by first | (go_simp; rfl) | (go_simp; done)) (by go_simp; rfl) HS ?_
              refine HeldBy.take (i := 23) rfl (by kernel_rfl) (by kernel_rfl) (by kernel_rfl) (fun _ _ _ h => h) (by rfl) (fun _ _ => by first | (go_simp; rfl) | (go_simp; done)) (by go_simp; rfl) HS ?_
              refine HeldBy.take (i := 24) (v := .string x.name) rfl (by kernel_rfl) (by kernel_rfl) (by kernel_rfl) (fun _ _ _ h => h) (by rfl) (fun V hV => by have h := row_cell (HROWS.out V hV.1) 1 _ rfl; first | (go_simp; rfl) | (go_simp; done)) (by go_simp; rfl) HS ?_
              refine HeldBy.take (i := 25) rfl (by kernel_rfl) (by kernel_rfl) (by kernel_rfl) (fun _ _ _ h => h) (by rfl) (fun _ _ => by first | (go_simp; rfl) | (go_simp; done)) (by go_simp; rfl) HS ?_
              refine HeldBy.take (i := 26) (v := .string b.name) rfl (by kernel_rfl) (by kernel_rfl) (by kernel_rfl) (fun _ _ _ h => h) (by rfl) (fun V hV => by have h := hV.2.2.2.1.c1; first | (go_simp; rfl) | (go_simp; done)) (by go_simp; rfl) HS ?_
              refine HeldBy.take (i := 27) (v := .bool true) rfl (by kernel_rfl) (by kernel_rfl) (by kernel_rfl) (fun _ _ _ h => h) (by rfl) (fun _ _ => exec_lss_str rfl rfl rfl ML.out) (by go_simp; rfl) HS ?_
              refine HeldBy.take (i := 28) rfl (by kernel_rfl) (by kernel_rfl) (by kernel_rfl) (fun _ _ _ h => h) (by rfl) (fun _ _ => by first | (go_simp; rfl) | (go_simp; done)) (by go_simp; rfl) HS ?_
              refine HeldBy.take (i := 29) rfl (by kernel_rfl) (by kernel_rfl) (by kernel_rfl) (fun _ _ _ h => h) (by rfl) (fun _ _ => by first | (go_simp; rfl) | (go_simp; done)) (by go_simp; rfl) HS ?_
              refine wpAnyH_done (by kernel_rfl) ?_ _
              have hbx5 := HS.2.2.2.1
              have HW5 := Lib.hid HS.2.2.2.2
              have hrow5 := HROWS.out _ HS.1
              obtain ⟨V9, st9, o9, -, l9⟩ := storing hbx5 x
              have HV9 := Lib.hid (l9 _ _ HW5.out (Nat.le_refl _))
              have HO9 := Lib.hid o9
              clear o9 l9 hbx5 HS HROWS HTK K4 ME ML
              go_upto_region 7 with (fail)
              go_wp2_with (first | (refine wpList_got rfl (load_mid hrow5 rfl rfl) ?_) | (refine wpList_skip rfl (st9 rfl rfl rfl) ?_))
              go_roundw
              case rel => exact ⟨j + 1, some x, true, rfl, by go_num, by omega, rfl, HT2, HO9.out, HV9.out⟩
              case measure => simp [RowKit.intOf]; omega
            | false =>
              have ML := Lib.hid ml
              have HT2 : Hid (leastL (fitC c) nameB' (L.take (j + 1)) = some b) := by show _ = _; rw [HTK.out, step_more HF.out (show nameB' x b = false from ml)]
              clear HF ml
              refine wp_region_held_drew (S := fun V => ObjsIn V (.slice (some ⟨g, off, none⟩) L.length cp) L ∧ BoxO V w.heap.size c ∧ Tab V ∧ BoxO V X.heap.size (b) ∧ Below X.heap.size X V) (by kernel_rfl) ⟨HLL.out, HCC.out, HTT.out.drew, HBX.out, HWW.out.drew⟩ (fun _ => ?_)
              refine HeldBy.gen (fun V => ObjsIn V (.slice (some ⟨g, off, none⟩) L.length cp) L ∧ BoxO V w.heap.size c ∧ Tab V ∧ BoxO V X.heap.size (b) ∧ Below X.heap.size X V) ⟨HLL.out, HCC.out, HTT.out.drew, HBX.out, HWW.out.drew⟩ ?_
              clear HLL HCC HTT HBX HWW
              rintro U0 HS
              refine HeldBy.take (i := 0) rfl (by kernel_rfl) (by kernel_rfl) (by kernel_rfl) (fun _ _ _ h => h) (by rfl) (fun _ _ => by first | (go_simp; rfl) | (go_simp; done)) (by go_simp; rfl) HS ?_
              refine HeldBy.take (i := 1) rfl (by kernel_rfl) (by kernel_rfl) (by kernel_rfl) (fun _ _ _ h => h) (by rfl) (fun _ _ => by first | (go_simp; rfl) | (go_simp; done)) (by go_simp; rfl) HS ?_
              refine HeldBy.take (i := 2) rfl (by kernel_rfl) (by kernel_rfl) (by kernel_rfl) (fun _ _ _ h => h) (by rfl) (fun _ _ => by first | (go_simp; rfl) | (go_simp; done)) (by go_simp; rfl) HS ?_
              refine HeldBy.take (i := 3) rfl (by kernel_rfl) (by kernel_rfl) (by kernel_rfl) (fun _ _ _ h => h) (by rfl) (fun _ _ => by first | (go_simp; rfl) | (go_simp; done)) (by go_simp; rfl) HS ?_
              refine HeldBy.take (i := 4) (v := .int .u8 x.kind) rfl (by kernel_rfl) (by kernel_rfl) (by kernel_rfl) (fun _ _ _ h => h) (by rfl) (fun V hV => by have h := row_cell (HROWS.out V hV.1) 0 _ rfl; rw [Nat.add_zero] at h; first | (go_simp; rfl) | (go_simp; done)) (by go_simp; rfl) HS ?_
              refine HeldBy.take (i := 5) (v := .bool true) rfl (by kernel_rfl) (by kernel_rfl) (by kernel_rfl) (fun _ _ _ h => h) (by rfl) (fun _ _ => exec_kind_is rfl rfl rfl K4.out) (by go_simp; rfl) HS ?_
              refine HeldBy.take (i := 6) rfl (by kernel_rfl) (by kernel_rfl) (by kernel_rfl) (fun _ _ _ h => h) (by rfl) (fun _ _ => by first | (go_simp; rfl) | (go_simp; done)) (by go_simp; rfl) HS ?_
              refine HeldBy.take (i := 7) rfl (by kernel_rfl) (by kernel_rfl) (by kernel_rfl) (fun _ _ _ h => h) (by rfl) (fun _ _ => by first | (go_simp; rfl) | (go_simp; done)) (by go_simp; rfl) HS ?_
              refine HeldBy.take (i := 8) rfl (by kernel_rfl) (by kernel_rfl) (by kernel_rfl) (fun _ _ _ h => h) (by rfl) (fun _ _ => by first | (go_simp; rfl) | (go_simp; done)) (by go_simp; rfl) HS ?_
              refine HeldBy.take (i := 9) rfl (by kernel_rfl) (by kernel_rfl) (by kernel_rfl) (fun _ _ _ h => h) (by rfl) (fun _ _ => by first | (go_simp; rfl) | (go_simp; done)) (by go_simp; rfl) HS ?_
              refine HeldBy.take (i := 10) rfl (by kernel_rfl) (by kernel_rfl) (by kernel_rfl) (fun _ _ _ h => h) (by rfl) (fun _ _ => by first | (go_simp; rfl) | (go_simp; done)) (by go_simp; rfl) HS ?_
              refine HeldBy.take (i := 11) (v := .string x.claim) rfl (by kernel_rfl) (by kernel_rfl) (by kernel_rfl) (fun _ _ _ h => h) (by rfl) (fun V hV => by have h := row_cell (HROWS.out V hV.1) 14 _ rfl; first | (go_simp; rfl) | (go_simp; done)) (by go_simp; rfl) HS ?_
              refine HeldBy.take (i := 12) (v := encO c) rfl (by kernel_rfl) (by kernel_rfl) (by kernel_rfl) (fun _ _ _ h => h) (by rfl) (fun V hV => load_obj hV.2.1 rfl rfl) (by go_simp; rfl) HS ?_
              refine HeldBy.call (i := 13) (v := .string rf) rfl (by kernel_rfl) (by rfl) (by go_simp; exact ⟨rfl, rfl⟩) (by go_simp; rfl) ?_
              refine (HRF.out _ HS.2.2.1).mono ?_
              rintro e U1 ⟨rfl, hb⟩
              replace HS : ObjsIn U1 (.slice (some ⟨g, off, none⟩) L.length cp) L ∧ BoxO U1 w.heap.size c ∧ Tab U1 ∧ BoxO U1 X.heap.size (b) ∧ Below X.heap.size X U1 := ⟨HS.1.after hb, HS.2.1.after hb, HS.2.2.1.after hb, HS.2.2.2.1.after hb, HS.2.2.2.2.trans (hb.mono HS.2.2.2.2.size)⟩
              refine ⟨rfl, HS, ?_⟩
              clear hb
              refine HeldBy.take (i := 14) (v := .bool true) rfl (by kernel_rfl) (by kernel_rfl) (by kernel_rfl) (fun _ _ _ h => h) (by rfl) (fun _ _ => exec_eql_str rfl rfl rfl ME.out) (by go_simp; rfl) HS ?_
              refine HeldBy.take (i := 15) rfl (by kernel_rfl) (by kernel_rfl) (by kernel_rfl) (fun _ _ _ h => h) (by rfl) (fun _ _ => by first | (go_simp; rfl) | (go_simp; done)) (by go_simp; rfl) HS ?_
              refine HeldBy.take (i := 16) rfl (by kernel_rfl) (by kernel_rfl) (by kernel_rfl) (fun _ _ _ h => h) (by rfl) (fun _ _ => by first | (go_simp; rfl) | (go_simp; done)) (by go_simp; rfl) HS ?_
              refine HeldBy.take (i := 17) rfl (by kernel_rfl) (by kernel_rfl) (by kernel_rfl) (fun _ _ _ h => h) (by rfl) (fun _ _ => by first | (go_simp; rfl) | (go_simp; done)) (by go_simp; rfl) HS ?_
              refine HeldBy.take (i := 18) rfl (by kernel_rfl) (by kernel_rfl) (by kernel_rfl) (fun _ _ _ h => h) (by rfl) (fun _ _ => by first | (go_simp; rfl) | (go_simp; done)) (by go_simp; rfl) HS ?_
              refine HeldBy.take (i := 19) rfl (by kernel_rfl) (by kernel_rfl) (by kernel_rfl) (fun _ _ _ h => h) (by rfl) (fun _ _ => by first | (go_simp; rfl) | (go_simp; done)) (by go_simp; rfl) HS ?_
              refine HeldBy.take (i := 20) rfl (by kernel_rfl) (by kernel_rfl) (by kernel_rfl) (fun _ _ _ h => h) (by rfl) (fun _ _ => by first | (go_simp; rfl) | (go_simp; done)) (by go_simp; rfl) HS ?_
              refine HeldBy.take (i := 21) rfl (by kernel_rfl) (by kernel_rfl) (by kernel_rfl) (fun _ _ _ h => h) (by rfl) (fun _ _ => by first | (go_simp; rfl) | (go_simp; done)) (by go_simp; rfl) HS ?_
              refine HeldBy.take (i := 22) rfl (by kernel_rfl) (by kernel_rfl) (by kernel_rfl) (fun _ _ _ h => h) (by rfl) (fun _ _ => by first | (go_simp; rfl) | (go_simp; done)) (by go_simp; rfl) HS ?_
              refine HeldBy.take (i := 23) rfl (by kernel_rfl) (by kernel_rfl) (by kernel_rfl) (fun _ _ _ h => h) (by rfl) (fun _ _ => by first | (go_simp; rfl) | (go_simp; done)) (by go_simp; rfl) HS ?_
              refine HeldBy.take (i := 24) (v := .string x.name) rfl (by kernel_rfl) (by kernel_rfl) (by kernel_rfl) (fun _ _ _ h => h) (by rfl) (fun V hV => by have h := row_cell (HROWS.out V hV.1) 1 _ rfl; first | (go_simp; rfl) | (go_simp; done)) (by go_simp; rfl) HS ?_
              refine HeldBy.take (i := 25) rfl (by kernel_rfl) (by kernel_rfl) (by kernel_rfl) (fun _ _ _ h => h) (by rfl) (fun _ _ => by first | (go_simp; rfl) | (go_simp; done)) (by go_simp; rfl) HS ?_
              refine HeldBy.take (i := 26) (v := .string b.name) rfl (by kernel_rfl) (by kernel_rfl) (by kernel_rfl) (fun _ _ _ h => h) (by rfl) (fun V hV => by have h := hV.2.2.2.1.c1; first | (go_simp; rfl) | (go_simp; done)) (by go_simp; rfl) HS ?_
              refine HeldBy.take (i := 27) (v := .bool false) rfl (by kernel_rfl) (by kernel_rfl) (by kernel_rfl) (fun _ _ _ h => h) (by rfl) (fun _ _ => exec_lss_str rfl rfl rfl ML.out) (by go_simp; rfl) HS ?_
              refine HeldBy.take (i := 28) rfl (by kernel_rfl) (by kernel_rfl) (by kernel_rfl) (fun _ _ _ h => h) (by rfl) (fun _ _ => by first | (go_simp; rfl) | (go_simp; done)) (by go_simp; rfl) HS ?_
              refine HeldBy.take (i := 29) rfl (by kernel_rfl) (by kernel_rfl) (by kernel_rfl) (fun _ _ _ h => h) (by rfl) (fun _ _ => by first | (go_simp; rfl) | (go_simp; done)) (by go_simp; rfl) HS ?_
              refine wpAnyH_done (by kernel_rfl) ?_ _
              have HB5 := Lib.hid HS.2.2.2.1
              have HW5 := Lib.hid HS.2.2.2.2
              clear HS HROWS HTK K4 ME ML
              go_wp2
              go_roundw
              case rel => exact ⟨j + 1, some b, true, rfl, by go_num, by omega, rfl, HT2, HB5.out, HW5.out⟩
              case measure => simp [RowKit.intOf]; omega
        · have ME : Hid (decide (x.claim = rf) = false) := decide_eq_false me
          have HT2 : Hid (leastL (fitC c) nameB' (L.take (j + 1)) = best) := by
            show _ = _
            rw [HTK.out, step_no]
            unfold fitC
            rw [HRFN.out, ME.out, Bool.and_false]
          clear k4 k4d me
          refine wp_region_held_drew (S := fun V => ObjsIn V (.slice (some ⟨g, off, none⟩) L.length cp) L ∧ BoxO V w.heap.size c ∧ Tab V ∧ BoxO V X.heap.size (best.getD O0) ∧ Below X.heap.size X V) (by kernel_rfl) ⟨HLL.out, HCC.out, HTT.out.drew, HBX.out, HWW.out.drew⟩ (fun _ => ?_)
          refine HeldBy.gen (fun V => ObjsIn V (.slice (some ⟨g, off, none⟩) L.length cp) L ∧ BoxO V w.heap.size c ∧ Tab V ∧ BoxO V X.heap.size (best.getD O0) ∧ Below X.heap.size X V) ⟨HLL.out, HCC.out, HTT.out.drew, HBX.out, HWW.out.drew⟩ ?_
          clear HLL HCC HTT HBX HWW
          rintro U0 HS
          refine HeldBy.take (i := 0) rfl (by kernel_rfl) (by kernel_rfl) (by kernel_rfl) (fun _ _ _ h => h) (by rfl) (fun _ _ => by first | (go_simp; rfl) | (go_simp; done)) (by go_simp; rfl) HS ?_
          refine HeldBy.take (i := 1) rfl (by kernel_rfl) (by kernel_rfl) (by kernel_rfl) (fun _ _ _ h => h) (by rfl) (fun _ _ => by first | (go_simp; rfl) | (go_simp; done)) (by go_simp; rfl) HS ?_
          refine HeldBy.take (i := 2) rfl (by kernel_rfl) (by kernel_rfl) (by kernel_rfl) (fun _ _ _ h => h) (by rfl) (fun _ _ => by first | (go_simp; rfl) | (go_simp; done)) (by go_simp; rfl) HS ?_
          refine HeldBy.take (i := 3) rfl (by kernel_rfl) (by kernel_rfl) (by kernel_rfl) (fun _ _ _ h => h) (by rfl) (fun _ _ => by first | (go_simp; rfl) | (go_simp; done)) (by go_simp; rfl) HS ?_
          refine HeldBy.take (i := 4) (v := .int .u8 x.kind) rfl (by kernel_rfl) (by kernel_rfl) (by kernel_rfl) (fun _ _ _ h => h) (by rfl) (fun V hV => by have h := row_cell (HROWS.out V hV.1) 0 _ rfl; rw [Nat.add_zero] at h; first | (go_simp; rfl) | (go_simp; done)) (by go_simp; rfl) HS ?_
          refine HeldBy.take (i := 5) (v := .bool true) rfl (by kernel_rfl) (by kernel_rfl) (by kernel_rfl) (fun _ _ _ h => h) (by rfl) (fun _ _ => exec_kind_is rfl rfl rfl K4.out) (by go_simp; rfl) HS ?_
          refine HeldBy.take (i := 6) rfl (by kernel_rfl) (by kernel_rfl) (by kernel_rfl) (fun _ _ _ h => h) (by rfl) (fun _ _ => by first | (go_simp; rfl) | (go_simp; done)) (by go_simp; rfl) HS ?_
          refine HeldBy.take (i := 7) rfl (by kernel_rfl) (by kernel_rfl) (by kernel_rfl) (fun _ _ _ h => h) (by rfl) (fun _ _ => by first | (go_simp; rfl) | (go_simp; done)) (by go_simp; rfl) HS ?_
          refine HeldBy.take (i := 8) rfl (by kernel_rfl) (by kernel_rfl) (by kernel_rfl) (fun _ _ _ h => h) (by rfl) (fun _ _ => by first | (go_simp; rfl) | (go_simp; done)) (by go_simp; rfl) HS ?_
          refine HeldBy.take (i := 9) rfl (by kernel_rfl) (by kernel_rfl) (by kernel_rfl) (fun _ _ _ h => h) (by rfl) (fun _ _ => by first | (go_simp; rfl) | (go_simp; done)) (by go_simp; rfl) HS ?_
          refine HeldBy.take (i := 10) rfl (by kernel_rfl) (by kernel_rfl) (by kernel_rfl) (fun _ _ _ h => h) (by rfl) (fun _ _ => by first | (go_simp; rfl) | (go_simp; done)) (by go_simp; rfl) HS ?_
          refine HeldBy.take (i := 11) (v := .string x.claim) rfl (by kernel_rfl) (by kernel_rfl) (by kernel_rfl) (fun _ _ _ h => h) (by rfl) (fun V hV => by have h := row_cell (HROWS.out V hV.1) 14 _ rfl; first | (go_simp; rfl) | (go_simp; done)) (by go_simp; rfl) HS ?_
          refine HeldBy.take (i := 12) (v := encO c) rfl (by kernel_rfl) (by kernel_rfl) (by kernel_rfl) (fun _ _ _ h => h) (by rfl) (fun V hV => load_obj hV.2.1 rfl rfl) (by go_simp; rfl) HS ?_
          refine HeldBy.call (i := 13) (v := .string rf) rfl (by kernel_rfl) (by rfl) (by go_simp; exact ⟨rfl, rfl⟩) (by go_simp; rfl) ?_
          refine (HRF.out _ HS.2.2.1).mono ?_
          rintro e U1 ⟨rfl, hb⟩
          replace HS : ObjsIn U1 (.slice (some ⟨g, off, none⟩) L.length cp) L ∧ BoxO U1 w.heap.size c ∧ Tab U1 ∧ BoxO U1 X.heap.size (best.getD O0) ∧ Below X.heap.size X U1 := ⟨HS.1.after hb, HS.2.1.after hb, HS.2.2.1.after hb, HS.2.2.2.1.after hb, HS.2.2.2.2.trans (hb.mono HS.2.2.2.2.size)⟩
          refine ⟨rfl, HS, ?_⟩
          clear hb
          refine HeldBy.take (i := 14) (v := .bool false) rfl (by kernel_rfl) (by kernel_rfl) (by kernel_rfl) (fun _ _ _ h => h) (by rfl) (fun _ _ => exec_eql_str rfl rfl rfl ME.out) (by go_simp; rfl) HS ?_
          refine HeldBy.take (i := 15) rfl (by kernel_rfl) (by kernel_rfl) (by kernel_rfl) (fun _ _ _ h => h) (by rfl) (fun _ _ => by first | (go_simp; rfl) | (go_simp; done)) (by go_simp; rfl) HS ?_
          refine HeldBy.take (i := 16) rfl (by kernel_rfl) (by kernel_rfl) (by kernel_rfl) (fun _ _ _ h => h) (by rfl) (fun _ _ => by first | (go_simp; rfl) | (go_simp; done)) (by go_simp; rfl) HS ?_
          refine HeldBy.skip (i := 17) rfl (by kernel_rfl) (by kernel_rfl) (by kernel_rfl) (fun _ _ _ h => h) (by rfl) (by go_simp; rfl) HS ?_
          refine HeldBy.skip (i := 18) rfl (by kernel_rfl) (by kernel_rfl) (by kernel_rfl) (fun _ _ _ h => h) (by rfl) (by go_simp; rfl) HS ?_
          refine HeldBy.skip (i := 19) rfl (by kernel_rfl) (by kernel_rfl) (by kernel_rfl) (fun _ _ _ h => h) (by rfl) (by go_simp; rfl) HS ?_
          refine HeldBy.skip (i := 20) rfl (by kernel_rfl) (by kernel_rfl) (by kernel_rfl) (fun _ _ _ h => h) (by rfl) (by go_simp; rfl) HS ?_
          refine HeldBy.skip (i := 21) rfl (by kernel_rfl) (by kernel_rfl) (by kernel_rfl) (fun _ _ _ h => h) (by rfl) (by go_simp; rfl) HS ?_
          refine HeldBy.skip (i := 22) rfl (by kernel_rfl) (by kernel_rfl) (by kernel_rfl) (fun _ _ _ h => h) (by rfl) (by go_simp; rfl) HS ?_
          refine HeldBy.skip (i := 23) rfl (by kernel_rfl) (by kernel_rfl) (by kernel_rfl) (fun _ _ _ h => h) (by rfl) (by go_simp; rfl) HS ?_
          refine HeldBy.skip (i := 24) rfl (by kernel_rfl) (by kernel_rfl) (by kernel_rfl) (fun _ _ _ h => h) (by rfl) (by go_simp; rfl) HS ?_
          refine HeldBy.skip (i := 25) rfl (by kernel_rfl) (by kernel_rfl) (by kernel_rfl) (fun _ _ _ h => h) (by rfl) (by go_simp; rfl) HS ?_
          refine HeldBy.skip (i := 26) rfl (by kernel_rfl) (by kernel_rfl) (by kernel_rfl) (fun _ _ _ h => h) (by rfl) (by go_simp; rfl) HS ?_
          refine HeldBy.skip (i := 27) rfl (by kernel_rfl) (by kernel_rfl) (by kernel_rfl) (fun _ _ _ h => h) (by rfl) (by go_simp; rfl) HS ?_
          refine HeldBy.skip (i := 28) rfl (by kernel_rfl) (by kernel_rfl) (by kernel_rfl) (fun _ _ _ h => h) (by rfl) (by go_simp; rfl) HS ?_
          refine HeldBy.take (i := 29) rfl (by kernel_rfl) (by kernel_rfl) (by kernel_rfl) (fun _ _ _ h => h) (by rfl) (fun _ _ => by first | (go_simp; rfl) | (go_simp; done)) (by go_simp; rfl) HS ?_
          refine wpAnyH_done (by kernel_rfl) ?_ _
          have HB5 := Lib.hid HS.2.2.2.1
          have HW5 := Lib.hid HS.2.2.2.2
          clear HS HROWS HTK K4 ME
          go_wp2
          go_roundw
          case rel => exact ⟨j + 1, best, fd, rfl, by go_num, by omega, HFD, HT2, HB5.out, HW5.out⟩
          case measure => simp [RowKit.intOf]; omega
    · have hlt' : ¬ (j : Int) < (L.length : Int) := by omega
      have hR : best = R := by
        have h1 := HBT.out
        rw [List.take_of_length_le (by omega)] at h1
        exact h1.symm.trans HBU.out
      subst hR
      have hfd : best.isSome = fd := HFD.out
      obtain ⟨V9, st9, o9, -, l9⟩ := storing (HOX.out.after HLOW.out) (best.getD O0)
      have HV9 := Lib.hid (l9 _ _ (HWX.out.trans (HLOW.out.mono HWX.out.size)) (by omega))
      have HO9 := Lib.hid o9
      have hbz := HBB.out
      clear o9 l9 HBT HFD
      go_wp2_with (first | ((with_reducible refine wpList_load_obj ?_ rfl ?_ hbz ?_); rfl; rfl) | (refine wpList_skip rfl (st9 rfl rfl rfl) ?_))
      refine bodyPost_ret (v := .tuple #[encO (best.getD O0), .bool fd]) (results_ct rfl rfl rfl (loadVar_obj HO9.out)) rfl ?_
      exact ⟨by first | rfl | (rw [hfd]; rfl), HV9.out⟩
end Go.Proofs.YtfpdchabknoklaaDoor.O.B
namespace Go.Proofs.YtfpdchabknoklaaDoor.O.B
open Go Go.RowKit Go.Shelf Go.Lib RangeMap KM
attribute [local go_sem] Oper.semAt_some

set_option maxRecDepth 100000 in
set_option maxHeartbeats 2000000 in
theorem claimed1_any (c v : Obj) (b : Nat) (W : World) (hb : BoxO W b v) (ht : Tab W) (hc : (0 ≤ c.born ∧ c.born ≤ 18446744073709551615) ∧ c.name.size ≤ 140737488351232) :
    Calls Tryd.prog 70 #[encO c, .pointer (some ⟨b, 0, none⟩)] W fun e W' => e = .returned (.bool (decide (refN c = v.claim))) ∧ Below W.heap.size W W' := by
  have HB := Lib.hid hb
  have HT := Lib.hid ht
  have HR := Lib.hid (fun V (hV : Tab V) => ref_any c V hV hc.1 hc.2)
  clear hb ht hc
  generalize refN c = r at *
  unfold encO
  go_enter Tryd.func70, Tryd.ntmps70
  go_upto_region 1 with (fail)
  refine wp_gen (fun V => BoxO V W.heap.size c ∧ Below W.heap.size W V ∧ BoxO V b v ∧ Tab V) ⟨BoxO.new W c, (Below.refl _ _).alloc (Nat.le_refl _) _, HB.out.alloc _, HT.out.after ((Below.refl _ _).alloc (Nat.le_refl _) _)⟩ ?_
  clear HB HT
  rintro V ⟨hbx, hl, hn, ht⟩
  have HO := Lib.hid hbx
  have HV := Lib.hid hn
  have HL := Lib.hid hl
  have HT := Lib.hid ht
  clear hbx hl hn ht
  refine wp_region_held_drew (S := fun V => BoxO V W.heap.size c ∧ BoxO V b v ∧ Below W.heap.size W V ∧ Tab V) (by kernel_rfl) ⟨HO.out, HV.out, HL.out.drew, HT.out.drew⟩ (fun _ => ?_)
  refine HeldBy.gen (fun V => BoxO V W.heap.size c ∧ BoxO V b v ∧ Below W.heap.size W V ∧ Tab V) ⟨HO.out, HV.out, HL.out.drew, HT.out.drew⟩ ?_
  clear HO HV HL HT
  rintro U0 HS
  refine HeldBy.take (i := 0) (v := encO c) rfl (by kernel_rfl) (by kernel_rfl) (by kernel_rfl) (fun _ _ _ h => h) (by rfl) (fun V hV => load_obj hV.1 rfl rfl) (by go_simp; rfl) HS ?_
  refine HeldBy.take (i := 2) rfl (by kernel_rfl) (by kernel_rfl) (by kernel_rfl) (fun _ _ _ h => h) (by rfl) (fun _ _ => by first | (go_simp; rfl) | (go_simp; done)) (by go_simp; rfl) HS ?_
  refine HeldBy.take (i := 3) (v := .string v.claim) rfl (by kernel_rfl) (by kernel_rfl) (by kernel_rfl) (fun _ _ _ h => h) (by rfl) (fun V hV => by have hc := hV.2.1.c14; first | (go_simp; rfl) | (go_simp; done)) (by go_simp; rfl) HS ?_
  refine HeldBy.call (i := 1) (v := .string r) rfl (by kernel_rfl) (by rfl) (by go_simp; exact ⟨rfl, rfl⟩) (by go_simp; rfl) ?_
  refine (HR.out _ HS.2.2.2).mono ?_
  rintro e U1 ⟨rfl, hb⟩
  replace HS : BoxO U1 W.heap.size c ∧ BoxO U1 b v ∧ Below W.heap.size W U1 ∧ Tab U1 := ⟨HS.1.after hb, HS.2.1.after hb, HS.2.2.1.trans (hb.mono HS.2.2.1.size), HS.2.2.2.after hb⟩
  refine ⟨rfl, HS, ?_⟩
  clear hb
  refine HeldBy.take (i := 4) (v := .bool (decide (r = v.claim))) rfl (by kernel_rfl) (by kernel_rfl) (by kernel_rfl) (fun _ _ _ h => h) (by rfl) (fun _ _ => exec_eql_str rfl rfl rfl rfl) (by go_simp; rfl) HS ?_
  refine HeldBy.take (i := 5) rfl (by kernel_rfl) (by kernel_rfl) (by kernel_rfl) (fun _ _ _ h => h) (by rfl) (fun _ _ => by first | (go_simp; rfl) | (go_simp; done)) (by go_simp; rfl) HS ?_
  refine wpAnyH_done (by kernel_rfl) ?_ _
  have HX := Lib.hid HS.2.2.1
  clear HS HR
  go_wp2
  go_ret
  exact ⟨rfl, HX.out⟩
theorem claimed1_enters : ∀ args w, (callFunc 70 args).run Tryd.prog w = .ok (.enter 70 args) w :=
  enters_of (P := Tryd.prog) Tryd.func70 (by kernel_rfl) rfl
set_option maxRecDepth 100000 in
set_option maxHeartbeats 2000000 in
theorem use1_any (o v : Obj) (b : Nat) (W : World) (hb : BoxO W b v) :
    Calls Tryd.prog 71 #[encO o, .pointer (some ⟨b, 0, none⟩)] W fun e W' => e = .returned (.bool (decide (o.volume = v.name))) ∧ Below W.heap.size W W' := by
  have HB := Lib.hid hb
  clear hb
  unfold encO
  go_enter Tryd.func71, Tryd.ntmps71
  go_upto_region 1 with (fail)
  refine wp_gen (fun V => BoxO V W.heap.size o ∧ Below W.heap.size W V ∧ BoxO V b v) ⟨BoxO.new W o, (Below.refl _ _).alloc (Nat.le_refl _) _, HB.out.alloc _⟩ ?_
  clear HB
  rintro V ⟨hbx, hl, hn⟩
  have c1 := hbx.c15
  have c2 := hn.c1
  have HL := Lib.hid hl
  clear hbx hl hn
  go_wp2
  go_ret
  refine ⟨?_, HL.out⟩
  show Ending.returned (.bool (o.volume.toList == v.name.toList)) = _
  rw [eqB]
theorem use1_enters : ∀ args w, (callFunc 71 args).run Tryd.prog w = .ok (.enter 71 args) w :=
  enters_of (P := Tryd.prog) Tryd.func71 (by kernel_rfl) rfl
set_option maxRecDepth 100000 in
set_option maxHeartbeats 2000000 in
theorem use2_any (o v : Obj) (b : Nat) (W : World) (hb : BoxO W b v) :
    Calls Tryd.prog 72 #[encO o, .pointer (some ⟨b, 0, none⟩)] W fun e W' => e = .returned (.bool (decide (o.volume = v.name) && (o.phase == 10))) ∧ Below W.heap.size W W' := by
  have HB := Lib.hid hb
  clear hb
  unfold encO
  go_enter Tryd.func72, Tryd.ntmps72
  go_upto_region 1 with (fail)
  refine wp_gen (fun V => BoxO V W.heap.size o ∧ Below W.heap.size W V ∧ BoxO V b v) ⟨BoxO.new W o, (Below.refl _ _).alloc (Nat.le_refl _) _, HB.out.alloc _⟩ ?_
  clear HB
  rintro V ⟨hbx, hl, hn⟩
  have c1 := hbx.c15
  have c2 := hn.c1
  have c3 := hbx.c17
  have HL := Lib.hid hl
  clear hbx hl hn
  cases e1 : (o.volume.toList == v.name.toList) with
  | false =>
    go_wp2
    go_ret
    exact ⟨by rw [← eqB, e1]; rfl, HL.out⟩
  | true =>
    go_wp2
    go_ret
    exact ⟨by rw [← eqB, e1]; rfl, HL.out⟩
theorem use2_enters : ∀ args w, (callFunc 72 args).run Tryd.prog w = .ok (.enter 72 args) w :=
  enters_of (P := Tryd.prog) Tryd.func72 (by kernel_rfl) rfl

set_option maxRecDepth 100000 in
set_option maxHeartbeats 2000000 in
theorem claimed_any (l : List Obj) (s : Value) (v : Obj) (w : World) (hl : ObjsIn w s l) (ht : Tab w) (hall : ∀ s ∈ l, (0 ≤ s.born ∧ s.born ≤ 18446744073709551615) ∧ s.name.size ≤ 140737488351232) :
    Calls Tryd.prog 44 #[s, encO v] w fun e w' => e = .returned (.bool (claimedN l v)) ∧ Below w.heap.size w w' := by
  obtain ⟨o, cp, rfl, -, -⟩ := id hl
  have HL := Lib.hid hl
  have HT := Lib.hid ht
  have H1 : Hid (∀ (V : World) (b : Nat), ObjsIn V (.slice o l.length cp) l → Tab V → BoxO V b v → Calls Tryd.prog 58 #[.slice o l.length cp, .int .u8 3, .func (.func 70) #[] #[.pointer (some ⟨b, 0, none⟩)]] V fun e w' => e = .returned (.bool (claimedN l v)) ∧ Below V.heap.size V w') := fun V b hV hT hb =>
    has_any l _ 3 _ _ _ V hV ⟨claimed1_enters, fun x hx W hW => claimed1_any x v b W (hb.after hW) (hT.after hW) (hall x hx)⟩
  clear hl ht hall
  generalize claimedN l v = p at *
  unfold encO
  go_enter Tryd.func44, Tryd.ntmps44
  go_upto_region 1 with (fail)
  refine wp_gen (fun V => BoxO V w.heap.size v ∧ Below w.heap.size w V) ⟨BoxO.new w v, (Below.refl _ _).alloc (Nat.le_refl _) _⟩ ?_
  rintro V ⟨h1, hlw⟩
  have HC := Lib.hid (H1.out V _ (HL.out.after hlw) (HT.out.after hlw) h1)
  have HW := Lib.hid hlw
  clear h1 hlw H1
  go_wp2_with (fail)
  refine HC.out.mono ?_
  rintro e W2 ⟨rfl, hb2⟩
  have HX := Lib.hid (HW.out.trans (hb2.mono HW.out.size))
  clear HC hb2 HW
  go_wp2
  go_ret
  exact ⟨rfl, HX.out⟩
set_option maxRecDepth 100000 in
set_option maxHeartbeats 2000000 in
theorem inUse_any (l : List Obj) (s : Value) (v : Obj) (w : World) (hl : ObjsIn w s l) :
    Calls Tryd.prog 46 #[s, encO v] w fun e w' => e = .returned (.bool (inUseN l v)) ∧ Below w.heap.size w w' := by
  obtain ⟨o, cp, rfl, -, -⟩ := id hl
  have HL := Lib.hid hl
  unfold inUseN
  have H1 : Hid (∀ (V : World) (b : Nat), ObjsIn V (.slice o l.length cp) l → BoxO V b v → Calls Tryd.prog 58 #[.slice o l.length cp, .int .u8 5, .func (.func 71) #[] #[.pointer (some ⟨b, 0, none⟩)]] V fun e w' => e = .returned (.bool (atN l v)) ∧ Below V.heap.size V w') := fun V b hV hb =>
    has_any l _ 5 _ _ _ V hV ⟨use1_enters, fun x _ W hW => use1_any x v b W (hb.after hW)⟩
  have H2 : Hid (∀ (V : World) (b : Nat), ObjsIn V (.slice o l.length cp) l → BoxO V b v → Calls Tryd.prog 58 #[.slice o l.length cp, .int .u8 7, .func (.func 72) #[] #[.pointer (some ⟨b, 0, none⟩)]] V fun e w' => e = .returned (.bool (cutN l v)) ∧ Below V.heap.size V w') := fun V b hV hb =>
    has_any l _ 7 _ _ _ V hV ⟨use2_enters, fun x _ W hW => use2_any x v b W (hb.after hW)⟩
  clear hl
  generalize atN l v = p at *
  generalize cutN l v = q at *
  unfold encO
  go_enter Tryd.func46, Tryd.ntmps46
  go_upto_region 1 with (fail)
  refine wp_gen (fun V => BoxO V w.heap.size v ∧ Below w.heap.size w V) ⟨BoxO.new w v, (Below.refl _ _).alloc (Nat.le_refl _) _⟩ ?_
  rintro V ⟨h1, hlw⟩
  have HC := Lib.hid (H1.out V _ (HL.out.after hlw) h1)
  have HB := Lib.hid h1
  have HW := Lib.hid hlw
  clear h1 hlw H1
  go_wp2_with (fail)
  refine HC.out.mono ?_
  rintro e W2 ⟨rfl, hb2⟩
  have hw2 := HW.out.trans (hb2.mono HW.out.size)
  have HC2 := Lib.hid (H2.out W2 _ (HL.out.after hw2) (HB.out.after hb2))
  have HW2 := Lib.hid hw2
  clear HC hb2 hw2 H2 HL HW HB
  cases p with
  | true =>
    clear HC2
    go_wp2
    go_ret
    exact ⟨rfl, HW2.out⟩
  | false =>
    go_wp2_with (fail)
    refine HC2.out.mono ?_
    rintro e W3 ⟨rfl, hb3⟩
    have HX := Lib.hid (HW2.out.trans (hb3.mono HW2.out.size))
    clear HC2 hb3 HW2
    go_wp2
    go_ret
    exact ⟨rfl, HX.out⟩

set_option maxRecDepth 100000 in
set_option maxHeartbeats 2000000 in
theorem erasing_any (v : Obj) (next : Int) (w : World) : Calls Tryd.prog 43 #[encO v, .int .u64 next] w fun e w' => e = .returned (encO (erasingN v next)) ∧ Below w.heap.size w w' := by
  obtain ⟨u, hu⟩ : ∃ u, erasingN v next = u := ⟨_, rfl⟩
  rw [hu]
  have HU := Lib.hid hu
  clear hu
  unfold encO
  go_enter Tryd.func43, Tryd.ntmps43
  go_upto_region 1 with (fail)
  refine wp_gen (fun V => BoxO V w.heap.size v ∧ BoxO V (w.heap.size + 1) O0 ∧ Below w.heap.size w V) (chain2 w _ _) ?_
  rintro V ⟨h1, h2, hl⟩
  have c17 := h1.c17
  have c18 := h1.c18
  have f17 := h1.free 17
  have f18 := h1.free 18
  have HA := Lib.hid h1
  have HO := Lib.hid h2
  have HL := Lib.hid hl
  clear h1 h2 hl
  go_upto_region 2 with (fail)
  refine wp_gen (fun V => BoxO V w.heap.size u ∧ BoxO V (w.heap.size + 1) O0 ∧ Below w.heap.size w V) ⟨by rw [← HU.out]; exact (HA.out.s17 6).s18 next, (HO.out.other (by show w.heap.size + 1 ≠ w.heap.size; omega) _).other (by show w.heap.size + 1 ≠ w.heap.size; omega) _, (HL.out.setCell (Nat.le_refl _) _).setCell (Nat.le_refl _) _⟩ ?_
  clear c17 c18 f17 f18 HA HO HL HU
  rintro V2 ⟨ha, ho, hl⟩
  obtain ⟨V6, hst, ho6, -, hb⟩ := storing ho u
  have HO6 := Lib.hid ho6
  have HX := Lib.hid (hb _ _ hl (by omega))
  clear ho6 hb ho hl
  go_wp2_with (first | (refine wpList_skip rfl (hst rfl rfl rfl) ?_) | ((with_reducible refine wpList_load_obj ?_ rfl ?_ ha ?_); rfl; rfl))
  refine bodyPost_ret (v := encO u) (results_cell_row rfl _ _ (w.heap.size + 1) 31 (cellsO u) (0, 0) _ rfl HO6.out undObj rfl sizeObj) rfl ?_
  exact ⟨rfl, HX.out⟩
set_option maxRecDepth 100000 in
set_option maxHeartbeats 2000000 in
theorem givenUp_any (v : Obj) (next : Int) (w : World) : Calls Tryd.prog 45 #[encO v, .int .u64 next] w fun e w' => e = .returned (encO (givenN v next)) ∧ Below w.heap.size w w' := by
  have HE := Lib.hid (fun V => erasing_any v next V)
  obtain ⟨u, hu⟩ : ∃ u, givenN v next = u := ⟨_, rfl⟩
  rw [hu]
  have HU := Lib.hid hu
  clear hu
  unfold encO
  go_enter Tryd.func45, Tryd.ntmps45
  go_upto_region 1 with (fail)
  refine wp_gen (fun V => BoxO V w.heap.size v ∧ BoxO V (w.heap.size + 1) O0 ∧ Below w.heap.size w V) (chain2 w _ _) ?_
  rintro V ⟨h1, h2, hl⟩
  have c10 := h1.c10
  cases hk : v.keep with
  | true =>
    have hg : ({ v with phase := 5 } : Obj) = u := by rw [← HU.out]; unfold givenN; rw [if_pos hk]
    rw [hk] at c10
    have HG := Lib.hid hg
    have c17 := h1.c17
    have f17 := h1.free 17
    have HA := Lib.hid h1
    have HO := Lib.hid h2
    have HL := Lib.hid hl
    clear h1 h2 hl HE hg
    go_upto_region 3 with (fail)
    refine wp_gen (fun V => BoxO V w.heap.size u ∧ BoxO V (w.heap.size + 1) O0 ∧ Below w.heap.size w V) ⟨by rw [← HG.out]; exact HA.out.s17 5, HO.out.other (by show w.heap.size + 1 ≠ w.heap.size; omega) _, HL.out.setCell (Nat.le_refl _) _⟩ ?_
    clear c10 c17 f17 HA HO HL HG HU
    rintro V2 ⟨ha, ho, hl⟩
    obtain ⟨V6, hst, ho6, -, hb⟩ := storing ho u
    have HO6 := Lib.hid ho6
    have HX := Lib.hid (hb _ _ hl (by omega))
    clear ho6 hb ho hl
    go_wp2_with (first | (refine wpList_skip rfl (hst rfl rfl rfl) ?_) | ((with_reducible refine wpList_load_obj ?_ rfl ?_ ha ?_); rfl; rfl))
    refine bodyPost_ret (v := encO u) (results_cell_row rfl _ _ (w.heap.size + 1) 31 (cellsO u) (0, 0) _ rfl HO6.out undObj rfl sizeObj) rfl ?_
    exact ⟨rfl, HX.out⟩
  | false =>
    have hg : erasingN v next = u := by rw [← HU.out]; unfold givenN; rw [if_neg (by rw [hk]; decide)]
    rw [hk] at c10
    rw [hg] at HE
    have HO := Lib.hid h2
    have HL := Lib.hid hl
    clear h2 hl hg
    go_wp2_with ((with_reducible refine wpList_load_obj ?_ rfl ?_ h1 ?_); rfl; rfl)
    refine (HE.out _).mono ?_
    rintro e W2 ⟨rfl, hb2⟩
    obtain ⟨V6, hst, ho6, -, hb⟩ := storing (HO.out.after hb2) u
    have HO6 := Lib.hid ho6
    have HX := Lib.hid (hb _ _ (HL.out.trans (hb2.mono HL.out.size)) (by omega))
    clear ho6 hb HO HL hb2 HE c10 h1
    go_wp2_with (refine wpList_skip rfl (hst rfl rfl rfl) ?_)
    refine bodyPost_ret (v := encO u) (results_cell_row rfl _ _ (w.heap.size + 1) 31 (cellsO u) (0, 0) _ rfl HO6.out undObj rfl sizeObj) rfl ?_
    exact ⟨rfl, HX.out⟩
end Go.Proofs.YtfpdchabknoklaaDoor.O.B
namespace Go.Proofs.YtfpdchabknoklaaDoor.O.B
open Go Go.RowKit Go.Shelf Go.Lib RangeMap KM
attribute [local go_sem] Oper.semAt_some

set_option maxRecDepth 100000 in
set_option maxHeartbeats 2000000 in
theorem rwrite_any (o : Obj) (w : World) : Calls Tryd.prog 32 #[encO o] w fun e w' => e = .returned (encA (writeA o)) ∧ Below w.heap.size w w' := by
  unfold encO
  go_enter Tryd.func32, Tryd.ntmps32
  go_upto_region 1 with (fail)
  refine wp_gen (fun V => BoxO V w.heap.size o ∧ BoxA V (w.heap.size + 1) nothing ∧ Below w.heap.size w V) (chain2 w _ _) ?_
  rintro V ⟨h1, h2, hlw⟩
  obtain ⟨V2, hst, ho, -, hb⟩ := acting h2 (writeA o)
  have HO := Lib.hid ho
  have HW := Lib.hid (hb _ _ hlw (by omega))
  clear h2 hlw ho hb
  go_wp2_with (first | (refine wpList_skip rfl (hst rfl rfl rfl) ?_) | ((with_reducible refine wpList_load_obj ?_ rfl ?_ h1 ?_); rfl; rfl) | ((with_reducible refine wpList_build_to rfl 36 _ rfl (cellsA (writeA o)) ?_ ?_); exact built_write o))
  refine bodyPost_ret (v := encA (writeA o)) (results_cell_row rfl _ _ (w.heap.size + 1) 36 (cellsA (writeA o)) (0, 0) _ rfl HO.out undAct rfl sizeAct) rfl ?_
  exact ⟨rfl, HW.out⟩
set_option maxRecDepth 100000 in
set_option maxHeartbeats 2000000 in
theorem rremove_any (o : Obj) (w : World) : Calls Tryd.prog 30 #[encO o] w fun e w' => e = .returned (encA (removeA o)) ∧ Below w.heap.size w w' := by
  unfold encO
  go_enter Tryd.func30, Tryd.ntmps30
  go_upto_region 1 with (fail)
  refine wp_gen (fun V => BoxO V w.heap.size o ∧ BoxA V (w.heap.size + 1) nothing ∧ Below w.heap.size w V) (chain2 w _ _) ?_
  rintro V ⟨h1, h2, hlw⟩
  obtain ⟨V2, hst, ho, -, hb⟩ := acting h2 (removeA o)
  have HO := Lib.hid ho
  have HW := Lib.hid (hb _ _ hlw (by omega))
  clear h2 hlw ho hb
  go_wp2_with (first | (refine wpList_skip rfl (hst rfl rfl rfl) ?_) | ((with_reducible refine wpList_load_obj ?_ rfl ?_ h1 ?_); rfl; rfl) | ((with_reducible refine wpList_build_to rfl 36 _ rfl (cellsA (removeA o)) ?_ ?_); exact built_remove o))
  refine bodyPost_ret (v := encA (removeA o)) (results_cell_row rfl _ _ (w.heap.size + 1) 36 (cellsA (removeA o)) (0, 0) _ rfl HO.out undAct rfl sizeAct) rfl ?_
  exact ⟨rfl, HW.out⟩
set_option maxRecDepth 100000 in
set_option maxHeartbeats 2000000 in
theorem rask_any (c : Cl) (w : World) : Calls Tryd.prog 33 #[encC c] w fun e w' => e = .returned (encA (askA c)) ∧ Below w.heap.size w w' := by
  unfold encC
  go_enter Tryd.func33, Tryd.ntmps33
  go_upto_region 1 with (fail)
  refine wp_gen (fun V => BoxC V w.heap.size c ∧ BoxA V (w.heap.size + 1) nothing ∧ Below w.heap.size w V) (chain2 w _ _) ?_
  rintro V ⟨h1, h2, hlw⟩
  obtain ⟨V2, hst, ho, -, hb⟩ := acting h2 (askA c)
  have HO := Lib.hid ho
  have HW := Lib.hid (hb _ _ hlw (by omega))
  clear h2 hlw ho hb
  go_wp2_with (first | (refine wpList_skip rfl (hst rfl rfl rfl) ?_) | (refine wpList_got rfl (load_call h1 rfl rfl) ?_) | ((with_reducible refine wpList_build_to rfl 36 _ rfl (cellsA (askA c)) ?_ ?_); exact built_ask c))
  refine bodyPost_ret (v := encA (askA c)) (results_cell_row rfl _ _ (w.heap.size + 1) 36 (cellsA (askA c)) (0, 0) _ rfl HO.out undAct rfl sizeAct) rfl ?_
  exact ⟨rfl, HW.out⟩
end Go.Proofs.YtfpdchabknoklaaDoor.O.B
namespace Go.Proofs.YtfpdchabknoklaaDoor.O.B
open Go Go.RowKit Go.Shelf Go.Lib RangeMap KM
attribute [local go_sem] Oper.semAt_some

set_option maxRecDepth 100000 in
set_option maxHeartbeats 8000000 in
theorem rcl_none (l : List Obj) (v : Value) (ver : Int) (name : ByteArray) (w : World) (hl : ObjsIn w v l) (hn : l.length < 100000) (ht : Tab w) (_hall : ∀ s ∈ l, (0 ≤ s.born ∧ s.born ≤ 18446744073709551615) ∧ s.name.size ≤ 140737488351232) (hr : getL l 3 name = none) :
    Calls Tryd.prog 9 #[v, .int .u64 ver, .string name] w fun e w' => e = .returned (encA (nothing)) ∧ Below w.heap.size w w' := by
  have HU := Lib.hid (fun V (hV : ObjsIn V v l) => uniq_any l v V hV hn)
  have hnL : (uniqL l).length < 100000 := Nat.lt_of_le_of_lt (uniq_len l) hn
  obtain ⟨o, cp, rfl, -, -⟩ := id hl
  have HL0 := Lib.hid hl
  have HT := Lib.hid ht
  have hug := uniq_get l 3 name
  rw [hr] at hug
  clear hr
  generalize uniqL l = L at *
  have HG := Lib.hid (fun (V : World) (s : Value) (hV : ObjsIn V s L) => rget_any L s 3 name V hV)
  rw [hug] at HG
  clear hl hn ht hug hnL
  go_enter Tryd.func9, Tryd.ntmps9
  go_upto_region 1 with (fail)
  refine wp_gen (fun V => BoxA V w.heap.size nothing ∧ Below w.heap.size w V) ⟨heap_alloc_new _ _, (Below.refl _ _).alloc (Nat.le_refl _) _⟩ ?_
  rintro V0 ⟨ho, hl⟩
  have HO0 := Lib.hid ho
  have HW0 := Lib.hid hl
  have HUV := Lib.hid (HU.out V0 (HL0.out.after hl))
  clear ho hl HU HL0
  go_wp2_with (fail)
  refine HUV.out.mono ?_
  rintro e W1 ⟨lv, rfl, hl1, hb1⟩
  have HO1 := Lib.hid (HO0.out.after hb1)
  have HW1 := Lib.hid (HW0.out.trans (hb1.mono HW0.out.size))
  obtain ⟨o1, c1, rfl, hm, -⟩ := id hl1
  have HL := Lib.hid hl1
  have HGV := Lib.hid (HG.out W1 _ hl1)
  clear HUV HO0 HW0 hb1 hl1 HG
  go_wp2_with (fail)
  refine HGV.out.mono ?_
  rintro e W2 ⟨rfl, hb2⟩
  obtain ⟨X, sx, ox, lx, -⟩ := boxing W2 ((none : Option Obj).getD O0)
  have hwx := hb2.trans (lx.mono hb2.size)
  have hne : w.heap.size < W2.heap.size := Nat.lt_of_lt_of_le (Array.getElem?_eq_some_iff.1 HO1.out).1 hb2.size
  have HO := Lib.hid (HO1.out.after hwx)
  have HW := Lib.hid (HW1.out.trans (hwx.mono HW1.out.size))
  have HLX := Lib.hid (HL.out.after hwx)
  have HTX := Lib.hid (HT.out.after HW.out)
  have HNE := Lib.hid hne
  clear HGV hb2 lx hwx HO1 HW1 HL HT hne
  obtain ⟨V8, hst8, ho, -, hb⟩ := acting HO.out nothing
  have HO8 := Lib.hid ho
  have HX8 := Lib.hid (hb _ _ HW.out (Nat.le_refl _))
  clear ho hb
  go_wp2_with (first | (refine wpList_skip rfl (sx rfl rfl rfl) ?_) | (refine wpList_skip rfl (hst8 rfl rfl rfl) ?_) | ((with_reducible refine wpList_build_to rfl 36 _ rfl (cellsA nothing) ?_ ?_); exact built_act0'))
  refine bodyPost_ret (v := encA nothing) (results_cell_row rfl _ _ w.heap.size 36 (cellsA nothing) (0, 0) _ rfl HO8.out undAct rfl sizeAct) rfl ?_
  exact ⟨rfl, HX8.out⟩

set_option maxRecDepth 100000 in
set_option maxHeartbeats 8000000 in
theorem rcl_long (l : List Obj) (v : Value) (ver : Int) (name : ByteArray) (w : World) (hl : ObjsIn w v l) (hn : l.length < 100000) (ht : Tab w) (hall : ∀ s ∈ l, (0 ≤ s.born ∧ s.born ≤ 18446744073709551615) ∧ s.name.size ≤ 140737488351232) (c : Obj) (hr : getL l 3 name = some c) (hh : handleN c = E0) :
    Calls Tryd.prog 9 #[v, .int .u64 ver, .string name] w fun e w' => e = .returned (encA (nothing)) ∧ Below w.heap.size w w' := by
  have HU := Lib.hid (fun V (hV : ObjsIn V v l) => uniq_any l v V hV hn)
  have hnL : (uniqL l).length < 100000 := Nat.lt_of_le_of_lt (uniq_len l) hn
  obtain ⟨o, cp, rfl, -, -⟩ := id hl
  have HL0 := Lib.hid hl
  have HT := Lib.hid ht
  have hug := uniq_get l 3 name
  rw [hr] at hug
  have hcin := hall c (List.mem_of_find?_eq_some hr)
  have HHN := Lib.hid (fun V (hV : Tab V) => rhandle_any c V hV hcin.1 hcin.2)
  have o1 : (handleN c).toList = [] := (emp_iff _).2 hh
  have o2 : ((handleN c).toList == []) = true := by simp [o1]
  have o3 : (handleN c).toList.isEmpty = true := by simp [o1]
  generalize handleN c = h at *
  clear hh
  clear hr
  generalize uniqL l = L at *
  have HG := Lib.hid (fun (V : World) (s : Value) (hV : ObjsIn V s L) => rget_any L s 3 name V hV)
  rw [hug] at HG
  clear hl hn ht hall hug hnL hcin
  go_enter Tryd.func9, Tryd.ntmps9
  go_upto_region 1 with (fail)
  refine wp_gen (fun V => BoxA V w.heap.size nothing ∧ Below w.heap.size w V) ⟨heap_alloc_new _ _, (Below.refl _ _).alloc (Nat.le_refl _) _⟩ ?_
  rintro V0 ⟨ho, hl⟩
  have HO0 := Lib.hid ho
  have HW0 := Lib.hid hl
  have HUV := Lib.hid (HU.out V0 (HL0.out.after hl))
  clear ho hl HU HL0
  go_wp2_with (fail)
  refine HUV.out.mono ?_
  rintro e W1 ⟨lv, rfl, hl1, hb1⟩
  have HO1 := Lib.hid (HO0.out.after hb1)
  have HW1 := Lib.hid (HW0.out.trans (hb1.mono HW0.out.size))
  obtain ⟨o1, c1, rfl, hm, -⟩ := id hl1
  have HL := Lib.hid hl1
  have HGV := Lib.hid (HG.out W1 _ hl1)
  clear HUV HO0 HW0 hb1 hl1 HG
  go_wp2_with (fail)
  refine HGV.out.mono ?_
  rintro e W2 ⟨rfl, hb2⟩
  obtain ⟨X, sx, ox, lx, -⟩ := boxing W2 ((some c).getD O0)
  have hwx := hb2.trans (lx.mono hb2.size)
  have hne : w.heap.size < W2.heap.size := Nat.lt_of_lt_of_le (Array.getElem?_eq_some_iff.1 HO1.out).1 hb2.size
  have HO := Lib.hid (HO1.out.after hwx)
  have HW := Lib.hid (HW1.out.trans (hwx.mono HW1.out.size))
  have HLX := Lib.hid (HL.out.after hwx)
  have HTX := Lib.hid (HT.out.after HW.out)
  have HNE := Lib.hid hne
  clear HGV hb2 lx hwx HO1 HW1 HL HT hne
  replace ox : BoxO X W2.heap.size c := ox
  have HK := Lib.hid ox
  have HHV := Lib.hid (HHN.out X HTX.out)
  go_upto_region 3 with (refine wpList_skip rfl (sx rfl rfl rfl) ?_)
  clear sx
  go_wp2_with ((with_reducible refine wpList_load_obj ?_ rfl ?_ ox ?_); rfl; rfl)
  clear ox
  refine HHV.out.mono ?_
  rintro e W3 ⟨rfl, hb3⟩
  have HC3 := Lib.hid (HK.out.after hb3)
  have HA3 := Lib.hid (HO.out.after hb3)
  have HW3 := Lib.hid (HW.out.trans (hb3.mono HW.out.size))
  have HL3 := Lib.hid (HLX.out.after hb3)
  have HT3 := Lib.hid (HTX.out.after hb3)
  clear HK HO HW HLX HTX HHV
  clear HHN hb3
  obtain ⟨V8, hst8, ho, -, hb⟩ := acting HA3.out nothing
  have HO8 := Lib.hid ho
  have HX8 := Lib.hid (hb _ _ HW3.out (Nat.le_refl _))
  clear ho hb
  go_wp2_with (first | (refine wpList_skip rfl (hst8 rfl rfl rfl) ?_) | ((with_reducible refine wpList_build_to rfl 36 _ rfl (cellsA nothing) ?_ ?_); exact built_act0'))
  refine bodyPost_ret (v := encA nothing) (results_cell_row rfl _ _ w.heap.size 36 (cellsA nothing) (0, 0) _ rfl HO8.out undAct rfl sizeAct) rfl ?_
  exact ⟨rfl, HX8.out⟩

set_option maxRecDepth 100000 in
set_option maxHeartbeats 8000000 in
theorem rcl_keep (l : List Obj) (v : Value) (ver : Int) (name : ByteArray) (w : World) (hl : ObjsIn w v l) (hn : l.length < 100000) (ht : Tab w) (hall : ∀ s ∈ l, (0 ≤ s.born ∧ s.born ≤ 18446744073709551615) ∧ s.name.size ≤ 140737488351232) (c : Obj) (hr : getL l 3 name = some c) (hh : ¬ handleN c = E0) (hp : c.phase = 3) (hd : c.deleting = false) :
    Calls Tryd.prog 9 #[v, .int .u64 ver, .string name] w fun e w' => e = .returned (encA (nothing)) ∧ Below w.heap.size w w' := by
  have HU := Lib.hid (fun V (hV : ObjsIn V v l) => uniq_any l v V hV hn)
  have hnL : (uniqL l).length < 100000 := Nat.lt_of_le_of_lt (uniq_len l) hn
  obtain ⟨o, cp, rfl, -, -⟩ := id hl
  have HL0 := Lib.hid hl
  have HT := Lib.hid ht
  have hug := uniq_get l 3 name
  rw [hr] at hug
  have hcin := hall c (List.mem_of_find?_eq_some hr)
  have HHN := Lib.hid (fun V (hV : Tab V) => rhandle_any c V hV hcin.1 hcin.2)
  have o1 : (handleN c).toList ≠ [] := fun e => hh ((emp_iff _).1 e)
  have o2 : ((handleN c).toList == []) = false := by simpa using o1
  have o3 : (handleN c).toList.isEmpty = false := by simpa using o1
  generalize handleN c = h at *
  have HP := Lib.hid hp
  have HD := Lib.hid hd
  clear hh hp hd
  have HO123 := Lib.hid (And.intro o1 (And.intro o2 o3))
  clear o1 o2 o3
  clear hr
  generalize uniqL l = L at *
  have HG := Lib.hid (fun (V : World) (s : Value) (hV : ObjsIn V s L) => rget_any L s 3 name V hV)
  rw [hug] at HG
  clear hl hn ht hall hug hnL hcin
  go_enter Tryd.func9, Tryd.ntmps9
  go_upto_region 1 with (fail)
  refine wp_gen (fun V => BoxA V w.heap.size nothing ∧ Below w.heap.size w V) ⟨heap_alloc_new _ _, (Below.refl _ _).alloc (Nat.le_refl _) _⟩ ?_
  rintro V0 ⟨ho, hl⟩
  have HO0 := Lib.hid ho
  have HW0 := Lib.hid hl
  have HUV := Lib.hid (HU.out V0 (HL0.out.after hl))
  clear ho hl HU HL0
  go_wp2_with (fail)
  refine HUV.out.mono ?_
  rintro e W1 ⟨lv, rfl, hl1, hb1⟩
  have HO1 := Lib.hid (HO0.out.after hb1)
  have HW1 := Lib.hid (HW0.out.trans (hb1.mono HW0.out.size))
  obtain ⟨o1, c1, rfl, hm, -⟩ := id hl1
  have HL := Lib.hid hl1
  have HGV := Lib.hid (HG.out W1 _ hl1)
  clear HUV HO0 HW0 hb1 hl1 HG
  go_wp2_with (fail)
  refine HGV.out.mono ?_
  rintro e W2 ⟨rfl, hb2⟩
  obtain ⟨X, sx, ox, lx, -⟩ := boxing W2 ((some c).getD O0)
  have hwx := hb2.trans (lx.mono hb2.size)
  have hne : w.heap.size < W2.heap.size := Nat.lt_of_lt_of_le (Array.getElem?_eq_some_iff.1 HO1.out).1 hb2.size
  have HO := Lib.hid (HO1.out.after hwx)
  have HW := Lib.hid (HW1.out.trans (hwx.mono HW1.out.size))
  have HLX := Lib.hid (HL.out.after hwx)
  have HTX := Lib.hid (HT.out.after HW.out)
  have HNE := Lib.hid hne
  clear HGV hb2 lx hwx HO1 HW1 HL HT hne
  replace ox : BoxO X W2.heap.size c := ox
  have HK := Lib.hid ox
  have HHV := Lib.hid (HHN.out X HTX.out)
  go_upto_region 3 with (refine wpList_skip rfl (sx rfl rfl rfl) ?_)
  clear sx
  go_wp2_with ((with_reducible refine wpList_load_obj ?_ rfl ?_ ox ?_); rfl; rfl)
  clear ox
  refine HHV.out.mono ?_
  rintro e W3 ⟨rfl, hb3⟩
  have HC3 := Lib.hid (HK.out.after hb3)
  have HA3 := Lib.hid (HO.out.after hb3)
  have HW3 := Lib.hid (HW.out.trans (hb3.mono HW.out.size))
  have HL3 := Lib.hid (HLX.out.after hb3)
  have HT3 := Lib.hid (HTX.out.after hb3)
  clear HK HO HW HLX HTX HHV
  clear HHN hb3
  obtain ⟨o1, o2, o3⟩ := HO123.out
  have c17 := HC3.out.c17
  rw [HP.out] at c17
  have c4 := HC3.out.c4
  rw [HD.out] at c4
  go_upto_region 6 with (fail)
  clear o1 o2 o3 HO123 c17
  obtain ⟨V8, hst8, ho, -, hb⟩ := acting HA3.out nothing
  have HO8 := Lib.hid ho
  have HX8 := Lib.hid (hb _ _ HW3.out (Nat.le_refl _))
  clear ho hb
  go_wp2_with (first | (refine wpList_skip rfl (hst8 rfl rfl rfl) ?_) | ((with_reducible refine wpList_build_to rfl 36 _ rfl (cellsA nothing) ?_ ?_); exact built_act0'))
  refine bodyPost_ret (v := encA nothing) (results_cell_row rfl _ _ w.heap.size 36 (cellsA nothing) (0, 0) _ rfl HO8.out undAct rfl sizeAct) rfl ?_
  exact ⟨rfl, HX8.out⟩

set_option maxRecDepth 100000 in
set_option maxHeartbeats 8000000 in
theorem rcl_used (l : List Obj) (v : Value) (ver : Int) (name : ByteArray) (w : World) (hl : ObjsIn w v l) (hn : l.length < 100000) (ht : Tab w) (hall : ∀ s ∈ l, (0 ≤ s.born ∧ s.born ≤ 18446744073709551615) ∧ s.name.size ≤ 140737488351232) (c : Obj) (hr : getL l 3 name = some c) (hh : ¬ handleN c = E0) (hp : c.phase = 3) (hd : c.deleting = true) (hu : (wantedN l c || atNodeN l c) = true) :
    Calls Tryd.prog 9 #[v, .int .u64 ver, .string name] w fun e w' => e = .returned (encA (nothing)) ∧ Below w.heap.size w w' := by
  have HU := Lib.hid (fun V (hV : ObjsIn V v l) => uniq_any l v V hV hn)
  have hnL : (uniqL l).length < 100000 := Nat.lt_of_le_of_lt (uniq_len l) hn
  obtain ⟨o, cp, rfl, -, -⟩ := id hl
  have HL0 := Lib.hid hl
  have HT := Lib.hid ht
  have hug := uniq_get l 3 name
  rw [hr] at hug
  have hcin := hall c (List.mem_of_find?_eq_some hr)
  have HHN := Lib.hid (fun V (hV : Tab V) => rhandle_any c V hV hcin.1 hcin.2)
  have o1 : (handleN c).toList ≠ [] := fun e => hh ((emp_iff _).1 e)
  have o2 : ((handleN c).toList == []) = false := by simpa using o1
  have o3 : (handleN c).toList.isEmpty = false := by simpa using o1
  generalize handleN c = h at *
  have HP := Lib.hid hp
  have HD := Lib.hid hd
  clear hh hp hd
  have HO123 := Lib.hid (And.intro o1 (And.intro o2 o3))
  clear o1 o2 o3
  have hus := used_is l c
  rw [hu] at hus
  have HUS0 := Lib.hid hus
  clear hu hus
  clear hr
  generalize uniqL l = L at *
  have HUS := Lib.hid (fun (V : World) (s : Value) (hV : ObjsIn V s L) => rused_any L s c V hV)
  rw [HUS0.out] at HUS
  clear HUS0
  have HG := Lib.hid (fun (V : World) (s : Value) (hV : ObjsIn V s L) => rget_any L s 3 name V hV)
  rw [hug] at HG
  clear hl hn ht hall hug hnL hcin
  go_enter Tryd.func9, Tryd.ntmps9
  go_upto_region 1 with (fail)
  refine wp_gen (fun V => BoxA V w.heap.size nothing ∧ Below w.heap.size w V) ⟨heap_alloc_new _ _, (Below.refl _ _).alloc (Nat.le_refl _) _⟩ ?_
  rintro V0 ⟨ho, hl⟩
  have HO0 := Lib.hid ho
  have HW0 := Lib.hid hl
  have HUV := Lib.hid (HU.out V0 (HL0.out.after hl))
  clear ho hl HU HL0
  go_wp2_with (fail)
  refine HUV.out.mono ?_
  rintro e W1 ⟨lv, rfl, hl1, hb1⟩
  have HO1 := Lib.hid (HO0.out.after hb1)
  have HW1 := Lib.hid (HW0.out.trans (hb1.mono HW0.out.size))
  obtain ⟨o1, c1, rfl, hm, -⟩ := id hl1
  have HL := Lib.hid hl1
  have HGV := Lib.hid (HG.out W1 _ hl1)
  clear HUV HO0 HW0 hb1 hl1 HG
  go_wp2_with (fail)
  refine HGV.out.mono ?_
  rintro e W2 ⟨rfl, hb2⟩
  obtain ⟨X, sx, ox, lx, -⟩ := boxing W2 ((some c).getD O0)
  have hwx := hb2.trans (lx.mono hb2.size)
  have hne : w.heap.size < W2.heap.size := Nat.lt_of_lt_of_le (Array.getElem?_eq_some_iff.1 HO1.out).1 hb2.size
  have HO := Lib.hid (HO1.out.after hwx)
  have HW := Lib.hid (HW1.out.trans (hwx.mono HW1.out.size))
  have HLX := Lib.hid (HL.out.after hwx)
  have HTX := Lib.hid (HT.out.after HW.out)
  have HNE := Lib.hid hne
  clear HGV hb2 lx hwx HO1 HW1 HL HT hne
  replace ox : BoxO X W2.heap.size c := ox
  have HK := Lib.hid ox
  have HHV := Lib.hid (HHN.out X HTX.out)
  go_upto_region 3 with (refine wpList_skip rfl (sx rfl rfl rfl) ?_)
  clear sx
  go_wp2_with ((with_reducible refine wpList_load_obj ?_ rfl ?_ ox ?_); rfl; rfl)
  clear ox
  refine HHV.out.mono ?_
  rintro e W3 ⟨rfl, hb3⟩
  have HC3 := Lib.hid (HK.out.after hb3)
  have HA3 := Lib.hid (HO.out.after hb3)
  have HW3 := Lib.hid (HW.out.trans (hb3.mono HW.out.size))
  have HL3 := Lib.hid (HLX.out.after hb3)
  have HT3 := Lib.hid (HTX.out.after hb3)
  clear HK HO HW HLX HTX HHV
  clear HHN hb3
  obtain ⟨o1, o2, o3⟩ := HO123.out
  have c17 := HC3.out.c17
  rw [HP.out] at c17
  have c4 := HC3.out.c4
  rw [HD.out] at c4
  go_upto_region 6 with (fail)
  clear o1 o2 o3 HO123 c17
  have HUV := Lib.hid (HUS.out W3 _ HL3.out)
  have hc3 := HC3.out
  go_wp2_with ((with_reducible refine wpList_load_obj ?_ rfl ?_ hc3 ?_); rfl; rfl)
  clear hc3 c4
  refine HUV.out.mono ?_
  rintro e W4 ⟨rfl, hb4⟩
  have HC4 := Lib.hid (HC3.out.after hb4)
  have HA4 := Lib.hid (HA3.out.after hb4)
  have HW4 := Lib.hid (HW3.out.trans (hb4.mono HW3.out.size))
  clear HUV hb4 HC3 HA3 HW3 HL3 HT3
  obtain ⟨V8, hst8, ho, -, hb⟩ := acting HA4.out nothing
  have HO8 := Lib.hid ho
  have HX8 := Lib.hid (hb _ _ HW4.out (Nat.le_refl _))
  clear ho hb
  go_wp2_with (first | (refine wpList_skip rfl (hst8 rfl rfl rfl) ?_) | ((with_reducible refine wpList_build_to rfl 36 _ rfl (cellsA nothing) ?_ ?_); exact built_act0'))
  refine bodyPost_ret (v := encA nothing) (results_cell_row rfl _ _ w.heap.size 36 (cellsA nothing) (0, 0) _ rfl HO8.out undAct rfl sizeAct) rfl ?_
  exact ⟨rfl, HX8.out⟩

set_option maxRecDepth 100000 in
set_option maxHeartbeats 8000000 in
theorem rcl_gone (l : List Obj) (v : Value) (ver : Int) (name : ByteArray) (w : World) (hl : ObjsIn w v l) (hn : l.length < 100000) (ht : Tab w) (hall : ∀ s ∈ l, (0 ≤ s.born ∧ s.born ≤ 18446744073709551615) ∧ s.name.size ≤ 140737488351232) (c : Obj) (hr : getL l 3 name = some c) (hh : ¬ handleN c = E0) (hp : c.phase = 3) (hd : c.deleting = true) (hu : (wantedN l c || atNodeN l c) = false) :
    Calls Tryd.prog 9 #[v, .int .u64 ver, .string name] w fun e w' => e = .returned (encA (removeA c)) ∧ Below w.heap.size w w' := by
  have HU := Lib.hid (fun V (hV : ObjsIn V v l) => uniq_any l v V hV hn)
  have hnL : (uniqL l).length < 100000 := Nat.lt_of_le_of_lt (uniq_len l) hn
  obtain ⟨o, cp, rfl, -, -⟩ := id hl
  have HL0 := Lib.hid hl
  have HT := Lib.hid ht
  have hug := uniq_get l 3 name
  rw [hr] at hug
  have hcin := hall c (List.mem_of_find?_eq_some hr)
  have HHN := Lib.hid (fun V (hV : Tab V) => rhandle_any c V hV hcin.1 hcin.2)
  have o1 : (handleN c).toList ≠ [] := fun e => hh ((emp_iff _).1 e)
  have o2 : ((handleN c).toList == []) = false := by simpa using o1
  have o3 : (handleN c).toList.isEmpty = false := by simpa using o1
  generalize handleN c = h at *
  have HP := Lib.hid hp
  have HD := Lib.hid hd
  clear hh hp hd
  have HO123 := Lib.hid (And.intro o1 (And.intro o2 o3))
  clear o1 o2 o3
  obtain ⟨x, hx⟩ : ∃ x, removeA c = x := ⟨_, rfl⟩
  rw [hx]
  have HXX := Lib.hid hx
  clear hx
  have hus := used_is l c
  rw [hu] at hus
  have HUS0 := Lib.hid hus
  clear hu hus
  clear hr
  generalize uniqL l = L at *
  have HUS := Lib.hid (fun (V : World) (s : Value) (hV : ObjsIn V s L) => rused_any L s c V hV)
  rw [HUS0.out] at HUS
  clear HUS0
  have HG := Lib.hid (fun (V : World) (s : Value) (hV : ObjsIn V s L) => rget_any L s 3 name V hV)
  rw [hug] at HG
  clear hl hn ht hall hug hnL hcin
  go_enter Tryd.func9, Tryd.ntmps9
  go_upto_region 1 with (fail)
  refine wp_gen (fun V => BoxA V w.heap.size nothing ∧ Below w.heap.size w V) ⟨heap_alloc_new _ _, (Below.refl _ _).alloc (Nat.le_refl _) _⟩ ?_
  rintro V0 ⟨ho, hl⟩
  have HO0 := Lib.hid ho
  have HW0 := Lib.hid hl
  have HUV := Lib.hid (HU.out V0 (HL0.out.after hl))
  clear ho hl HU HL0
  go_wp2_with (fail)
  refine HUV.out.mono ?_
  rintro e W1 ⟨lv, rfl, hl1, hb1⟩
  have HO1 := Lib.hid (HO0.out.after hb1)
  have HW1 := Lib.hid (HW0.out.trans (hb1.mono HW0.out.size))
  obtain ⟨o1, c1, rfl, hm, -⟩ := id hl1
  have HL := Lib.hid hl1
  have HGV := Lib.hid (HG.out W1 _ hl1)
  clear HUV HO0 HW0 hb1 hl1 HG
  go_wp2_with (fail)
  refine HGV.out.mono ?_
  rintro e W2 ⟨rfl, hb2⟩
  obtain ⟨X, sx, ox, lx, -⟩ := boxing W2 ((some c).getD O0)
  have hwx := hb2.trans (lx.mono hb2.size)
  have hne : w.heap.size < W2.heap.size := Nat.lt_of_lt_of_le (Array.getElem?_eq_some_iff.1 HO1.out).1 hb2.size
  have HO := Lib.hid (HO1.out.after hwx)
  have HW := Lib.hid (HW1.out.trans (hwx.mono HW1.out.size))
  have HLX := Lib.hid (HL.out.after hwx)
  have HTX := Lib.hid (HT.out.after HW.out)
  have HNE := Lib.hid hne
  clear HGV hb2 lx hwx HO1 HW1 HL HT hne
  replace ox : BoxO X W2.heap.size c := ox
  have HK := Lib.hid ox
  have HHV := Lib.hid (HHN.out X HTX.out)
  go_upto_region 3 with (refine wpList_skip rfl (sx rfl rfl rfl) ?_)
  clear sx
  go_wp2_with ((with_reducible refine wpList_load_obj ?_ rfl ?_ ox ?_); rfl; rfl)
  clear ox
  refine HHV.out.mono ?_
  rintro e W3 ⟨rfl, hb3⟩
  have HC3 := Lib.hid (HK.out.after hb3)
  have HA3 := Lib.hid (HO.out.after hb3)
  have HW3 := Lib.hid (HW.out.trans (hb3.mono HW.out.size))
  have HL3 := Lib.hid (HLX.out.after hb3)
  have HT3 := Lib.hid (HTX.out.after hb3)
  clear HK HO HW HLX HTX HHV
  clear HHN hb3
  obtain ⟨o1, o2, o3⟩ := HO123.out
  have c17 := HC3.out.c17
  rw [HP.out] at c17
  have c4 := HC3.out.c4
  rw [HD.out] at c4
  go_upto_region 6 with (fail)
  clear o1 o2 o3 HO123 c17
  have HUV := Lib.hid (HUS.out W3 _ HL3.out)
  have hc3 := HC3.out
  go_wp2_with ((with_reducible refine wpList_load_obj ?_ rfl ?_ hc3 ?_); rfl; rfl)
  clear hc3 c4
  refine HUV.out.mono ?_
  rintro e W4 ⟨rfl, hb4⟩
  have HC4 := Lib.hid (HC3.out.after hb4)
  have HA4 := Lib.hid (HA3.out.after hb4)
  have HW4 := Lib.hid (HW3.out.trans (hb4.mono HW3.out.size))
  clear HUV hb4 HC3 HA3 HW3 HL3 HT3
  have HAC := Lib.hid (fun V => rremove_any c V)
  have hcx := HC4.out
  rw [HXX.out] at HAC
  have HO9 := Lib.hid (HA4.out)
  have HW9 := Lib.hid (HW4.out)
  clear HXX
  go_wp2_with ((with_reducible refine wpList_load_obj ?_ rfl ?_ hcx ?_); rfl; rfl)
  refine (HAC.out _).mono ?_
  rintro e W7 ⟨rfl, hb7⟩
  obtain ⟨V8, hst8, ho, -, hb⟩ := acting (HO9.out.after hb7) x
  have HO8 := Lib.hid ho
  have HX8 := Lib.hid (hb _ _ (HW9.out.trans (hb7.mono HW9.out.size)) (Nat.le_refl _))
  clear ho hb HAC hb7 hcx HO9 HW9
  go_wp2_with (refine wpList_skip rfl (hst8 rfl rfl rfl) ?_)
  refine bodyPost_ret (v := encA x) (results_cell_row rfl _ _ w.heap.size 36 (cellsA x) (0, 0) _ rfl HO8.out undAct rfl sizeAct) rfl ?_
  exact ⟨rfl, HX8.out⟩
end Go.Proofs.YtfpdchabknoklaaDoor.O.B
namespace Go.Proofs.YtfpdchabknoklaaDoor.O.B
open Go Go.RowKit Go.Shelf Go.Lib RangeMap KM
attribute [local go_sem] Oper.semAt_some

set_option maxRecDepth 100000 in
set_option maxHeartbeats 8000000 in
theorem rcl_take (l : List Obj) (v : Value) (ver : Int) (name : ByteArray) (w : World) (hl : ObjsIn w v l) (hn : l.length < 100000) (ht : Tab w) (hall : ∀ s ∈ l, (0 ≤ s.born ∧ s.born ≤ 18446744073709551615) ∧ s.name.size ≤ 140737488351232) (c : Obj) (hr : getL l 3 name = some c) (hh : ¬ handleN c = E0) (hp : ¬ c.phase = 3) (vo : Obj) (hv : volN l c = some vo) :
    Calls Tryd.prog 9 #[v, .int .u64 ver, .string name] w fun e w' => e = .returned (encA (writeA (takingN c vo))) ∧ Below w.heap.size w w' := by
  have HU := Lib.hid (fun V (hV : ObjsIn V v l) => uniq_any l v V hV hn)
  have hnL : (uniqL l).length < 100000 := Nat.lt_of_le_of_lt (uniq_len l) hn
  obtain ⟨o, cp, rfl, -, -⟩ := id hl
  have HL0 := Lib.hid hl
  have HT := Lib.hid ht
  have hug := uniq_get l 3 name
  rw [hr] at hug
  have hcin := hall c (List.mem_of_find?_eq_some hr)
  have HHN := Lib.hid (fun V (hV : Tab V) => rhandle_any c V hV hcin.1 hcin.2)
  have o1 : (handleN c).toList ≠ [] := fun e => hh ((emp_iff _).1 e)
  have o2 : ((handleN c).toList == []) = false := by simpa using o1
  have o3 : (handleN c).toList.isEmpty = false := by simpa using o1
  generalize handleN c = h at *
  have e3 : (c.phase == 3) = false := by simpa using hp
  have HE3 := Lib.hid e3
  clear hh hp e3
  have HO123 := Lib.hid (And.intro o1 (And.intro o2 o3))
  clear o1 o2 o3
  have hvl := vol_is l c
  rw [hv] at hvl
  clear hv
  obtain ⟨x, hx⟩ : ∃ x, writeA (takingN c vo) = x := ⟨_, rfl⟩
  rw [hx]
  have HXX := Lib.hid hx
  clear hx
  clear hr
  generalize uniqL l = L at *
  have HVL := Lib.hid (fun (V : World) (s : Value) (hV : ObjsIn V s L) (hT : Tab V) => rvol_any L s c V hV hT hcin.1 hcin.2)
  rw [hvl] at HVL
  clear hvl
  have HG := Lib.hid (fun (V : World) (s : Value) (hV : ObjsIn V s L) => rget_any L s 3 name V hV)
  rw [hug] at HG
  clear hl hn ht hall hug hnL hcin
  go_enter Tryd.func9, Tryd.ntmps9
  go_upto_region 1 with (fail)
  refine wp_gen (fun V => BoxA V w.heap.size nothing ∧ Below w.heap.size w V) ⟨heap_alloc_new _ _, (Below.refl _ _).alloc (Nat.le_refl _) _⟩ ?_
  rintro V0 ⟨ho, hl⟩
  have HO0 := Lib.hid ho
  have HW0 := Lib.hid hl
  have HUV := Lib.hid (HU.out V0 (HL0.out.after hl))
  clear ho hl HU HL0
  go_wp2_with (fail)
  refine HUV.out.mono ?_
  rintro e W1 ⟨lv, rfl, hl1, hb1⟩
  have HO1 := Lib.hid (HO0.out.after hb1)
  have HW1 := Lib.hid (HW0.out.trans (hb1.mono HW0.out.size))
  obtain ⟨o1, c1, rfl, hm, -⟩ := id hl1
  have HL := Lib.hid hl1
  have HGV := Lib.hid (HG.out W1 _ hl1)
  clear HUV HO0 HW0 hb1 hl1 HG
  go_wp2_with (fail)
  refine HGV.out.mono ?_
  rintro e W2 ⟨rfl, hb2⟩
  obtain ⟨X, sx, ox, lx, -⟩ := boxing W2 ((some c).getD O0)
  have hwx := hb2.trans (lx.mono hb2.size)
  have hne : w.heap.size < W2.heap.size := Nat.lt_of_lt_of_le (Array.getElem?_eq_some_iff.1 HO1.out).1 hb2.size
  have HO := Lib.hid (HO1.out.after hwx)
  have HW := Lib.hid (HW1.out.trans (hwx.mono HW1.out.size))
  have HLX := Lib.hid (HL.out.after hwx)
  have HTX := Lib.hid (HT.out.after HW.out)
  have HNE := Lib.hid hne
  clear HGV hb2 lx hwx HO1 HW1 HL HT hne
  replace ox : BoxO X W2.heap.size c := ox
  have HK := Lib.hid ox
  have HHV := Lib.hid (HHN.out X HTX.out)
  go_upto_region 3 with (refine wpList_skip rfl (sx rfl rfl rfl) ?_)
  clear sx
  go_wp2_with ((with_reducible refine wpList_load_obj ?_ rfl ?_ ox ?_); rfl; rfl)
  clear ox
  refine HHV.out.mono ?_
  rintro e W3 ⟨rfl, hb3⟩
  have HC3 := Lib.hid (HK.out.after hb3)
  have HA3 := Lib.hid (HO.out.after hb3)
  have HW3 := Lib.hid (HW.out.trans (hb3.mono HW.out.size))
  have HL3 := Lib.hid (HLX.out.after hb3)
  have HT3 := Lib.hid (HTX.out.after hb3)
  clear HK HO HW HLX HTX HHV
  clear hb3
  obtain ⟨o1, o2, o3⟩ := HO123.out
  have e3 := HE3.out
  have c17 := HC3.out.c17
  go_upto_region 9 with (fail)
  clear o1 o2 o3 HO123 c17 e3 HE3
  have HVC := Lib.hid (HVL.out W3 _ HL3.out HT3.out)
  have hc3 := HC3.out
  go_wp2_with ((with_reducible refine wpList_load_obj ?_ rfl ?_ hc3 ?_); rfl; rfl)
  clear hc3
  refine HVC.out.mono ?_
  rintro e W4 ⟨rfl, hb4⟩
  obtain ⟨X4, sx4, ox4, lx4, -⟩ := boxing W4 ((some vo).getD O0)
  have h34 := hb4.trans (lx4.mono hb4.size)
  have HC4 := Lib.hid (HC3.out.after h34)
  have HA4 := Lib.hid (HA3.out.after h34)
  have HW4 := Lib.hid (HW3.out.trans (h34.mono HW3.out.size))
  have HL4 := Lib.hid (HL3.out.after h34)
  have HT4 := Lib.hid (HT3.out.after h34)
  have hn4 : W2.heap.size < W4.heap.size := Nat.lt_of_lt_of_le (Array.getElem?_eq_some_iff.1 HC3.out).1 hb4.size
  have HN4 := Lib.hid hn4
  clear HVC hb4 lx4 h34 HC3 HA3 HW3 HL3 HT3 HVL hn4
  replace ox4 : BoxO X4 W4.heap.size vo := ox4
  have HV4 := Lib.hid ox4
  clear HHN HL4 HT4 ox4
  go_upto_region 11 with (refine wpList_skip rfl (sx4 rfl rfl rfl) ?_)
  clear sx4
  generalize W2.heap.size = cb at *
  generalize W4.heap.size = vb at *
  refine wp_region_held_drew (S := fun V => BoxO V vb vo) (by kernel_rfl) HV4.out (fun _ => ?_)
  refine HeldBy.gen (fun V => BoxO V vb vo ∧ BoxO V cb c ∧ BoxA V w.heap.size nothing ∧ Below w.heap.size w V) ⟨HV4.out, HC4.out, HA4.out, HW4.out.drew⟩ ?_
  clear HV4 HC4 HA4 HW4
  rintro U0 ⟨HS, ha, ho, hl⟩
  have hlt1 := HNE.out
  have hlt2 := HN4.out
  refine HeldBy.take (i := 0) rfl (by kernel_rfl) (by kernel_rfl) (by kernel_rfl) (fun _ _ _ h => h) (by rfl) (fun V hV => by first | (go_simp; rfl) | (go_simp; done)) (by first | (go_simp; rfl) | (go_simp; done)) HS ?_
  refine HeldBy.take (i := 1) rfl (by kernel_rfl) (by kernel_rfl) (by kernel_rfl) (fun _ _ _ h => h) (by rfl) (fun V hV => by have hc := hV.c1; first | (go_simp; rfl) | (go_simp; done)) (by first | (go_simp; rfl) | (go_simp; done)) HS ?_
  refine HeldBy.take (i := 2) rfl (by kernel_rfl) (by kernel_rfl) (by kernel_rfl) (fun _ _ _ h => h) (by rfl) (fun V hV => by first | (go_simp; rfl) | (go_simp; done)) (by first | (go_simp; rfl) | (go_simp; done)) HS ?_
  refine HeldBy.take (i := 3) rfl (by kernel_rfl) (by kernel_rfl) (by kernel_rfl) (fun _ _ _ h => h) (by rfl) (fun V hV => by have hc := hV.c8; first | (go_simp; rfl) | (go_simp; done)) (by first | (go_simp; rfl) | (go_simp; done)) HS ?_
  refine HeldBy.take (i := 4) rfl (by kernel_rfl) (by kernel_rfl) (by kernel_rfl) (fun _ _ _ h => h) (by rfl) (fun V hV => by first | (go_simp; rfl) | (go_simp; done)) (by first | (go_simp; rfl) | (go_simp; done)) HS ?_
  refine HeldBy.take (i := 5) rfl (by kernel_rfl) (by kernel_rfl) (by kernel_rfl) (fun _ _ _ h => h) (by rfl) (fun V hV => by have hc := hV.c12; first | (go_simp; rfl) | (go_simp; done)) (by first | (go_simp; rfl) | (go_simp; done)) HS ?_
  refine HeldBy.take (i := 6) rfl (by kernel_rfl) (by kernel_rfl) (by kernel_rfl) (fun _ _ _ h => h) (by rfl) (fun V hV => by first | (go_simp; rfl) | (go_simp; done)) (by first | (go_simp; rfl) | (go_simp; done)) HS ?_
  obtain ⟨U1, hU1⟩ : ∃ V, U0.setCell ⟨cb, 17, none⟩ (.int .u8 3) = V := ⟨_, rfl⟩
  have hc17 := ha.c17
  have hf17 := ha.free 17
  have ha' : BoxO U1 cb { c with phase := 3 } := by rw [← hU1]; exact ha.s17 (3)
  have ho' : BoxA U1 w.heap.size nothing := by rw [← hU1]; exact (heap_setCell_other _ ⟨cb, 17, none⟩ w.heap.size _ (by show w.heap.size ≠ cb; omega)).trans ho
  have hS' : BoxO U1 vb vo := by rw [← hU1]; exact HS.other (by show vb ≠ cb; omega) _
  have hl' : Below w.heap.size w U1 := by rw [← hU1]; exact hl.setCell (by show w.heap.size ≤ cb; omega) _
  refine HeldBy.store (i := 7) (w' := U1) rfl (by kernel_rfl) (by rfl) (by rw [← hU1]; first | (go_simp; done) | (go_simp; rfl)) (by first | (go_simp; rfl) | (go_simp; done)) hS' ?_
  clear hU1 hc17 hf17 ha ho HS hl
  have ha := ha'
  have ho := ho'
  have HS := hS'
  have hl := hl'
  clear ha' ho' hS' hl'
  refine HeldBy.take (i := 8) rfl (by kernel_rfl) (by kernel_rfl) (by kernel_rfl) (fun _ _ _ h => h) (by rfl) (fun V hV => by first | (go_simp; rfl) | (go_simp; done)) (by first | (go_simp; rfl) | (go_simp; done)) HS ?_
  obtain ⟨U2, hU2⟩ : ∃ V, U1.setCell ⟨cb, 15, none⟩ (.string vo.name) = V := ⟨_, rfl⟩
  have hc15 := ha.c15
  have hf15 := ha.free 15
  have ha' : BoxO U2 cb { c with phase := 3, volume := vo.name } := by rw [← hU2]; exact ha.s15 (vo.name)
  have ho' : BoxA U2 w.heap.size nothing := by rw [← hU2]; exact (heap_setCell_other _ ⟨cb, 15, none⟩ w.heap.size _ (by show w.heap.size ≠ cb; omega)).trans ho
  have hS' : BoxO U2 vb vo := by rw [← hU2]; exact HS.other (by show vb ≠ cb; omega) _
  have hl' : Below w.heap.size w U2 := by rw [← hU2]; exact hl.setCell (by show w.heap.size ≤ cb; omega) _
  refine HeldBy.store (i := 9) (w' := U2) rfl (by kernel_rfl) (by rfl) (by rw [← hU2]; first | (go_simp; done) | (go_simp; rfl)) (by first | (go_simp; rfl) | (go_simp; done)) hS' ?_
  clear hU2 hc15 hf15 ha ho HS hl
  have ha := ha'
  have ho := ho'
  have HS := hS'
  have hl := hl'
  clear ha' ho' hS' hl'
  refine HeldBy.take (i := 10) rfl (by kernel_rfl) (by kernel_rfl) (by kernel_rfl) (fun _ _ _ h => h) (by rfl) (fun V hV => by first | (go_simp; rfl) | (go_simp; done)) (by first | (go_simp; rfl) | (go_simp; done)) HS ?_
  obtain ⟨U3, hU3⟩ : ∃ V, U2.setCell ⟨cb, 8, none⟩ (.int .i64 vo.got) = V := ⟨_, rfl⟩
  have hc8 := ha.c8
  have hf8 := ha.free 8
  have ha' : BoxO U3 cb { c with phase := 3, volume := vo.name, got := vo.got } := by rw [← hU3]; exact ha.s8 (vo.got)
  have ho' : BoxA U3 w.heap.size nothing := by rw [← hU3]; exact (heap_setCell_other _ ⟨cb, 8, none⟩ w.heap.size _ (by show w.heap.size ≠ cb; omega)).trans ho
  have hS' : BoxO U3 vb vo := by rw [← hU3]; exact HS.other (by show vb ≠ cb; omega) _
  have hl' : Below w.heap.size w U3 := by rw [← hU3]; exact hl.setCell (by show w.heap.size ≤ cb; omega) _
  refine HeldBy.store (i := 11) (w' := U3) rfl (by kernel_rfl) (by rfl) (by rw [← hU3]; first | (go_simp; done) | (go_simp; rfl)) (by first | (go_simp; rfl) | (go_simp; done)) hS' ?_
  clear hU3 hc8 hf8 ha ho HS hl
  have ha := ha'
  have ho := ho'
  have HS := hS'
  have hl := hl'
  clear ha' ho' hS' hl'
  refine HeldBy.take (i := 12) rfl (by kernel_rfl) (by kernel_rfl) (by kernel_rfl) (fun _ _ _ h => h) (by rfl) (fun V hV => by first | (go_simp; rfl) | (go_simp; done)) (by first | (go_simp; rfl) | (go_simp; done)) HS ?_
  obtain ⟨U4, hU4⟩ : ∃ V, U3.setCell ⟨cb, 12, none⟩ (.string vo.zone) = V := ⟨_, rfl⟩
  have hc12 := ha.c12
  have hf12 := ha.free 12
  have ha' : BoxO U4 cb { c with phase := 3, volume := vo.name, got := vo.got, zone := vo.zone } := by rw [← hU4]; exact ha.s12 (vo.zone)
  have ho' : BoxA U4 w.heap.size nothing := by rw [← hU4]; exact (heap_setCell_other _ ⟨cb, 12, none⟩ w.heap.size _ (by show w.heap.size ≠ cb; omega)).trans ho
  have hS' : BoxO U4 vb vo := by rw [← hU4]; exact HS.other (by show vb ≠ cb; omega) _
  have hl' : Below w.heap.size w U4 := by rw [← hU4]; exact hl.setCell (by show w.heap.size ≤ cb; omega) _
  refine HeldBy.store (i := 13) (w' := U4) rfl (by kernel_rfl) (by rfl) (by rw [← hU4]; first | (go_simp; done) | (go_simp; rfl)) (by first | (go_simp; rfl) | (go_simp; done)) hS' ?_
  clear hU4 hc12 hf12 ha ho HS hl
  have ha := ha'
  have ho := ho'
  have HS := hS'
  have hl := hl'
  clear ha' ho' hS' hl'
  refine HeldBy.take (i := 14) rfl (by kernel_rfl) (by kernel_rfl) (by kernel_rfl) (fun _ _ _ h => h) (by rfl) (fun V hV => by first | (go_simp; rfl) | (go_simp; done)) (by first | (go_simp; rfl) | (go_simp; done)) HS ?_
  obtain ⟨U5, hU5⟩ : ∃ V, U4.setCell ⟨cb, 18, none⟩ (.int .u64 0) = V := ⟨_, rfl⟩
  have hc18 := ha.c18
  have hf18 := ha.free 18
  have ha' : BoxO U5 cb { c with phase := 3, volume := vo.name, got := vo.got, zone := vo.zone, num := 0 } := by rw [← hU5]; exact ha.s18 (0)
  have ho' : BoxA U5 w.heap.size nothing := by rw [← hU5]; exact (heap_setCell_other _ ⟨cb, 18, none⟩ w.heap.size _ (by show w.heap.size ≠ cb; omega)).trans ho
  have hS' : BoxO U5 vb vo := by rw [← hU5]; exact HS.other (by show vb ≠ cb; omega) _
  have hl' : Below w.heap.size w U5 := by rw [← hU5]; exact hl.setCell (by show w.heap.size ≤ cb; omega) _
  refine HeldBy.store (i := 15) (w' := U5) rfl (by kernel_rfl) (by rfl) (by rw [← hU5]; first | (go_simp; done) | (go_simp; rfl)) (by first | (go_simp; rfl) | (go_simp; done)) hS' ?_
  clear hU5 hc18 hf18 ha ho HS hl
  have ha := ha'
  have ho := ho'
  have HS := hS'
  have hl := hl'
  clear ha' ho' hS' hl'
  refine wpAnyH_done (by kernel_rfl) ?_ _
  have HC5 : Hid (BoxO U5 cb (takingN c vo)) := ha
  have HA5 := Lib.hid ho
  have HW5 := Lib.hid hl
  clear ha ho hl HS hlt1 hlt2
  have HAC := Lib.hid (fun V => rwrite_any (takingN c vo) V)
  have hcx := HC5.out
  rw [HXX.out] at HAC
  have HO9 := Lib.hid (HA5.out)
  have HW9 := Lib.hid (HW5.out)
  clear HXX
  go_wp2_with ((with_reducible refine wpList_load_obj ?_ rfl ?_ hcx ?_); rfl; rfl)
  refine (HAC.out _).mono ?_
  rintro e W7 ⟨rfl, hb7⟩
  obtain ⟨V8, hst8, ho, -, hb⟩ := acting (HO9.out.after hb7) x
  have HO8 := Lib.hid ho
  have HX8 := Lib.hid (hb _ _ (HW9.out.trans (hb7.mono HW9.out.size)) (Nat.le_refl _))
  clear ho hb HAC hb7 hcx HO9 HW9
  go_wp2_with (refine wpList_skip rfl (hst8 rfl rfl rfl) ?_)
  refine bodyPost_ret (v := encA x) (results_cell_row rfl _ _ w.heap.size 36 (cellsA x) (0, 0) _ rfl HO8.out undAct rfl sizeAct) rfl ?_
  exact ⟨rfl, HX8.out⟩
end Go.Proofs.YtfpdchabknoklaaDoor.O.B
namespace Go.Proofs.YtfpdchabknoklaaDoor.O.B
open Go Go.RowKit Go.Shelf Go.Lib RangeMap KM
attribute [local go_sem] Oper.semAt_some

set_option maxRecDepth 100000 in
set_option maxHeartbeats 8000000 in
theorem rcl_off0 (l : List Obj) (v : Value) (ver : Int) (name : ByteArray) (w : World) (hl : ObjsIn w v l) (hn : l.length < 100000) (ht : Tab w) (hall : ∀ s ∈ l, (0 ≤ s.born ∧ s.born ≤ 18446744073709551615) ∧ s.name.size ≤ 140737488351232) (c : Obj) (hr : getL l 3 name = some c) (hh : ¬ handleN c = E0) (hp : ¬ c.phase = 3) (hv : volN l c = none) (hd : c.deleting = true) (h0 : c.num = 0) :
    Calls Tryd.prog 9 #[v, .int .u64 ver, .string name] w fun e w' => e = .returned (encA (removeA c)) ∧ Below w.heap.size w w' := by
  have HU := Lib.hid (fun V (hV : ObjsIn V v l) => uniq_any l v V hV hn)
  have hnL : (uniqL l).length < 100000 := Nat.lt_of_le_of_lt (uniq_len l) hn
  obtain ⟨o, cp, rfl, -, -⟩ := id hl
  have HL0 := Lib.hid hl
  have HT := Lib.hid ht
  have hug := uniq_get l 3 name
  rw [hr] at hug
  have hcin := hall c (List.mem_of_find?_eq_some hr)
  have HHN := Lib.hid (fun V (hV : Tab V) => rhandle_any c V hV hcin.1 hcin.2)
  have o1 : (handleN c).toList ≠ [] := fun e => hh ((emp_iff _).1 e)
  have o2 : ((handleN c).toList == []) = false := by simpa using o1
  have o3 : (handleN c).toList.isEmpty = false := by simpa using o1
  generalize handleN c = h at *
  have e3 : (c.phase == 3) = false := by simpa using hp
  have HE3 := Lib.hid e3
  clear hh hp e3
  have HO123 := Lib.hid (And.intro o1 (And.intro o2 o3))
  clear o1 o2 o3
  have hvl := vol_is l c
  rw [hv] at hvl
  clear hv
  have HD := Lib.hid hd
  clear hd
  have H0 := Lib.hid h0
  clear h0
  obtain ⟨x, hx⟩ : ∃ x, removeA c = x := ⟨_, rfl⟩
  rw [hx]
  have HXX := Lib.hid hx
  clear hx
  clear hr
  generalize uniqL l = L at *
  have HVL := Lib.hid (fun (V : World) (s : Value) (hV : ObjsIn V s L) (hT : Tab V) => rvol_any L s c V hV hT hcin.1 hcin.2)
  rw [hvl] at HVL
  clear hvl
  have HG := Lib.hid (fun (V : World) (s : Value) (hV : ObjsIn V s L) => rget_any L s 3 name V hV)
  rw [hug] at HG
  clear hl hn ht hall hug hnL hcin
  go_enter Tryd.func9, Tryd.ntmps9
  go_upto_region 1 with (fail)
  refine wp_gen (fun V => BoxA V w.heap.size nothing ∧ Below w.heap.size w V) ⟨heap_alloc_new _ _, (Below.refl _ _).alloc (Nat.le_refl _) _⟩ ?_
  rintro V0 ⟨ho, hl⟩
  have HO0 := Lib.hid ho
  have HW0 := Lib.hid hl
  have HUV := Lib.hid (HU.out V0 (HL0.out.after hl))
  clear ho hl HU HL0
  go_wp2_with (fail)
  refine HUV.out.mono ?_
  rintro e W1 ⟨lv, rfl, hl1, hb1⟩
  have HO1 := Lib.hid (HO0.out.after hb1)
  have HW1 := Lib.hid (HW0.out.trans (hb1.mono HW0.out.size))
  obtain ⟨o1, c1, rfl, hm, -⟩ := id hl1
  have HL := Lib.hid hl1
  have HGV := Lib.hid (HG.out W1 _ hl1)
  clear HUV HO0 HW0 hb1 hl1 HG
  go_wp2_with (fail)
  refine HGV.out.mono ?_
  rintro e W2 ⟨rfl, hb2⟩
  obtain ⟨X, sx, ox, lx, -⟩ := boxing W2 ((some c).getD O0)
  have hwx := hb2.trans (lx.mono hb2.size)
  have hne : w.heap.size < W2.heap.size := Nat.lt_of_lt_of_le (Array.getElem?_eq_some_iff.1 HO1.out).1 hb2.size
  have HO := Lib.hid (HO1.out.after hwx)
  have HW := Lib.hid (HW1.out.trans (hwx.mono HW1.out.size))
  have HLX := Lib.hid (HL.out.after hwx)
  have HTX := Lib.hid (HT.out.after HW.out)
  have HNE := Lib.hid hne
  clear HGV hb2 lx hwx HO1 HW1 HL HT hne
  replace ox : BoxO X W2.heap.size c := ox
  have HK := Lib.hid ox
  have HHV := Lib.hid (HHN.out X HTX.out)
  go_upto_region 3 with (refine wpList_skip rfl (sx rfl rfl rfl) ?_)
  clear sx
  go_wp2_with ((with_reducible refine wpList_load_obj ?_ rfl ?_ ox ?_); rfl; rfl)
  clear ox
  refine HHV.out.mono ?_
  rintro e W3 ⟨rfl, hb3⟩
  have HC3 := Lib.hid (HK.out.after hb3)
  have HA3 := Lib.hid (HO.out.after hb3)
  have HW3 := Lib.hid (HW.out.trans (hb3.mono HW.out.size))
  have HL3 := Lib.hid (HLX.out.after hb3)
  have HT3 := Lib.hid (HTX.out.after hb3)
  clear HK HO HW HLX HTX HHV
  clear hb3
  obtain ⟨o1, o2, o3⟩ := HO123.out
  have e3 := HE3.out
  have c17 := HC3.out.c17
  go_upto_region 9 with (fail)
  clear o1 o2 o3 HO123 c17 e3 HE3
  have HVC := Lib.hid (HVL.out W3 _ HL3.out HT3.out)
  have hc3 := HC3.out
  go_wp2_with ((with_reducible refine wpList_load_obj ?_ rfl ?_ hc3 ?_); rfl; rfl)
  clear hc3
  refine HVC.out.mono ?_
  rintro e W4 ⟨rfl, hb4⟩
  obtain ⟨X4, sx4, ox4, lx4, -⟩ := boxing W4 ((none : Option Obj).getD O0)
  have h34 := hb4.trans (lx4.mono hb4.size)
  have HC4 := Lib.hid (HC3.out.after h34)
  have HA4 := Lib.hid (HA3.out.after h34)
  have HW4 := Lib.hid (HW3.out.trans (h34.mono HW3.out.size))
  have HL4 := Lib.hid (HL3.out.after h34)
  have HT4 := Lib.hid (HT3.out.after h34)
  have hn4 : W2.heap.size < W4.heap.size := Nat.lt_of_lt_of_le (Array.getElem?_eq_some_iff.1 HC3.out).1 hb4.size
  have HN4 := Lib.hid hn4
  clear HVC hb4 lx4 h34 HC3 HA3 HW3 HL3 HT3 HVL hn4
  clear ox4
  have c4 := HC4.out.c4
  rw [HD.out] at c4
  go_upto_region 13 with (refine wpList_skip rfl (sx4 rfl rfl rfl) ?_)
  clear sx4
  go_upto_region 14 with (fail)
  clear c4 HHN HL4 HT4
  have c18 := HC4.out.c18
  rw [H0.out] at c18
  go_upto_region 15 with (fail)
  clear c18
  have HAC := Lib.hid (fun V => rremove_any c V)
  have hcx := HC4.out
  rw [HXX.out] at HAC
  have HO9 := Lib.hid (HA4.out)
  have HW9 := Lib.hid (HW4.out)
  clear HXX
  go_wp2_with ((with_reducible refine wpList_load_obj ?_ rfl ?_ hcx ?_); rfl; rfl)
  refine (HAC.out _).mono ?_
  rintro e W7 ⟨rfl, hb7⟩
  obtain ⟨V8, hst8, ho, -, hb⟩ := acting (HO9.out.after hb7) x
  have HO8 := Lib.hid ho
  have HX8 := Lib.hid (hb _ _ (HW9.out.trans (hb7.mono HW9.out.size)) (Nat.le_refl _))
  clear ho hb HAC hb7 hcx HO9 HW9
  go_wp2_with (refine wpList_skip rfl (hst8 rfl rfl rfl) ?_)
  refine bodyPost_ret (v := encA x) (results_cell_row rfl _ _ w.heap.size 36 (cellsA x) (0, 0) _ rfl HO8.out undAct rfl sizeAct) rfl ?_
  exact ⟨rfl, HX8.out⟩

set_option maxRecDepth 100000 in
set_option maxHeartbeats 8000000 in
theorem rcl_off2 (l : List Obj) (v : Value) (ver : Int) (name : ByteArray) (w : World) (hl : ObjsIn w v l) (hn : l.length < 100000) (ht : Tab w) (hall : ∀ s ∈ l, (0 ≤ s.born ∧ s.born ≤ 18446744073709551615) ∧ s.name.size ≤ 140737488351232) (c : Obj) (hr : getL l 3 name = some c) (hh : ¬ handleN c = E0) (hp : ¬ c.phase = 3) (hv : volN l c = none) (hd : c.deleting = true) (h0 : ¬ c.num = 0) (h2 : c.phase = 2) :
    Calls Tryd.prog 9 #[v, .int .u64 ver, .string name] w fun e w' => e = .returned (encA (writeA { c with phase := 1, num := IntKind.u64.wrap (ver + 1) })) ∧ Below w.heap.size w w' := by
  have HU := Lib.hid (fun V (hV : ObjsIn V v l) => uniq_any l v V hV hn)
  have hnL : (uniqL l).length < 100000 := Nat.lt_of_le_of_lt (uniq_len l) hn
  obtain ⟨o, cp, rfl, -, -⟩ := id hl
  have HL0 := Lib.hid hl
  have HT := Lib.hid ht
  have hug := uniq_get l 3 name
  rw [hr] at hug
  have hcin := hall c (List.mem_of_find?_eq_some hr)
  have HHN := Lib.hid (fun V (hV : Tab V) => rhandle_any c V hV hcin.1 hcin.2)
  have o1 : (handleN c).toList ≠ [] := fun e => hh ((emp_iff _).1 e)
  have o2 : ((handleN c).toList == []) = false := by simpa using o1
  have o3 : (handleN c).toList.isEmpty = false := by simpa using o1
  generalize handleN c = h at *
  have e3 : (c.phase == 3) = false := by simpa using hp
  have HE3 := Lib.hid e3
  clear hh hp e3
  have HO123 := Lib.hid (And.intro o1 (And.intro o2 o3))
  clear o1 o2 o3
  have hvl := vol_is l c
  rw [hv] at hvl
  clear hv
  have HD := Lib.hid hd
  clear hd
  have e0 : (c.num == 0) = false := by simpa using h0
  have H0 := Lib.hid e0
  have H2 := Lib.hid h2
  clear h0 e0 h2
  obtain ⟨x, hx⟩ : ∃ x, writeA { c with phase := 1, num := IntKind.u64.wrap (ver + 1) } = x := ⟨_, rfl⟩
  rw [hx]
  have HXX := Lib.hid hx
  clear hx
  clear hr
  generalize uniqL l = L at *
  have HVL := Lib.hid (fun (V : World) (s : Value) (hV : ObjsIn V s L) (hT : Tab V) => rvol_any L s c V hV hT hcin.1 hcin.2)
  rw [hvl] at HVL
  clear hvl
  have HG := Lib.hid (fun (V : World) (s : Value) (hV : ObjsIn V s L) => rget_any L s 3 name V hV)
  rw [hug] at HG
  clear hl hn ht hall hug hnL hcin
  go_enter Tryd.func9, Tryd.ntmps9
  go_upto_region 1 with (fail)
  refine wp_gen (fun V => BoxA V w.heap.size nothing ∧ Below w.heap.size w V) ⟨heap_alloc_new _ _, (Below.refl _ _).alloc (Nat.le_refl _) _⟩ ?_
  rintro V0 ⟨ho, hl⟩
  have HO0 := Lib.hid ho
  have HW0 := Lib.hid hl
  have HUV := Lib.hid (HU.out V0 (HL0.out.after hl))
  clear ho hl HU HL0
  go_wp2_with (fail)
  refine HUV.out.mono ?_
  rintro e W1 ⟨lv, rfl, hl1, hb1⟩
  have HO1 := Lib.hid (HO0.out.after hb1)
  have HW1 := Lib.hid (HW0.out.trans (hb1.mono HW0.out.size))
  obtain ⟨o1, c1, rfl, hm, -⟩ := id hl1
  have HL := Lib.hid hl1
  have HGV := Lib.hid (HG.out W1 _ hl1)
  clear HUV HO0 HW0 hb1 hl1 HG
  go_wp2_with (fail)
  refine HGV.out.mono ?_
  rintro e W2 ⟨rfl, hb2⟩
  obtain ⟨X, sx, ox, lx, -⟩ := boxing W2 ((some c).getD O0)
  have hwx := hb2.trans (lx.mono hb2.size)
  have hne : w.heap.size < W2.heap.size := Nat.lt_of_lt_of_le (Array.getElem?_eq_some_iff.1 HO1.out).1 hb2.size
  have HO := Lib.hid (HO1.out.after hwx)
  have HW := Lib.hid (HW1.out.trans (hwx.mono HW1.out.size))
  have HLX := Lib.hid (HL.out.after hwx)
  have HTX := Lib.hid (HT.out.after HW.out)
  have HNE := Lib.hid hne
  clear HGV hb2 lx hwx HO1 HW1 HL HT hne
  replace ox : BoxO X W2.heap.size c := ox
  have HK := Lib.hid ox
  have HHV := Lib.hid (HHN.out X HTX.out)
  go_upto_region 3 with (refine wpList_skip rfl (sx rfl rfl rfl) ?_)
  clear sx
  go_wp2_with ((with_reducible refine wpList_load_obj ?_ rfl ?_ ox ?_); rfl; rfl)
  clear ox
  refine HHV.out.mono ?_
  rintro e W3 ⟨rfl, hb3⟩
  have HC3 := Lib.hid (HK.out.after hb3)
  have HA3 := Lib.hid (HO.out.after hb3)
  have HW3 := Lib.hid (HW.out.trans (hb3.mono HW.out.size))
  have HL3 := Lib.hid (HLX.out.after hb3)
  have HT3 := Lib.hid (HTX.out.after hb3)
  clear HK HO HW HLX HTX HHV
  clear hb3
  obtain ⟨o1, o2, o3⟩ := HO123.out
  have e3 := HE3.out
  have c17 := HC3.out.c17
  go_upto_region 9 with (fail)
  clear o1 o2 o3 HO123 c17 e3 HE3
  have HVC := Lib.hid (HVL.out W3 _ HL3.out HT3.out)
  have hc3 := HC3.out
  go_wp2_with ((with_reducible refine wpList_load_obj ?_ rfl ?_ hc3 ?_); rfl; rfl)
  clear hc3
  refine HVC.out.mono ?_
  rintro e W4 ⟨rfl, hb4⟩
  obtain ⟨X4, sx4, ox4, lx4, -⟩ := boxing W4 ((none : Option Obj).getD O0)
  have h34 := hb4.trans (lx4.mono hb4.size)
  have HC4 := Lib.hid (HC3.out.after h34)
  have HA4 := Lib.hid (HA3.out.after h34)
  have HW4 := Lib.hid (HW3.out.trans (h34.mono HW3.out.size))
  have HL4 := Lib.hid (HL3.out.after h34)
  have HT4 := Lib.hid (HT3.out.after h34)
  have hn4 : W2.heap.size < W4.heap.size := Nat.lt_of_lt_of_le (Array.getElem?_eq_some_iff.1 HC3.out).1 hb4.size
  have HN4 := Lib.hid hn4
  clear HVC hb4 lx4 h34 HC3 HA3 HW3 HL3 HT3 HVL hn4
  clear ox4
  have c4 := HC4.out.c4
  rw [HD.out] at c4
  go_upto_region 13 with (refine wpList_skip rfl (sx4 rfl rfl rfl) ?_)
  clear sx4
  go_upto_region 14 with (fail)
  clear c4 HHN HL4 HT4
  have c18 := HC4.out.c18
  have c17 := HC4.out.c17
  have e0 := H0.out
  rw [H2.out] at c17
  go_upto_region 17 with (fail)
  clear e0
  have f17 := HC4.out.free 17
  have f18 := HC4.out.free 18
  have hcb : w.heap.size ≤ W2.heap.size := Nat.le_of_lt HNE.out
  go_upto_region 18 with (fail)
  refine wp_gen (fun V => BoxO V W2.heap.size ({ c with phase := 1, num := IntKind.u64.wrap (ver + 1) } : Obj) ∧ BoxA V w.heap.size nothing ∧ Below w.heap.size w V)
    ⟨(HC4.out.s17 1).s18 _, (heap_setCell_other _ ⟨W2.heap.size, 18, none⟩ w.heap.size _ (by have := HNE.out; show w.heap.size ≠ W2.heap.size; omega)).trans ((heap_setCell_other _ ⟨W2.heap.size, 17, none⟩ w.heap.size _ (by have := HNE.out; show w.heap.size ≠ W2.heap.size; omega)).trans HA4.out),
      (HW4.out.setCell hcb _).setCell hcb _⟩ ?_
  clear c18 c17 f17 f18 HC4 HA4 HW4 hcb
  rintro V5 ⟨hk5, ho5, hw5⟩
  have HC5 := Lib.hid hk5
  have HA5 := Lib.hid ho5
  have HW5 := Lib.hid hw5
  clear hk5 ho5 hw5
  have HAC := Lib.hid (fun V => rwrite_any { c with phase := 1, num := IntKind.u64.wrap (ver + 1) } V)
  have hcx := HC5.out
  rw [HXX.out] at HAC
  have HO9 := Lib.hid (HA5.out)
  have HW9 := Lib.hid (HW5.out)
  clear HXX
  go_wp2_with ((with_reducible refine wpList_load_obj ?_ rfl ?_ hcx ?_); rfl; rfl)
  refine (HAC.out _).mono ?_
  rintro e W7 ⟨rfl, hb7⟩
  obtain ⟨V8, hst8, ho, -, hb⟩ := acting (HO9.out.after hb7) x
  have HO8 := Lib.hid ho
  have HX8 := Lib.hid (hb _ _ (HW9.out.trans (hb7.mono HW9.out.size)) (Nat.le_refl _))
  clear ho hb HAC hb7 hcx HO9 HW9
  go_wp2_with (refine wpList_skip rfl (hst8 rfl rfl rfl) ?_)
  refine bodyPost_ret (v := encA x) (results_cell_row rfl _ _ w.heap.size 36 (cellsA x) (0, 0) _ rfl HO8.out undAct rfl sizeAct) rfl ?_
  exact ⟨rfl, HX8.out⟩

set_option maxRecDepth 100000 in
set_option maxHeartbeats 8000000 in
theorem rcl_off (l : List Obj) (v : Value) (ver : Int) (name : ByteArray) (w : World) (hl : ObjsIn w v l) (hn : l.length < 100000) (ht : Tab w) (hall : ∀ s ∈ l, (0 ≤ s.born ∧ s.born ≤ 18446744073709551615) ∧ s.name.size ≤ 140737488351232) (c : Obj) (hr : getL l 3 name = some c) (hh : ¬ handleN c = E0) (hp : ¬ c.phase = 3) (hv : volN l c = none) (hd : c.deleting = true) (h0 : ¬ c.num = 0) (h2 : ¬ c.phase = 2) :
    Calls Tryd.prog 9 #[v, .int .u64 ver, .string name] w fun e w' => e = .returned (encA (askA ⟨2, handleN c, c.num, 0, E0, E0, E0⟩)) ∧ Below w.heap.size w w' := by
  have HU := Lib.hid (fun V (hV : ObjsIn V v l) => uniq_any l v V hV hn)
  have hnL : (uniqL l).length < 100000 := Nat.lt_of_le_of_lt (uniq_len l) hn
  obtain ⟨o, cp, rfl, -, -⟩ := id hl
  have HL0 := Lib.hid hl
  have HT := Lib.hid ht
  have hug := uniq_get l 3 name
  rw [hr] at hug
  have hcin := hall c (List.mem_of_find?_eq_some hr)
  have HHN := Lib.hid (fun V (hV : Tab V) => rhandle_any c V hV hcin.1 hcin.2)
  have o1 : (handleN c).toList ≠ [] := fun e => hh ((emp_iff _).1 e)
  have o2 : ((handleN c).toList == []) = false := by simpa using o1
  have o3 : (handleN c).toList.isEmpty = false := by simpa using o1
  generalize handleN c = h at *
  have e3 : (c.phase == 3) = false := by simpa using hp
  have HE3 := Lib.hid e3
  clear hh hp e3
  have HO123 := Lib.hid (And.intro o1 (And.intro o2 o3))
  clear o1 o2 o3
  have hvl := vol_is l c
  rw [hv] at hvl
  clear hv
  have HD := Lib.hid hd
  clear hd
  have e0 : (c.num == 0) = false := by simpa using h0
  have e2 : (c.phase == 2) = false := by simpa using h2
  have H0 := Lib.hid e0
  have H2 := Lib.hid e2
  have HTW := Lib.hid ht
  clear h0 e0 h2 e2
  obtain ⟨k, hk⟩ : ∃ k : Cl, (⟨2, h, c.num, 0, E0, E0, E0⟩ : Cl) = k := ⟨_, rfl⟩
  have HK := Lib.hid hk
  rw [hk]
  clear hk
  clear hr
  generalize uniqL l = L at *
  have HVL := Lib.hid (fun (V : World) (s : Value) (hV : ObjsIn V s L) (hT : Tab V) => rvol_any L s c V hV hT hcin.1 hcin.2)
  rw [hvl] at HVL
  clear hvl
  have HG := Lib.hid (fun (V : World) (s : Value) (hV : ObjsIn V s L) => rget_any L s 3 name V hV)
  rw [hug] at HG
  clear hl hn ht hall hug hnL hcin
  go_enter Tryd.func9, Tryd.ntmps9
  go_upto_region 1 with (fail)
  refine wp_gen (fun V => BoxA V w.heap.size nothing ∧ Below w.heap.size w V) ⟨heap_alloc_new _ _, (Below.refl _ _).alloc (Nat.le_refl _) _⟩ ?_
  rintro V0 ⟨ho, hl⟩
  have HO0 := Lib.hid ho
  have HW0 := Lib.hid hl
  have HUV := Lib.hid (HU.out V0 (HL0.out.after hl))
  clear ho hl HU HL0
  go_wp2_with (fail)
  refine HUV.out.mono ?_
  rintro e W1 ⟨lv, rfl, hl1, hb1⟩
  have HO1 := Lib.hid (HO0.out.after hb1)
  have HW1 := Lib.hid (HW0.out.trans (hb1.mono HW0.out.size))
  obtain ⟨o1, c1, rfl, hm, -⟩ := id hl1
  have HL := Lib.hid hl1
  have HGV := Lib.hid (HG.out W1 _ hl1)
  clear HUV HO0 HW0 hb1 hl1 HG
  go_wp2_with (fail)
  refine HGV.out.mono ?_
  rintro e W2 ⟨rfl, hb2⟩
  obtain ⟨X, sx, ox, lx, -⟩ := boxing W2 ((some c).getD O0)
  have hwx := hb2.trans (lx.mono hb2.size)
  have hne : w.heap.size < W2.heap.size := Nat.lt_of_lt_of_le (Array.getElem?_eq_some_iff.1 HO1.out).1 hb2.size
  have HO := Lib.hid (HO1.out.after hwx)
  have HW := Lib.hid (HW1.out.trans (hwx.mono HW1.out.size))
  have HLX := Lib.hid (HL.out.after hwx)
  have HTX := Lib.hid (HT.out.after HW.out)
  have HNE := Lib.hid hne
  clear HGV hb2 lx hwx HO1 HW1 HL HT hne
  replace ox : BoxO X W2.heap.size c := ox
  have HK := Lib.hid ox
  have HHV := Lib.hid (HHN.out X HTX.out)
  go_upto_region 3 with (refine wpList_skip rfl (sx rfl rfl rfl) ?_)
  clear sx
  go_wp2_with ((with_reducible refine wpList_load_obj ?_ rfl ?_ ox ?_); rfl; rfl)
  clear ox
  refine HHV.out.mono ?_
  rintro e W3 ⟨rfl, hb3⟩
  have HC3 := Lib.hid (HK.out.after hb3)
  have HA3 := Lib.hid (HO.out.after hb3)
  have HW3 := Lib.hid (HW.out.trans (hb3.mono HW.out.size))
  have HL3 := Lib.hid (HLX.out.after hb3)
  have HT3 := Lib.hid (HTX.out.after hb3)
  clear HK HO HW HLX HTX HHV
  clear hb3
  obtain ⟨o1, o2, o3⟩ := HO123.out
  have e3 := HE3.out
  have c17 := HC3.out.c17
  go_upto_region 9 with (fail)
  clear o1 o2 o3 HO123 c17 e3 HE3
  have HVC := Lib.hid (HVL.out W3 _ HL3.out HT3.out)
  have hc3 := HC3.out
  go_wp2_with ((with_reducible refine wpList_load_obj ?_ rfl ?_ hc3 ?_); rfl; rfl)
  clear hc3
  refine HVC.out.mono ?_
  rintro e W4 ⟨rfl, hb4⟩
  obtain ⟨X4, sx4, ox4, lx4, -⟩ := boxing W4 ((none : Option Obj).getD O0)
  have h34 := hb4.trans (lx4.mono hb4.size)
  have HC4 := Lib.hid (HC3.out.after h34)
  have HA4 := Lib.hid (HA3.out.after h34)
  have HW4 := Lib.hid (HW3.out.trans (h34.mono HW3.out.size))
  have HL4 := Lib.hid (HL3.out.after h34)
  have HT4 := Lib.hid (HT3.out.after h34)
  have hn4 : W2.heap.size < W4.heap.size := Nat.lt_of_lt_of_le (Array.getElem?_eq_some_iff.1 HC3.out).1 hb4.size
  have HN4 := Lib.hid hn4
  clear HVC hb4 lx4 h34 HC3 HA3 HW3 HL3 HT3 HVL hn4
  clear ox4
  have c4 := HC4.out.c4
  rw [HD.out] at c4
  go_upto_region 13 with (refine wpList_skip rfl (sx4 rfl rfl rfl) ?_)
  clear sx4
  go_upto_region 14 with (fail)
  clear c4 HL4
  have c18 := HC4.out.c18
  have c17 := HC4.out.c17
  have e0 := H0.out
  have e2 := H2.out
  go_upto_region 19 with (fail)
  clear c17 c18 e0 e2
  have HA := HC4
  have HO := Lib.hid (⟨_, HA4.out⟩ : AnyA X4 w.heap.size)
  have HL := HW4
  have HT := HT4
  have hcb := HNE.out
  generalize W2.heap.size = cb at *
  have HCB := Lib.hid hcb
  clear HC4 HA4 HW4 HT4 hcb
  refine wp_region_held_drew (S := fun V => BoxO V cb c ∧ AnyA V w.heap.size ∧ Below w.heap.size w V ∧ Tab V) (by kernel_rfl) ⟨HA.out, HO.out, HL.out.drew, HT.out.drew⟩ (fun _ => ?_)
  refine HeldBy.gen (fun V => BoxO V cb c ∧ AnyA V w.heap.size ∧ Below w.heap.size w V ∧ Tab V) ⟨HA.out, HO.out, HL.out.drew, HT.out.drew⟩ ?_
  clear HA HO HL HT
  rintro U0 HS
  refine HeldBy.take (i := 0) (v := encO c) rfl (by kernel_rfl) (by kernel_rfl) (by kernel_rfl) (fun _ _ _ h => h) (by rfl) (fun V hV => load_obj hV.1 rfl rfl) (by first | (go_simp; rfl) | (go_simp; done)) HS ?_
  refine HeldBy.take (i := 2) rfl (by kernel_rfl) (by kernel_rfl) (by kernel_rfl) (fun _ _ _ h => h) (by rfl) (fun _ _ => by first | (go_simp; rfl) | (go_simp; done)) (by first | (go_simp; rfl) | (go_simp; done)) HS ?_
  refine HeldBy.take (i := 3) rfl (by kernel_rfl) (by kernel_rfl) (by kernel_rfl) (fun _ _ _ h => h) (by rfl) (fun V hV => by have hc := hV.1.c18; first | (go_simp; rfl) | (go_simp; done)) (by first | (go_simp; rfl) | (go_simp; done)) HS ?_
  refine HeldBy.call (i := 1) (v := .string h) rfl (by kernel_rfl) (by rfl) (by first | (go_simp; done) | (go_simp; first | exact ⟨rfl, rfl⟩ | rfl)) (by first | (go_simp; rfl) | (go_simp; done)) ?_
  refine (HHN.out _ HS.2.2.2).mono ?_
  rintro e U1 ⟨rfl, hb⟩
  replace HS : BoxO U1 cb c ∧ AnyA U1 w.heap.size ∧ Below w.heap.size w U1 ∧ Tab U1 := ⟨HS.1.after hb, HS.2.1.after hb, HS.2.2.1.trans (hb.mono HS.2.2.1.size), HS.2.2.2.after hb⟩
  refine ⟨rfl, HS, ?_⟩
  clear hb
  refine HeldBy.take (i := 4) (v := encC k) rfl (by kernel_rfl) (by kernel_rfl) (by kernel_rfl) (fun _ _ _ h => h) (by rfl) (fun _ _ => by have hk := HK.out; subst hk; exact exec_build 34 _ rfl _ (by exact built_erase h c.num)) (by first | (go_simp; rfl) | (go_simp; done)) HS ?_
  refine HeldBy.call (i := 5) (v := encA (askA k)) rfl (by kernel_rfl) (by rfl) (by first | (go_simp; done) | (go_simp; first | exact ⟨rfl, rfl⟩ | rfl)) (by first | (go_simp; rfl) | (go_simp; done)) ?_
  refine (rask_any k _).mono ?_
  rintro e U2 ⟨rfl, hb⟩
  replace HS : BoxO U2 cb c ∧ AnyA U2 w.heap.size ∧ Below w.heap.size w U2 ∧ Tab U2 := ⟨HS.1.after hb, HS.2.1.after hb, HS.2.2.1.trans (hb.mono HS.2.2.1.size), HS.2.2.2.after hb⟩
  refine ⟨rfl, HS, ?_⟩
  clear hb
  obtain ⟨p0, hp0⟩ := HS.2.1
  obtain ⟨V6, hst, ho, hoth, hb⟩ := acting hp0 (askA k)
  have HS6 : BoxO V6 cb c ∧ AnyA V6 w.heap.size ∧ Below w.heap.size w V6 ∧ Tab V6 := ⟨(hoth _ (by have := HCB.out; omega)).trans HS.1, ⟨_, ho⟩, hb _ _ HS.2.2.1 (Nat.le_refl _), HTW.out.after (hb _ _ HS.2.2.1 (Nat.le_refl _))⟩
  refine HeldBy.store (i := 6) (w' := V6) rfl (by kernel_rfl) (by rfl) (hst rfl rfl rfl) (by first | (go_simp; rfl) | (go_simp; done)) HS6 ?_
  refine wpAnyH_done (by kernel_rfl) ?_ _
  have HO6 := Lib.hid ho
  have HX := Lib.hid HS6.2.2.1
  clear hst ho hoth hb HS HS6 hp0
  go_wp2
  refine bodyPost_ret (v := encA (askA k)) (results_cell_row rfl _ _ w.heap.size 36 (cellsA (askA k)) (0, 0) _ rfl HO6.out undAct rfl sizeAct) rfl ?_
  exact ⟨rfl, HX.out⟩
end Go.Proofs.YtfpdchabknoklaaDoor.O.B
namespace Go.Proofs.YtfpdchabknoklaaDoor.O.B
open Go Go.RowKit Go.Shelf Go.Lib RangeMap KM
attribute [local go_sem] Oper.semAt_some

theorem BoxC.after {W W' : World} {b : Nat} {c : Cl} (h : BoxC W b c) (hb : Below W.heap.size W W') : BoxC W' b c := (hb.block b (Array.getElem?_eq_some_iff.1 h).1).trans h


set_option maxRecDepth 100000 in
set_option maxHeartbeats 8000000 in
theorem rcl_make0 (l : List Obj) (v : Value) (ver : Int) (name : ByteArray) (w : World) (hl : ObjsIn w v l) (hn : l.length < 100000) (ht : Tab w) (hall : ∀ s ∈ l, (0 ≤ s.born ∧ s.born ≤ 18446744073709551615) ∧ s.name.size ≤ 140737488351232) (c : Obj) (hr : getL l 3 name = some c) (hh : ¬ handleN c = E0) (hp : ¬ c.phase = 3) (hv : volN l c = none) (hd : c.deleting = false) (h2 : c.phase = 2) (hs : c.source = E0) :
    Calls Tryd.prog 9 #[v, .int .u64 ver, .string name] w fun e w' => e = .returned (encA (askA ⟨1, handleN c, c.num, c.size, c.zone, E0, E0⟩)) ∧ Below w.heap.size w w' := by
  have HU := Lib.hid (fun V (hV : ObjsIn V v l) => uniq_any l v V hV hn)
  have hnL : (uniqL l).length < 100000 := Nat.lt_of_le_of_lt (uniq_len l) hn
  obtain ⟨o, cp, rfl, -, -⟩ := id hl
  have HL0 := Lib.hid hl
  have HT := Lib.hid ht
  have hug := uniq_get l 3 name
  rw [hr] at hug
  have hcin := hall c (List.mem_of_find?_eq_some hr)
  have HHN := Lib.hid (fun V (hV : Tab V) => rhandle_any c V hV hcin.1 hcin.2)
  have o1 : (handleN c).toList ≠ [] := fun e => hh ((emp_iff _).1 e)
  have o2 : ((handleN c).toList == []) = false := by simpa using o1
  have o3 : (handleN c).toList.isEmpty = false := by simpa using o1
  generalize handleN c = h at *
  have e3 : (c.phase == 3) = false := by simpa using hp
  have HE3 := Lib.hid e3
  clear hh hp e3
  have HO123 := Lib.hid (And.intro o1 (And.intro o2 o3))
  clear o1 o2 o3
  have hvl := vol_is l c
  rw [hv] at hvl
  clear hv
  have HD := Lib.hid hd
  have H2 := Lib.hid h2
  clear hd h2
  have s1 : c.source.toList = [] := (emp_iff _).2 hs
  have s2 : (c.source.toList == []) = true := by simp [s1]
  have s3 : c.source.toList.isEmpty = true := by simp [s1]
  have HS123 := Lib.hid (And.intro s1 (And.intro s2 s3))
  clear hs s1 s2 s3
  obtain ⟨k, hk⟩ : ∃ k : Cl, (⟨1, h, c.num, c.size, c.zone, E0, E0⟩ : Cl) = k := ⟨_, rfl⟩
  have HK := Lib.hid hk
  rw [hk]
  obtain ⟨x, hx⟩ : ∃ x, askA k = x := ⟨_, rfl⟩
  rw [hx]
  have HXX := Lib.hid hx
  clear hx

  clear hk
  clear hr
  generalize uniqL l = L at *
  have HVL := Lib.hid (fun (V : World) (s : Value) (hV : ObjsIn V s L) (hT : Tab V) => rvol_any L s c V hV hT hcin.1 hcin.2)
  rw [hvl] at HVL
  clear hvl
  have HG := Lib.hid (fun (V : World) (s : Value) (hV : ObjsIn V s L) => rget_any L s 3 name V hV)
  rw [hug] at HG
  clear hl hn ht hall hug hnL hcin
  go_enter Tryd.func9, Tryd.ntmps9
  go_upto_region 1 with (fail)
  refine wp_gen (fun V => BoxA V w.heap.size nothing ∧ Below w.heap.size w V) ⟨heap_alloc_new _ _, (Below.refl _ _).alloc (Nat.le_refl _) _⟩ ?_
  rintro V0 ⟨ho, hl⟩
  have HO0 := Lib.hid ho
  have HW0 := Lib.hid hl
  have HUV := Lib.hid (HU.out V0 (HL0.out.after hl))
  clear ho hl HU HL0
  go_wp2_with (fail)
  refine HUV.out.mono ?_
  rintro e W1 ⟨lv, rfl, hl1, hb1⟩
  have HO1 := Lib.hid (HO0.out.after hb1)
  have HW1 := Lib.hid (HW0.out.trans (hb1.mono HW0.out.size))
  obtain ⟨o1, c1, rfl, hm, -⟩ := id hl1
  have HL := Lib.hid hl1
  have HGV := Lib.hid (HG.out W1 _ hl1)
  clear HUV HO0 HW0 hb1 hl1 HG
  go_wp2_with (fail)
  refine HGV.out.mono ?_
  rintro e W2 ⟨rfl, hb2⟩
  obtain ⟨X, sx, ox, lx, -⟩ := boxing W2 ((some c).getD O0)
  have hwx := hb2.trans (lx.mono hb2.size)
  have hne : w.heap.size < W2.heap.size := Nat.lt_of_lt_of_le (Array.getElem?_eq_some_iff.1 HO1.out).1 hb2.size
  have HO := Lib.hid (HO1.out.after hwx)
  have HW := Lib.hid (HW1.out.trans (hwx.mono HW1.out.size))
  have HLX := Lib.hid (HL.out.after hwx)
  have HTX := Lib.hid (HT.out.after HW.out)
  have HNE := Lib.hid hne
  clear HGV hb2 lx hwx HO1 HW1 HL HT hne
  replace ox : BoxO X W2.heap.size c := ox
  have HK := Lib.hid ox
  have HHV := Lib.hid (HHN.out X HTX.out)
  go_upto_region 3 with (refine wpList_skip rfl (sx rfl rfl rfl) ?_)
  clear sx
  go_wp2_with ((with_reducible refine wpList_load_obj ?_ rfl ?_ ox ?_); rfl; rfl)
  clear ox
  refine HHV.out.mono ?_
  rintro e W3 ⟨rfl, hb3⟩
  have HC3 := Lib.hid (HK.out.after hb3)
  have HA3 := Lib.hid (HO.out.after hb3)
  have HW3 := Lib.hid (HW.out.trans (hb3.mono HW.out.size))
  have HL3 := Lib.hid (HLX.out.after hb3)
  have HT3 := Lib.hid (HTX.out.after hb3)
  clear HK HO HW HLX HTX HHV
  clear hb3
  obtain ⟨o1, o2, o3⟩ := HO123.out
  have e3 := HE3.out
  have c17 := HC3.out.c17
  go_upto_region 9 with (fail)
  clear o1 o2 o3 HO123 c17 e3 HE3
  have HVC := Lib.hid (HVL.out W3 _ HL3.out HT3.out)
  have hc3 := HC3.out
  go_wp2_with ((with_reducible refine wpList_load_obj ?_ rfl ?_ hc3 ?_); rfl; rfl)
  clear hc3
  refine HVC.out.mono ?_
  rintro e W4 ⟨rfl, hb4⟩
  obtain ⟨X4, sx4, ox4, lx4, -⟩ := boxing W4 ((none : Option Obj).getD O0)
  have h34 := hb4.trans (lx4.mono hb4.size)
  have HC4 := Lib.hid (HC3.out.after h34)
  have HA4 := Lib.hid (HA3.out.after h34)
  have HW4 := Lib.hid (HW3.out.trans (h34.mono HW3.out.size))
  have HL4 := Lib.hid (HL3.out.after h34)
  have HT4 := Lib.hid (HT3.out.after h34)
  have hn4 : W2.heap.size < W4.heap.size := Nat.lt_of_lt_of_le (Array.getElem?_eq_some_iff.1 HC3.out).1 hb4.size
  have HN4 := Lib.hid hn4
  clear HVC hb4 lx4 h34 HC3 HA3 HW3 HL3 HT3 HVL hn4
  clear ox4
  have c4 := HC4.out.c4
  rw [HD.out] at c4
  go_upto_region 20 with (refine wpList_skip rfl (sx4 rfl rfl rfl) ?_)
  clear sx4 c4
  have c17 := HC4.out.c17
  rw [H2.out] at c17
  have e2 := H2.out
  go_upto_region 21 with (fail)
  clear c17 e2
  have HA := HC4
  have HO := HA4
  have HL := HW4
  have HT := HT4
  have HB := HL4
  have hcb := HNE.out
  generalize W2.heap.size = cb at *
  have HCB := Lib.hid hcb
  clear HC4 HA4 HW4 HT4 HL4 hcb
  refine wp_region_held_drew (S := fun V => BoxO V cb c ∧ BoxA V w.heap.size nothing ∧ Below w.heap.size w V ∧ Tab V ∧ ObjsIn V (.slice o1 L.length c1) L) (by kernel_rfl) ⟨HA.out, HO.out, HL.out.drew, HT.out.drew, HB.out⟩ (fun _ => ?_)
  refine HeldBy.gen (fun V => BoxO V cb c ∧ BoxA V w.heap.size nothing ∧ Below w.heap.size w V ∧ Tab V ∧ ObjsIn V (.slice o1 L.length c1) L) ⟨HA.out, HO.out, HL.out.drew, HT.out.drew, HB.out⟩ ?_
  clear HA HO HL HT HB
  rintro U0 HS
  refine HeldBy.take (i := 0) (v := encO c) rfl (by kernel_rfl) (by kernel_rfl) (by kernel_rfl) (fun _ _ _ h => h) (by rfl) (fun V hV => load_obj hV.1 rfl rfl) (by go_simp; rfl) HS ?_
  refine HeldBy.take (i := 2) rfl (by kernel_rfl) (by kernel_rfl) (by kernel_rfl) (fun _ _ _ h => h) (by rfl) (fun _ _ => by first | (go_simp; rfl) | (go_simp; done)) (by go_simp; rfl) HS ?_
  refine HeldBy.take (i := 3) rfl (by kernel_rfl) (by kernel_rfl) (by kernel_rfl) (fun _ _ _ h => h) (by rfl) (fun V hV => by have hc := hV.1.c18; first | (go_simp; rfl) | (go_simp; done)) (by go_simp; rfl) HS ?_
  refine HeldBy.take (i := 4) rfl (by kernel_rfl) (by kernel_rfl) (by kernel_rfl) (fun _ _ _ h => h) (by rfl) (fun _ _ => by first | (go_simp; rfl) | (go_simp; done)) (by go_simp; rfl) HS ?_
  refine HeldBy.take (i := 5) rfl (by kernel_rfl) (by kernel_rfl) (by kernel_rfl) (fun _ _ _ h => h) (by rfl) (fun V hV => by have hc := hV.1.c7; first | (go_simp; rfl) | (go_simp; done)) (by go_simp; rfl) HS ?_
  refine HeldBy.take (i := 6) rfl (by kernel_rfl) (by kernel_rfl) (by kernel_rfl) (fun _ _ _ h => h) (by rfl) (fun _ _ => by first | (go_simp; rfl) | (go_simp; done)) (by go_simp; rfl) HS ?_
  refine HeldBy.take (i := 7) rfl (by kernel_rfl) (by kernel_rfl) (by kernel_rfl) (fun _ _ _ h => h) (by rfl) (fun V hV => by have hc := hV.1.c12; first | (go_simp; rfl) | (go_simp; done)) (by go_simp; rfl) HS ?_
  have HSS : ∀ w', Below U0.heap.size U0 w' → (BoxO w' cb c ∧ BoxA w' w.heap.size nothing ∧ Below w.heap.size w w' ∧ Tab w' ∧ ObjsIn w' (.slice o1 L.length c1) L) := fun w' hb => ⟨HS.1.after hb, HS.2.1.after hb, HS.2.2.1.trans (hb.mono HS.2.2.1.size), HS.2.2.2.1.after hb, HS.2.2.2.2.after hb⟩
  refine HeldBy.Goes.without (w0 := U0) (k := 9) (dk := some 12) (x := .cells (cellsC C0) 34 (0, 0)) ?_ U0 (Below.refl _ _)
  refine HeldBy.Goes.callS (i := 1) (v := .string h) rfl rfl rfl rfl (makes_c rfl) rfl (by kernel_rfl) (by kernel_rfl) rfl (by decide) (by kernel_rfl) (by intro w; first | (go_simp; done) | (go_simp; first | exact ⟨rfl, rfl⟩ | rfl)) (by first | (go_simp; rfl) | (go_simp; done)) HSS (fun _ HS => HHN.out _ HS.2.2.2.1) ?_
  refine HeldBy.Goes.take (i := 8) (v := encC k) rfl (by kernel_rfl) rfl (by kernel_rfl) (by kernel_rfl) (by kernel_rfl) (by kernel_rfl) (fun _ _ _ h => h) rfl (by decide) (by kernel_rfl) (fun _ _ => by have hk := HK.out; subst hk; exact exec_build 34 _ rfl _ (by exact built_create h c.zone c.num c.size)) (by first | (go_simp; rfl) | (go_simp; done)) HSS ?_
  refine HeldBy.Goes.nil rfl rfl (by kernel_rfl) rfl (makes_c rfl) HSS rfl (fun p => by unfold HeldBy.ptr; go_simp; rfl) ?_
  intro p U1 hp hb hn
  have hlt := HS.1.lt
  have hcb := HCB.out
  have hS := HSS U1 hb
  obtain ⟨V3, hV3⟩ : ∃ V3, U1.setRow p (cellsC k) = V3 := ⟨_, rfl⟩
  have hpc : cb < p := by omega
  have hc3 : BoxC V3 p k := by rw [← hV3]; exact setRow_heap U1 p _ _ _ _ hn
  have ha3 : BoxO V3 cb c := by rw [← hV3]; exact hS.1.row (by omega) _
  have ho3 : BoxA V3 w.heap.size nothing := by rw [← hV3]; exact (setRow_other U1 p _ _ (by omega)).trans hS.2.1
  have hl3 : Below w.heap.size w V3 := by rw [← hV3]; exact below_setRow hS.2.2.1 (by omega) _
  have hb3 : Below U0.heap.size U0 V3 := by rw [← hV3]; exact below_setRow hb (by omega) _
  refine HeldBy.store (i := 10) (w' := V3) rfl (by kernel_rfl) (by rfl) (by rw [← hV3]; exact exec_store_call hn rfl rfl rfl) (by first | (go_simp; rfl) | (go_simp; done)) ⟨ha3, ho3, hl3, HS.2.2.2.1.after hb3, HS.2.2.2.2.after hb3⟩ ?_
  refine wpAnyH_done (by kernel_rfl) ?_ _
  have HP := Lib.hid hpc
  have HC5 := Lib.hid hc3
  have HO5 := Lib.hid ha3
  have HA5 := Lib.hid ho3
  have HW5 := Lib.hid hl3
  have HT5 := Lib.hid (HS.2.2.2.1.after hb3)
  have HB5 := Lib.hid (HS.2.2.2.2.after hb3)
  have c16 := ha3.c16
  clear hV3 hlt hS HSS HS hp hb hn hc3 ha3 ho3 hl3 hb3 hpc hcb
  obtain ⟨s1, s2, s3⟩ := HS123.out
  clear HHN HO5
  have HCA := Lib.hid (fun V => rask_any k V)
  have hcc := HC5.out
  rw [HXX.out] at HCA
  clear HXX
  go_wp2_with (refine wpList_got rfl (load_call hcc rfl rfl) ?_)
  refine (HCA.out _).mono ?_
  rintro e W7 ⟨rfl, hb7⟩
  obtain ⟨V8, hst8, ho, -, hb⟩ := acting (HA5.out.after hb7) x
  have HO8 := Lib.hid ho
  have HX8 := Lib.hid (hb _ _ (HW5.out.trans (hb7.mono HW5.out.size)) (Nat.le_refl _))
  clear ho hb HCA hcc hb7
  go_wp2_with (refine wpList_skip rfl (hst8 rfl rfl rfl) ?_)
  refine bodyPost_ret (v := encA x) (results_cell_row rfl _ _ w.heap.size 36 (cellsA x) (0, 0) _ rfl HO8.out undAct rfl sizeAct) rfl ?_
  exact ⟨rfl, HX8.out⟩

set_option maxRecDepth 100000 in
set_option maxHeartbeats 8000000 in
theorem rcl_make1 (l : List Obj) (v : Value) (ver : Int) (name : ByteArray) (w : World) (hl : ObjsIn w v l) (hn : l.length < 100000) (ht : Tab w) (hall : ∀ s ∈ l, (0 ≤ s.born ∧ s.born ≤ 18446744073709551615) ∧ s.name.size ≤ 140737488351232) (c : Obj) (hr : getL l 3 name = some c) (hh : ¬ handleN c = E0) (hp : ¬ c.phase = 3) (hv : volN l c = none) (hd : c.deleting = false) (h2 : c.phase = 2) (hs : ¬ c.source = E0) (hsn : getL l 7 c.source = none) :
    Calls Tryd.prog 9 #[v, .int .u64 ver, .string name] w fun e w' => e = .returned (encA (nothing)) ∧ Below w.heap.size w w' := by
  have HU := Lib.hid (fun V (hV : ObjsIn V v l) => uniq_any l v V hV hn)
  have hnL : (uniqL l).length < 100000 := Nat.lt_of_le_of_lt (uniq_len l) hn
  obtain ⟨o, cp, rfl, -, -⟩ := id hl
  have HL0 := Lib.hid hl
  have HT := Lib.hid ht
  have hug := uniq_get l 3 name
  rw [hr] at hug
  have hcin := hall c (List.mem_of_find?_eq_some hr)
  have HHN := Lib.hid (fun V (hV : Tab V) => rhandle_any c V hV hcin.1 hcin.2)
  have o1 : (handleN c).toList ≠ [] := fun e => hh ((emp_iff _).1 e)
  have o2 : ((handleN c).toList == []) = false := by simpa using o1
  have o3 : (handleN c).toList.isEmpty = false := by simpa using o1
  generalize handleN c = h at *
  have e3 : (c.phase == 3) = false := by simpa using hp
  have HE3 := Lib.hid e3
  clear hh hp e3
  have HO123 := Lib.hid (And.intro o1 (And.intro o2 o3))
  clear o1 o2 o3
  have hvl := vol_is l c
  rw [hv] at hvl
  clear hv
  have HD := Lib.hid hd
  have H2 := Lib.hid h2
  clear hd h2
  have s1 : c.source.toList ≠ [] := fun e => hs ((emp_iff _).1 e)
  have s2 : (c.source.toList == []) = false := by simpa using s1
  have s3 : c.source.toList.isEmpty = false := by simpa using s1
  have HS123 := Lib.hid (And.intro s1 (And.intro s2 s3))
  clear hs s1 s2 s3
  have hgs := uniq_get l 7 c.source
  rw [hsn] at hgs
  clear hsn
  obtain ⟨k, hk⟩ : ∃ k : Cl, (⟨1, h, c.num, c.size, c.zone, E0, E0⟩ : Cl) = k := ⟨_, rfl⟩
  have HK := Lib.hid hk
  skip
  clear hk
  clear hr
  generalize uniqL l = L at *
  have HVL := Lib.hid (fun (V : World) (s : Value) (hV : ObjsIn V s L) (hT : Tab V) => rvol_any L s c V hV hT hcin.1 hcin.2)
  rw [hvl] at HVL
  clear hvl
  have HGS := Lib.hid (fun (V : World) (s : Value) (hV : ObjsIn V s L) => rget_any L s 7 c.source V hV)
  rw [hgs] at HGS
  clear hgs
  have HG := Lib.hid (fun (V : World) (s : Value) (hV : ObjsIn V s L) => rget_any L s 3 name V hV)
  rw [hug] at HG
  clear hl hn ht hall hug hnL hcin
  go_enter Tryd.func9, Tryd.ntmps9
  go_upto_region 1 with (fail)
  refine wp_gen (fun V => BoxA V w.heap.size nothing ∧ Below w.heap.size w V) ⟨heap_alloc_new _ _, (Below.refl _ _).alloc (Nat.le_refl _) _⟩ ?_
  rintro V0 ⟨ho, hl⟩
  have HO0 := Lib.hid ho
  have HW0 := Lib.hid hl
  have HUV := Lib.hid (HU.out V0 (HL0.out.after hl))
  clear ho hl HU HL0
  go_wp2_with (fail)
  refine HUV.out.mono ?_
  rintro e W1 ⟨lv, rfl, hl1, hb1⟩
  have HO1 := Lib.hid (HO0.out.after hb1)
  have HW1 := Lib.hid (HW0.out.trans (hb1.mono HW0.out.size))
  obtain ⟨o1, c1, rfl, hm, -⟩ := id hl1
  have HL := Lib.hid hl1
  have HGV := Lib.hid (HG.out W1 _ hl1)
  clear HUV HO0 HW0 hb1 hl1 HG
  go_wp2_with (fail)
  refine HGV.out.mono ?_
  rintro e W2 ⟨rfl, hb2⟩
  obtain ⟨X, sx, ox, lx, -⟩ := boxing W2 ((some c).getD O0)
  have hwx := hb2.trans (lx.mono hb2.size)
  have hne : w.heap.size < W2.heap.size := Nat.lt_of_lt_of_le (Array.getElem?_eq_some_iff.1 HO1.out).1 hb2.size
  have HO := Lib.hid (HO1.out.after hwx)
  have HW := Lib.hid (HW1.out.trans (hwx.mono HW1.out.size))
  have HLX := Lib.hid (HL.out.after hwx)
  have HTX := Lib.hid (HT.out.after HW.out)
  have HNE := Lib.hid hne
  clear HGV hb2 lx hwx HO1 HW1 HL HT hne
  replace ox : BoxO X W2.heap.size c := ox
  have HK := Lib.hid ox
  have HHV := Lib.hid (HHN.out X HTX.out)
  go_upto_region 3 with (refine wpList_skip rfl (sx rfl rfl rfl) ?_)
  clear sx
  go_wp2_with ((with_reducible refine wpList_load_obj ?_ rfl ?_ ox ?_); rfl; rfl)
  clear ox
  refine HHV.out.mono ?_
  rintro e W3 ⟨rfl, hb3⟩
  have HC3 := Lib.hid (HK.out.after hb3)
  have HA3 := Lib.hid (HO.out.after hb3)
  have HW3 := Lib.hid (HW.out.trans (hb3.mono HW.out.size))
  have HL3 := Lib.hid (HLX.out.after hb3)
  have HT3 := Lib.hid (HTX.out.after hb3)
  clear HK HO HW HLX HTX HHV
  clear hb3
  obtain ⟨o1, o2, o3⟩ := HO123.out
  have e3 := HE3.out
  have c17 := HC3.out.c17
  go_upto_region 9 with (fail)
  clear o1 o2 o3 HO123 c17 e3 HE3
  have HVC := Lib.hid (HVL.out W3 _ HL3.out HT3.out)
  have hc3 := HC3.out
  go_wp2_with ((with_reducible refine wpList_load_obj ?_ rfl ?_ hc3 ?_); rfl; rfl)
  clear hc3
  refine HVC.out.mono ?_
  rintro e W4 ⟨rfl, hb4⟩
  obtain ⟨X4, sx4, ox4, lx4, -⟩ := boxing W4 ((none : Option Obj).getD O0)
  have h34 := hb4.trans (lx4.mono hb4.size)
  have HC4 := Lib.hid (HC3.out.after h34)
  have HA4 := Lib.hid (HA3.out.after h34)
  have HW4 := Lib.hid (HW3.out.trans (h34.mono HW3.out.size))
  have HL4 := Lib.hid (HL3.out.after h34)
  have HT4 := Lib.hid (HT3.out.after h34)
  have hn4 : W2.heap.size < W4.heap.size := Nat.lt_of_lt_of_le (Array.getElem?_eq_some_iff.1 HC3.out).1 hb4.size
  have HN4 := Lib.hid hn4
  clear HVC hb4 lx4 h34 HC3 HA3 HW3 HL3 HT3 HVL hn4
  clear ox4
  have c4 := HC4.out.c4
  rw [HD.out] at c4
  go_upto_region 20 with (refine wpList_skip rfl (sx4 rfl rfl rfl) ?_)
  clear sx4 c4
  have c17 := HC4.out.c17
  rw [H2.out] at c17
  have e2 := H2.out
  go_upto_region 21 with (fail)
  clear c17 e2
  have HA := HC4
  have HO := HA4
  have HL := HW4
  have HT := HT4
  have HB := HL4
  have hcb := HNE.out
  generalize W2.heap.size = cb at *
  have HCB := Lib.hid hcb
  clear HC4 HA4 HW4 HT4 HL4 hcb
  refine wp_region_held_drew (S := fun V => BoxO V cb c ∧ BoxA V w.heap.size nothing ∧ Below w.heap.size w V ∧ Tab V ∧ ObjsIn V (.slice o1 L.length c1) L) (by kernel_rfl) ⟨HA.out, HO.out, HL.out.drew, HT.out.drew, HB.out⟩ (fun _ => ?_)
  refine HeldBy.gen (fun V => BoxO V cb c ∧ BoxA V w.heap.size nothing ∧ Below w.heap.size w V ∧ Tab V ∧ ObjsIn V (.slice o1 L.length c1) L) ⟨HA.out, HO.out, HL.out.drew, HT.out.drew, HB.out⟩ ?_
  clear HA HO HL HT HB
  rintro U0 HS
  refine HeldBy.take (i := 0) (v := encO c) rfl (by kernel_rfl) (by kernel_rfl) (by kernel_rfl) (fun _ _ _ h => h) (by rfl) (fun V hV => load_obj hV.1 rfl rfl) (by go_simp; rfl) HS ?_
  refine HeldBy.take (i := 2) rfl (by kernel_rfl) (by kernel_rfl) (by kernel_rfl) (fun _ _ _ h => h) (by rfl) (fun _ _ => by first | (go_simp; rfl) | (go_simp; done)) (by go_simp; rfl) HS ?_
  refine HeldBy.take (i := 3) rfl (by kernel_rfl) (by kernel_rfl) (by kernel_rfl) (fun _ _ _ h => h) (by rfl) (fun V hV => by have hc := hV.1.c18; first | (go_simp; rfl) | (go_simp; done)) (by go_simp; rfl) HS ?_
  refine HeldBy.take (i := 4) rfl (by kernel_rfl) (by kernel_rfl) (by kernel_rfl) (fun _ _ _ h => h) (by rfl) (fun _ _ => by first | (go_simp; rfl) | (go_simp; done)) (by go_simp; rfl) HS ?_
  refine HeldBy.take (i := 5) rfl (by kernel_rfl) (by kernel_rfl) (by kernel_rfl) (fun _ _ _ h => h) (by rfl) (fun V hV => by have hc := hV.1.c7; first | (go_simp; rfl) | (go_simp; done)) (by go_simp; rfl) HS ?_
  refine HeldBy.take (i := 6) rfl (by kernel_rfl) (by kernel_rfl) (by kernel_rfl) (fun _ _ _ h => h) (by rfl) (fun _ _ => by first | (go_simp; rfl) | (go_simp; done)) (by go_simp; rfl) HS ?_
  refine HeldBy.take (i := 7) rfl (by kernel_rfl) (by kernel_rfl) (by kernel_rfl) (fun _ _ _ h => h) (by rfl) (fun V hV => by have hc := hV.1.c12; first | (go_simp; rfl) | (go_simp; done)) (by go_simp; rfl) HS ?_
  have HSS : ∀ w', Below U0.heap.size U0 w' → (BoxO w' cb c ∧ BoxA w' w.heap.size nothing ∧ Below w.heap.size w w' ∧ Tab w' ∧ ObjsIn w' (.slice o1 L.length c1) L) := fun w' hb => ⟨HS.1.after hb, HS.2.1.after hb, HS.2.2.1.trans (hb.mono HS.2.2.1.size), HS.2.2.2.1.after hb, HS.2.2.2.2.after hb⟩
  refine HeldBy.Goes.without (w0 := U0) (k := 9) (dk := some 12) (x := .cells (cellsC C0) 34 (0, 0)) ?_ U0 (Below.refl _ _)
  refine HeldBy.Goes.callS (i := 1) (v := .string h) rfl rfl rfl rfl (makes_c rfl) rfl (by kernel_rfl) (by kernel_rfl) rfl (by decide) (by kernel_rfl) (by intro w; first | (go_simp; done) | (go_simp; first | exact ⟨rfl, rfl⟩ | rfl)) (by first | (go_simp; rfl) | (go_simp; done)) HSS (fun _ HS => HHN.out _ HS.2.2.2.1) ?_
  refine HeldBy.Goes.take (i := 8) (v := encC k) rfl (by kernel_rfl) rfl (by kernel_rfl) (by kernel_rfl) (by kernel_rfl) (by kernel_rfl) (fun _ _ _ h => h) rfl (by decide) (by kernel_rfl) (fun _ _ => by have hk := HK.out; subst hk; exact exec_build 34 _ rfl _ (by exact built_create h c.zone c.num c.size)) (by first | (go_simp; rfl) | (go_simp; done)) HSS ?_
  refine HeldBy.Goes.nil rfl rfl (by kernel_rfl) rfl (makes_c rfl) HSS rfl (fun p => by unfold HeldBy.ptr; go_simp; rfl) ?_
  intro p U1 hp hb hn
  have hlt := HS.1.lt
  have hcb := HCB.out
  have hS := HSS U1 hb
  obtain ⟨V3, hV3⟩ : ∃ V3, U1.setRow p (cellsC k) = V3 := ⟨_, rfl⟩
  have hpc : cb < p := by omega
  have hc3 : BoxC V3 p k := by rw [← hV3]; exact setRow_heap U1 p _ _ _ _ hn
  have ha3 : BoxO V3 cb c := by rw [← hV3]; exact hS.1.row (by omega) _
  have ho3 : BoxA V3 w.heap.size nothing := by rw [← hV3]; exact (setRow_other U1 p _ _ (by omega)).trans hS.2.1
  have hl3 : Below w.heap.size w V3 := by rw [← hV3]; exact below_setRow hS.2.2.1 (by omega) _
  have hb3 : Below U0.heap.size U0 V3 := by rw [← hV3]; exact below_setRow hb (by omega) _
  refine HeldBy.store (i := 10) (w' := V3) rfl (by kernel_rfl) (by rfl) (by rw [← hV3]; exact exec_store_call hn rfl rfl rfl) (by first | (go_simp; rfl) | (go_simp; done)) ⟨ha3, ho3, hl3, HS.2.2.2.1.after hb3, HS.2.2.2.2.after hb3⟩ ?_
  refine wpAnyH_done (by kernel_rfl) ?_ _
  have HP := Lib.hid hpc
  have HC5 := Lib.hid hc3
  have HO5 := Lib.hid ha3
  have HA5 := Lib.hid ho3
  have HW5 := Lib.hid hl3
  have HT5 := Lib.hid (HS.2.2.2.1.after hb3)
  have HB5 := Lib.hid (HS.2.2.2.2.after hb3)
  have c16 := ha3.c16
  clear hV3 hlt hS HSS HS hp hb hn hc3 ha3 ho3 hl3 hb3 hpc hcb
  obtain ⟨s1, s2, s3⟩ := HS123.out
  have HGC := Lib.hid (HGS.out V3 _ HB5.out)
  clear HHN HO5
  go_upto_region 23 with (fail)
  clear s1 s2 s3 HS123
  go_wp2_with (fail)
  refine HGC.out.mono ?_
  rintro e W6 ⟨rfl, hb6⟩
  obtain ⟨X6, sx6, ox6, lx6, -⟩ := boxing W6 ((none : Option Obj).getD O0)
  have h56 := hb6.trans (lx6.mono hb6.size)
  have HA6 := Lib.hid (HA5.out.after h56)
  have HW6 := Lib.hid (HW5.out.trans (h56.mono HW5.out.size))
  have hc6 : BoxC X6 p k := (h56.block _ (Array.getElem?_eq_some_iff.1 HC5.out).1).trans HC5.out
  have HC6 := Lib.hid hc6
  have HT6 := Lib.hid (HT5.out.after h56)
  have hps : p < W6.heap.size := Nat.lt_of_lt_of_le (Array.getElem?_eq_some_iff.1 HC5.out).1 hb6.size
  have HPS := Lib.hid hps
  clear HGC hb6 lx6 h56 HA5 HW5 HC5 HT5 HB5 c16 hc6 hps
  clear ox6
  go_upto_region 24 with (refine wpList_skip rfl (sx6 rfl rfl rfl) ?_)
  clear sx6
  obtain ⟨V8, hst8, ho, -, hb⟩ := acting HA6.out nothing
  have HO8 := Lib.hid ho
  have HX8 := Lib.hid (hb _ _ HW6.out (Nat.le_refl _))
  clear ho hb
  go_wp2_with (first | (refine wpList_skip rfl (hst8 rfl rfl rfl) ?_) | ((with_reducible refine wpList_build_to rfl 36 _ rfl (cellsA nothing) ?_ ?_); exact built_act0'))
  refine bodyPost_ret (v := encA nothing) (results_cell_row rfl _ _ w.heap.size 36 (cellsA nothing) (0, 0) _ rfl HO8.out undAct rfl sizeAct) rfl ?_
  exact ⟨rfl, HX8.out⟩

set_option maxRecDepth 100000 in
set_option maxHeartbeats 8000000 in
theorem rcl_make2 (l : List Obj) (v : Value) (ver : Int) (name : ByteArray) (w : World) (hl : ObjsIn w v l) (hn : l.length < 100000) (ht : Tab w) (hall : ∀ s ∈ l, (0 ≤ s.born ∧ s.born ≤ 18446744073709551615) ∧ s.name.size ≤ 140737488351232) (c : Obj) (hr : getL l 3 name = some c) (hh : ¬ handleN c = E0) (hp : ¬ c.phase = 3) (hv : volN l c = none) (hd : c.deleting = false) (h2 : c.phase = 2) (hs : ¬ c.source = E0) (s : Obj) (hsn : getL l 7 c.source = some s) :
    Calls Tryd.prog 9 #[v, .int .u64 ver, .string name] w fun e w' => e = .returned (encA (askA ⟨1, handleN c, c.num, c.size, c.zone, E0, snapN s⟩)) ∧ Below w.heap.size w w' := by
  have HU := Lib.hid (fun V (hV : ObjsIn V v l) => uniq_any l v V hV hn)
  have hnL : (uniqL l).length < 100000 := Nat.lt_of_le_of_lt (uniq_len l) hn
  obtain ⟨o, cp, rfl, -, -⟩ := id hl
  have HL0 := Lib.hid hl
  have HT := Lib.hid ht
  have hug := uniq_get l 3 name
  rw [hr] at hug
  have hcin := hall c (List.mem_of_find?_eq_some hr)
  have HHN := Lib.hid (fun V (hV : Tab V) => rhandle_any c V hV hcin.1 hcin.2)
  have o1 : (handleN c).toList ≠ [] := fun e => hh ((emp_iff _).1 e)
  have o2 : ((handleN c).toList == []) = false := by simpa using o1
  have o3 : (handleN c).toList.isEmpty = false := by simpa using o1
  generalize handleN c = h at *
  have e3 : (c.phase == 3) = false := by simpa using hp
  have HE3 := Lib.hid e3
  clear hh hp e3
  have HO123 := Lib.hid (And.intro o1 (And.intro o2 o3))
  clear o1 o2 o3
  have hvl := vol_is l c
  rw [hv] at hvl
  clear hv
  have HD := Lib.hid hd
  have H2 := Lib.hid h2
  clear hd h2
  have s1 : c.source.toList ≠ [] := fun e => hs ((emp_iff _).1 e)
  have s2 : (c.source.toList == []) = false := by simpa using s1
  have s3 : c.source.toList.isEmpty = false := by simpa using s1
  have HS123 := Lib.hid (And.intro s1 (And.intro s2 s3))
  clear hs s1 s2 s3
  have hgs := uniq_get l 7 c.source
  rw [hsn] at hgs
  have HTW := Lib.hid ht
  have hsin := hall s (List.mem_of_find?_eq_some hsn)
  have HFM0 := Lib.hid (fun V (hV : Tab V) => fmt_any s.born hsin.1.1 hsin.1.2 V hV)
  have HDG0 := Lib.hid (digs_size hsin.1.1 hsin.1.2)
  have hsz := hsin.2
  have hSN : snapN s = snapP ++ s.name ++ ⟨#[35]⟩ ++ digs s.born := by
    unfold snapN bornN
    rw [ByteArray.append_assoc, ByteArray.append_assoc, ByteArray.append_assoc]
  rw [hSN]
  obtain ⟨dg, hdg⟩ : ∃ D, digs s.born = D := ⟨_, rfl⟩
  rw [hdg] at HFM0 HDG0 ⊢
  have HDG : Hid (dg.size ≤ 20) := HDG0.out
  have HFM : Hid (∀ V, Tab V → Calls Tryd.prog 34 #[.int .u64 s.born, .int .i64 10] V fun e w' => e = .returned (.string dg) ∧ Below V.heap.size V w') := HFM0.out
  have hA : (snapP ++ s.name : ByteArray).size = 5 + s.name.size := by rw [ByteArray.size_append]; rfl
  have hA2 : (snapP ++ s.name ++ ⟨#[35]⟩ : ByteArray).size = 5 + s.name.size + 1 := by rw [ByteArray.size_append, hA]; rfl
  have HSZ := Lib.hid (And.intro hA hA2)
  obtain ⟨S7, hS7⟩ : ∃ S, snapP ++ s.name ++ ⟨#[35]⟩ ++ dg = S := ⟨_, rfl⟩
  rw [hS7]
  have HSS2 := Lib.hid hS7
  clear hS7 hSN hdg hA hA2 hsin HDG0 HFM0 hsn
  obtain ⟨k, hk⟩ : ∃ k : Cl, (⟨1, h, c.num, c.size, c.zone, E0, E0⟩ : Cl) = k := ⟨_, rfl⟩
  have HK := Lib.hid hk
  rw [show (⟨1, h, c.num, c.size, c.zone, E0, S7⟩ : Cl) = { k with source := S7 } from by rw [← hk]]
  obtain ⟨x, hx⟩ : ∃ x, askA ({ k with source := S7 } : Cl) = x := ⟨_, rfl⟩
  rw [hx]
  have HXX := Lib.hid hx
  clear hx

  clear hk
  clear hr
  generalize uniqL l = L at *
  have HVL := Lib.hid (fun (V : World) (s : Value) (hV : ObjsIn V s L) (hT : Tab V) => rvol_any L s c V hV hT hcin.1 hcin.2)
  rw [hvl] at HVL
  clear hvl
  have HGS := Lib.hid (fun (V : World) (s : Value) (hV : ObjsIn V s L) => rget_any L s 7 c.source V hV)
  rw [hgs] at HGS
  clear hgs
  have HG := Lib.hid (fun (V : World) (s : Value) (hV : ObjsIn V s L) => rget_any L s 3 name V hV)
  rw [hug] at HG
  clear hl hn ht hall hug hnL hcin
  go_enter Tryd.func9, Tryd.ntmps9
  go_upto_region 1 with (fail)
  refine wp_gen (fun V => BoxA V w.heap.size nothing ∧ Below w.heap.size w V) ⟨heap_alloc_new _ _, (Below.refl _ _).alloc (Nat.le_refl _) _⟩ ?_
  rintro V0 ⟨ho, hl⟩
  have HO0 := Lib.hid ho
  have HW0 := Lib.hid hl
  have HUV := Lib.hid (HU.out V0 (HL0.out.after hl))
  clear ho hl HU HL0
  go_wp2_with (fail)
  refine HUV.out.mono ?_
  rintro e W1 ⟨lv, rfl, hl1, hb1⟩
  have HO1 := Lib.hid (HO0.out.after hb1)
  have HW1 := Lib.hid (HW0.out.trans (hb1.mono HW0.out.size))
  obtain ⟨o1, c1, rfl, hm, -⟩ := id hl1
  have HL := Lib.hid hl1
  have HGV := Lib.hid (HG.out W1 _ hl1)
  clear HUV HO0 HW0 hb1 hl1 HG
  go_wp2_with (fail)
  refine HGV.out.mono ?_
  rintro e W2 ⟨rfl, hb2⟩
  obtain ⟨X, sx, ox, lx, -⟩ := boxing W2 ((some c).getD O0)
  have hwx := hb2.trans (lx.mono hb2.size)
  have hne : w.heap.size < W2.heap.size := Nat.lt_of_lt_of_le (Array.getElem?_eq_some_iff.1 HO1.out).1 hb2.size
  have HO := Lib.hid (HO1.out.after hwx)
  have HW := Lib.hid (HW1.out.trans (hwx.mono HW1.out.size))
  have HLX := Lib.hid (HL.out.after hwx)
  have HTX := Lib.hid (HT.out.after HW.out)
  have HNE := Lib.hid hne
  clear HGV hb2 lx hwx HO1 HW1 HL HT hne
  replace ox : BoxO X W2.heap.size c := ox
  have HK := Lib.hid ox
  have HHV := Lib.hid (HHN.out X HTX.out)
  go_upto_region 3 with (refine wpList_skip rfl (sx rfl rfl rfl) ?_)
  clear sx
  go_wp2_with ((with_reducible refine wpList_load_obj ?_ rfl ?_ ox ?_); rfl; rfl)
  clear ox
  refine HHV.out.mono ?_
  rintro e W3 ⟨rfl, hb3⟩
  have HC3 := Lib.hid (HK.out.after hb3)
  have HA3 := Lib.hid (HO.out.after hb3)
  have HW3 := Lib.hid (HW.out.trans (hb3.mono HW.out.size))
  have HL3 := Lib.hid (HLX.out.after hb3)
  have HT3 := Lib.hid (HTX.out.after hb3)
  clear HK HO HW HLX HTX HHV
  clear hb3
  obtain ⟨o1, o2, o3⟩ := HO123.out
  have e3 := HE3.out
  have c17 := HC3.out.c17
  go_upto_region 9 with (fail)
  clear o1 o2 o3 HO123 c17 e3 HE3
  have HVC := Lib.hid (HVL.out W3 _ HL3.out HT3.out)
  have hc3 := HC3.out
  go_wp2_with ((with_reducible refine wpList_load_obj ?_ rfl ?_ hc3 ?_); rfl; rfl)
  clear hc3
  refine HVC.out.mono ?_
  rintro e W4 ⟨rfl, hb4⟩
  obtain ⟨X4, sx4, ox4, lx4, -⟩ := boxing W4 ((none : Option Obj).getD O0)
  have h34 := hb4.trans (lx4.mono hb4.size)
  have HC4 := Lib.hid (HC3.out.after h34)
  have HA4 := Lib.hid (HA3.out.after h34)
  have HW4 := Lib.hid (HW3.out.trans (h34.mono HW3.out.size))
  have HL4 := Lib.hid (HL3.out.after h34)
  have HT4 := Lib.hid (HT3.out.after h34)
  have hn4 : W2.heap.size < W4.heap.size := Nat.lt_of_lt_of_le (Array.getElem?_eq_some_iff.1 HC3.out).1 hb4.size
  have HN4 := Lib.hid hn4
  clear HVC hb4 lx4 h34 HC3 HA3 HW3 HL3 HT3 HVL hn4
  clear ox4
  have c4 := HC4.out.c4
  rw [HD.out] at c4
  go_upto_region 20 with (refine wpList_skip rfl (sx4 rfl rfl rfl) ?_)
  clear sx4 c4
  have c17 := HC4.out.c17
  rw [H2.out] at c17
  have e2 := H2.out
  go_upto_region 21 with (fail)
  clear c17 e2
  have HA := HC4
  have HO := HA4
  have HL := HW4
  have HT := HT4
  have HB := HL4
  have hcb := HNE.out
  generalize W2.heap.size = cb at *
  have HCB := Lib.hid hcb
  clear HC4 HA4 HW4 HT4 HL4 hcb
  refine wp_region_held_drew (S := fun V => BoxO V cb c ∧ BoxA V w.heap.size nothing ∧ Below w.heap.size w V ∧ Tab V ∧ ObjsIn V (.slice o1 L.length c1) L) (by kernel_rfl) ⟨HA.out, HO.out, HL.out.drew, HT.out.drew, HB.out⟩ (fun _ => ?_)
  refine HeldBy.gen (fun V => BoxO V cb c ∧ BoxA V w.heap.size nothing ∧ Below w.heap.size w V ∧ Tab V ∧ ObjsIn V (.slice o1 L.length c1) L) ⟨HA.out, HO.out, HL.out.drew, HT.out.drew, HB.out⟩ ?_
  clear HA HO HL HT HB
  rintro U0 HS
  refine HeldBy.take (i := 0) (v := encO c) rfl (by kernel_rfl) (by kernel_rfl) (by kernel_rfl) (fun _ _ _ h => h) (by rfl) (fun V hV => load_obj hV.1 rfl rfl) (by go_simp; rfl) HS ?_
  refine HeldBy.take (i := 2) rfl (by kernel_rfl) (by kernel_rfl) (by kernel_rfl) (fun _ _ _ h => h) (by rfl) (fun _ _ => by first | (go_simp; rfl) | (go_simp; done)) (by go_simp; rfl) HS ?_
  refine HeldBy.take (i := 3) rfl (by kernel_rfl) (by kernel_rfl) (by kernel_rfl) (fun _ _ _ h => h) (by rfl) (fun V hV => by have hc := hV.1.c18; first | (go_simp; rfl) | (go_simp; done)) (by go_simp; rfl) HS ?_
  refine HeldBy.take (i := 4) rfl (by kernel_rfl) (by kernel_rfl) (by kernel_rfl) (fun _ _ _ h => h) (by rfl) (fun _ _ => by first | (go_simp; rfl) | (go_simp; done)) (by go_simp; rfl) HS ?_
  refine HeldBy.take (i := 5) rfl (by kernel_rfl) (by kernel_rfl) (by kernel_rfl) (fun _ _ _ h => h) (by rfl) (fun V hV => by have hc := hV.1.c7; first | (go_simp; rfl) | (go_simp; done)) (by go_simp; rfl) HS ?_
  refine HeldBy.take (i := 6) rfl (by kernel_rfl) (by kernel_rfl) (by kernel_rfl) (fun _ _ _ h => h) (by rfl) (fun _ _ => by first | (go_simp; rfl) | (go_simp; done)) (by go_simp; rfl) HS ?_
  refine HeldBy.take (i := 7) rfl (by kernel_rfl) (by kernel_rfl) (by kernel_rfl) (fun _ _ _ h => h) (by rfl) (fun V hV => by have hc := hV.1.c12; first | (go_simp; rfl) | (go_simp; done)) (by go_simp; rfl) HS ?_
  have HSS : ∀ w', Below U0.heap.size U0 w' → (BoxO w' cb c ∧ BoxA w' w.heap.size nothing ∧ Below w.heap.size w w' ∧ Tab w' ∧ ObjsIn w' (.slice o1 L.length c1) L) := fun w' hb => ⟨HS.1.after hb, HS.2.1.after hb, HS.2.2.1.trans (hb.mono HS.2.2.1.size), HS.2.2.2.1.after hb, HS.2.2.2.2.after hb⟩
  refine HeldBy.Goes.without (w0 := U0) (k := 9) (dk := some 12) (x := .cells (cellsC C0) 34 (0, 0)) ?_ U0 (Below.refl _ _)
  refine HeldBy.Goes.callS (i := 1) (v := .string h) rfl rfl rfl rfl (makes_c rfl) rfl (by kernel_rfl) (by kernel_rfl) rfl (by decide) (by kernel_rfl) (by intro w; first | (go_simp; done) | (go_simp; first | exact ⟨rfl, rfl⟩ | rfl)) (by first | (go_simp; rfl) | (go_simp; done)) HSS (fun _ HS => HHN.out _ HS.2.2.2.1) ?_
  refine HeldBy.Goes.take (i := 8) (v := encC k) rfl (by kernel_rfl) rfl (by kernel_rfl) (by kernel_rfl) (by kernel_rfl) (by kernel_rfl) (fun _ _ _ h => h) rfl (by decide) (by kernel_rfl) (fun _ _ => by have hk := HK.out; subst hk; exact exec_build 34 _ rfl _ (by exact built_create h c.zone c.num c.size)) (by first | (go_simp; rfl) | (go_simp; done)) HSS ?_
  refine HeldBy.Goes.nil rfl rfl (by kernel_rfl) rfl (makes_c rfl) HSS rfl (fun p => by unfold HeldBy.ptr; go_simp; rfl) ?_
  intro p U1 hp hb hn
  have hlt := HS.1.lt
  have hcb := HCB.out
  have hS := HSS U1 hb
  obtain ⟨V3, hV3⟩ : ∃ V3, U1.setRow p (cellsC k) = V3 := ⟨_, rfl⟩
  have hpc : cb < p := by omega
  have hc3 : BoxC V3 p k := by rw [← hV3]; exact setRow_heap U1 p _ _ _ _ hn
  have ha3 : BoxO V3 cb c := by rw [← hV3]; exact hS.1.row (by omega) _
  have ho3 : BoxA V3 w.heap.size nothing := by rw [← hV3]; exact (setRow_other U1 p _ _ (by omega)).trans hS.2.1
  have hl3 : Below w.heap.size w V3 := by rw [← hV3]; exact below_setRow hS.2.2.1 (by omega) _
  have hb3 : Below U0.heap.size U0 V3 := by rw [← hV3]; exact below_setRow hb (by omega) _
  refine HeldBy.store (i := 10) (w' := V3) rfl (by kernel_rfl) (by rfl) (by rw [← hV3]; exact exec_store_call hn rfl rfl rfl) (by first | (go_simp; rfl) | (go_simp; done)) ⟨ha3, ho3, hl3, HS.2.2.2.1.after hb3, HS.2.2.2.2.after hb3⟩ ?_
  refine wpAnyH_done (by kernel_rfl) ?_ _
  have HP := Lib.hid hpc
  have HC5 := Lib.hid hc3
  have HO5 := Lib.hid ha3
  have HA5 := Lib.hid ho3
  have HW5 := Lib.hid hl3
  have HT5 := Lib.hid (HS.2.2.2.1.after hb3)
  have HB5 := Lib.hid (HS.2.2.2.2.after hb3)
  have c16 := ha3.c16
  clear hV3 hlt hS HSS HS hp hb hn hc3 ha3 ho3 hl3 hb3 hpc hcb
  obtain ⟨s1, s2, s3⟩ := HS123.out
  have HGC := Lib.hid (HGS.out V3 _ HB5.out)
  clear HHN HO5
  go_upto_region 23 with (fail)
  clear s1 s2 s3 HS123
  go_wp2_with (fail)
  refine HGC.out.mono ?_
  rintro e W6 ⟨rfl, hb6⟩
  obtain ⟨X6, sx6, ox6, lx6, -⟩ := boxing W6 ((some s).getD O0)
  have h56 := hb6.trans (lx6.mono hb6.size)
  have HA6 := Lib.hid (HA5.out.after h56)
  have HW6 := Lib.hid (HW5.out.trans (h56.mono HW5.out.size))
  have hc6 : BoxC X6 p k := (h56.block _ (Array.getElem?_eq_some_iff.1 HC5.out).1).trans HC5.out
  have HC6 := Lib.hid hc6
  have HT6 := Lib.hid (HT5.out.after h56)
  have hps : p < W6.heap.size := Nat.lt_of_lt_of_le (Array.getElem?_eq_some_iff.1 HC5.out).1 hb6.size
  have HPS := Lib.hid hps
  clear HGC hb6 lx6 h56 HA5 HW5 HC5 HT5 HB5 c16 hc6 hps
  replace ox6 : BoxO X6 W6.heap.size s := ox6
  have HS6 := Lib.hid ox6
  clear ox6
  go_upto_region 26 with (refine wpList_skip rfl (sx6 rfl rfl rfl) ?_)
  clear sx6
  generalize W6.heap.size = sb at *
  have HS := HS6
  have HC := HC6
  have HA := HA6
  have HL := HW6
  have HT := HT6
  clear HS6 HC6 HA6 HW6 HT6
  refine wp_region_held_drew (S := fun V => BoxO V sb s ∧ BoxA V w.heap.size nothing ∧ Below w.heap.size w V ∧ Tab V) (by kernel_rfl) ⟨HS.out, HA.out, HL.out.drew, HT.out.drew⟩ (fun _ => ?_)
  refine HeldBy.gen (fun V => (BoxO V sb s ∧ BoxA V w.heap.size nothing ∧ Below w.heap.size w V ∧ Tab V) ∧ (BoxC V p k)) ⟨⟨HS.out, HA.out, HL.out.drew, HT.out.drew⟩, HC.out⟩ ?_
  clear HS HA HL HT HC
  rintro U0 ⟨HS, HC⟩
  refine HeldBy.take (i := 0) rfl (by kernel_rfl) (by kernel_rfl) (by kernel_rfl) (fun _ _ _ h => h) (by rfl) (fun _ _ => by first | (go_simp; rfl) | (go_simp; done)) (by first | (go_simp; rfl) | (go_simp; done)) HS ?_
  refine HeldBy.take (i := 1) rfl (by kernel_rfl) (by kernel_rfl) (by kernel_rfl) (fun _ _ _ h => h) (by rfl) (fun V hV => by have hc := hV.1.c1; first | (go_simp; rfl) | (go_simp; done)) (by first | (go_simp; rfl) | (go_simp; done)) HS ?_
  refine HeldBy.take (i := 2) (v := .string (snapP ++ s.name)) rfl (by kernel_rfl) (by kernel_rfl) (by kernel_rfl) (fun _ _ _ h => h) (by rfl) (fun _ _ => by have h := HSZ.out.1; unfold snapP at h ⊢; go_simp; omega) (by first | (go_simp; rfl) | (go_simp; done)) HS ?_
  refine HeldBy.take (i := 3) (v := .string (snapP ++ s.name ++ ⟨#[35]⟩)) rfl (by kernel_rfl) (by kernel_rfl) (by kernel_rfl) (fun _ _ _ h => h) (by rfl) (fun _ _ => by have h := HSZ.out.1; go_simp; omega) (by first | (go_simp; rfl) | (go_simp; done)) HS ?_
  refine HeldBy.take (i := 4) rfl (by kernel_rfl) (by kernel_rfl) (by kernel_rfl) (fun _ _ _ h => h) (by rfl) (fun _ _ => by first | (go_simp; rfl) | (go_simp; done)) (by first | (go_simp; rfl) | (go_simp; done)) HS ?_
  refine HeldBy.take (i := 5) rfl (by kernel_rfl) (by kernel_rfl) (by kernel_rfl) (fun _ _ _ h => h) (by rfl) (fun V hV => by have hc := hV.1.c3; first | (go_simp; rfl) | (go_simp; done)) (by first | (go_simp; rfl) | (go_simp; done)) HS ?_
  refine HeldBy.call (i := 6) (v := .string dg) rfl (by kernel_rfl) (by rfl) (by first | (go_simp; done) | (go_simp; first | exact ⟨rfl, rfl⟩ | rfl)) (by first | (go_simp; rfl) | (go_simp; done)) ?_
  refine (HFM.out _ HS.2.2.2).mono ?_
  rintro e U1 ⟨rfl, hb⟩
  replace HS : BoxO U1 sb s ∧ BoxA U1 w.heap.size nothing ∧ Below w.heap.size w U1 ∧ Tab U1 := ⟨HS.1.after hb, HS.2.1.after hb, HS.2.2.1.trans (hb.mono HS.2.2.1.size), HS.2.2.2.after hb⟩
  replace HC := HC.after hb
  refine ⟨rfl, HS, ?_⟩
  clear hb
  refine HeldBy.take (i := 7) (v := .string S7) rfl (by kernel_rfl) (by kernel_rfl) (by kernel_rfl) (fun _ _ _ h => h) (by rfl) (fun _ _ => by have h := HSZ.out.2; have h2 := HDG.out; have h3 := HSS2.out; subst h3; go_simp; omega) (by first | (go_simp; rfl) | (go_simp; done)) HS ?_
  refine HeldBy.take (i := 8) rfl (by kernel_rfl) (by kernel_rfl) (by kernel_rfl) (fun _ _ _ h => h) (by rfl) (fun _ _ => by first | (go_simp; rfl) | (go_simp; done)) (by first | (go_simp; rfl) | (go_simp; done)) HS ?_
  have hsb := HPS.out
  have hcb := HCB.out
  have hpc := HP.out
  have c6 := (cell_of_row _ p 6 _ _ _ HC).trans (rfl : _ = some (Value.string k.source))
  have f6 := frozen_of_row _ p 6 _ _ HC
  obtain ⟨U9, hU9⟩ : ∃ V, U1.setCell ⟨p, 6, none⟩ (.string S7) = V := ⟨_, rfl⟩
  have hc9 : BoxC U9 p { k with source := S7 } := by rw [← hU9]; exact (heap_setCell_same _ p 6 (cellsC k) 34 _ HC).trans rfl
  have hs9 : BoxO U9 sb s := by rw [← hU9]; exact HS.1.other (by show sb ≠ p; omega) _
  have ha9 : BoxA U9 w.heap.size nothing := by rw [← hU9]; exact (heap_setCell_other _ ⟨p, 6, none⟩ w.heap.size _ (by show w.heap.size ≠ p; omega)).trans HS.2.1
  have hl9 : Below w.heap.size w U9 := by rw [← hU9]; exact HS.2.2.1.setCell (by show w.heap.size ≤ p; omega) _
  refine HeldBy.store (i := 9) (w' := U9) rfl (by kernel_rfl) (by rfl) (by rw [← hU9]; first | (go_simp; done) | (go_simp; rfl)) (by first | (go_simp; rfl) | (go_simp; done)) ⟨hs9, ha9, hl9, HTW.out.after hl9⟩ ?_
  refine wpAnyH_done (by kernel_rfl) ?_ _
  have HC9 := Lib.hid hc9
  have HA9 := Lib.hid ha9
  have HW9 := Lib.hid hl9
  clear hU9 c6 f6 HC HS hc9 hs9 ha9 hl9 hsb hcb hpc
  have HCA := Lib.hid (fun V => rask_any ({ k with source := S7 } : Cl) V)
  have hcc := HC9.out
  rw [HXX.out] at HCA
  clear HXX
  go_wp2_with (refine wpList_got rfl (load_call hcc rfl rfl) ?_)
  refine (HCA.out _).mono ?_
  rintro e W7 ⟨rfl, hb7⟩
  obtain ⟨V8, hst8, ho, -, hb⟩ := acting (HA9.out.after hb7) x
  have HO8 := Lib.hid ho
  have HX8 := Lib.hid (hb _ _ (HW9.out.trans (hb7.mono HW9.out.size)) (Nat.le_refl _))
  clear ho hb HCA hcc hb7
  go_wp2_with (refine wpList_skip rfl (hst8 rfl rfl rfl) ?_)
  refine bodyPost_ret (v := encA x) (results_cell_row rfl _ _ w.heap.size 36 (cellsA x) (0, 0) _ rfl HO8.out undAct rfl sizeAct) rfl ?_
  exact ⟨rfl, HX8.out⟩
end Go.Proofs.YtfpdchabknoklaaDoor.O.B
namespace Go.Proofs.YtfpdchabknoklaaDoor.O.B
open Go Go.RowKit Go.Shelf Go.Lib RangeMap KM
attribute [local go_sem] Oper.semAt_some

theorem built_act0' : Tryd.prog.built 36 [] = some (cellsA nothing) := by kernel_rfl
theorem built_give (h : ByteArray) (n : Int) : Tryd.prog.built 34 [(0, .int .u8 2), (1, .string h), (2, .int .u64 n)] = some (cellsC ⟨2, h, n, 0, E0, E0, E0⟩) := by kernel_rfl

set_option maxRecDepth 100000 in
set_option maxHeartbeats 8000000 in
theorem volume_any (l : List Obj) (v : Value) (ver : Int) (name : ByteArray) (w : World) (hl : ObjsIn w v l) (ht : Tab w) (hall : ∀ s ∈ l, (0 ≤ s.born ∧ s.born ≤ 18446744073709551615) ∧ s.name.size ≤ 140737488351232) :
    Calls Tryd.prog 14 #[v, .int .u64 ver, .string name] w fun e w' => e = .returned (encA (volumeN l ver name)) ∧ Below w.heap.size w w' := by
  obtain ⟨o, cp, rfl, -, -⟩ := id hl
  have HL := Lib.hid hl
  have HT := Lib.hid ht
  have HG := Lib.hid (fun V (hV : ObjsIn V (.slice o l.length cp) l) => get_any l _ 4 name V hV)
  have HCL := Lib.hid (fun V (u : Obj) (hV : ObjsIn V (.slice o l.length cp) l) (hT : Tab V) => claimed_any l _ u V hV hT hall)
  have HIU := Lib.hid (fun V (u : Obj) (hV : ObjsIn V (.slice o l.length cp) l) => inUse_any l _ u V hV)
  clear hl ht hall
  obtain ⟨r, hr⟩ : ∃ r, getL l 4 name = r := ⟨_, rfl⟩
  obtain ⟨x, hx⟩ : ∃ x, volumeN l ver name = x := ⟨_, rfl⟩
  rw [hx]
  unfold volumeN at hx
  rw [hr] at hx HG
  have HXX := Lib.hid hx
  clear hx hr
  go_enter Tryd.func14, Tryd.ntmps14
  go_upto_region 1 with (fail)
  refine wp_gen (fun V => BoxA V w.heap.size nothing ∧ Below w.heap.size w V) ⟨heap_alloc_new _ _, (Below.refl _ _).alloc (Nat.le_refl _) _⟩ ?_
  rintro V ⟨ho, hl⟩
  have HO := Lib.hid ho
  have HW := Lib.hid hl
  have HC := Lib.hid (HG.out V (HL.out.after hl))
  clear ho hl HG
  go_wp2_with (fail)
  refine HC.out.mono ?_
  rintro e W2 ⟨rfl, hb2⟩
  obtain ⟨V2, hst, hk, hb, -⟩ := boxing W2 (r.getD O0)
  have hw2 := HW.out.trans (hb2.mono HW.out.size)
  replace HO := Lib.hid ((HO.out.after hb2).after hb)
  replace HW := Lib.hid (hw2.trans (hb.mono hw2.size))
  clear HC hb2 hb hw2
  cases r with
  | none =>
    have HVV : Hid (x = nothing) := HXX.out.symm
    obtain ⟨V8, hst8, ho, -, hb⟩ := acting HO.out nothing
    have HO8 := Lib.hid ho
    have HX8 := Lib.hid (hb _ _ HW.out (Nat.le_refl _))
    clear ho hb HXX hk HCL HIU
    go_wp2_with (first | (refine wpList_skip rfl (hst rfl rfl rfl) ?_) | (refine wpList_skip rfl (hst8 rfl rfl rfl) ?_))
    refine bodyPost_ret (v := encA nothing) (results_cell_row rfl _ _ w.heap.size 36 (cellsA nothing) (0, 0) _ rfl HO8.out undAct rfl sizeAct) rfl ?_
    exact ⟨by rw [HVV.out], HX8.out⟩
  | some vo =>
    replace hk : BoxO V2 W2.heap.size vo := hk
    have hxx : (if vo.phase = 4 ∧ vo.deleting = true ∧ vo.keep = false then writeA (erasingN vo (IntKind.u64.wrap (ver + 1))) else if vo.phase = 3 ∧ claimedN l vo = false then writeA (givenN vo (IntKind.u64.wrap (ver + 1))) else if vo.phase = 6 ∧ inUseN l vo = false then askA ⟨2, vo.name, vo.num, 0, E0, E0, E0⟩ else nothing) = x := HXX.out
    have HX2 := Lib.hid hxx
    have v17 := hk.c17
    have v4 := hk.c4
    have v10 := hk.c10
    have HK := Lib.hid hk
    clear hxx HXX hk
    go_upto_region 5 with (refine wpList_skip rfl (hst rfl rfl rfl) ?_)
    clear hst
    have write6 : ∀ (u : Obj), Hid (x = writeA u) → Hid (∀ V, Calls Tryd.prog 21 #[encO u] V fun e w' => e = .returned (encA x) ∧ Below V.heap.size V w') := fun u h => by
      have h' := h.out
      subst h'
      exact fun V => write_any u V
    by_cases h1 : vo.phase = 4 ∧ vo.deleting = true ∧ vo.keep = false
    · have HVV : Hid (x = writeA (erasingN vo (IntKind.u64.wrap (ver + 1)))) := by show _ = _; rw [← HX2.out, if_pos h1]
      obtain ⟨k1, k2, k3⟩ := h1
      rw [k1] at v17
      rw [k2] at v4
      rw [k3] at v10
      have HE := Lib.hid (fun V => erasing_any vo (IntKind.u64.wrap (ver + 1)) V)
      have HWR := write6 _ HVV
      clear k1 k2 k3 HX2 HCL HIU write6
      generalize erasingN vo (IntKind.u64.wrap (ver + 1)) = u at *
      go_upto_region 6 with (fail)
      have hkk := HK.out
      go_wp2_with ((with_reducible refine wpList_load_obj ?_ rfl ?_ hkk ?_); rfl; rfl)
      refine (HE.out _).mono ?_
      rintro e W4 ⟨rfl, hb4⟩
      have HO4 := Lib.hid (HO.out.after hb4)
      have HW4 := Lib.hid (HW.out.trans (hb4.mono HW.out.size))
      clear HE hb4 hkk HK v17 v4 v10
      go_wp2_with (fail)
      refine (HWR.out _).mono ?_
      rintro e W5 ⟨rfl, hb5⟩
      obtain ⟨V8, hst8, ho, -, hb⟩ := acting (HO4.out.after hb5) x
      have HO8 := Lib.hid ho
      have HX8 := Lib.hid (hb _ _ (HW4.out.trans (hb5.mono HW4.out.size)) (Nat.le_refl _))
      clear ho hb HWR hb5
      go_wp2_with (refine wpList_skip rfl (hst8 rfl rfl rfl) ?_)
      refine bodyPost_ret (v := encA x) (results_cell_row rfl _ _ w.heap.size 36 (cellsA x) (0, 0) _ rfl HO8.out undAct rfl sizeAct) rfl ?_
      exact ⟨rfl, HX8.out⟩
    · have HN1 := Lib.hid (HX2.out.symm.trans (if_neg h1))
      clear HX2
      have HKK := HK
      have goes : ∀ (t : Bool), Hid (t = false) → True := fun _ _ => trivial
      clear goes
      by_cases p4 : vo.phase = 4
      · -- phase 4, but not given up
        have HVV : Hid (x = nothing) := by
          show _ = _
          rw [HN1.out, if_neg (fun h => by rw [p4] at h; exact absurd h.1 (by decide)), if_neg (fun h => by rw [p4] at h; exact absurd h.1 (by decide))]
        rw [p4] at v17
        obtain ⟨V8, hst8, ho, -, hb⟩ := acting HO.out nothing
        have HO8 := Lib.hid ho
        have HX8 := Lib.hid (hb _ _ HW.out (Nat.le_refl _))
        clear ho hb HN1 HCL HIU write6 HK HKK
        cases hd : vo.deleting with
        | false =>
          rw [hd] at v4
          clear h1 hd p4
          go_wp2_with (first | (refine wpList_skip rfl (hst8 rfl rfl rfl) ?_) | ((with_reducible refine wpList_build_to rfl 36 _ rfl (cellsA nothing) ?_ ?_); exact built_act0'))
          refine bodyPost_ret (v := encA nothing) (results_cell_row rfl _ _ w.heap.size 36 (cellsA nothing) (0, 0) _ rfl HO8.out undAct rfl sizeAct) rfl ?_
          exact ⟨by rw [HVV.out], HX8.out⟩
        | true =>
          have hkp : vo.keep = true := by
            cases hk2 : vo.keep with
            | true => rfl
            | false => exact absurd ⟨p4, hd, hk2⟩ h1
          rw [hd] at v4
          rw [hkp] at v10
          clear h1 hd p4 hkp
          go_wp2_with (first | (refine wpList_skip rfl (hst8 rfl rfl rfl) ?_) | ((with_reducible refine wpList_build_to rfl 36 _ rfl (cellsA nothing) ?_ ?_); exact built_act0'))
          refine bodyPost_ret (v := encA nothing) (results_cell_row rfl _ _ w.heap.size 36 (cellsA nothing) (0, 0) _ rfl HO8.out undAct rfl sizeAct) rfl ?_
          exact ⟨by rw [HVV.out], HX8.out⟩
      · have e4 : (vo.phase == 4) = false := by simpa using p4
        clear h1
        by_cases p3 : vo.phase = 3
        · have e3 : (vo.phase == 3) = true := by simpa using p3
          have HCC := Lib.hid (HCL.out V2 vo (HL.out.after HW.out) (HT.out.after HW.out))
          obtain ⟨cb, hcb⟩ : ∃ cb, claimedN l vo = cb := ⟨_, rfl⟩
          rw [hcb] at HCC
          have HCB := Lib.hid hcb
          clear hcb HCL HIU
          go_upto_region 7 with (fail)
          have hkk := HK.out
          go_wp2_with ((with_reducible refine wpList_load_obj ?_ rfl ?_ hkk ?_); rfl; rfl)
          refine HCC.out.mono ?_
          rintro e W4 ⟨rfl, hb4⟩
          have HO4 := Lib.hid (HO.out.after hb4)
          have HW4 := Lib.hid (HW.out.trans (hb4.mono HW.out.size))
          have hk4 := HK.out.after hb4
          clear HCC hb4 hkk HK HKK v17 v4 v10 HO HW
          cases cb with
          | true =>
            have HVV : Hid (x = nothing) := by
              show _ = _
              rw [HN1.out, if_neg (fun h => by rw [HCB.out] at h; cases h.2), if_neg (fun h => by rw [p3] at h; exact absurd h.1 (by decide))]
            have e6 : (vo.phase == 6) = false := by rw [p3]; rfl
            have v17 := hk4.c17
            obtain ⟨V8, hst8, ho, -, hb⟩ := acting HO4.out nothing
            have HO8 := Lib.hid ho
            have HX8 := Lib.hid (hb _ _ HW4.out (Nat.le_refl _))
            clear ho hb HN1 HCB write6 hk4 p3 p4
            go_wp2_with (first | (refine wpList_skip rfl (hst8 rfl rfl rfl) ?_) | ((with_reducible refine wpList_build_to rfl 36 _ rfl (cellsA nothing) ?_ ?_); exact built_act0'))
            refine bodyPost_ret (v := encA nothing) (results_cell_row rfl _ _ w.heap.size 36 (cellsA nothing) (0, 0) _ rfl HO8.out undAct rfl sizeAct) rfl ?_
            exact ⟨by rw [HVV.out], HX8.out⟩
          | false =>
            have HVV : Hid (x = writeA (givenN vo (IntKind.u64.wrap (ver + 1)))) := by show _ = _; rw [HN1.out, if_pos ⟨p3, HCB.out⟩]
            have HE := Lib.hid (fun V => givenUp_any vo (IntKind.u64.wrap (ver + 1)) V)
            have HWR := write6 _ HVV
            clear HN1 HCB write6 p3 p4 HVV
            generalize givenN vo (IntKind.u64.wrap (ver + 1)) = u at *
            go_upto_region 8 with (fail)
            clear e3 e4
            go_wp2_with ((with_reducible refine wpList_load_obj ?_ rfl ?_ hk4 ?_); rfl; rfl)
            refine (HE.out _).mono ?_
            rintro e W5 ⟨rfl, hb5⟩
            have HO5 := Lib.hid (HO4.out.after hb5)
            have HW5 := Lib.hid (HW4.out.trans (hb5.mono HW4.out.size))
            clear HE hb5 hk4 HO4 HW4
            go_wp2_with (fail)
            refine (HWR.out _).mono ?_
            rintro e W6 ⟨rfl, hb6⟩
            obtain ⟨V8, hst8, ho, -, hb⟩ := acting (HO5.out.after hb6) x
            have HO8 := Lib.hid ho
            have HX8 := Lib.hid (hb _ _ (HW5.out.trans (hb6.mono HW5.out.size)) (Nat.le_refl _))
            clear ho hb HWR hb6
            go_wp2_with (refine wpList_skip rfl (hst8 rfl rfl rfl) ?_)
            refine bodyPost_ret (v := encA x) (results_cell_row rfl _ _ w.heap.size 36 (cellsA x) (0, 0) _ rfl HO8.out undAct rfl sizeAct) rfl ?_
            exact ⟨rfl, HX8.out⟩
        · have e3 : (vo.phase == 3) = false := by simpa using p3
          have HN2 : Hid (x = if vo.phase = 6 ∧ inUseN l vo = false then askA ⟨2, vo.name, vo.num, 0, E0, E0, E0⟩ else nothing) := by
            show _ = _
            rw [HN1.out, if_neg (fun h => p3 h.1)]
          clear HN1 HCL
          by_cases p6 : vo.phase = 6
          · have e6 : (vo.phase == 6) = true := by simpa using p6
            have HUU := Lib.hid (HIU.out V2 vo (HL.out.after HW.out))
            obtain ⟨ub, hub⟩ : ∃ ub, inUseN l vo = ub := ⟨_, rfl⟩
            rw [hub] at HUU
            have HUB := Lib.hid hub
            clear hub HIU
            go_upto_region 9 with (fail)
            have hkk := HK.out
            go_wp2_with ((with_reducible refine wpList_load_obj ?_ rfl ?_ hkk ?_); rfl; rfl)
            refine HUU.out.mono ?_
            rintro e W4 ⟨rfl, hb4⟩
            have HO4 := Lib.hid (HO.out.after hb4)
            have HW4 := Lib.hid (HW.out.trans (hb4.mono HW.out.size))
            have hk4 := HK.out.after hb4
            clear HUU hb4 hkk HK HKK v17 v4 v10 HO HW
            cases ub with
            | true =>
              have HVV : Hid (x = nothing) := by
                show _ = _
                rw [HN2.out, if_neg (fun h => by rw [HUB.out] at h; cases h.2)]
              obtain ⟨V8, hst8, ho, -, hb⟩ := acting HO4.out nothing
              have HO8 := Lib.hid ho
              have HX8 := Lib.hid (hb _ _ HW4.out (Nat.le_refl _))
              clear ho hb HN2 HUB write6 hk4 p3 p4 p6
              go_wp2_with (first | (refine wpList_skip rfl (hst8 rfl rfl rfl) ?_) | ((with_reducible refine wpList_build_to rfl 36 _ rfl (cellsA nothing) ?_ ?_); exact built_act0'))
              refine bodyPost_ret (v := encA nothing) (results_cell_row rfl _ _ w.heap.size 36 (cellsA nothing) (0, 0) _ rfl HO8.out undAct rfl sizeAct) rfl ?_
              exact ⟨by rw [HVV.out], HX8.out⟩
            | false =>
              have HVV : Hid (x = askA ⟨2, vo.name, vo.num, 0, E0, E0, E0⟩) := by show _ = _; rw [HN2.out, if_pos ⟨p6, HUB.out⟩]
              have HBG := Lib.hid (built_give vo.name vo.num)
              obtain ⟨k, hkc⟩ : ∃ k : Cl, (⟨2, vo.name, vo.num, 0, E0, E0, E0⟩ : Cl) = k := ⟨_, rfl⟩
              rw [hkc] at HVV HBG
              have HAS := Lib.hid (fun V => ask_any k V)
              have v1 := hk4.c1
              have v18 := hk4.c18
              clear HN2 HUB write6 p3 p4 p6 hkc hk4
              go_upto_region 10 with (fail)
              clear e3 e4 e6
              go_wp2_with ((with_reducible refine wpList_build_to rfl 34 _ rfl (cellsC k) ?_ ?_); exact HBG.out)
              refine (HAS.out _).mono ?_
              rintro e W6 ⟨rfl, hb6⟩
              obtain ⟨V8, hst8, ho, -, hb⟩ := acting (HO4.out.after hb6) (askA k)
              have HO8 := Lib.hid ho
              have HX8 := Lib.hid (hb _ _ (HW4.out.trans (hb6.mono HW4.out.size)) (Nat.le_refl _))
              clear ho hb HAS hb6 v1 v18
              go_wp2_with (refine wpList_skip rfl (hst8 rfl rfl rfl) ?_)
              refine bodyPost_ret (v := encA (askA k)) (results_cell_row rfl _ _ w.heap.size 36 (cellsA (askA k)) (0, 0) _ rfl HO8.out undAct rfl sizeAct) rfl ?_
              exact ⟨by rw [HVV.out], HX8.out⟩
          · have e6 : (vo.phase == 6) = false := by simpa using p6
            have HVV : Hid (x = nothing) := by show _ = _; rw [HN2.out, if_neg (fun h => p6 h.1)]
            obtain ⟨V8, hst8, ho, -, hb⟩ := acting HO.out nothing
            have HO8 := Lib.hid ho
            have HX8 := Lib.hid (hb _ _ HW.out (Nat.le_refl _))
            clear ho hb HN2 HIU write6 HK HKK p3 p4 p6
            go_wp2_with (first | (refine wpList_skip rfl (hst8 rfl rfl rfl) ?_) | ((with_reducible refine wpList_build_to rfl 36 _ rfl (cellsA nothing) ?_ ?_); exact built_act0'))
            refine bodyPost_ret (v := encA nothing) (results_cell_row rfl _ _ w.heap.size 36 (cellsA nothing) (0, 0) _ rfl HO8.out undAct rfl sizeAct) rfl ?_
            exact ⟨by rw [HVV.out], HX8.out⟩
end Go.Proofs.YtfpdchabknoklaaDoor.O.B
