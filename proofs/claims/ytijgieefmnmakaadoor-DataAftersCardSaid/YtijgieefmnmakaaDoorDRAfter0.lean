/- What is done behind a call, by kind of key; the same once of one key only the first object is kept. -/
import Derived.Test.YtijgieefmnmakaaDoorDNext
import Derived.Test.YtijgieefmnmakaaDoorKUniqT
import Derived.Test.YtijgieefmnmakaaDoorDStep
import Derived.Test.YtijgieefmnmakaaDoorDRClaim
import Derived.Test.YtijgieefmnmakaaDoorDRSnap
namespace Go.Proofs.YtijgieefmnmakaaDoor.O.B
open Go Go.Lib

theorem claimD_uniq (l : List Obj) (ver : Int) (n : ByteArray) : claimD (uniqL l) ver n = claimD l ver n := by
  unfold claimD okD voD clD
  simp only [uniq_get]
theorem snapD_uniq (l : List Obj) (ver : Int) (n : ByteArray) : snapD (uniqL l) ver n = snapD l ver n := by
  unfold snapD goN okD voD clD madeOf
  simp only [uniq_get, there_idem]
theorem nextD_uniq (l : List Obj) (ver k : Int) (n : ByteArray) : nextD (uniqL l) ver k n = nextD l ver k n := by
  unfold nextD
  rw [claimD_uniq, snapD_uniq]
theorem askedN_uniq (l : List Obj) (k : Int) (n : ByteArray) (c : Cl) : askedN (uniqL l) k n c = askedN l k n c := by
  unfold askedN
  simp only [uniq_get]
theorem afterD_uniq (l : List Obj) (ver k : Int) (n : ByteArray) (c : Cl) (r : Rs) : afterD (uniqL l) ver k n c r = afterD l ver k n c r := by
  unfold afterD
  rw [nextD_uniq, askedN_uniq]
end Go.Proofs.YtijgieefmnmakaaDoor.O.B
namespace Go.Proofs.YtijgieefmnmakaaDoor.O.B
open Go Go.RowKit Go.Shelf Go.Lib RangeMap KM

theorem BoxK.cells {W : World} {b : Nat} {k : Int} {n : ByteArray} (h : BoxK W b k n) : W.cell? ⟨b, 0, none⟩ = some (.int .u8 k) ∧ W.cell? ⟨b, 1, none⟩ = some (.string n) :=
  ⟨(cell_of_row W b 0 _ _ _ h).trans rfl, (cell_of_row W b 1 _ _ _ h).trans rfl⟩
theorem BoxC.cells {W : World} {b : Nat} {c : Cl} (h : BoxC W b c) : W.cell? ⟨b, 0, none⟩ = some (.int .u8 c.verb) ∧ W.cell? ⟨b, 1, none⟩ = some (.string c.target) :=
  ⟨(cell_of_row W b 0 _ _ _ h).trans rfl, (cell_of_row W b 1 _ _ _ h).trans rfl⟩
theorem BoxA.kind {W : World} {b : Nat} {a : Ac} (h : BoxA W b a) : W.cell? ⟨b, 0, none⟩ = some (.int .u8 a.act) := (cell_of_row W b 0 _ _ _ h).trans rfl
theorem exec_neq_diff {W : World} {A B : Cl} (hne : ¬ A = B) {oi : Oper} {a : Act} {x y : Operand} {t : TypeId} (ho : oi.op = .binOp .neq 34 x y t) (hx : a.eval x = encC A) (hy : a.eval y = encC B) :
    (execOp a.eval oi).run Tryd.prog W = .ok (.value (.bool true)) W := by
  have h := exec_neq_call (W := W) ho hx hy
  rw [show (!decide (A = B)) = true by simp [hne]] at h
  exact h
theorem exec_neq_at {W : World} {A B : Cl} (he : A = B) {oi : Oper} {a : Act} {x y : Operand} {t : TypeId} (ho : oi.op = .binOp .neq 34 x y t) (hx : a.eval x = encC A) (hy : a.eval y = encC B) :
    (execOp a.eval oi).run Tryd.prog W = .ok (.value (.bool false)) W := by
  have h := exec_neq_call (W := W) ho hx hy
  rw [show (!decide (A = B)) = false by simp [he]] at h
  exact h
theorem after_claim (l : List Obj) (ver : Int) (n : ByteArray) (c : Cl) (r : Rs) : afterD l ver 3 n c r = if claimD l ver n = askA c then behindN ((getL l 4 c.target).getD O0) (up ver) c r else nothing := by
  unfold afterD nextD askedN
  simp
theorem after_snap (l : List Obj) (ver : Int) (n : ByteArray) (c : Cl) (r : Rs) : afterD l ver 7 n c r = if snapD l ver n = askA c then behindN ((getL l 7 n).getD O0) (up ver) c r else nothing := by
  unfold afterD nextD askedN
  simp
theorem after_none (l : List Obj) (ver k : Int) (n : ByteArray) (c : Cl) (r : Rs) (h3 : k ≠ 3) (h7 : k ≠ 7) : afterD l ver k n c r = nothing := by
  unfold afterD nextD
  rw [if_neg h3, if_neg h7, if_neg (fun h => by have : nothing.act = (askA c).act := by rw [h]
                                                exact absurd this (by show ¬ (0 : Int) = 3; omega))]
/-- An act that asks is nothing but the question. -/
def Plain (A : Ac) : Prop := A.act = 3 → A = askA A.call
theorem plain_write (o : Obj) : Plain (writeA o) := fun h => absurd h (by show ¬ (1 : Int) = 3; omega)
theorem plain_none : Plain nothing := fun h => absurd h (by show ¬ (0 : Int) = 3; omega)
theorem plain_ask (c : Cl) : Plain (askA c) := fun _ => rfl
theorem claim_plain (l : List Obj) (ver : Int) (n : ByteArray) : Plain (claimD l ver n) := by
  unfold claimD growN
  repeat' split
  all_goals first | exact plain_write _ | exact plain_none | exact plain_ask _
theorem snap_plain (l : List Obj) (ver : Int) (n : ByteArray) : Plain (snapD l ver n) := by
  unfold snapD goN dropN
  repeat' split
  all_goals first | exact plain_write _ | exact plain_none | exact plain_ask _
def Verbs (P : Int → Prop) (A : Ac) : Prop := A.act = 3 → P A.call.verb
theorem claim_verb (l : List Obj) (ver : Int) (n : ByteArray) : Verbs (· = 5) (claimD l ver n) := by
  unfold claimD growN
  repeat' split
  all_goals first | exact (fun _ => rfl) | exact (fun h => absurd h (by show ¬ (1 : Int) = 3; omega)) | exact (fun h => absurd h (by show ¬ (0 : Int) = 3; omega))
theorem snap_verb (l : List Obj) (ver : Int) (n : ByteArray) : Verbs (fun v => v = 6 ∨ v = 7) (snapD l ver n) := by
  unfold snapD goN dropN
  repeat' split
  all_goals first | exact (fun _ => .inl rfl) | exact (fun _ => .inr rfl) | exact (fun h => absurd h (by show ¬ (1 : Int) = 3; omega)) | exact (fun h => absurd h (by show ¬ (0 : Int) = 3; omega))
theorem behind_claim (p : Obj) (t : Int) (c : Cl) (r : Rs) (h : c.verb = 5) : behindN p t c r = if r.err = 0 then writeA { p with got := r.size, num := 0 } else if r.err = 9 then writeA { p with num := t } else nothing := by
  unfold behindN
  rw [h]
  by_cases h0 : r.err = 0
  · rw [h0]; simp
  · by_cases h9 : r.err = 9
    · rw [h9]; simp
    · rw [if_neg h9, if_neg h0, if_neg h0, if_neg h9]
      simp
theorem behind_snap (p : Obj) (t : Int) (c : Cl) (r : Rs) (h : c.verb = 6 ∨ c.verb = 7) : behindN p t c r = if r.err = 9 then writeA { p with num := t } else if c.verb = 7 then (if r.err = 0 then removeA p else nothing) else if r.err = 0 then writeA { p with phase := 11, tag := r.tag, got := r.size, num := 0 } else if r.err = 5 then writeA { p with phase := 1, volume := E0 } else nothing := by
  unfold behindN
  rcases h with h | h <;> rw [h] <;> by_cases h9 : r.err = 9 <;> by_cases h0 : r.err = 0 <;> by_cases h5 : r.err = 5 <;> simp [h9, h0, h5]
end Go.Proofs.YtijgieefmnmakaaDoor.O.B
