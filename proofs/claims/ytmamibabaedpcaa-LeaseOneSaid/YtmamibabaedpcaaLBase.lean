/- Leases: who holds one, whose it is, the step that is given up. -/
import Derived.Test.YtmamibabaedpcaaLPlain
import Derived.Test.YtmamibabaedpcaaOName2
import Derived.Test.YtmamibabaedpcaaLRefName
import Derived.Outline
import Derived.Deep.Cut
import Derived.OwnWalk
import Derived.Laws.Tables
namespace Go.Proofs.Ytmamibabaedpcaa.L
open Go.RowKit T O
open Go.Lib

def encL (x : Lz) : Value := .agg #[.string x.h, .int .u64 x.u, .int .u64 x.t]
def cellsL (x : Lz) : Array Value := #[.string x.h, .int .u64 x.u, .int .u64 x.t]
/-- A step that was given up. -/
def gaveV (n : Int) : Value := .iface 66 (.agg #[.int .i64 n])
abbrev gaveUpL (n : Int) : Ending := .panicked [{ v := gaveV n, recovered := false }]
theorem tl_eq (a b : ByteArray) : (a.toList == b.toList) = decide (a = b) := by
  rw [Bool.eq_iff_iff, beq_iff_eq, decide_eq_true_eq, Lib.toList_data, Lib.toList_data]
  exact ⟨ba_ext, fun h => by rw [h]⟩
theorem emp_no {s : ByteArray} (h : emp s = false) : s.toList.isEmpty = false := by
  unfold emp at h
  rw [Lib.toList_data]
  simpa using h
theorem emp_yes {s : ByteArray} (h : emp s = true) : s.toList = [] := by
  unfold emp at h
  rw [Lib.toList_data]
  simpa using h

def BoxL (W : World) (b : Nat) (x : Lz) : Prop := W.heap[b]? = some (.cells (cellsL x) 24 (0, 0))
theorem wp_gen {P : Program} {c : Code} {Q : Exit → Act → World → Prop} {a : Act} {W : World} (F : World → Prop) (hF : F W) (h : ∀ W1, F W1 → Code.wp P c Q a W1) : Code.wp P c Q a W := h W hF
section
variable {W W' : World} {b : Nat} {x : Lz}
theorem BoxL.lt (h : BoxL W b x) : b < W.heap.size := (Array.getElem?_eq_some_iff.1 h).1
theorem BoxL.below (h : BoxL W b x) {B : Nat} (hb : Below B W W') (hB : b < B) : BoxL W' b x := (hb.block b hB).trans h
theorem BoxL.after (h : BoxL W b x) (hb : Below W.heap.size W W') : BoxL W' b x := h.below hb h.lt
theorem BoxL.alloc (h : BoxL W b x) (o : Go.Obj) : BoxL (W.alloc o) b x := (Below.heap_alloc W o b h.lt).trans h
theorem BoxL.other (h : BoxL W b x) {p : Addr} (hp : b ≠ p.block) (v : Value) : BoxL (W.setCell p v) b x := (heap_setCell_other W p b v hp).trans h
theorem BoxL.at (h : BoxL W b x) (i : Nat) : W.cell? ⟨b, i, none⟩ = (cellsL x)[i]? := cell_of_row W b i _ _ _ h
theorem BoxL.free (h : BoxL W b x) (i : Nat) : W.frozen? ⟨b, i, none⟩ = false := frozen_of_row W b i _ _ h
theorem BoxL.c0 (h : BoxL W b x) : W.cell? ⟨b, 0, none⟩ = some (.string x.h) := (h.at 0).trans rfl
theorem BoxL.c1 (h : BoxL W b x) : W.cell? ⟨b, 1, none⟩ = some (.int .u64 x.u) := (h.at 1).trans rfl
theorem BoxL.c2 (h : BoxL W b x) : W.cell? ⟨b, 2, none⟩ = some (.int .u64 x.t) := (h.at 2).trans rfl
theorem BoxL.s1 (h : BoxL W b x) (v : Int) : BoxL (W.setCell ⟨b, 1, none⟩ (.int .u64 v)) b ⟨x.h, v, x.t⟩ := by
  have := heap_setCell_same W b 1 _ _ (.int .u64 v) h
  exact this
theorem BoxL.new (W : World) (x : Lz) : BoxL (W.alloc (.cells (cellsL x) 24 (0, 0))) W.heap.size x := heap_alloc_new W _
end

set_option maxHeartbeats 400000 in
theorem holds_any (x : Lz) (who : ByteArray) (w : World) :
    Calls Try.prog 31 #[encL x, .string who] w fun e w' => e = .returned (.bool (holdB x who)) ∧ Below w.heap.size w w' := by
  obtain ⟨h, u, t⟩ := x
  unfold encL
  cases he : emp who with
  | true =>
    have H : Hid (holdB ⟨h, u, t⟩ who = false) := by show _ = _; unfold holdB; rw [he]; rfl
    have h1 := emp_yes he
    clear he
    go_enter Try.func31, Try.ntmps31
    go_wp2
    go_ret
    exact ⟨ret_bool H.out.symm, (Below.refl _ _).alloc (Nat.le_refl _) _⟩
  | false =>
    have h1 := emp_no he
    have H : Hid (holdB ⟨h, u, t⟩ who = (who.toList == h.toList)) := by
      show _ = _
      unfold holdB
      rw [he, tl_eq]
      rfl
    clear he
    go_enter Try.func31, Try.ntmps31
    go_wp2
    go_ret
    exact ⟨ret_bool H.out.symm, (Below.refl _ _).alloc (Nat.le_refl _) _⟩

set_option maxHeartbeats 400000 in
theorem mine_any (x : Lz) (who : ByteArray) (now : Int) (w : World) :
    Calls Try.prog 17 #[encL x, .string who, .int .u64 now] w fun e w' => e = .returned (.bool (mineB x who now)) ∧ Below w.heap.size w w' := by
  obtain ⟨h, u, t⟩ := x
  cases hh : holdB ⟨h, u, t⟩ who with
  | true =>
    have H : Hid (mineB ⟨h, u, t⟩ who now = decide (now < u)) := by show _ = _; unfold mineB; rw [hh]; rfl
    have HH := Lib.hid hh
    clear hh
    unfold encL
    go_enter Try.func17, Try.ntmps17
    go_wp2_with fail
    refine (holds_any ⟨h, u, t⟩ _ _).mono ?_
    rintro e w1 ⟨rfl, hb⟩
    rw [HH.out]
    have c1 := ((BoxL.new w ⟨h, u, t⟩).after hb).c1
    have HB := Lib.hid hb
    clear hb
    go_wp2
    go_ret
    exact ⟨ret_bool H.out.symm, ((Below.refl _ _).alloc (Nat.le_refl _) _).trans (HB.out.mono (by simp))⟩
  | false =>
    have H : Hid (mineB ⟨h, u, t⟩ who now = false) := by show _ = _; unfold mineB; rw [hh]; rfl
    have HH := Lib.hid hh
    clear hh
    unfold encL
    go_enter Try.func17, Try.ntmps17
    go_wp2_with fail
    refine (holds_any ⟨h, u, t⟩ _ _).mono ?_
    rintro e w1 ⟨rfl, hb⟩
    rw [HH.out]
    go_wp2
    go_ret
    exact ⟨ret_bool H.out.symm, ((Below.refl _ _).alloc (Nat.le_refl _) _).trans (hb.mono (by simp))⟩
theorem must_yes (n : Int) (w : World) : Calls Try.prog 27 #[.bool true, .int .i64 n] w fun e w' => e = .returned (.tuple #[]) ∧ w = w' := by
  go_enter Try.func27, Try.ntmps27
  go_wp2
  go_end0
  exact ⟨rfl, rfl⟩
theorem must_no (n : Int) (w : World) : Calls Try.prog 27 #[.bool false, .int .i64 n] w fun e w' => e = gaveUpL n ∧ w = w' := by
  unfold gaveUpL gaveV
  go_enter Try.func27, Try.ntmps27
  go_wp2
  exact ⟨rfl, rfl, rfl⟩
end Go.Proofs.Ytmamibabaedpcaa.L
