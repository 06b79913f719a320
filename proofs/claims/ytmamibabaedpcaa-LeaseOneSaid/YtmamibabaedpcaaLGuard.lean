/- Guards: the program's and the document's. -/
import Derived.Test.YtmamibabaedpcaaLTryC
namespace Go.Proofs.Ytmamibabaedpcaa.L
open Go.RowKit T O
open Go.Lib

def GAt (ty : TypeId) (W : World) (b : Nat) (t : Int) : Prop := W.heap[b]? = some (.cells #[.int .u64 t] ty (0, 0))
section
variable {ty : TypeId} {W W' : World} {b : Nat} {t : Int}
theorem GAt.lt (h : GAt ty W b t) : b < W.heap.size := (Array.getElem?_eq_some_iff.1 h).1
theorem GAt.after (h : GAt ty W b t) (hb : Below W.heap.size W W') : GAt ty W' b t := (hb.block b h.lt).trans h
theorem GAt.alloc (h : GAt ty W b t) (o : Go.Obj) : GAt ty (W.alloc o) b t := (Below.heap_alloc W o b h.lt).trans h
theorem GAt.other (h : GAt ty W b t) {p : Addr} (hp : b ≠ p.block) (v : Value) : GAt ty (W.setCell p v) b t := (heap_setCell_other W p b v hp).trans h
theorem GAt.set (h : GAt ty W b t) (n : Int) : GAt ty (W.setCell ⟨b, 0, none⟩ (.int .u64 n)) b n := by
  have := heap_setCell_same W b 0 _ _ (.int .u64 n) h
  exact this
theorem GAt.cell (h : GAt ty W b t) : W.cell? ⟨b, 0, none⟩ = some (.int .u64 t) := (cell_of_row W b 0 _ _ _ h).trans rfl
theorem GAt.free (h : GAt ty W b t) : W.frozen? ⟨b, 0, none⟩ = false := frozen_of_row W b 0 _ _ h
end

theorem newGuard_any (w : World) : Calls Try.prog 19 #[] w fun e w' => e = .returned (.pointer (some ⟨w.heap.size, 0, none⟩)) ∧ GAt 62 w' w.heap.size 0 ∧ Below w.heap.size w w' ∧ w'.heap.size = w.heap.size + 1 := by
  go_enter Try.func19, Try.ntmps19
  go_wp2
  go_ret
  exact ⟨rfl, heap_alloc_new _ _, (Below.refl _ _).alloc (Nat.le_refl _) _, by simp⟩
theorem refNewGuard_any (w : World) : Calls Try.prog 20 #[] w fun e w' => e = .returned (.pointer (some ⟨w.heap.size, 0, none⟩)) ∧ GAt 64 w' w.heap.size 0 ∧ Below w.heap.size w w' ∧ w'.heap.size = w.heap.size + 1 := by
  go_enter Try.func20, Try.ntmps20
  go_wp2
  go_ret
  exact ⟨rfl, heap_alloc_new _ _, (Below.refl _ _).alloc (Nat.le_refl _) _, by simp⟩

theorem check_old (b : Nat) (t n : Int) (w : World) (h : GAt 62 w b t) (hn : n < t) :
    Calls Try.prog 21 #[.pointer (some ⟨b, 0, none⟩), .int .u64 n] w fun e w' => e = .returned (.int .i64 9) ∧ w = w' := by
  have c := h.cell
  clear h
  go_enter Try.func21, Try.ntmps21
  go_wp2
  go_ret
  exact ⟨rfl, rfl⟩
theorem check_new (b : Nat) (t n : Int) (w : World) (h : GAt 62 w b t) (hn : t ≤ n) :
    Calls Try.prog 21 #[.pointer (some ⟨b, 0, none⟩), .int .u64 n] w fun e w' => e = .returned (.int .i64 0) ∧ w' = w.setCell ⟨b, 0, none⟩ (.int .u64 n) := by
  have c := h.cell
  have f := h.free
  clear h
  go_enter Try.func21, Try.ntmps21
  go_wp2
  go_ret
  exact ⟨rfl, rfl⟩
theorem refCheck_old (b : Nat) (t n : Int) (w : World) (h : GAt 64 w b t) (hn : n < t) :
    Calls Try.prog 22 #[.pointer (some ⟨b, 0, none⟩), .int .u64 n] w fun e w' => e = .returned (.int .i64 9) ∧ w = w' := by
  have c := h.cell
  clear h
  go_enter Try.func22, Try.ntmps22
  go_wp2
  go_ret
  exact ⟨rfl, rfl⟩
theorem refCheck_new (b : Nat) (t n : Int) (w : World) (h : GAt 64 w b t) (hn : t ≤ n) :
    Calls Try.prog 22 #[.pointer (some ⟨b, 0, none⟩), .int .u64 n] w fun e w' => e = .returned (.int .i64 0) ∧ w' = w.setCell ⟨b, 0, none⟩ (.int .u64 n) := by
  have c := h.cell
  have f := h.free
  clear h
  go_enter Try.func22, Try.ntmps22
  go_wp2
  go_ret
  exact ⟨rfl, rfl⟩
theorem check_nil (n : Int) (w : World) :
    Calls Try.prog 21 #[.pointer none, .int .u64 n] w fun e w' => e = .returned (.int .i64 1) ∧ w = w' := by
  go_enter Try.func21, Try.ntmps21
  go_wp2
  go_ret
  exact ⟨rfl, rfl⟩
theorem term_any (b : Nat) (t : Int) (w : World) (h : GAt 62 w b t) :
    Calls Try.prog 23 #[.pointer (some ⟨b, 0, none⟩)] w fun e w' => e = .returned (.int .u64 t) ∧ w = w' := by
  have c := h.cell
  clear h
  go_enter Try.func23, Try.ntmps23
  go_wp2
  go_ret
  exact ⟨rfl, rfl⟩
theorem term_nil (w : World) :
    Calls Try.prog 23 #[.pointer none] w fun e w' => e = .returned (.int .u64 0) ∧ w = w' := by
  go_enter Try.func23, Try.ntmps23
  go_wp2
  go_ret
  exact ⟨rfl, rfl⟩
theorem fork_any (b : Nat) (t : Int) (w : World) (h : GAt 62 w b t) :
    Calls Try.prog 24 #[.pointer (some ⟨b, 0, none⟩)] w fun e w' => e = .returned (.pointer (some ⟨w.heap.size, 0, none⟩)) ∧ GAt 62 w' w.heap.size t ∧ Below w.heap.size w w' := by
  have c := h.cell
  clear h
  go_enter Try.func24, Try.ntmps24
  go_wp2
  go_ret
  exact ⟨rfl, heap_alloc_new _ _, (Below.refl _ _).alloc (Nat.le_refl _) _⟩
theorem fork_nil (w : World) :
    Calls Try.prog 24 #[.pointer none] w fun e w' => e = .returned (.pointer none) ∧ w = w' := by
  go_enter Try.func24, Try.ntmps24
  go_wp2
  go_ret
  exact ⟨rfl, rfl⟩
end Go.Proofs.Ytmamibabaedpcaa.L
