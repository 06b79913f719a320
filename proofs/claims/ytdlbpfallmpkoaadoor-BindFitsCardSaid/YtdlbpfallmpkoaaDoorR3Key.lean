/- the document's Key. -/
import Derived.Test.YtdlbpfallmpkoaaDoorOCore
import Derived.Deep.Cut
import Derived.Outline
namespace Go.Proofs.YtdlbpfallmpkoaaDoor.O
open Go.RowKit T
open Go.Lib

set_option maxHeartbeats 1000000 in
theorem rkey_any (o : Obj) (w : World) :
    Calls Tryd.prog 32 #[encO o] w fun e w' => e = .returned (encK o.kind o.name) ∧ Below w.heap.size w w' := by
  unfold encO
  go_enter Tryd.func32, Tryd.ntmps32
  go_upto_region 1 with (fail)
  refine wp_gen (fun W => BoxO W w.heap.size o ∧ W.heap[w.heap.size + 1]? = some (.cells #[.int .u8 0, .string ⟨#[]⟩] 53 (0, 0)) ∧ Below w.heap.size w W) ⟨(BoxO.new w o).alloc _, heap_alloc2_new w _ _, ((Below.refl _ _).alloc (Nat.le_refl _) _).alloc (by simp) _⟩ ?_
  rintro W1 ⟨hb, hk, hlow⟩
  have c0 := hb.c0
  have c1 := hb.c1
  have k0 : W1.cell? ⟨w.heap.size + 1, 0, none⟩ = some (.int .u8 0) := (cell_of_row W1 _ 0 _ _ _ hk).trans rfl
  have k1 : W1.cell? ⟨w.heap.size + 1, 1, none⟩ = some (.string ⟨#[]⟩) := (cell_of_row W1 _ 1 _ _ _ hk).trans rfl
  have f0 := frozen_of_row W1 _ 0 _ _ hk
  have f1 := frozen_of_row W1 _ 1 _ _ hk
  clear hk
  go_wp2
  go_outline
  refine bodyPost_ret (v := encK o.kind o.name) (by simp [results, Tryd.results32, go_sem, k0, k1]; rfl) rfl ?_
  exact ⟨rfl, (hlow.setCell (by simp) _).setCell (by simp) _⟩
end Go.Proofs.YtdlbpfallmpkoaaDoor.O
