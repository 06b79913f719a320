/- The document's own acts: write, remove, ask. -/
import Derived.Test.YtigoghhjncpgfaaKRefG
namespace Go.Proofs.Ytigoghhjncpgfaa.O.B
open Go Go.RowKit Go.Shelf Go.Lib RangeMap KM
attribute [local go_sem] Oper.semAt_some

set_option maxRecDepth 100000 in
set_option maxHeartbeats 2000000 in
theorem rwrite_any (o : Obj) (w : World) : Calls Try.prog 41 #[encO o] w fun e w' => e = .returned (encA (writeA o)) ∧ Below w.heap.size w w' := by
  unfold encO
  go_enter Try.func41, Try.ntmps41
  go_upto_region 1 with (fail)
  refine wp_gen (fun V => BoxO V w.heap.size o ∧ BoxA V (w.heap.size + 1) nothing ∧ Below w.heap.size w V) (chain2 w _ _) ?_
  rintro V ⟨h1, h2, hlw⟩
  obtain ⟨V2, hst, ho, -, hb⟩ := acting h2 (writeA o)
  have HO := Lib.hid ho
  have HW := Lib.hid (hb _ _ hlw (by omega))
  clear h2 hlw ho hb
  go_wp2_with (first | (refine wpList_skip rfl (hst rfl rfl rfl) ?_) | ((with_reducible refine wpList_load_obj ?_ rfl ?_ h1 ?_); rfl; rfl) | ((with_reducible refine wpList_build_to rfl 42 _ rfl (cellsA (writeA o)) ?_ ?_); exact built_write o))
  refine bodyPost_ret (v := encA (writeA o)) (results_cell_row rfl _ _ (w.heap.size + 1) 42 (cellsA (writeA o)) (0, 0) _ rfl HO.out undAct rfl sizeAct) rfl ?_
  exact ⟨rfl, HW.out⟩
set_option maxRecDepth 100000 in
set_option maxHeartbeats 2000000 in
theorem rremove_any (o : Obj) (w : World) : Calls Try.prog 48 #[encO o] w fun e w' => e = .returned (encA (removeA o)) ∧ Below w.heap.size w w' := by
  unfold encO
  go_enter Try.func48, Try.ntmps48
  go_upto_region 1 with (fail)
  refine wp_gen (fun V => BoxO V w.heap.size o ∧ BoxA V (w.heap.size + 1) nothing ∧ Below w.heap.size w V) (chain2 w _ _) ?_
  rintro V ⟨h1, h2, hlw⟩
  obtain ⟨V2, hst, ho, -, hb⟩ := acting h2 (removeA o)
  have HO := Lib.hid ho
  have HW := Lib.hid (hb _ _ hlw (by omega))
  clear h2 hlw ho hb
  go_wp2_with (first | (refine wpList_skip rfl (hst rfl rfl rfl) ?_) | ((with_reducible refine wpList_load_obj ?_ rfl ?_ h1 ?_); rfl; rfl) | ((with_reducible refine wpList_build_to rfl 42 _ rfl (cellsA (removeA o)) ?_ ?_); exact built_remove o))
  refine bodyPost_ret (v := encA (removeA o)) (results_cell_row rfl _ _ (w.heap.size + 1) 42 (cellsA (removeA o)) (0, 0) _ rfl HO.out undAct rfl sizeAct) rfl ?_
  exact ⟨rfl, HW.out⟩
set_option maxRecDepth 100000 in
set_option maxHeartbeats 2000000 in
theorem rask_any (c : Cl) (w : World) : Calls Try.prog 39 #[encC c] w fun e w' => e = .returned (encA (askA c)) ∧ Below w.heap.size w w' := by
  unfold encC
  go_enter Try.func39, Try.ntmps39
  go_upto_region 1 with (fail)
  refine wp_gen (fun V => BoxC V w.heap.size c ∧ BoxA V (w.heap.size + 1) nothing ∧ Below w.heap.size w V) (chain2 w _ _) ?_
  rintro V ⟨h1, h2, hlw⟩
  obtain ⟨V2, hst, ho, -, hb⟩ := acting h2 (askA c)
  have HO := Lib.hid ho
  have HW := Lib.hid (hb _ _ hlw (by omega))
  clear h2 hlw ho hb
  go_wp2_with (first | (refine wpList_skip rfl (hst rfl rfl rfl) ?_) | (refine wpList_got rfl (load_call h1 rfl rfl) ?_) | ((with_reducible refine wpList_build_to rfl 42 _ rfl (cellsA (askA c)) ?_ ?_); exact built_ask c))
  refine bodyPost_ret (v := encA (askA c)) (results_cell_row rfl _ _ (w.heap.size + 1) 42 (cellsA (askA c)) (0, 0) _ rfl HO.out undAct rfl sizeAct) rfl ?_
  exact ⟨rfl, HW.out⟩
end Go.Proofs.Ytigoghhjncpgfaa.O.B
