/- A claim takes its volume. -/
import Derived.Test.YtfpdchabknoklaaDoorBLet
namespace Go.Proofs.YtfpdchabknoklaaDoor.O.B
open Go Go.RowKit Go.Shelf Go.Lib RangeMap KM
attribute [local go_sem] Oper.semAt_some

def takingN (c v : Obj) : Obj := { c with phase := 3, volume := v.name, got := v.got, zone := v.zone, num := 0 }

set_option maxRecDepth 100000 in
set_option maxHeartbeats 2000000 in
theorem taking_any (c v : Obj) (w : World) : Calls Tryd.prog 22 #[encO c, encO v] w fun e w' => e = .returned (encO (takingN c v)) ∧ Below w.heap.size w w' := by
  unfold encO
  go_enter Tryd.func22, Tryd.ntmps22
  go_upto_region 1 with (fail)
  refine wp_gen (fun V => BoxO V w.heap.size c ∧ BoxO V (w.heap.size + 1) v ∧ BoxO V (w.heap.size + 1 + 1) O0 ∧ Below w.heap.size w V) (chain3 w _ _ _) ?_
  rintro V ⟨h1, h2, h3, hl⟩
  have HA := Lib.hid h1
  have HB := Lib.hid h2
  have HO := Lib.hid h3
  have HL := Lib.hid hl
  clear h1 h2 h3 hl
  refine wp_region_held_drew (S := fun V => BoxO V (w.heap.size + 1) v) (by kernel_rfl) HB.out (fun _ => ?_)
  refine HeldBy.gen (fun V => BoxO V (w.heap.size + 1) v ∧ BoxO V w.heap.size c ∧ BoxO V (w.heap.size + 1 + 1) O0 ∧ Below w.heap.size w V) ⟨HB.out, HA.out, HO.out, HL.out.drew⟩ ?_
  clear HA HB HO HL
  rintro U0 ⟨HS, ha, ho, hl⟩
  refine HeldBy.take (i := 0) rfl (by kernel_rfl) (by kernel_rfl) (by kernel_rfl) (fun _ _ _ h => h) (by rfl) (fun V hV => by first | (go_simp; rfl) | (go_simp; done)) (by first | (go_simp; rfl) | (go_simp; done)) HS ?_
  refine HeldBy.take (i := 1) rfl (by kernel_rfl) (by kernel_rfl) (by kernel_rfl) (fun _ _ _ h => h) (by rfl) (fun V hV => by have hc := hV.c1; first | (go_simp; rfl) | (go_simp; done)) (by first | (go_simp; rfl) | (go_simp; done)) HS ?_
  refine HeldBy.take (i := 2) rfl (by kernel_rfl) (by kernel_rfl) (by kernel_rfl) (fun _ _ _ h => h) (by rfl) (fun V hV => by first | (go_simp; rfl) | (go_simp; done)) (by first | (go_simp; rfl) | (go_simp; done)) HS ?_
  refine HeldBy.take (i := 3) rfl (by kernel_rfl) (by kernel_rfl) (by kernel_rfl) (fun _ _ _ h => h) (by rfl) (fun V hV => by have hc := hV.c8; first | (go_simp; rfl) | (go_simp; done)) (by first | (go_simp; rfl) | (go_simp; done)) HS ?_
  refine HeldBy.take (i := 4) rfl (by kernel_rfl) (by kernel_rfl) (by kernel_rfl) (fun _ _ _ h => h) (by rfl) (fun V hV => by first | (go_simp; rfl) | (go_simp; done)) (by first | (go_simp; rfl) | (go_simp; done)) HS ?_
  refine HeldBy.take (i := 5) rfl (by kernel_rfl) (by kernel_rfl) (by kernel_rfl) (fun _ _ _ h => h) (by rfl) (fun V hV => by have hc := hV.c12; first | (go_simp; rfl) | (go_simp; done)) (by first | (go_simp; rfl) | (go_simp; done)) HS ?_
  refine HeldBy.take (i := 6) rfl (by kernel_rfl) (by kernel_rfl) (by kernel_rfl) (fun _ _ _ h => h) (by rfl) (fun V hV => by first | (go_simp; rfl) | (go_simp; done)) (by first | (go_simp; rfl) | (go_simp; done)) HS ?_
  obtain ⟨U1, hU1⟩ : ∃ V, U0.setCell ⟨w.heap.size, 17, none⟩ (.int .u8 3) = V := ⟨_, rfl⟩
  have hc17 := ha.c17
  have hf17 := ha.free 17
  have ha' : BoxO U1 w.heap.size { c with phase := 3 } := by rw [← hU1]; exact ha.s17 (3)
  have ho' : BoxO U1 (w.heap.size + 1 + 1) O0 := by rw [← hU1]; exact ho.other (by show w.heap.size + 1 + 1 ≠ w.heap.size; omega) _
  have hS' : BoxO U1 (w.heap.size + 1) v := by rw [← hU1]; exact HS.other (by show w.heap.size + 1 ≠ w.heap.size; omega) _
  have hl' : Below w.heap.size w U1 := by rw [← hU1]; exact hl.setCell (by show w.heap.size ≤ w.heap.size; omega) _
  refine HeldBy.store (i := 7) (w' := U1) rfl (by kernel_rfl) (by rfl) (by rw [← hU1]; first | (go_simp; done) | (go_simp; rfl)) (by first | (go_simp; rfl) | (go_simp; done)) hS' ?_
  clear hU1 hc17 hf17 ha ho HS hl
  have ha := ha'
  have ho := ho'
  have HS := hS'
  have hl := hl'
  clear ha' ho' hS' hl'
  refine HeldBy.take (i := 8) rfl (by kernel_rfl) (by kernel_rfl) (by kernel_rfl) (fun _ _ _ h => h) (by rfl) (fun V hV => by first | (go_simp; rfl) | (go_simp; done)) (by first | (go_simp; rfl) | (go_simp; done)) HS ?_
  obtain ⟨U2, hU2⟩ : ∃ V, U1.setCell ⟨w.heap.size, 15, none⟩ (.string v.name) = V := ⟨_, rfl⟩
  have hc15 := ha.c15
  have hf15 := ha.free 15
  have ha' : BoxO U2 w.heap.size { c with phase := 3, volume := v.name } := by rw [← hU2]; exact ha.s15 (v.name)
  have ho' : BoxO U2 (w.heap.size + 1 + 1) O0 := by rw [← hU2]; exact ho.other (by show w.heap.size + 1 + 1 ≠ w.heap.size; omega) _
  have hS' : BoxO U2 (w.heap.size + 1) v := by rw [← hU2]; exact HS.other (by show w.heap.size + 1 ≠ w.heap.size; omega) _
  have hl' : Below w.heap.size w U2 := by rw [← hU2]; exact hl.setCell (by show w.heap.size ≤ w.heap.size; omega) _
  refine HeldBy.store (i := 9) (w' := U2) rfl (by kernel_rfl) (by rfl) (by rw [← hU2]; first | (go_simp; done) | (go_simp; rfl)) (by first | (go_simp; rfl) | (go_simp; done)) hS' ?_
  clear hU2 hc15 hf15 ha ho HS hl
  have ha := ha'
  have ho := ho'
  have HS := hS'
  have hl := hl'
  clear ha' ho' hS' hl'
  refine HeldBy.take (i := 10) rfl (by kernel_rfl) (by kernel_rfl) (by kernel_rfl) (fun _ _ _ h => h) (by rfl) (fun V hV => by first | (go_simp; rfl) | (go_simp; done)) (by first | (go_simp; rfl) | (go_simp; done)) HS ?_
  obtain ⟨U3, hU3⟩ : ∃ V, U2.setCell ⟨w.heap.size, 8, none⟩ (.int .i64 v.got) = V := ⟨_, rfl⟩
  have hc8 := ha.c8
  have hf8 := ha.free 8
  have ha' : BoxO U3 w.heap.size { c with phase := 3, volume := v.name, got := v.got } := by rw [← hU3]; exact ha.s8 (v.got)
  have ho' : BoxO U3 (w.heap.size + 1 + 1) O0 := by rw [← hU3]; exact ho.other (by show w.heap.size + 1 + 1 ≠ w.heap.size; omega) _
  have hS' : BoxO U3 (w.heap.size + 1) v := by rw [← hU3]; exact HS.other (by show w.heap.size + 1 ≠ w.heap.size; omega) _
  have hl' : Below w.heap.size w U3 := by rw [← hU3]; exact hl.setCell (by show w.heap.size ≤ w.heap.size; omega) _
  refine HeldBy.store (i := 11) (w' := U3) rfl (by kernel_rfl) (by rfl) (by rw [← hU3]; first | (go_simp; done) | (go_simp; rfl)) (by first | (go_simp; rfl) | (go_simp; done)) hS' ?_
  clear hU3 hc8 hf8 ha ho HS hl
  have ha := ha'
  have ho := ho'
  have HS := hS'
  have hl := hl'
  clear ha' ho' hS' hl'
  refine HeldBy.take (i := 12) rfl (by kernel_rfl) (by kernel_rfl) (by kernel_rfl) (fun _ _ _ h => h) (by rfl) (fun V hV => by first | (go_simp; rfl) | (go_simp; done)) (by first | (go_simp; rfl) | (go_simp; done)) HS ?_
  obtain ⟨U4, hU4⟩ : ∃ V, U3.setCell ⟨w.heap.size, 12, none⟩ (.string v.zone) = V := ⟨_, rfl⟩
  have hc12 := ha.c12
  have hf12 := ha.free 12
  have ha' : BoxO U4 w.heap.size { c with phase := 3, volume := v.name, got := v.got, zone := v.zone } := by rw [← hU4]; exact ha.s12 (v.zone)
  have ho' : BoxO U4 (w.heap.size + 1 + 1) O0 := by rw [← hU4]; exact ho.other (by show w.heap.size + 1 + 1 ≠ w.heap.size; omega) _
  have hS' : BoxO U4 (w.heap.size + 1) v := by rw [← hU4]; exact HS.other (by show w.heap.size + 1 ≠ w.heap.size; omega) _
  have hl' : Below w.heap.size w U4 := by rw [← hU4]; exact hl.setCell (by show w.heap.size ≤ w.heap.size; omega) _
  refine HeldBy.store (i := 13) (w' := U4) rfl (by kernel_rfl) (by rfl) (by rw [← hU4]; first | (go_simp; done) | (go_simp; rfl)) (by first | (go_simp; rfl) | (go_simp; done)) hS' ?_
  clear hU4 hc12 hf12 ha ho HS hl
  have ha := ha'
  have ho := ho'
  have HS := hS'
  have hl := hl'
  clear ha' ho' hS' hl'
  refine HeldBy.take (i := 14) rfl (by kernel_rfl) (by kernel_rfl) (by kernel_rfl) (fun _ _ _ h => h) (by rfl) (fun V hV => by first | (go_simp; rfl) | (go_simp; done)) (by first | (go_simp; rfl) | (go_simp; done)) HS ?_
  obtain ⟨U5, hU5⟩ : ∃ V, U4.setCell ⟨w.heap.size, 18, none⟩ (.int .u64 0) = V := ⟨_, rfl⟩
  have hc18 := ha.c18
  have hf18 := ha.free 18
  have ha' : BoxO U5 w.heap.size { c with phase := 3, volume := v.name, got := v.got, zone := v.zone, num := 0 } := by rw [← hU5]; exact ha.s18 (0)
  have ho' : BoxO U5 (w.heap.size + 1 + 1) O0 := by rw [← hU5]; exact ho.other (by show w.heap.size + 1 + 1 ≠ w.heap.size; omega) _
  have hS' : BoxO U5 (w.heap.size + 1) v := by rw [← hU5]; exact HS.other (by show w.heap.size + 1 ≠ w.heap.size; omega) _
  have hl' : Below w.heap.size w U5 := by rw [← hU5]; exact hl.setCell (by show w.heap.size ≤ w.heap.size; omega) _
  refine HeldBy.store (i := 15) (w' := U5) rfl (by kernel_rfl) (by rfl) (by rw [← hU5]; first | (go_simp; done) | (go_simp; rfl)) (by first | (go_simp; rfl) | (go_simp; done)) hS' ?_
  clear hU5 hc18 hf18 ha ho HS hl
  have ha := ha'
  have ho := ho'
  have HS := hS'
  have hl := hl'
  clear ha' ho' hS' hl'
  refine wpAnyH_done (by kernel_rfl) ?_ _
  replace ha : BoxO U5 w.heap.size (takingN c v) := ha
  obtain ⟨V6, hst, ho6, -, hb⟩ := storing ho (takingN c v)
  have HO6 := Lib.hid ho6
  have HX := Lib.hid (hb _ _ hl (by omega))
  clear ho6 hb ho HS hl
  go_wp2_with (first | (refine wpList_skip rfl (hst rfl rfl rfl) ?_) | ((with_reducible refine wpList_load_obj ?_ rfl ?_ ha ?_); rfl; rfl))
  refine bodyPost_ret (v := encO (takingN c v)) (results_cell_row rfl _ _ (w.heap.size + 1 + 1) 31 (cellsO (takingN c v)) (0, 0) _ rfl HO6.out undObj rfl sizeObj) rfl ?_
  exact ⟨rfl, HX.out⟩
end Go.Proofs.YtfpdchabknoklaaDoor.O.B
