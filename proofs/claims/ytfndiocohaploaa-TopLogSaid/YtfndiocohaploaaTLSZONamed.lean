/- Own work. -/
import Derived.Deep.Cut
import Derived.Test.YtfndiocohaploaaTLJLawEnd
import Derived.Test.YtfndiocohaploaaTLJSZHeldBy
namespace Go.Proofs.Ytfndiocohaploaa.O
open Go.RowKit T
open Go.Lib hiding intOf
set_option maxRecDepth 100000 in
set_option maxHeartbeats 4000000 in
theorem named_1 (o : Obj) (w : World) (hk : o.kind = 1) :
    Calls Try.prog 57 #[encO o] w fun e w' => e = .returned (encO (bareO o)) ∧ Below w.heap.size w w' := by
  have hE : Hid (bareO o = { baseO o with zone := o.zone, wait := o.wait, keep := o.keep }) := by show _ = _; unfold bareO baseO; simp [hk]
  have HK := Lib.hid hk
  clear hk
  unfold encO
  go_enter Try.func57, Try.ntmps57
  go_upto_region 1 with (fail)
  refine wp_gen (fun W => BoxO W w.heap.size o ∧ BoxO W (w.heap.size + 1) O0 ∧ Below w.heap.size w W ∧ W.heap.size = w.heap.size + 2) ?_ ?_
  · exact ⟨(BoxO.new w o).alloc _, heap_alloc2_new w _ _, ((Below.refl _ _).alloc (Nat.le_refl _) _).alloc (by simp) _, by simp⟩
  rintro W1 ⟨hb, hr, hlow, hsz⟩
  have c0 := hb.c0
  have c1 := hb.c1
  have c2 := hb.c2
  have c3 := hb.c3
  have c4 := hb.c4
  have c5 := hb.c5
  have hn := BoxO.new W1 O0
  rw [hsz] at hn
  go_upto_region 2 with (first | ((with_reducible refine wpList_build_to rfl 30 _ rfl (cellsO (baseO o)) ?_ ?_); exact built_base o) | ((with_reducible refine wpList_store_rowTo rfl 30 _ _ rfl rfl (w.heap.size + 2) (cellsO (baseO o)) ?_ ?_ 30 (cellsO O0) ?_ ?_ ?_ ?_ ?_); rfl; rfl; exact hn; exact sizeObj; exact sz_cells _ _; exact one_cells _))
  refine wp_gen (fun W => BoxO W w.heap.size o ∧ BoxO W (w.heap.size + 1) O0 ∧ BoxO W (w.heap.size + 2) (baseO o) ∧ Below w.heap.size w W) ?_ ?_
  · exact ⟨(hb.alloc _).row (by omega) _, (hr.alloc _).row (by omega) _, hn.setRow _, below_setRow (hlow.alloc (by omega) _) (by omega) _⟩
  clear c0 c1 c2 c3 c4 c5 hb hr hlow hsz hn
  rintro W2 ⟨hb, hr, hn, hlow⟩
  have c0 := hb.c0
  have e1 : (o.kind == 1) = true := by rw [HK.out]; rfl
  go_wp2_with fail
  refine wp_region_held_drew (S := fun W => BoxO W w.heap.size o) (by kernel_rfl) hb.drew (fun _ => ?_)
  refine HeldBy.gen (fun W => BoxO W w.heap.size o ∧ BoxO W (w.heap.size + 1) O0 ∧ BoxO W (w.heap.size + 2) (baseO o) ∧ Below w.heap.size w W) ⟨hb.drew, hr.drew, hn.drew, hlow.drew⟩ ?_
  clear hb hr hn hlow
  rintro V2 ⟨hb, hr, hn, hlow⟩
  clear c0 e1
  refine HeldBy.take (i := 0) rfl (by kernel_rfl) (by kernel_rfl) (by kernel_rfl) (fun _ _ _ h => h) (by rfl) (fun _ _ => by go_simp; rfl) (by go_simp; rfl) hb ?_
  refine HeldBy.take (i := 1) rfl (by kernel_rfl) (by kernel_rfl) (by kernel_rfl) (fun _ _ _ h => h) (by rfl) (fun _ h => by have c := BoxO.c12 h; go_simp; rfl) (by go_simp; rfl) hb ?_
  refine HeldBy.take (i := 2) rfl (by kernel_rfl) (by kernel_rfl) (by kernel_rfl) (fun _ _ _ h => h) (by rfl) (fun _ _ => by go_simp; rfl) (by go_simp; rfl) hb ?_
  refine HeldBy.take (i := 3) rfl (by kernel_rfl) (by kernel_rfl) (by kernel_rfl) (fun _ _ _ h => h) (by rfl) (fun _ h => by have c := BoxO.c11 h; go_simp; rfl) (by go_simp; rfl) hb ?_
  refine HeldBy.take (i := 4) rfl (by kernel_rfl) (by kernel_rfl) (by kernel_rfl) (fun _ _ _ h => h) (by rfl) (fun _ _ => by go_simp; rfl) (by go_simp; rfl) hb ?_
  refine HeldBy.take (i := 5) rfl (by kernel_rfl) (by kernel_rfl) (by kernel_rfl) (fun _ _ _ h => h) (by rfl) (fun _ h => by have c := BoxO.c10 h; go_simp; rfl) (by go_simp; rfl) hb ?_
  refine HeldBy.take (i := 6) rfl (by kernel_rfl) (by kernel_rfl) (by kernel_rfl) (fun _ _ _ h => h) (by rfl) (fun _ _ => by go_simp; rfl) (by go_simp; rfl) hb ?_
  have n12 := hn.c12
  have f12 := hn.free 12
  refine HeldBy.store (i := 7) rfl (by kernel_rfl) (by rfl) (by go_simp; rfl) (by go_simp; rfl) (hb.other (by simp) _) ?_
  clear n12 f12
  refine HeldBy.gen (fun W => BoxO W w.heap.size o ∧ BoxO W (w.heap.size + 1) O0 ∧ BoxO W (w.heap.size + 2) ({ baseO o with zone := o.zone }) ∧ Below w.heap.size w W) ⟨hb.other (by simp) _, hr.other (by simp) _, hn.s12 o.zone, hlow.setCell (by simp) _⟩ ?_
  clear hb hr hn hlow
  rintro V2x ⟨hb, hr, hn, hlow⟩
  refine HeldBy.take (i := 8) rfl (by kernel_rfl) (by kernel_rfl) (by kernel_rfl) (fun _ _ _ h => h) (by rfl) (fun _ _ => by go_simp; rfl) (by go_simp; rfl) hb ?_
  have n11 := hn.c11
  have f11 := hn.free 11
  refine HeldBy.store (i := 9) rfl (by kernel_rfl) (by rfl) (by go_simp; rfl) (by go_simp; rfl) (hb.other (by simp) _) ?_
  clear n11 f11
  refine HeldBy.gen (fun W => BoxO W w.heap.size o ∧ BoxO W (w.heap.size + 1) O0 ∧ BoxO W (w.heap.size + 2) ({ baseO o with zone := o.zone, wait := o.wait }) ∧ Below w.heap.size w W) ⟨hb.other (by simp) _, hr.other (by simp) _, hn.s11 o.wait, hlow.setCell (by simp) _⟩ ?_
  clear hb hr hn hlow
  rintro V2xx ⟨hb, hr, hn, hlow⟩
  refine HeldBy.take (i := 10) rfl (by kernel_rfl) (by kernel_rfl) (by kernel_rfl) (fun _ _ _ h => h) (by rfl) (fun _ _ => by go_simp; rfl) (by go_simp; rfl) hb ?_
  have n10 := hn.c10
  have f10 := hn.free 10
  refine HeldBy.store (i := 11) rfl (by kernel_rfl) (by rfl) (by go_simp; rfl) (by go_simp; rfl) (hb.other (by simp) _) ?_
  clear n10 f10
  refine HeldBy.gen (fun W => BoxO W w.heap.size o ∧ BoxO W (w.heap.size + 1) O0 ∧ BoxO W (w.heap.size + 2) ({ baseO o with zone := o.zone, wait := o.wait, keep := o.keep }) ∧ Below w.heap.size w W) ⟨hb.other (by simp) _, hr.other (by simp) _, hn.s10 o.keep, hlow.setCell (by simp) _⟩ ?_
  clear hb hr hn hlow
  rintro V2xxx ⟨hb, hr, hn, hlow⟩
  refine wpAnyH_done (by kernel_rfl) ?_ _
  go_upto_region 23 with (fail)
  refine wp_gen (fun W => BoxO W w.heap.size o ∧ BoxO W (w.heap.size + 1) O0 ∧ BoxO W (w.heap.size + 2) ({ baseO o with zone := o.zone, wait := o.wait, keep := o.keep }) ∧ Below w.heap.size w W) ⟨hb, hr, hn, hlow⟩ ?_
  clear hb hr hn hlow
  rintro W3 ⟨hb, hr, hn, hlow⟩
  have hn' := hE.out ▸ hn
  clear hb
  go_wp2_with (first | ((with_reducible refine wpList_load_row rfl 30 _ rfl (w.heap.size + 2) ?_ 30 (cellsO (bareO o)) (0, 0) _ ?_ undObj ?_ ?_ ?_); rfl; exact hn'; rfl; exact sizeObj) | ((with_reducible refine wpList_store_rowTo rfl 30 _ _ rfl rfl (w.heap.size + 1) (cellsO (bareO o)) ?_ ?_ 30 (cellsO O0) ?_ ?_ ?_ ?_ ?_); rfl; rfl; exact hr; exact sizeObj; exact sz_cells _ _; exact one_cells _))
  refine bodyPost_ret (v := encO (bareO o)) (results_cell_row rfl _ _ (w.heap.size + 1) 30 (cellsO (bareO o)) (0, 0) _ rfl (hr.setRow _) undObj rfl sizeObj) rfl ?_
  exact ⟨rfl, below_setRow hlow (by omega) _⟩
set_option maxRecDepth 100000 in
set_option maxHeartbeats 4000000 in
theorem named_2 (o : Obj) (w : World) (hk : o.kind = 2) :
    Calls Try.prog 57 #[encO o] w fun e w' => e = .returned (encO (bareO o)) ∧ Below w.heap.size w w' := by
  have hE : Hid (bareO o = { baseO o with zone := o.zone }) := by show _ = _; unfold bareO baseO; simp [hk]
  have HK := Lib.hid hk
  clear hk
  unfold encO
  go_enter Try.func57, Try.ntmps57
  go_upto_region 1 with (fail)
  refine wp_gen (fun W => BoxO W w.heap.size o ∧ BoxO W (w.heap.size + 1) O0 ∧ Below w.heap.size w W ∧ W.heap.size = w.heap.size + 2) ?_ ?_
  · exact ⟨(BoxO.new w o).alloc _, heap_alloc2_new w _ _, ((Below.refl _ _).alloc (Nat.le_refl _) _).alloc (by simp) _, by simp⟩
  rintro W1 ⟨hb, hr, hlow, hsz⟩
  have c0 := hb.c0
  have c1 := hb.c1
  have c2 := hb.c2
  have c3 := hb.c3
  have c4 := hb.c4
  have c5 := hb.c5
  have hn := BoxO.new W1 O0
  rw [hsz] at hn
  go_upto_region 2 with (first | ((with_reducible refine wpList_build_to rfl 30 _ rfl (cellsO (baseO o)) ?_ ?_); exact built_base o) | ((with_reducible refine wpList_store_rowTo rfl 30 _ _ rfl rfl (w.heap.size + 2) (cellsO (baseO o)) ?_ ?_ 30 (cellsO O0) ?_ ?_ ?_ ?_ ?_); rfl; rfl; exact hn; exact sizeObj; exact sz_cells _ _; exact one_cells _))
  refine wp_gen (fun W => BoxO W w.heap.size o ∧ BoxO W (w.heap.size + 1) O0 ∧ BoxO W (w.heap.size + 2) (baseO o) ∧ Below w.heap.size w W) ?_ ?_
  · exact ⟨(hb.alloc _).row (by omega) _, (hr.alloc _).row (by omega) _, hn.setRow _, below_setRow (hlow.alloc (by omega) _) (by omega) _⟩
  clear c0 c1 c2 c3 c4 c5 hb hr hlow hsz hn
  rintro W2 ⟨hb, hr, hn, hlow⟩
  have c0 := hb.c0
  have e1 : (o.kind == 1) = false := by rw [HK.out]; rfl
  have e2 : (o.kind == 2) = true := by rw [HK.out]; rfl
  have c12 := hb.c12
  have n12 := hn.c12
  have f12 := hn.free 12
  go_upto_region 23 with (fail)
  refine wp_gen (fun W => BoxO W w.heap.size o ∧ BoxO W (w.heap.size + 1) O0 ∧ BoxO W (w.heap.size + 2) ({ baseO o with zone := o.zone }) ∧ Below w.heap.size w W) ?_ ?_
  · exact ⟨hb.other (by simp) _, hr.other (by simp) _, hn.s12 o.zone, hlow.setCell (by simp) _⟩
  clear c0 e1 e2 c12 n12 f12 hb hr hn hlow
  rintro W3 ⟨hb, hr, hn, hlow⟩
  have hn' := hE.out ▸ hn
  clear hb
  go_wp2_with (first | ((with_reducible refine wpList_load_row rfl 30 _ rfl (w.heap.size + 2) ?_ 30 (cellsO (bareO o)) (0, 0) _ ?_ undObj ?_ ?_ ?_); rfl; exact hn'; rfl; exact sizeObj) | ((with_reducible refine wpList_store_rowTo rfl 30 _ _ rfl rfl (w.heap.size + 1) (cellsO (bareO o)) ?_ ?_ 30 (cellsO O0) ?_ ?_ ?_ ?_ ?_); rfl; rfl; exact hr; exact sizeObj; exact sz_cells _ _; exact one_cells _))
  refine bodyPost_ret (v := encO (bareO o)) (results_cell_row rfl _ _ (w.heap.size + 1) 30 (cellsO (bareO o)) (0, 0) _ rfl (hr.setRow _) undObj rfl sizeObj) rfl ?_
  exact ⟨rfl, below_setRow hlow (by omega) _⟩
set_option maxRecDepth 100000 in
set_option maxHeartbeats 4000000 in
theorem named_3 (o : Obj) (w : World) (hk : o.kind = 3) :
    Calls Try.prog 57 #[encO o] w fun e w' => e = .returned (encO (bareO o)) ∧ Below w.heap.size w w' := by
  have hE : Hid (bareO o = { baseO o with cls := o.cls, size := o.size, got := o.got, mode := o.mode, zone := o.zone, node := o.node, volume := o.volume, source := o.source, phase := o.phase, num := o.num }) := by show _ = _; unfold bareO baseO; simp [hk]
  have HK := Lib.hid hk
  clear hk
  unfold encO
  go_enter Try.func57, Try.ntmps57
  go_upto_region 1 with (fail)
  refine wp_gen (fun W => BoxO W w.heap.size o ∧ BoxO W (w.heap.size + 1) O0 ∧ Below w.heap.size w W ∧ W.heap.size = w.heap.size + 2) ?_ ?_
  · exact ⟨(BoxO.new w o).alloc _, heap_alloc2_new w _ _, ((Below.refl _ _).alloc (Nat.le_refl _) _).alloc (by simp) _, by simp⟩
  rintro W1 ⟨hb, hr, hlow, hsz⟩
  have c0 := hb.c0
  have c1 := hb.c1
  have c2 := hb.c2
  have c3 := hb.c3
  have c4 := hb.c4
  have c5 := hb.c5
  have hn := BoxO.new W1 O0
  rw [hsz] at hn
  go_upto_region 2 with (first | ((with_reducible refine wpList_build_to rfl 30 _ rfl (cellsO (baseO o)) ?_ ?_); exact built_base o) | ((with_reducible refine wpList_store_rowTo rfl 30 _ _ rfl rfl (w.heap.size + 2) (cellsO (baseO o)) ?_ ?_ 30 (cellsO O0) ?_ ?_ ?_ ?_ ?_); rfl; rfl; exact hn; exact sizeObj; exact sz_cells _ _; exact one_cells _))
  refine wp_gen (fun W => BoxO W w.heap.size o ∧ BoxO W (w.heap.size + 1) O0 ∧ BoxO W (w.heap.size + 2) (baseO o) ∧ Below w.heap.size w W) ?_ ?_
  · exact ⟨(hb.alloc _).row (by omega) _, (hr.alloc _).row (by omega) _, hn.setRow _, below_setRow (hlow.alloc (by omega) _) (by omega) _⟩
  clear c0 c1 c2 c3 c4 c5 hb hr hlow hsz hn
  rintro W2 ⟨hb, hr, hn, hlow⟩
  have c0 := hb.c0
  have e1 : (o.kind == 1) = false := by rw [HK.out]; rfl
  have e2 : (o.kind == 2) = false := by rw [HK.out]; rfl
  have e3 : (o.kind == 3) = true := by rw [HK.out]; rfl
  go_wp2_with fail
  refine wp_region_held_drew (S := fun W => BoxO W w.heap.size o) (by kernel_rfl) hb.drew (fun _ => ?_)
  refine HeldBy.gen (fun W => BoxO W w.heap.size o ∧ BoxO W (w.heap.size + 1) O0 ∧ BoxO W (w.heap.size + 2) (baseO o) ∧ Below w.heap.size w W) ⟨hb.drew, hr.drew, hn.drew, hlow.drew⟩ ?_
  clear hb hr hn hlow
  rintro V2 ⟨hb, hr, hn, hlow⟩
  clear c0 e1 e2 e3
  refine HeldBy.take (i := 0) rfl (by kernel_rfl) (by kernel_rfl) (by kernel_rfl) (fun _ _ _ h => h) (by rfl) (fun _ _ => by go_simp; rfl) (by go_simp; rfl) hb ?_
  refine HeldBy.take (i := 1) rfl (by kernel_rfl) (by kernel_rfl) (by kernel_rfl) (fun _ _ _ h => h) (by rfl) (fun _ h => by have c := BoxO.c6 h; go_simp; rfl) (by go_simp; rfl) hb ?_
  refine HeldBy.take (i := 2) rfl (by kernel_rfl) (by kernel_rfl) (by kernel_rfl) (fun _ _ _ h => h) (by rfl) (fun _ _ => by go_simp; rfl) (by go_simp; rfl) hb ?_
  refine HeldBy.take (i := 3) rfl (by kernel_rfl) (by kernel_rfl) (by kernel_rfl) (fun _ _ _ h => h) (by rfl) (fun _ h => by have c := BoxO.c7 h; go_simp; rfl) (by go_simp; rfl) hb ?_
  refine HeldBy.take (i := 4) rfl (by kernel_rfl) (by kernel_rfl) (by kernel_rfl) (fun _ _ _ h => h) (by rfl) (fun _ _ => by go_simp; rfl) (by go_simp; rfl) hb ?_
  refine HeldBy.take (i := 5) rfl (by kernel_rfl) (by kernel_rfl) (by kernel_rfl) (fun _ _ _ h => h) (by rfl) (fun _ h => by have c := BoxO.c8 h; go_simp; rfl) (by go_simp; rfl) hb ?_
  refine HeldBy.take (i := 6) rfl (by kernel_rfl) (by kernel_rfl) (by kernel_rfl) (fun _ _ _ h => h) (by rfl) (fun _ _ => by go_simp; rfl) (by go_simp; rfl) hb ?_
  refine HeldBy.take (i := 7) rfl (by kernel_rfl) (by kernel_rfl) (by kernel_rfl) (fun _ _ _ h => h) (by rfl) (fun _ h => by have c := BoxO.c9 h; go_simp; rfl) (by go_simp; rfl) hb ?_
  refine HeldBy.take (i := 8) rfl (by kernel_rfl) (by kernel_rfl) (by kernel_rfl) (fun _ _ _ h => h) (by rfl) (fun _ _ => by go_simp; rfl) (by go_simp; rfl) hb ?_
  have n6 := hn.c6
  have f6 := hn.free 6
  refine HeldBy.store (i := 9) rfl (by kernel_rfl) (by rfl) (by go_simp; rfl) (by go_simp; rfl) (hb.other (by simp) _) ?_
  clear n6 f6
  refine HeldBy.gen (fun W => BoxO W w.heap.size o ∧ BoxO W (w.heap.size + 1) O0 ∧ BoxO W (w.heap.size + 2) ({ baseO o with cls := o.cls }) ∧ Below w.heap.size w W) ⟨hb.other (by simp) _, hr.other (by simp) _, hn.s6 o.cls, hlow.setCell (by simp) _⟩ ?_
  clear hb hr hn hlow
  rintro V2x ⟨hb, hr, hn, hlow⟩
  refine HeldBy.take (i := 10) rfl (by kernel_rfl) (by kernel_rfl) (by kernel_rfl) (fun _ _ _ h => h) (by rfl) (fun _ _ => by go_simp; rfl) (by go_simp; rfl) hb ?_
  have n7 := hn.c7
  have f7 := hn.free 7
  refine HeldBy.store (i := 11) rfl (by kernel_rfl) (by rfl) (by go_simp; rfl) (by go_simp; rfl) (hb.other (by simp) _) ?_
  clear n7 f7
  refine HeldBy.gen (fun W => BoxO W w.heap.size o ∧ BoxO W (w.heap.size + 1) O0 ∧ BoxO W (w.heap.size + 2) ({ baseO o with cls := o.cls, size := o.size }) ∧ Below w.heap.size w W) ⟨hb.other (by simp) _, hr.other (by simp) _, hn.s7 o.size, hlow.setCell (by simp) _⟩ ?_
  clear hb hr hn hlow
  rintro V2xx ⟨hb, hr, hn, hlow⟩
  refine HeldBy.take (i := 12) rfl (by kernel_rfl) (by kernel_rfl) (by kernel_rfl) (fun _ _ _ h => h) (by rfl) (fun _ _ => by go_simp; rfl) (by go_simp; rfl) hb ?_
  have n8 := hn.c8
  have f8 := hn.free 8
  refine HeldBy.store (i := 13) rfl (by kernel_rfl) (by rfl) (by go_simp; rfl) (by go_simp; rfl) (hb.other (by simp) _) ?_
  clear n8 f8
  refine HeldBy.gen (fun W => BoxO W w.heap.size o ∧ BoxO W (w.heap.size + 1) O0 ∧ BoxO W (w.heap.size + 2) ({ baseO o with cls := o.cls, size := o.size, got := o.got }) ∧ Below w.heap.size w W) ⟨hb.other (by simp) _, hr.other (by simp) _, hn.s8 o.got, hlow.setCell (by simp) _⟩ ?_
  clear hb hr hn hlow
  rintro V2xxx ⟨hb, hr, hn, hlow⟩
  refine HeldBy.take (i := 14) rfl (by kernel_rfl) (by kernel_rfl) (by kernel_rfl) (fun _ _ _ h => h) (by rfl) (fun _ _ => by go_simp; rfl) (by go_simp; rfl) hb ?_
  have n9 := hn.c9
  have f9 := hn.free 9
  refine HeldBy.store (i := 15) rfl (by kernel_rfl) (by rfl) (by go_simp; rfl) (by go_simp; rfl) (hb.other (by simp) _) ?_
  clear n9 f9
  refine HeldBy.gen (fun W => BoxO W w.heap.size o ∧ BoxO W (w.heap.size + 1) O0 ∧ BoxO W (w.heap.size + 2) ({ baseO o with cls := o.cls, size := o.size, got := o.got, mode := o.mode }) ∧ Below w.heap.size w W) ⟨hb.other (by simp) _, hr.other (by simp) _, hn.s9 o.mode, hlow.setCell (by simp) _⟩ ?_
  clear hb hr hn hlow
  rintro V2xxxx ⟨hb, hr, hn, hlow⟩
  refine wpAnyH_done (by kernel_rfl) ?_ _
  go_upto_region 9 with (fail)
  refine wp_gen (fun W => BoxO W w.heap.size o ∧ BoxO W (w.heap.size + 1) O0 ∧ BoxO W (w.heap.size + 2) ({ baseO o with cls := o.cls, size := o.size, got := o.got, mode := o.mode }) ∧ Below w.heap.size w W) ⟨hb, hr, hn, hlow⟩ ?_
  clear hb hr hn hlow
  rintro W3 ⟨hb, hr, hn, hlow⟩
  go_wp2_with fail
  refine wp_region_held_drew (S := fun W => BoxO W w.heap.size o) (by kernel_rfl) hb.drew (fun _ => ?_)
  refine HeldBy.gen (fun W => BoxO W w.heap.size o ∧ BoxO W (w.heap.size + 1) O0 ∧ BoxO W (w.heap.size + 2) ({ baseO o with cls := o.cls, size := o.size, got := o.got, mode := o.mode }) ∧ Below w.heap.size w W) ⟨hb.drew, hr.drew, hn.drew, hlow.drew⟩ ?_
  clear hb hr hn hlow
  rintro V3 ⟨hb, hr, hn, hlow⟩
  refine HeldBy.take (i := 0) rfl (by kernel_rfl) (by kernel_rfl) (by kernel_rfl) (fun _ _ _ h => h) (by rfl) (fun _ _ => by go_simp; rfl) (by go_simp; rfl) hb ?_
  refine HeldBy.take (i := 1) rfl (by kernel_rfl) (by kernel_rfl) (by kernel_rfl) (fun _ _ _ h => h) (by rfl) (fun _ h => by have c := BoxO.c12 h; go_simp; rfl) (by go_simp; rfl) hb ?_
  refine HeldBy.take (i := 2) rfl (by kernel_rfl) (by kernel_rfl) (by kernel_rfl) (fun _ _ _ h => h) (by rfl) (fun _ _ => by go_simp; rfl) (by go_simp; rfl) hb ?_
  refine HeldBy.take (i := 3) rfl (by kernel_rfl) (by kernel_rfl) (by kernel_rfl) (fun _ _ _ h => h) (by rfl) (fun _ h => by have c := BoxO.c13 h; go_simp; rfl) (by go_simp; rfl) hb ?_
  refine HeldBy.take (i := 4) rfl (by kernel_rfl) (by kernel_rfl) (by kernel_rfl) (fun _ _ _ h => h) (by rfl) (fun _ _ => by go_simp; rfl) (by go_simp; rfl) hb ?_
  refine HeldBy.take (i := 5) rfl (by kernel_rfl) (by kernel_rfl) (by kernel_rfl) (fun _ _ _ h => h) (by rfl) (fun _ h => by have c := BoxO.c15 h; go_simp; rfl) (by go_simp; rfl) hb ?_
  refine HeldBy.take (i := 6) rfl (by kernel_rfl) (by kernel_rfl) (by kernel_rfl) (fun _ _ _ h => h) (by rfl) (fun _ _ => by go_simp; rfl) (by go_simp; rfl) hb ?_
  refine HeldBy.take (i := 7) rfl (by kernel_rfl) (by kernel_rfl) (by kernel_rfl) (fun _ _ _ h => h) (by rfl) (fun _ h => by have c := BoxO.c16 h; go_simp; rfl) (by go_simp; rfl) hb ?_
  refine HeldBy.take (i := 8) rfl (by kernel_rfl) (by kernel_rfl) (by kernel_rfl) (fun _ _ _ h => h) (by rfl) (fun _ _ => by go_simp; rfl) (by go_simp; rfl) hb ?_
  have n12 := hn.c12
  have f12 := hn.free 12
  refine HeldBy.store (i := 9) rfl (by kernel_rfl) (by rfl) (by go_simp; rfl) (by go_simp; rfl) (hb.other (by simp) _) ?_
  clear n12 f12
  refine HeldBy.gen (fun W => BoxO W w.heap.size o ∧ BoxO W (w.heap.size + 1) O0 ∧ BoxO W (w.heap.size + 2) ({ baseO o with cls := o.cls, size := o.size, got := o.got, mode := o.mode, zone := o.zone }) ∧ Below w.heap.size w W) ⟨hb.other (by simp) _, hr.other (by simp) _, hn.s12 o.zone, hlow.setCell (by simp) _⟩ ?_
  clear hb hr hn hlow
  rintro V3x ⟨hb, hr, hn, hlow⟩
  refine HeldBy.take (i := 10) rfl (by kernel_rfl) (by kernel_rfl) (by kernel_rfl) (fun _ _ _ h => h) (by rfl) (fun _ _ => by go_simp; rfl) (by go_simp; rfl) hb ?_
  have n13 := hn.c13
  have f13 := hn.free 13
  refine HeldBy.store (i := 11) rfl (by kernel_rfl) (by rfl) (by go_simp; rfl) (by go_simp; rfl) (hb.other (by simp) _) ?_
  clear n13 f13
  refine HeldBy.gen (fun W => BoxO W w.heap.size o ∧ BoxO W (w.heap.size + 1) O0 ∧ BoxO W (w.heap.size + 2) ({ baseO o with cls := o.cls, size := o.size, got := o.got, mode := o.mode, zone := o.zone, node := o.node }) ∧ Below w.heap.size w W) ⟨hb.other (by simp) _, hr.other (by simp) _, hn.s13 o.node, hlow.setCell (by simp) _⟩ ?_
  clear hb hr hn hlow
  rintro V3xx ⟨hb, hr, hn, hlow⟩
  refine HeldBy.take (i := 12) rfl (by kernel_rfl) (by kernel_rfl) (by kernel_rfl) (fun _ _ _ h => h) (by rfl) (fun _ _ => by go_simp; rfl) (by go_simp; rfl) hb ?_
  have n15 := hn.c15
  have f15 := hn.free 15
  refine HeldBy.store (i := 13) rfl (by kernel_rfl) (by rfl) (by go_simp; rfl) (by go_simp; rfl) (hb.other (by simp) _) ?_
  clear n15 f15
  refine HeldBy.gen (fun W => BoxO W w.heap.size o ∧ BoxO W (w.heap.size + 1) O0 ∧ BoxO W (w.heap.size + 2) ({ baseO o with cls := o.cls, size := o.size, got := o.got, mode := o.mode, zone := o.zone, node := o.node, volume := o.volume }) ∧ Below w.heap.size w W) ⟨hb.other (by simp) _, hr.other (by simp) _, hn.s15 o.volume, hlow.setCell (by simp) _⟩ ?_
  clear hb hr hn hlow
  rintro V3xxx ⟨hb, hr, hn, hlow⟩
  refine HeldBy.take (i := 14) rfl (by kernel_rfl) (by kernel_rfl) (by kernel_rfl) (fun _ _ _ h => h) (by rfl) (fun _ _ => by go_simp; rfl) (by go_simp; rfl) hb ?_
  have n16 := hn.c16
  have f16 := hn.free 16
  refine HeldBy.store (i := 15) rfl (by kernel_rfl) (by rfl) (by go_simp; rfl) (by go_simp; rfl) (hb.other (by simp) _) ?_
  clear n16 f16
  refine HeldBy.gen (fun W => BoxO W w.heap.size o ∧ BoxO W (w.heap.size + 1) O0 ∧ BoxO W (w.heap.size + 2) ({ baseO o with cls := o.cls, size := o.size, got := o.got, mode := o.mode, zone := o.zone, node := o.node, volume := o.volume, source := o.source }) ∧ Below w.heap.size w W) ⟨hb.other (by simp) _, hr.other (by simp) _, hn.s16 o.source, hlow.setCell (by simp) _⟩ ?_
  clear hb hr hn hlow
  rintro V3xxxx ⟨hb, hr, hn, hlow⟩
  refine wpAnyH_done (by kernel_rfl) ?_ _
  go_upto_region 10 with (fail)
  refine wp_gen (fun W => BoxO W w.heap.size o ∧ BoxO W (w.heap.size + 1) O0 ∧ BoxO W (w.heap.size + 2) ({ baseO o with cls := o.cls, size := o.size, got := o.got, mode := o.mode, zone := o.zone, node := o.node, volume := o.volume, source := o.source }) ∧ Below w.heap.size w W) ⟨hb, hr, hn, hlow⟩ ?_
  clear hb hr hn hlow
  rintro W4 ⟨hb, hr, hn, hlow⟩
  go_wp2_with fail
  refine wp_region_held_drew (S := fun W => BoxO W w.heap.size o) (by kernel_rfl) hb.drew (fun _ => ?_)
  refine HeldBy.gen (fun W => BoxO W w.heap.size o ∧ BoxO W (w.heap.size + 1) O0 ∧ BoxO W (w.heap.size + 2) ({ baseO o with cls := o.cls, size := o.size, got := o.got, mode := o.mode, zone := o.zone, node := o.node, volume := o.volume, source := o.source }) ∧ Below w.heap.size w W) ⟨hb.drew, hr.drew, hn.drew, hlow.drew⟩ ?_
  clear hb hr hn hlow
  rintro V4 ⟨hb, hr, hn, hlow⟩
  refine HeldBy.take (i := 0) rfl (by kernel_rfl) (by kernel_rfl) (by kernel_rfl) (fun _ _ _ h => h) (by rfl) (fun _ _ => by go_simp; rfl) (by go_simp; rfl) hb ?_
  refine HeldBy.take (i := 1) rfl (by kernel_rfl) (by kernel_rfl) (by kernel_rfl) (fun _ _ _ h => h) (by rfl) (fun _ h => by have c := BoxO.c17 h; go_simp; rfl) (by go_simp; rfl) hb ?_
  refine HeldBy.take (i := 2) rfl (by kernel_rfl) (by kernel_rfl) (by kernel_rfl) (fun _ _ _ h => h) (by rfl) (fun _ _ => by go_simp; rfl) (by go_simp; rfl) hb ?_
  refine HeldBy.take (i := 3) rfl (by kernel_rfl) (by kernel_rfl) (by kernel_rfl) (fun _ _ _ h => h) (by rfl) (fun _ h => by have c := BoxO.c18 h; go_simp; rfl) (by go_simp; rfl) hb ?_
  refine HeldBy.take (i := 4) rfl (by kernel_rfl) (by kernel_rfl) (by kernel_rfl) (fun _ _ _ h => h) (by rfl) (fun _ _ => by go_simp; rfl) (by go_simp; rfl) hb ?_
  have n17 := hn.c17
  have f17 := hn.free 17
  refine HeldBy.store (i := 5) rfl (by kernel_rfl) (by rfl) (by go_simp; rfl) (by go_simp; rfl) (hb.other (by simp) _) ?_
  clear n17 f17
  refine HeldBy.gen (fun W => BoxO W w.heap.size o ∧ BoxO W (w.heap.size + 1) O0 ∧ BoxO W (w.heap.size + 2) ({ baseO o with cls := o.cls, size := o.size, got := o.got, mode := o.mode, zone := o.zone, node := o.node, volume := o.volume, source := o.source, phase := o.phase }) ∧ Below w.heap.size w W) ⟨hb.other (by simp) _, hr.other (by simp) _, hn.s17 o.phase, hlow.setCell (by simp) _⟩ ?_
  clear hb hr hn hlow
  rintro V4x ⟨hb, hr, hn, hlow⟩
  refine HeldBy.take (i := 6) rfl (by kernel_rfl) (by kernel_rfl) (by kernel_rfl) (fun _ _ _ h => h) (by rfl) (fun _ _ => by go_simp; rfl) (by go_simp; rfl) hb ?_
  have n18 := hn.c18
  have f18 := hn.free 18
  refine HeldBy.store (i := 7) rfl (by kernel_rfl) (by rfl) (by go_simp; rfl) (by go_simp; rfl) (hb.other (by simp) _) ?_
  clear n18 f18
  refine HeldBy.gen (fun W => BoxO W w.heap.size o ∧ BoxO W (w.heap.size + 1) O0 ∧ BoxO W (w.heap.size + 2) ({ baseO o with cls := o.cls, size := o.size, got := o.got, mode := o.mode, zone := o.zone, node := o.node, volume := o.volume, source := o.source, phase := o.phase, num := o.num }) ∧ Below w.heap.size w W) ⟨hb.other (by simp) _, hr.other (by simp) _, hn.s18 o.num, hlow.setCell (by simp) _⟩ ?_
  clear hb hr hn hlow
  rintro V4xx ⟨hb, hr, hn, hlow⟩
  refine wpAnyH_done (by kernel_rfl) ?_ _
  go_upto_region 23 with (fail)
  refine wp_gen (fun W => BoxO W w.heap.size o ∧ BoxO W (w.heap.size + 1) O0 ∧ BoxO W (w.heap.size + 2) ({ baseO o with cls := o.cls, size := o.size, got := o.got, mode := o.mode, zone := o.zone, node := o.node, volume := o.volume, source := o.source, phase := o.phase, num := o.num }) ∧ Below w.heap.size w W) ⟨hb, hr, hn, hlow⟩ ?_
  clear hb hr hn hlow
  rintro W5 ⟨hb, hr, hn, hlow⟩
  have hn' := hE.out ▸ hn
  clear hb
  go_wp2_with (first | ((with_reducible refine wpList_load_row rfl 30 _ rfl (w.heap.size + 2) ?_ 30 (cellsO (bareO o)) (0, 0) _ ?_ undObj ?_ ?_ ?_); rfl; exact hn'; rfl; exact sizeObj) | ((with_reducible refine wpList_store_rowTo rfl 30 _ _ rfl rfl (w.heap.size + 1) (cellsO (bareO o)) ?_ ?_ 30 (cellsO O0) ?_ ?_ ?_ ?_ ?_); rfl; rfl; exact hr; exact sizeObj; exact sz_cells _ _; exact one_cells _))
  refine bodyPost_ret (v := encO (bareO o)) (results_cell_row rfl _ _ (w.heap.size + 1) 30 (cellsO (bareO o)) (0, 0) _ rfl (hr.setRow _) undObj rfl sizeObj) rfl ?_
  exact ⟨rfl, below_setRow hlow (by omega) _⟩
set_option maxRecDepth 100000 in
set_option maxHeartbeats 4000000 in
theorem named_4 (o : Obj) (w : World) (hk : o.kind = 4) :
    Calls Try.prog 57 #[encO o] w fun e w' => e = .returned (encO (bareO o)) ∧ Below w.heap.size w w' := by
  have hE : Hid (bareO o = { baseO o with cls := o.cls, size := o.size, got := o.got, mode := o.mode, keep := o.keep, zone := o.zone, claim := o.claim, phase := o.phase, num := o.num }) := by show _ = _; unfold bareO baseO; simp [hk]
  have HK := Lib.hid hk
  clear hk
  unfold encO
  go_enter Try.func57, Try.ntmps57
  go_upto_region 1 with (fail)
  refine wp_gen (fun W => BoxO W w.heap.size o ∧ BoxO W (w.heap.size + 1) O0 ∧ Below w.heap.size w W ∧ W.heap.size = w.heap.size + 2) ?_ ?_
  · exact ⟨(BoxO.new w o).alloc _, heap_alloc2_new w _ _, ((Below.refl _ _).alloc (Nat.le_refl _) _).alloc (by simp) _, by simp⟩
  rintro W1 ⟨hb, hr, hlow, hsz⟩
  have c0 := hb.c0
  have c1 := hb.c1
  have c2 := hb.c2
  have c3 := hb.c3
  have c4 := hb.c4
  have c5 := hb.c5
  have hn := BoxO.new W1 O0
  rw [hsz] at hn
  go_upto_region 2 with (first | ((with_reducible refine wpList_build_to rfl 30 _ rfl (cellsO (baseO o)) ?_ ?_); exact built_base o) | ((with_reducible refine wpList_store_rowTo rfl 30 _ _ rfl rfl (w.heap.size + 2) (cellsO (baseO o)) ?_ ?_ 30 (cellsO O0) ?_ ?_ ?_ ?_ ?_); rfl; rfl; exact hn; exact sizeObj; exact sz_cells _ _; exact one_cells _))
  refine wp_gen (fun W => BoxO W w.heap.size o ∧ BoxO W (w.heap.size + 1) O0 ∧ BoxO W (w.heap.size + 2) (baseO o) ∧ Below w.heap.size w W) ?_ ?_
  · exact ⟨(hb.alloc _).row (by omega) _, (hr.alloc _).row (by omega) _, hn.setRow _, below_setRow (hlow.alloc (by omega) _) (by omega) _⟩
  clear c0 c1 c2 c3 c4 c5 hb hr hlow hsz hn
  rintro W2 ⟨hb, hr, hn, hlow⟩
  have c0 := hb.c0
  have e1 : (o.kind == 1) = false := by rw [HK.out]; rfl
  have e2 : (o.kind == 2) = false := by rw [HK.out]; rfl
  have e3 : (o.kind == 3) = false := by rw [HK.out]; rfl
  have e4 : (o.kind == 4) = true := by rw [HK.out]; rfl
  go_wp2_with fail
  refine wp_region_held_drew (S := fun W => BoxO W w.heap.size o) (by kernel_rfl) hb.drew (fun _ => ?_)
  refine HeldBy.gen (fun W => BoxO W w.heap.size o ∧ BoxO W (w.heap.size + 1) O0 ∧ BoxO W (w.heap.size + 2) (baseO o) ∧ Below w.heap.size w W) ⟨hb.drew, hr.drew, hn.drew, hlow.drew⟩ ?_
  clear hb hr hn hlow
  rintro V2 ⟨hb, hr, hn, hlow⟩
  clear c0 e1 e2 e3 e4
  refine HeldBy.take (i := 0) rfl (by kernel_rfl) (by kernel_rfl) (by kernel_rfl) (fun _ _ _ h => h) (by rfl) (fun _ _ => by go_simp; rfl) (by go_simp; rfl) hb ?_
  refine HeldBy.take (i := 1) rfl (by kernel_rfl) (by kernel_rfl) (by kernel_rfl) (fun _ _ _ h => h) (by rfl) (fun _ h => by have c := BoxO.c6 h; go_simp; rfl) (by go_simp; rfl) hb ?_
  refine HeldBy.take (i := 2) rfl (by kernel_rfl) (by kernel_rfl) (by kernel_rfl) (fun _ _ _ h => h) (by rfl) (fun _ _ => by go_simp; rfl) (by go_simp; rfl) hb ?_
  refine HeldBy.take (i := 3) rfl (by kernel_rfl) (by kernel_rfl) (by kernel_rfl) (fun _ _ _ h => h) (by rfl) (fun _ h => by have c := BoxO.c7 h; go_simp; rfl) (by go_simp; rfl) hb ?_
  refine HeldBy.take (i := 4) rfl (by kernel_rfl) (by kernel_rfl) (by kernel_rfl) (fun _ _ _ h => h) (by rfl) (fun _ _ => by go_simp; rfl) (by go_simp; rfl) hb ?_
  refine HeldBy.take (i := 5) rfl (by kernel_rfl) (by kernel_rfl) (by kernel_rfl) (fun _ _ _ h => h) (by rfl) (fun _ h => by have c := BoxO.c8 h; go_simp; rfl) (by go_simp; rfl) hb ?_
  refine HeldBy.take (i := 6) rfl (by kernel_rfl) (by kernel_rfl) (by kernel_rfl) (fun _ _ _ h => h) (by rfl) (fun _ _ => by go_simp; rfl) (by go_simp; rfl) hb ?_
  refine HeldBy.take (i := 7) rfl (by kernel_rfl) (by kernel_rfl) (by kernel_rfl) (fun _ _ _ h => h) (by rfl) (fun _ h => by have c := BoxO.c9 h; go_simp; rfl) (by go_simp; rfl) hb ?_
  refine HeldBy.take (i := 8) rfl (by kernel_rfl) (by kernel_rfl) (by kernel_rfl) (fun _ _ _ h => h) (by rfl) (fun _ _ => by go_simp; rfl) (by go_simp; rfl) hb ?_
  refine HeldBy.take (i := 9) rfl (by kernel_rfl) (by kernel_rfl) (by kernel_rfl) (fun _ _ _ h => h) (by rfl) (fun _ h => by have c := BoxO.c10 h; go_simp; rfl) (by go_simp; rfl) hb ?_
  refine HeldBy.take (i := 10) rfl (by kernel_rfl) (by kernel_rfl) (by kernel_rfl) (fun _ _ _ h => h) (by rfl) (fun _ _ => by go_simp; rfl) (by go_simp; rfl) hb ?_
  have n6 := hn.c6
  have f6 := hn.free 6
  refine HeldBy.store (i := 11) rfl (by kernel_rfl) (by rfl) (by go_simp; rfl) (by go_simp; rfl) (hb.other (by simp) _) ?_
  clear n6 f6
  refine HeldBy.gen (fun W => BoxO W w.heap.size o ∧ BoxO W (w.heap.size + 1) O0 ∧ BoxO W (w.heap.size + 2) ({ baseO o with cls := o.cls }) ∧ Below w.heap.size w W) ⟨hb.other (by simp) _, hr.other (by simp) _, hn.s6 o.cls, hlow.setCell (by simp) _⟩ ?_
  clear hb hr hn hlow
  rintro V2x ⟨hb, hr, hn, hlow⟩
  refine HeldBy.take (i := 12) rfl (by kernel_rfl) (by kernel_rfl) (by kernel_rfl) (fun _ _ _ h => h) (by rfl) (fun _ _ => by go_simp; rfl) (by go_simp; rfl) hb ?_
  have n7 := hn.c7
  have f7 := hn.free 7
  refine HeldBy.store (i := 13) rfl (by kernel_rfl) (by rfl) (by go_simp; rfl) (by go_simp; rfl) (hb.other (by simp) _) ?_
  clear n7 f7
  refine HeldBy.gen (fun W => BoxO W w.heap.size o ∧ BoxO W (w.heap.size + 1) O0 ∧ BoxO W (w.heap.size + 2) ({ baseO o with cls := o.cls, size := o.size }) ∧ Below w.heap.size w W) ⟨hb.other (by simp) _, hr.other (by simp) _, hn.s7 o.size, hlow.setCell (by simp) _⟩ ?_
  clear hb hr hn hlow
  rintro V2xx ⟨hb, hr, hn, hlow⟩
  refine HeldBy.take (i := 14) rfl (by kernel_rfl) (by kernel_rfl) (by kernel_rfl) (fun _ _ _ h => h) (by rfl) (fun _ _ => by go_simp; rfl) (by go_simp; rfl) hb ?_
  have n8 := hn.c8
  have f8 := hn.free 8
  refine HeldBy.store (i := 15) rfl (by kernel_rfl) (by rfl) (by go_simp; rfl) (by go_simp; rfl) (hb.other (by simp) _) ?_
  clear n8 f8
  refine HeldBy.gen (fun W => BoxO W w.heap.size o ∧ BoxO W (w.heap.size + 1) O0 ∧ BoxO W (w.heap.size + 2) ({ baseO o with cls := o.cls, size := o.size, got := o.got }) ∧ Below w.heap.size w W) ⟨hb.other (by simp) _, hr.other (by simp) _, hn.s8 o.got, hlow.setCell (by simp) _⟩ ?_
  clear hb hr hn hlow
  rintro V2xxx ⟨hb, hr, hn, hlow⟩
  refine HeldBy.take (i := 16) rfl (by kernel_rfl) (by kernel_rfl) (by kernel_rfl) (fun _ _ _ h => h) (by rfl) (fun _ _ => by go_simp; rfl) (by go_simp; rfl) hb ?_
  have n9 := hn.c9
  have f9 := hn.free 9
  refine HeldBy.store (i := 17) rfl (by kernel_rfl) (by rfl) (by go_simp; rfl) (by go_simp; rfl) (hb.other (by simp) _) ?_
  clear n9 f9
  refine HeldBy.gen (fun W => BoxO W w.heap.size o ∧ BoxO W (w.heap.size + 1) O0 ∧ BoxO W (w.heap.size + 2) ({ baseO o with cls := o.cls, size := o.size, got := o.got, mode := o.mode }) ∧ Below w.heap.size w W) ⟨hb.other (by simp) _, hr.other (by simp) _, hn.s9 o.mode, hlow.setCell (by simp) _⟩ ?_
  clear hb hr hn hlow
  rintro V2xxxx ⟨hb, hr, hn, hlow⟩
  refine HeldBy.take (i := 18) rfl (by kernel_rfl) (by kernel_rfl) (by kernel_rfl) (fun _ _ _ h => h) (by rfl) (fun _ _ => by go_simp; rfl) (by go_simp; rfl) hb ?_
  have n10 := hn.c10
  have f10 := hn.free 10
  refine HeldBy.store (i := 19) rfl (by kernel_rfl) (by rfl) (by go_simp; rfl) (by go_simp; rfl) (hb.other (by simp) _) ?_
  clear n10 f10
  refine HeldBy.gen (fun W => BoxO W w.heap.size o ∧ BoxO W (w.heap.size + 1) O0 ∧ BoxO W (w.heap.size + 2) ({ baseO o with cls := o.cls, size := o.size, got := o.got, mode := o.mode, keep := o.keep }) ∧ Below w.heap.size w W) ⟨hb.other (by simp) _, hr.other (by simp) _, hn.s10 o.keep, hlow.setCell (by simp) _⟩ ?_
  clear hb hr hn hlow
  rintro V2xxxxx ⟨hb, hr, hn, hlow⟩
  refine wpAnyH_done (by kernel_rfl) ?_ _
  go_upto_region 13 with (fail)
  refine wp_gen (fun W => BoxO W w.heap.size o ∧ BoxO W (w.heap.size + 1) O0 ∧ BoxO W (w.heap.size + 2) ({ baseO o with cls := o.cls, size := o.size, got := o.got, mode := o.mode, keep := o.keep }) ∧ Below w.heap.size w W) ⟨hb, hr, hn, hlow⟩ ?_
  clear hb hr hn hlow
  rintro W3 ⟨hb, hr, hn, hlow⟩
  go_wp2_with fail
  refine wp_region_held_drew (S := fun W => BoxO W w.heap.size o) (by kernel_rfl) hb.drew (fun _ => ?_)
  refine HeldBy.gen (fun W => BoxO W w.heap.size o ∧ BoxO W (w.heap.size + 1) O0 ∧ BoxO W (w.heap.size + 2) ({ baseO o with cls := o.cls, size := o.size, got := o.got, mode := o.mode, keep := o.keep }) ∧ Below w.heap.size w W) ⟨hb.drew, hr.drew, hn.drew, hlow.drew⟩ ?_
  clear hb hr hn hlow
  rintro V3 ⟨hb, hr, hn, hlow⟩
  refine HeldBy.take (i := 0) rfl (by kernel_rfl) (by kernel_rfl) (by kernel_rfl) (fun _ _ _ h => h) (by rfl) (fun _ _ => by go_simp; rfl) (by go_simp; rfl) hb ?_
  refine HeldBy.take (i := 1) rfl (by kernel_rfl) (by kernel_rfl) (by kernel_rfl) (fun _ _ _ h => h) (by rfl) (fun _ h => by have c := BoxO.c12 h; go_simp; rfl) (by go_simp; rfl) hb ?_
  refine HeldBy.take (i := 2) rfl (by kernel_rfl) (by kernel_rfl) (by kernel_rfl) (fun _ _ _ h => h) (by rfl) (fun _ _ => by go_simp; rfl) (by go_simp; rfl) hb ?_
  refine HeldBy.take (i := 3) rfl (by kernel_rfl) (by kernel_rfl) (by kernel_rfl) (fun _ _ _ h => h) (by rfl) (fun _ h => by have c := BoxO.c14 h; go_simp; rfl) (by go_simp; rfl) hb ?_
  refine HeldBy.take (i := 4) rfl (by kernel_rfl) (by kernel_rfl) (by kernel_rfl) (fun _ _ _ h => h) (by rfl) (fun _ _ => by go_simp; rfl) (by go_simp; rfl) hb ?_
  have n12 := hn.c12
  have f12 := hn.free 12
  refine HeldBy.store (i := 5) rfl (by kernel_rfl) (by rfl) (by go_simp; rfl) (by go_simp; rfl) (hb.other (by simp) _) ?_
  clear n12 f12
  refine HeldBy.gen (fun W => BoxO W w.heap.size o ∧ BoxO W (w.heap.size + 1) O0 ∧ BoxO W (w.heap.size + 2) ({ baseO o with cls := o.cls, size := o.size, got := o.got, mode := o.mode, keep := o.keep, zone := o.zone }) ∧ Below w.heap.size w W) ⟨hb.other (by simp) _, hr.other (by simp) _, hn.s12 o.zone, hlow.setCell (by simp) _⟩ ?_
  clear hb hr hn hlow
  rintro V3x ⟨hb, hr, hn, hlow⟩
  refine HeldBy.take (i := 6) rfl (by kernel_rfl) (by kernel_rfl) (by kernel_rfl) (fun _ _ _ h => h) (by rfl) (fun _ _ => by go_simp; rfl) (by go_simp; rfl) hb ?_
  have n14 := hn.c14
  have f14 := hn.free 14
  refine HeldBy.store (i := 7) rfl (by kernel_rfl) (by rfl) (by go_simp; rfl) (by go_simp; rfl) (hb.other (by simp) _) ?_
  clear n14 f14
  refine HeldBy.gen (fun W => BoxO W w.heap.size o ∧ BoxO W (w.heap.size + 1) O0 ∧ BoxO W (w.heap.size + 2) ({ baseO o with cls := o.cls, size := o.size, got := o.got, mode := o.mode, keep := o.keep, zone := o.zone, claim := o.claim }) ∧ Below w.heap.size w W) ⟨hb.other (by simp) _, hr.other (by simp) _, hn.s14 o.claim, hlow.setCell (by simp) _⟩ ?_
  clear hb hr hn hlow
  rintro V3xx ⟨hb, hr, hn, hlow⟩
  refine wpAnyH_done (by kernel_rfl) ?_ _
  go_upto_region 14 with (fail)
  refine wp_gen (fun W => BoxO W w.heap.size o ∧ BoxO W (w.heap.size + 1) O0 ∧ BoxO W (w.heap.size + 2) ({ baseO o with cls := o.cls, size := o.size, got := o.got, mode := o.mode, keep := o.keep, zone := o.zone, claim := o.claim }) ∧ Below w.heap.size w W) ⟨hb, hr, hn, hlow⟩ ?_
  clear hb hr hn hlow
  rintro W4 ⟨hb, hr, hn, hlow⟩
  go_wp2_with fail
  refine wp_region_held_drew (S := fun W => BoxO W w.heap.size o) (by kernel_rfl) hb.drew (fun _ => ?_)
  refine HeldBy.gen (fun W => BoxO W w.heap.size o ∧ BoxO W (w.heap.size + 1) O0 ∧ BoxO W (w.heap.size + 2) ({ baseO o with cls := o.cls, size := o.size, got := o.got, mode := o.mode, keep := o.keep, zone := o.zone, claim := o.claim }) ∧ Below w.heap.size w W) ⟨hb.drew, hr.drew, hn.drew, hlow.drew⟩ ?_
  clear hb hr hn hlow
  rintro V4 ⟨hb, hr, hn, hlow⟩
  refine HeldBy.take (i := 0) rfl (by kernel_rfl) (by kernel_rfl) (by kernel_rfl) (fun _ _ _ h => h) (by rfl) (fun _ _ => by go_simp; rfl) (by go_simp; rfl) hb ?_
  refine HeldBy.take (i := 1) rfl (by kernel_rfl) (by kernel_rfl) (by kernel_rfl) (fun _ _ _ h => h) (by rfl) (fun _ h => by have c := BoxO.c17 h; go_simp; rfl) (by go_simp; rfl) hb ?_
  refine HeldBy.take (i := 2) rfl (by kernel_rfl) (by kernel_rfl) (by kernel_rfl) (fun _ _ _ h => h) (by rfl) (fun _ _ => by go_simp; rfl) (by go_simp; rfl) hb ?_
  refine HeldBy.take (i := 3) rfl (by kernel_rfl) (by kernel_rfl) (by kernel_rfl) (fun _ _ _ h => h) (by rfl) (fun _ h => by have c := BoxO.c18 h; go_simp; rfl) (by go_simp; rfl) hb ?_
  refine HeldBy.take (i := 4) rfl (by kernel_rfl) (by kernel_rfl) (by kernel_rfl) (fun _ _ _ h => h) (by rfl) (fun _ _ => by go_simp; rfl) (by go_simp; rfl) hb ?_
  have n17 := hn.c17
  have f17 := hn.free 17
  refine HeldBy.store (i := 5) rfl (by kernel_rfl) (by rfl) (by go_simp; rfl) (by go_simp; rfl) (hb.other (by simp) _) ?_
  clear n17 f17
  refine HeldBy.gen (fun W => BoxO W w.heap.size o ∧ BoxO W (w.heap.size + 1) O0 ∧ BoxO W (w.heap.size + 2) ({ baseO o with cls := o.cls, size := o.size, got := o.got, mode := o.mode, keep := o.keep, zone := o.zone, claim := o.claim, phase := o.phase }) ∧ Below w.heap.size w W) ⟨hb.other (by simp) _, hr.other (by simp) _, hn.s17 o.phase, hlow.setCell (by simp) _⟩ ?_
  clear hb hr hn hlow
  rintro V4x ⟨hb, hr, hn, hlow⟩
  refine HeldBy.take (i := 6) rfl (by kernel_rfl) (by kernel_rfl) (by kernel_rfl) (fun _ _ _ h => h) (by rfl) (fun _ _ => by go_simp; rfl) (by go_simp; rfl) hb ?_
  have n18 := hn.c18
  have f18 := hn.free 18
  refine HeldBy.store (i := 7) rfl (by kernel_rfl) (by rfl) (by go_simp; rfl) (by go_simp; rfl) (hb.other (by simp) _) ?_
  clear n18 f18
  refine HeldBy.gen (fun W => BoxO W w.heap.size o ∧ BoxO W (w.heap.size + 1) O0 ∧ BoxO W (w.heap.size + 2) ({ baseO o with cls := o.cls, size := o.size, got := o.got, mode := o.mode, keep := o.keep, zone := o.zone, claim := o.claim, phase := o.phase, num := o.num }) ∧ Below w.heap.size w W) ⟨hb.other (by simp) _, hr.other (by simp) _, hn.s18 o.num, hlow.setCell (by simp) _⟩ ?_
  clear hb hr hn hlow
  rintro V4xx ⟨hb, hr, hn, hlow⟩
  refine wpAnyH_done (by kernel_rfl) ?_ _
  go_upto_region 23 with (fail)
  refine wp_gen (fun W => BoxO W w.heap.size o ∧ BoxO W (w.heap.size + 1) O0 ∧ BoxO W (w.heap.size + 2) ({ baseO o with cls := o.cls, size := o.size, got := o.got, mode := o.mode, keep := o.keep, zone := o.zone, claim := o.claim, phase := o.phase, num := o.num }) ∧ Below w.heap.size w W) ⟨hb, hr, hn, hlow⟩ ?_
  clear hb hr hn hlow
  rintro W5 ⟨hb, hr, hn, hlow⟩
  have hn' := hE.out ▸ hn
  clear hb
  go_wp2_with (first | ((with_reducible refine wpList_load_row rfl 30 _ rfl (w.heap.size + 2) ?_ 30 (cellsO (bareO o)) (0, 0) _ ?_ undObj ?_ ?_ ?_); rfl; exact hn'; rfl; exact sizeObj) | ((with_reducible refine wpList_store_rowTo rfl 30 _ _ rfl rfl (w.heap.size + 1) (cellsO (bareO o)) ?_ ?_ 30 (cellsO O0) ?_ ?_ ?_ ?_ ?_); rfl; rfl; exact hr; exact sizeObj; exact sz_cells _ _; exact one_cells _))
  refine bodyPost_ret (v := encO (bareO o)) (results_cell_row rfl _ _ (w.heap.size + 1) 30 (cellsO (bareO o)) (0, 0) _ rfl (hr.setRow _) undObj rfl sizeObj) rfl ?_
  exact ⟨rfl, below_setRow hlow (by omega) _⟩
set_option maxRecDepth 100000 in
set_option maxHeartbeats 4000000 in
theorem named_5 (o : Obj) (w : World) (hk : o.kind = 5) :
    Calls Try.prog 57 #[encO o] w fun e w' => e = .returned (encO (bareO o)) ∧ Below w.heap.size w w' := by
  have hE : Hid (bareO o = { baseO o with volume := o.volume, node := o.node, phase := o.phase, num := o.num }) := by show _ = _; unfold bareO baseO; simp [hk]
  have HK := Lib.hid hk
  clear hk
  unfold encO
  go_enter Try.func57, Try.ntmps57
  go_upto_region 1 with (fail)
  refine wp_gen (fun W => BoxO W w.heap.size o ∧ BoxO W (w.heap.size + 1) O0 ∧ Below w.heap.size w W ∧ W.heap.size = w.heap.size + 2) ?_ ?_
  · exact ⟨(BoxO.new w o).alloc _, heap_alloc2_new w _ _, ((Below.refl _ _).alloc (Nat.le_refl _) _).alloc (by simp) _, by simp⟩
  rintro W1 ⟨hb, hr, hlow, hsz⟩
  have c0 := hb.c0
  have c1 := hb.c1
  have c2 := hb.c2
  have c3 := hb.c3
  have c4 := hb.c4
  have c5 := hb.c5
  have hn := BoxO.new W1 O0
  rw [hsz] at hn
  go_upto_region 2 with (first | ((with_reducible refine wpList_build_to rfl 30 _ rfl (cellsO (baseO o)) ?_ ?_); exact built_base o) | ((with_reducible refine wpList_store_rowTo rfl 30 _ _ rfl rfl (w.heap.size + 2) (cellsO (baseO o)) ?_ ?_ 30 (cellsO O0) ?_ ?_ ?_ ?_ ?_); rfl; rfl; exact hn; exact sizeObj; exact sz_cells _ _; exact one_cells _))
  refine wp_gen (fun W => BoxO W w.heap.size o ∧ BoxO W (w.heap.size + 1) O0 ∧ BoxO W (w.heap.size + 2) (baseO o) ∧ Below w.heap.size w W) ?_ ?_
  · exact ⟨(hb.alloc _).row (by omega) _, (hr.alloc _).row (by omega) _, hn.setRow _, below_setRow (hlow.alloc (by omega) _) (by omega) _⟩
  clear c0 c1 c2 c3 c4 c5 hb hr hlow hsz hn
  rintro W2 ⟨hb, hr, hn, hlow⟩
  have c0 := hb.c0
  have e1 : (o.kind == 1) = false := by rw [HK.out]; rfl
  have e2 : (o.kind == 2) = false := by rw [HK.out]; rfl
  have e3 : (o.kind == 3) = false := by rw [HK.out]; rfl
  have e4 : (o.kind == 4) = false := by rw [HK.out]; rfl
  have e5 : (o.kind == 5) = true := by rw [HK.out]; rfl
  go_wp2_with fail
  refine wp_region_held_drew (S := fun W => BoxO W w.heap.size o) (by kernel_rfl) hb.drew (fun _ => ?_)
  refine HeldBy.gen (fun W => BoxO W w.heap.size o ∧ BoxO W (w.heap.size + 1) O0 ∧ BoxO W (w.heap.size + 2) (baseO o) ∧ Below w.heap.size w W) ⟨hb.drew, hr.drew, hn.drew, hlow.drew⟩ ?_
  clear hb hr hn hlow
  rintro V2 ⟨hb, hr, hn, hlow⟩
  clear c0 e1 e2 e3 e4 e5
  refine HeldBy.take (i := 0) rfl (by kernel_rfl) (by kernel_rfl) (by kernel_rfl) (fun _ _ _ h => h) (by rfl) (fun _ _ => by go_simp; rfl) (by go_simp; rfl) hb ?_
  refine HeldBy.take (i := 1) rfl (by kernel_rfl) (by kernel_rfl) (by kernel_rfl) (fun _ _ _ h => h) (by rfl) (fun _ h => by have c := BoxO.c15 h; go_simp; rfl) (by go_simp; rfl) hb ?_
  refine HeldBy.take (i := 2) rfl (by kernel_rfl) (by kernel_rfl) (by kernel_rfl) (fun _ _ _ h => h) (by rfl) (fun _ _ => by go_simp; rfl) (by go_simp; rfl) hb ?_
  refine HeldBy.take (i := 3) rfl (by kernel_rfl) (by kernel_rfl) (by kernel_rfl) (fun _ _ _ h => h) (by rfl) (fun _ h => by have c := BoxO.c13 h; go_simp; rfl) (by go_simp; rfl) hb ?_
  refine HeldBy.take (i := 4) rfl (by kernel_rfl) (by kernel_rfl) (by kernel_rfl) (fun _ _ _ h => h) (by rfl) (fun _ _ => by go_simp; rfl) (by go_simp; rfl) hb ?_
  have n15 := hn.c15
  have f15 := hn.free 15
  refine HeldBy.store (i := 5) rfl (by kernel_rfl) (by rfl) (by go_simp; rfl) (by go_simp; rfl) (hb.other (by simp) _) ?_
  clear n15 f15
  refine HeldBy.gen (fun W => BoxO W w.heap.size o ∧ BoxO W (w.heap.size + 1) O0 ∧ BoxO W (w.heap.size + 2) ({ baseO o with volume := o.volume }) ∧ Below w.heap.size w W) ⟨hb.other (by simp) _, hr.other (by simp) _, hn.s15 o.volume, hlow.setCell (by simp) _⟩ ?_
  clear hb hr hn hlow
  rintro V2x ⟨hb, hr, hn, hlow⟩
  refine HeldBy.take (i := 6) rfl (by kernel_rfl) (by kernel_rfl) (by kernel_rfl) (fun _ _ _ h => h) (by rfl) (fun _ _ => by go_simp; rfl) (by go_simp; rfl) hb ?_
  have n13 := hn.c13
  have f13 := hn.free 13
  refine HeldBy.store (i := 7) rfl (by kernel_rfl) (by rfl) (by go_simp; rfl) (by go_simp; rfl) (hb.other (by simp) _) ?_
  clear n13 f13
  refine HeldBy.gen (fun W => BoxO W w.heap.size o ∧ BoxO W (w.heap.size + 1) O0 ∧ BoxO W (w.heap.size + 2) ({ baseO o with volume := o.volume, node := o.node }) ∧ Below w.heap.size w W) ⟨hb.other (by simp) _, hr.other (by simp) _, hn.s13 o.node, hlow.setCell (by simp) _⟩ ?_
  clear hb hr hn hlow
  rintro V2xx ⟨hb, hr, hn, hlow⟩
  refine wpAnyH_done (by kernel_rfl) ?_ _
  go_upto_region 17 with (fail)
  refine wp_gen (fun W => BoxO W w.heap.size o ∧ BoxO W (w.heap.size + 1) O0 ∧ BoxO W (w.heap.size + 2) ({ baseO o with volume := o.volume, node := o.node }) ∧ Below w.heap.size w W) ⟨hb, hr, hn, hlow⟩ ?_
  clear hb hr hn hlow
  rintro W3 ⟨hb, hr, hn, hlow⟩
  go_wp2_with fail
  refine wp_region_held_drew (S := fun W => BoxO W w.heap.size o) (by kernel_rfl) hb.drew (fun _ => ?_)
  refine HeldBy.gen (fun W => BoxO W w.heap.size o ∧ BoxO W (w.heap.size + 1) O0 ∧ BoxO W (w.heap.size + 2) ({ baseO o with volume := o.volume, node := o.node }) ∧ Below w.heap.size w W) ⟨hb.drew, hr.drew, hn.drew, hlow.drew⟩ ?_
  clear hb hr hn hlow
  rintro V3 ⟨hb, hr, hn, hlow⟩
  refine HeldBy.take (i := 0) rfl (by kernel_rfl) (by kernel_rfl) (by kernel_rfl) (fun _ _ _ h => h) (by rfl) (fun _ _ => by go_simp; rfl) (by go_simp; rfl) hb ?_
  refine HeldBy.take (i := 1) rfl (by kernel_rfl) (by kernel_rfl) (by kernel_rfl) (fun _ _ _ h => h) (by rfl) (fun _ h => by have c := BoxO.c17 h; go_simp; rfl) (by go_simp; rfl) hb ?_
  refine HeldBy.take (i := 2) rfl (by kernel_rfl) (by kernel_rfl) (by kernel_rfl) (fun _ _ _ h => h) (by rfl) (fun _ _ => by go_simp; rfl) (by go_simp; rfl) hb ?_
  refine HeldBy.take (i := 3) rfl (by kernel_rfl) (by kernel_rfl) (by kernel_rfl) (fun _ _ _ h => h) (by rfl) (fun _ h => by have c := BoxO.c18 h; go_simp; rfl) (by go_simp; rfl) hb ?_
  refine HeldBy.take (i := 4) rfl (by kernel_rfl) (by kernel_rfl) (by kernel_rfl) (fun _ _ _ h => h) (by rfl) (fun _ _ => by go_simp; rfl) (by go_simp; rfl) hb ?_
  have n17 := hn.c17
  have f17 := hn.free 17
  refine HeldBy.store (i := 5) rfl (by kernel_rfl) (by rfl) (by go_simp; rfl) (by go_simp; rfl) (hb.other (by simp) _) ?_
  clear n17 f17
  refine HeldBy.gen (fun W => BoxO W w.heap.size o ∧ BoxO W (w.heap.size + 1) O0 ∧ BoxO W (w.heap.size + 2) ({ baseO o with volume := o.volume, node := o.node, phase := o.phase }) ∧ Below w.heap.size w W) ⟨hb.other (by simp) _, hr.other (by simp) _, hn.s17 o.phase, hlow.setCell (by simp) _⟩ ?_
  clear hb hr hn hlow
  rintro V3x ⟨hb, hr, hn, hlow⟩
  refine HeldBy.take (i := 6) rfl (by kernel_rfl) (by kernel_rfl) (by kernel_rfl) (fun _ _ _ h => h) (by rfl) (fun _ _ => by go_simp; rfl) (by go_simp; rfl) hb ?_
  have n18 := hn.c18
  have f18 := hn.free 18
  refine HeldBy.store (i := 7) rfl (by kernel_rfl) (by rfl) (by go_simp; rfl) (by go_simp; rfl) (hb.other (by simp) _) ?_
  clear n18 f18
  refine HeldBy.gen (fun W => BoxO W w.heap.size o ∧ BoxO W (w.heap.size + 1) O0 ∧ BoxO W (w.heap.size + 2) ({ baseO o with volume := o.volume, node := o.node, phase := o.phase, num := o.num }) ∧ Below w.heap.size w W) ⟨hb.other (by simp) _, hr.other (by simp) _, hn.s18 o.num, hlow.setCell (by simp) _⟩ ?_
  clear hb hr hn hlow
  rintro V3xx ⟨hb, hr, hn, hlow⟩
  refine wpAnyH_done (by kernel_rfl) ?_ _
  go_upto_region 23 with (fail)
  refine wp_gen (fun W => BoxO W w.heap.size o ∧ BoxO W (w.heap.size + 1) O0 ∧ BoxO W (w.heap.size + 2) ({ baseO o with volume := o.volume, node := o.node, phase := o.phase, num := o.num }) ∧ Below w.heap.size w W) ⟨hb, hr, hn, hlow⟩ ?_
  clear hb hr hn hlow
  rintro W4 ⟨hb, hr, hn, hlow⟩
  have hn' := hE.out ▸ hn
  clear hb
  go_wp2_with (first | ((with_reducible refine wpList_load_row rfl 30 _ rfl (w.heap.size + 2) ?_ 30 (cellsO (bareO o)) (0, 0) _ ?_ undObj ?_ ?_ ?_); rfl; exact hn'; rfl; exact sizeObj) | ((with_reducible refine wpList_store_rowTo rfl 30 _ _ rfl rfl (w.heap.size + 1) (cellsO (bareO o)) ?_ ?_ 30 (cellsO O0) ?_ ?_ ?_ ?_ ?_); rfl; rfl; exact hr; exact sizeObj; exact sz_cells _ _; exact one_cells _))
  refine bodyPost_ret (v := encO (bareO o)) (results_cell_row rfl _ _ (w.heap.size + 1) 30 (cellsO (bareO o)) (0, 0) _ rfl (hr.setRow _) undObj rfl sizeObj) rfl ?_
  exact ⟨rfl, below_setRow hlow (by omega) _⟩
set_option maxRecDepth 100000 in
set_option maxHeartbeats 4000000 in
theorem named_6 (o : Obj) (w : World) (hk : o.kind = 6) :
    Calls Try.prog 57 #[encO o] w fun e w' => e = .returned (encO (bareO o)) ∧ Below w.heap.size w w' := by
  have hE : Hid (bareO o = { baseO o with claim := o.claim, node := o.node }) := by show _ = _; unfold bareO baseO; simp [hk]
  have HK := Lib.hid hk
  clear hk
  unfold encO
  go_enter Try.func57, Try.ntmps57
  go_upto_region 1 with (fail)
  refine wp_gen (fun W => BoxO W w.heap.size o ∧ BoxO W (w.heap.size + 1) O0 ∧ Below w.heap.size w W ∧ W.heap.size = w.heap.size + 2) ?_ ?_
  · exact ⟨(BoxO.new w o).alloc _, heap_alloc2_new w _ _, ((Below.refl _ _).alloc (Nat.le_refl _) _).alloc (by simp) _, by simp⟩
  rintro W1 ⟨hb, hr, hlow, hsz⟩
  have c0 := hb.c0
  have c1 := hb.c1
  have c2 := hb.c2
  have c3 := hb.c3
  have c4 := hb.c4
  have c5 := hb.c5
  have hn := BoxO.new W1 O0
  rw [hsz] at hn
  go_upto_region 2 with (first | ((with_reducible refine wpList_build_to rfl 30 _ rfl (cellsO (baseO o)) ?_ ?_); exact built_base o) | ((with_reducible refine wpList_store_rowTo rfl 30 _ _ rfl rfl (w.heap.size + 2) (cellsO (baseO o)) ?_ ?_ 30 (cellsO O0) ?_ ?_ ?_ ?_ ?_); rfl; rfl; exact hn; exact sizeObj; exact sz_cells _ _; exact one_cells _))
  refine wp_gen (fun W => BoxO W w.heap.size o ∧ BoxO W (w.heap.size + 1) O0 ∧ BoxO W (w.heap.size + 2) (baseO o) ∧ Below w.heap.size w W) ?_ ?_
  · exact ⟨(hb.alloc _).row (by omega) _, (hr.alloc _).row (by omega) _, hn.setRow _, below_setRow (hlow.alloc (by omega) _) (by omega) _⟩
  clear c0 c1 c2 c3 c4 c5 hb hr hlow hsz hn
  rintro W2 ⟨hb, hr, hn, hlow⟩
  have c0 := hb.c0
  have e1 : (o.kind == 1) = false := by rw [HK.out]; rfl
  have e2 : (o.kind == 2) = false := by rw [HK.out]; rfl
  have e3 : (o.kind == 3) = false := by rw [HK.out]; rfl
  have e4 : (o.kind == 4) = false := by rw [HK.out]; rfl
  have e5 : (o.kind == 5) = false := by rw [HK.out]; rfl
  have e6 : (o.kind == 6) = true := by rw [HK.out]; rfl
  go_wp2_with fail
  refine wp_region_held_drew (S := fun W => BoxO W w.heap.size o) (by kernel_rfl) hb.drew (fun _ => ?_)
  refine HeldBy.gen (fun W => BoxO W w.heap.size o ∧ BoxO W (w.heap.size + 1) O0 ∧ BoxO W (w.heap.size + 2) (baseO o) ∧ Below w.heap.size w W) ⟨hb.drew, hr.drew, hn.drew, hlow.drew⟩ ?_
  clear hb hr hn hlow
  rintro V2 ⟨hb, hr, hn, hlow⟩
  clear c0 e1 e2 e3 e4 e5 e6
  refine HeldBy.take (i := 0) rfl (by kernel_rfl) (by kernel_rfl) (by kernel_rfl) (fun _ _ _ h => h) (by rfl) (fun _ _ => by go_simp; rfl) (by go_simp; rfl) hb ?_
  refine HeldBy.take (i := 1) rfl (by kernel_rfl) (by kernel_rfl) (by kernel_rfl) (fun _ _ _ h => h) (by rfl) (fun _ h => by have c := BoxO.c14 h; go_simp; rfl) (by go_simp; rfl) hb ?_
  refine HeldBy.take (i := 2) rfl (by kernel_rfl) (by kernel_rfl) (by kernel_rfl) (fun _ _ _ h => h) (by rfl) (fun _ _ => by go_simp; rfl) (by go_simp; rfl) hb ?_
  refine HeldBy.take (i := 3) rfl (by kernel_rfl) (by kernel_rfl) (by kernel_rfl) (fun _ _ _ h => h) (by rfl) (fun _ h => by have c := BoxO.c13 h; go_simp; rfl) (by go_simp; rfl) hb ?_
  refine HeldBy.take (i := 4) rfl (by kernel_rfl) (by kernel_rfl) (by kernel_rfl) (fun _ _ _ h => h) (by rfl) (fun _ _ => by go_simp; rfl) (by go_simp; rfl) hb ?_
  have n14 := hn.c14
  have f14 := hn.free 14
  refine HeldBy.store (i := 5) rfl (by kernel_rfl) (by rfl) (by go_simp; rfl) (by go_simp; rfl) (hb.other (by simp) _) ?_
  clear n14 f14
  refine HeldBy.gen (fun W => BoxO W w.heap.size o ∧ BoxO W (w.heap.size + 1) O0 ∧ BoxO W (w.heap.size + 2) ({ baseO o with claim := o.claim }) ∧ Below w.heap.size w W) ⟨hb.other (by simp) _, hr.other (by simp) _, hn.s14 o.claim, hlow.setCell (by simp) _⟩ ?_
  clear hb hr hn hlow
  rintro V2x ⟨hb, hr, hn, hlow⟩
  refine HeldBy.take (i := 6) rfl (by kernel_rfl) (by kernel_rfl) (by kernel_rfl) (fun _ _ _ h => h) (by rfl) (fun _ _ => by go_simp; rfl) (by go_simp; rfl) hb ?_
  have n13 := hn.c13
  have f13 := hn.free 13
  refine HeldBy.store (i := 7) rfl (by kernel_rfl) (by rfl) (by go_simp; rfl) (by go_simp; rfl) (hb.other (by simp) _) ?_
  clear n13 f13
  refine HeldBy.gen (fun W => BoxO W w.heap.size o ∧ BoxO W (w.heap.size + 1) O0 ∧ BoxO W (w.heap.size + 2) ({ baseO o with claim := o.claim, node := o.node }) ∧ Below w.heap.size w W) ⟨hb.other (by simp) _, hr.other (by simp) _, hn.s13 o.node, hlow.setCell (by simp) _⟩ ?_
  clear hb hr hn hlow
  rintro V2xx ⟨hb, hr, hn, hlow⟩
  refine wpAnyH_done (by kernel_rfl) ?_ _
  go_upto_region 23 with (fail)
  refine wp_gen (fun W => BoxO W w.heap.size o ∧ BoxO W (w.heap.size + 1) O0 ∧ BoxO W (w.heap.size + 2) ({ baseO o with claim := o.claim, node := o.node }) ∧ Below w.heap.size w W) ⟨hb, hr, hn, hlow⟩ ?_
  clear hb hr hn hlow
  rintro W3 ⟨hb, hr, hn, hlow⟩
  have hn' := hE.out ▸ hn
  clear hb
  go_wp2_with (first | ((with_reducible refine wpList_load_row rfl 30 _ rfl (w.heap.size + 2) ?_ 30 (cellsO (bareO o)) (0, 0) _ ?_ undObj ?_ ?_ ?_); rfl; exact hn'; rfl; exact sizeObj) | ((with_reducible refine wpList_store_rowTo rfl 30 _ _ rfl rfl (w.heap.size + 1) (cellsO (bareO o)) ?_ ?_ 30 (cellsO O0) ?_ ?_ ?_ ?_ ?_); rfl; rfl; exact hr; exact sizeObj; exact sz_cells _ _; exact one_cells _))
  refine bodyPost_ret (v := encO (bareO o)) (results_cell_row rfl _ _ (w.heap.size + 1) 30 (cellsO (bareO o)) (0, 0) _ rfl (hr.setRow _) undObj rfl sizeObj) rfl ?_
  exact ⟨rfl, below_setRow hlow (by omega) _⟩
set_option maxRecDepth 100000 in
set_option maxHeartbeats 4000000 in
theorem named_7 (o : Obj) (w : World) (hk : o.kind = 7) :
    Calls Try.prog 57 #[encO o] w fun e w' => e = .returned (encO (bareO o)) ∧ Below w.heap.size w w' := by
  have hE : Hid (bareO o = { baseO o with source := o.source, volume := o.volume, got := o.got, phase := o.phase, num := o.num, tag := o.tag }) := by show _ = _; unfold bareO baseO; simp [hk]
  have HK := Lib.hid hk
  clear hk
  unfold encO
  go_enter Try.func57, Try.ntmps57
  go_upto_region 1 with (fail)
  refine wp_gen (fun W => BoxO W w.heap.size o ∧ BoxO W (w.heap.size + 1) O0 ∧ Below w.heap.size w W ∧ W.heap.size = w.heap.size + 2) ?_ ?_
  · exact ⟨(BoxO.new w o).alloc _, heap_alloc2_new w _ _, ((Below.refl _ _).alloc (Nat.le_refl _) _).alloc (by simp) _, by simp⟩
  rintro W1 ⟨hb, hr, hlow, hsz⟩
  have c0 := hb.c0
  have c1 := hb.c1
  have c2 := hb.c2
  have c3 := hb.c3
  have c4 := hb.c4
  have c5 := hb.c5
  have hn := BoxO.new W1 O0
  rw [hsz] at hn
  go_upto_region 2 with (first | ((with_reducible refine wpList_build_to rfl 30 _ rfl (cellsO (baseO o)) ?_ ?_); exact built_base o) | ((with_reducible refine wpList_store_rowTo rfl 30 _ _ rfl rfl (w.heap.size + 2) (cellsO (baseO o)) ?_ ?_ 30 (cellsO O0) ?_ ?_ ?_ ?_ ?_); rfl; rfl; exact hn; exact sizeObj; exact sz_cells _ _; exact one_cells _))
  refine wp_gen (fun W => BoxO W w.heap.size o ∧ BoxO W (w.heap.size + 1) O0 ∧ BoxO W (w.heap.size + 2) (baseO o) ∧ Below w.heap.size w W) ?_ ?_
  · exact ⟨(hb.alloc _).row (by omega) _, (hr.alloc _).row (by omega) _, hn.setRow _, below_setRow (hlow.alloc (by omega) _) (by omega) _⟩
  clear c0 c1 c2 c3 c4 c5 hb hr hlow hsz hn
  rintro W2 ⟨hb, hr, hn, hlow⟩
  have c0 := hb.c0
  have e1 : (o.kind == 1) = false := by rw [HK.out]; rfl
  have e2 : (o.kind == 2) = false := by rw [HK.out]; rfl
  have e3 : (o.kind == 3) = false := by rw [HK.out]; rfl
  have e4 : (o.kind == 4) = false := by rw [HK.out]; rfl
  have e5 : (o.kind == 5) = false := by rw [HK.out]; rfl
  have e6 : (o.kind == 6) = false := by rw [HK.out]; rfl
  have e7 : (o.kind == 7) = true := by rw [HK.out]; rfl
  go_wp2_with fail
  refine wp_region_held_drew (S := fun W => BoxO W w.heap.size o) (by kernel_rfl) hb.drew (fun _ => ?_)
  refine HeldBy.gen (fun W => BoxO W w.heap.size o ∧ BoxO W (w.heap.size + 1) O0 ∧ BoxO W (w.heap.size + 2) (baseO o) ∧ Below w.heap.size w W) ⟨hb.drew, hr.drew, hn.drew, hlow.drew⟩ ?_
  clear hb hr hn hlow
  rintro V2 ⟨hb, hr, hn, hlow⟩
  clear c0 e1 e2 e3 e4 e5 e6 e7
  refine HeldBy.take (i := 0) rfl (by kernel_rfl) (by kernel_rfl) (by kernel_rfl) (fun _ _ _ h => h) (by rfl) (fun _ _ => by go_simp; rfl) (by go_simp; rfl) hb ?_
  refine HeldBy.take (i := 1) rfl (by kernel_rfl) (by kernel_rfl) (by kernel_rfl) (fun _ _ _ h => h) (by rfl) (fun _ h => by have c := BoxO.c16 h; go_simp; rfl) (by go_simp; rfl) hb ?_
  refine HeldBy.take (i := 2) rfl (by kernel_rfl) (by kernel_rfl) (by kernel_rfl) (fun _ _ _ h => h) (by rfl) (fun _ _ => by go_simp; rfl) (by go_simp; rfl) hb ?_
  refine HeldBy.take (i := 3) rfl (by kernel_rfl) (by kernel_rfl) (by kernel_rfl) (fun _ _ _ h => h) (by rfl) (fun _ h => by have c := BoxO.c15 h; go_simp; rfl) (by go_simp; rfl) hb ?_
  refine HeldBy.take (i := 4) rfl (by kernel_rfl) (by kernel_rfl) (by kernel_rfl) (fun _ _ _ h => h) (by rfl) (fun _ _ => by go_simp; rfl) (by go_simp; rfl) hb ?_
  refine HeldBy.take (i := 5) rfl (by kernel_rfl) (by kernel_rfl) (by kernel_rfl) (fun _ _ _ h => h) (by rfl) (fun _ h => by have c := BoxO.c8 h; go_simp; rfl) (by go_simp; rfl) hb ?_
  refine HeldBy.take (i := 6) rfl (by kernel_rfl) (by kernel_rfl) (by kernel_rfl) (fun _ _ _ h => h) (by rfl) (fun _ _ => by go_simp; rfl) (by go_simp; rfl) hb ?_
  have n16 := hn.c16
  have f16 := hn.free 16
  refine HeldBy.store (i := 7) rfl (by kernel_rfl) (by rfl) (by go_simp; rfl) (by go_simp; rfl) (hb.other (by simp) _) ?_
  clear n16 f16
  refine HeldBy.gen (fun W => BoxO W w.heap.size o ∧ BoxO W (w.heap.size + 1) O0 ∧ BoxO W (w.heap.size + 2) ({ baseO o with source := o.source }) ∧ Below w.heap.size w W) ⟨hb.other (by simp) _, hr.other (by simp) _, hn.s16 o.source, hlow.setCell (by simp) _⟩ ?_
  clear hb hr hn hlow
  rintro V2x ⟨hb, hr, hn, hlow⟩
  refine HeldBy.take (i := 8) rfl (by kernel_rfl) (by kernel_rfl) (by kernel_rfl) (fun _ _ _ h => h) (by rfl) (fun _ _ => by go_simp; rfl) (by go_simp; rfl) hb ?_
  have n15 := hn.c15
  have f15 := hn.free 15
  refine HeldBy.store (i := 9) rfl (by kernel_rfl) (by rfl) (by go_simp; rfl) (by go_simp; rfl) (hb.other (by simp) _) ?_
  clear n15 f15
  refine HeldBy.gen (fun W => BoxO W w.heap.size o ∧ BoxO W (w.heap.size + 1) O0 ∧ BoxO W (w.heap.size + 2) ({ baseO o with source := o.source, volume := o.volume }) ∧ Below w.heap.size w W) ⟨hb.other (by simp) _, hr.other (by simp) _, hn.s15 o.volume, hlow.setCell (by simp) _⟩ ?_
  clear hb hr hn hlow
  rintro V2xx ⟨hb, hr, hn, hlow⟩
  refine HeldBy.take (i := 10) rfl (by kernel_rfl) (by kernel_rfl) (by kernel_rfl) (fun _ _ _ h => h) (by rfl) (fun _ _ => by go_simp; rfl) (by go_simp; rfl) hb ?_
  have n8 := hn.c8
  have f8 := hn.free 8
  refine HeldBy.store (i := 11) rfl (by kernel_rfl) (by rfl) (by go_simp; rfl) (by go_simp; rfl) (hb.other (by simp) _) ?_
  clear n8 f8
  refine HeldBy.gen (fun W => BoxO W w.heap.size o ∧ BoxO W (w.heap.size + 1) O0 ∧ BoxO W (w.heap.size + 2) ({ baseO o with source := o.source, volume := o.volume, got := o.got }) ∧ Below w.heap.size w W) ⟨hb.other (by simp) _, hr.other (by simp) _, hn.s8 o.got, hlow.setCell (by simp) _⟩ ?_
  clear hb hr hn hlow
  rintro V2xxx ⟨hb, hr, hn, hlow⟩
  refine wpAnyH_done (by kernel_rfl) ?_ _
  go_upto_region 22 with (fail)
  refine wp_gen (fun W => BoxO W w.heap.size o ∧ BoxO W (w.heap.size + 1) O0 ∧ BoxO W (w.heap.size + 2) ({ baseO o with source := o.source, volume := o.volume, got := o.got }) ∧ Below w.heap.size w W) ⟨hb, hr, hn, hlow⟩ ?_
  clear hb hr hn hlow
  rintro W3 ⟨hb, hr, hn, hlow⟩
  go_wp2_with fail
  refine wp_region_held_drew (S := fun W => BoxO W w.heap.size o) (by kernel_rfl) hb.drew (fun _ => ?_)
  refine HeldBy.gen (fun W => BoxO W w.heap.size o ∧ BoxO W (w.heap.size + 1) O0 ∧ BoxO W (w.heap.size + 2) ({ baseO o with source := o.source, volume := o.volume, got := o.got }) ∧ Below w.heap.size w W) ⟨hb.drew, hr.drew, hn.drew, hlow.drew⟩ ?_
  clear hb hr hn hlow
  rintro V3 ⟨hb, hr, hn, hlow⟩
  refine HeldBy.take (i := 0) rfl (by kernel_rfl) (by kernel_rfl) (by kernel_rfl) (fun _ _ _ h => h) (by rfl) (fun _ _ => by go_simp; rfl) (by go_simp; rfl) hb ?_
  refine HeldBy.take (i := 1) rfl (by kernel_rfl) (by kernel_rfl) (by kernel_rfl) (fun _ _ _ h => h) (by rfl) (fun _ h => by have c := BoxO.c17 h; go_simp; rfl) (by go_simp; rfl) hb ?_
  refine HeldBy.take (i := 2) rfl (by kernel_rfl) (by kernel_rfl) (by kernel_rfl) (fun _ _ _ h => h) (by rfl) (fun _ _ => by go_simp; rfl) (by go_simp; rfl) hb ?_
  refine HeldBy.take (i := 3) rfl (by kernel_rfl) (by kernel_rfl) (by kernel_rfl) (fun _ _ _ h => h) (by rfl) (fun _ h => by have c := BoxO.c18 h; go_simp; rfl) (by go_simp; rfl) hb ?_
  refine HeldBy.take (i := 4) rfl (by kernel_rfl) (by kernel_rfl) (by kernel_rfl) (fun _ _ _ h => h) (by rfl) (fun _ _ => by go_simp; rfl) (by go_simp; rfl) hb ?_
  refine HeldBy.take (i := 5) rfl (by kernel_rfl) (by kernel_rfl) (by kernel_rfl) (fun _ _ _ h => h) (by rfl) (fun _ h => by have c := BoxO.c19 h; go_simp; rfl) (by go_simp; rfl) hb ?_
  refine HeldBy.take (i := 6) rfl (by kernel_rfl) (by kernel_rfl) (by kernel_rfl) (fun _ _ _ h => h) (by rfl) (fun _ _ => by go_simp; rfl) (by go_simp; rfl) hb ?_
  have n17 := hn.c17
  have f17 := hn.free 17
  refine HeldBy.store (i := 7) rfl (by kernel_rfl) (by rfl) (by go_simp; rfl) (by go_simp; rfl) (hb.other (by simp) _) ?_
  clear n17 f17
  refine HeldBy.gen (fun W => BoxO W w.heap.size o ∧ BoxO W (w.heap.size + 1) O0 ∧ BoxO W (w.heap.size + 2) ({ baseO o with source := o.source, volume := o.volume, got := o.got, phase := o.phase }) ∧ Below w.heap.size w W) ⟨hb.other (by simp) _, hr.other (by simp) _, hn.s17 o.phase, hlow.setCell (by simp) _⟩ ?_
  clear hb hr hn hlow
  rintro V3x ⟨hb, hr, hn, hlow⟩
  refine HeldBy.take (i := 8) rfl (by kernel_rfl) (by kernel_rfl) (by kernel_rfl) (fun _ _ _ h => h) (by rfl) (fun _ _ => by go_simp; rfl) (by go_simp; rfl) hb ?_
  have n18 := hn.c18
  have f18 := hn.free 18
  refine HeldBy.store (i := 9) rfl (by kernel_rfl) (by rfl) (by go_simp; rfl) (by go_simp; rfl) (hb.other (by simp) _) ?_
  clear n18 f18
  refine HeldBy.gen (fun W => BoxO W w.heap.size o ∧ BoxO W (w.heap.size + 1) O0 ∧ BoxO W (w.heap.size + 2) ({ baseO o with source := o.source, volume := o.volume, got := o.got, phase := o.phase, num := o.num }) ∧ Below w.heap.size w W) ⟨hb.other (by simp) _, hr.other (by simp) _, hn.s18 o.num, hlow.setCell (by simp) _⟩ ?_
  clear hb hr hn hlow
  rintro V3xx ⟨hb, hr, hn, hlow⟩
  refine HeldBy.take (i := 10) rfl (by kernel_rfl) (by kernel_rfl) (by kernel_rfl) (fun _ _ _ h => h) (by rfl) (fun _ _ => by go_simp; rfl) (by go_simp; rfl) hb ?_
  have n19 := hn.c19
  have f19 := hn.free 19
  refine HeldBy.store (i := 11) rfl (by kernel_rfl) (by rfl) (by go_simp; rfl) (by go_simp; rfl) (hb.other (by simp) _) ?_
  clear n19 f19
  refine HeldBy.gen (fun W => BoxO W w.heap.size o ∧ BoxO W (w.heap.size + 1) O0 ∧ BoxO W (w.heap.size + 2) ({ baseO o with source := o.source, volume := o.volume, got := o.got, phase := o.phase, num := o.num, tag := o.tag }) ∧ Below w.heap.size w W) ⟨hb.other (by simp) _, hr.other (by simp) _, hn.s19 o.tag, hlow.setCell (by simp) _⟩ ?_
  clear hb hr hn hlow
  rintro V3xxx ⟨hb, hr, hn, hlow⟩
  refine wpAnyH_done (by kernel_rfl) ?_ _
  go_upto_region 23 with (fail)
  refine wp_gen (fun W => BoxO W w.heap.size o ∧ BoxO W (w.heap.size + 1) O0 ∧ BoxO W (w.heap.size + 2) ({ baseO o with source := o.source, volume := o.volume, got := o.got, phase := o.phase, num := o.num, tag := o.tag }) ∧ Below w.heap.size w W) ⟨hb, hr, hn, hlow⟩ ?_
  clear hb hr hn hlow
  rintro W4 ⟨hb, hr, hn, hlow⟩
  have hn' := hE.out ▸ hn
  clear hb
  go_wp2_with (first | ((with_reducible refine wpList_load_row rfl 30 _ rfl (w.heap.size + 2) ?_ 30 (cellsO (bareO o)) (0, 0) _ ?_ undObj ?_ ?_ ?_); rfl; exact hn'; rfl; exact sizeObj) | ((with_reducible refine wpList_store_rowTo rfl 30 _ _ rfl rfl (w.heap.size + 1) (cellsO (bareO o)) ?_ ?_ 30 (cellsO O0) ?_ ?_ ?_ ?_ ?_); rfl; rfl; exact hr; exact sizeObj; exact sz_cells _ _; exact one_cells _))
  refine bodyPost_ret (v := encO (bareO o)) (results_cell_row rfl _ _ (w.heap.size + 1) 30 (cellsO (bareO o)) (0, 0) _ rfl (hr.setRow _) undObj rfl sizeObj) rfl ?_
  exact ⟨rfl, below_setRow hlow (by omega) _⟩
set_option maxRecDepth 100000 in
set_option maxHeartbeats 4000000 in
theorem named_0 (o : Obj) (w : World) (hk : o.kind ≠ 1 ∧ o.kind ≠ 2 ∧ o.kind ≠ 3 ∧ o.kind ≠ 4 ∧ o.kind ≠ 5 ∧ o.kind ≠ 6 ∧ o.kind ≠ 7) :
    Calls Try.prog 57 #[encO o] w fun e w' => e = .returned (encO (bareO o)) ∧ Below w.heap.size w w' := by
  have hE : Hid (bareO o = baseO o) := by show _ = _; unfold bareO; rw [if_neg hk.1, if_neg hk.2.1, if_neg hk.2.2.1, if_neg hk.2.2.2.1, if_neg hk.2.2.2.2.1, if_neg hk.2.2.2.2.2.1, if_neg hk.2.2.2.2.2.2]; rfl
  have HK := Lib.hid hk
  clear hk
  unfold encO
  go_enter Try.func57, Try.ntmps57
  go_upto_region 1 with (fail)
  refine wp_gen (fun W => BoxO W w.heap.size o ∧ BoxO W (w.heap.size + 1) O0 ∧ Below w.heap.size w W ∧ W.heap.size = w.heap.size + 2) ?_ ?_
  · exact ⟨(BoxO.new w o).alloc _, heap_alloc2_new w _ _, ((Below.refl _ _).alloc (Nat.le_refl _) _).alloc (by simp) _, by simp⟩
  rintro W1 ⟨hb, hr, hlow, hsz⟩
  have c0 := hb.c0
  have c1 := hb.c1
  have c2 := hb.c2
  have c3 := hb.c3
  have c4 := hb.c4
  have c5 := hb.c5
  have hn := BoxO.new W1 O0
  rw [hsz] at hn
  go_upto_region 2 with (first | ((with_reducible refine wpList_build_to rfl 30 _ rfl (cellsO (baseO o)) ?_ ?_); exact built_base o) | ((with_reducible refine wpList_store_rowTo rfl 30 _ _ rfl rfl (w.heap.size + 2) (cellsO (baseO o)) ?_ ?_ 30 (cellsO O0) ?_ ?_ ?_ ?_ ?_); rfl; rfl; exact hn; exact sizeObj; exact sz_cells _ _; exact one_cells _))
  refine wp_gen (fun W => BoxO W w.heap.size o ∧ BoxO W (w.heap.size + 1) O0 ∧ BoxO W (w.heap.size + 2) (baseO o) ∧ Below w.heap.size w W) ?_ ?_
  · exact ⟨(hb.alloc _).row (by omega) _, (hr.alloc _).row (by omega) _, hn.setRow _, below_setRow (hlow.alloc (by omega) _) (by omega) _⟩
  clear c0 c1 c2 c3 c4 c5 hb hr hlow hsz hn
  rintro W2 ⟨hb, hr, hn, hlow⟩
  have c0 := hb.c0
  have e1 : (o.kind == 1) = false := beq_no HK.out.1
  have e2 : (o.kind == 2) = false := beq_no HK.out.2.1
  have e3 : (o.kind == 3) = false := beq_no HK.out.2.2.1
  have e4 : (o.kind == 4) = false := beq_no HK.out.2.2.2.1
  have e5 : (o.kind == 5) = false := beq_no HK.out.2.2.2.2.1
  have e6 : (o.kind == 6) = false := beq_no HK.out.2.2.2.2.2.1
  have e7 : (o.kind == 7) = false := beq_no HK.out.2.2.2.2.2.2
  go_upto_region 23 with (fail)
  clear c0 e1 e2 e3 e4 e5 e6 e7 hb
  have hn' := hE.out ▸ hn
  go_wp2_with (first | ((with_reducible refine wpList_load_row rfl 30 _ rfl (w.heap.size + 2) ?_ 30 (cellsO (bareO o)) (0, 0) _ ?_ undObj ?_ ?_ ?_); rfl; exact hn'; rfl; exact sizeObj) | ((with_reducible refine wpList_store_rowTo rfl 30 _ _ rfl rfl (w.heap.size + 1) (cellsO (bareO o)) ?_ ?_ 30 (cellsO O0) ?_ ?_ ?_ ?_ ?_); rfl; rfl; exact hr; exact sizeObj; exact sz_cells _ _; exact one_cells _))
  refine bodyPost_ret (v := encO (bareO o)) (results_cell_row rfl _ _ (w.heap.size + 1) 30 (cellsO (bareO o)) (0, 0) _ rfl (hr.setRow _) undObj rfl sizeObj) rfl ?_
  exact ⟨rfl, below_setRow hlow (by omega) _⟩
theorem named_any (o : Obj) (w : World) : Calls Try.prog 57 #[encO o] w fun e w' => e = .returned (encO (bareO o)) ∧ Below w.heap.size w w' := by
  by_cases h1 : o.kind = 1
  · exact named_1 o w h1
  by_cases h2 : o.kind = 2
  · exact named_2 o w h2
  by_cases h3 : o.kind = 3
  · exact named_3 o w h3
  by_cases h4 : o.kind = 4
  · exact named_4 o w h4
  by_cases h5 : o.kind = 5
  · exact named_5 o w h5
  by_cases h6 : o.kind = 6
  · exact named_6 o w h6
  by_cases h7 : o.kind = 7
  · exact named_7 o w h7
  exact named_0 o w ⟨h1, h2, h3, h4, h5, h6, h7⟩
end Go.Proofs.Ytfndiocohaploaa.O
