/- object.Default, kind by kind. Laid by a script. -/
import Derived.Test.YtacbfpgknfcimaaOUser
import Derived.Test.YtacbfpgknfcimaaHeldTwo
namespace Go.Proofs.Ytacbfpgknfcimaa.O
open Go.RowKit T
open Go.Lib hiding intOf

def orI (x y : Int) : Int := if x = 0 then y else x
def orS (x y : ByteArray) : ByteArray := if x.data.toList = [] then y else x
theorem orPhase' (x y : Int) (w : World) : Calls Try.prog 43 #[.int .u8 x, .int .u8 y] w fun e w' => e = .returned (.int .u8 (orI x y)) ∧ w = w' := orPhase_any x y w
theorem orMode' (x y : Int) (w : World) : Calls Try.prog 44 #[.int .u8 x, .int .u8 y] w fun e w' => e = .returned (.int .u8 (orI x y)) ∧ w = w' := orMode_any x y w
theorem orInt' (x y : Int) (w : World) : Calls Try.prog 45 #[.int .i64 x, .int .i64 y] w fun e w' => e = .returned (.int .i64 (orI x y)) ∧ w = w' := orInt_any x y w
theorem orStr' (x y : ByteArray) (w : World) : Calls Try.prog 46 #[.string x, .string y] w fun e w' => e = .returned (.string (orS x y)) ∧ w = w' := orStr_any x y w

set_option maxRecDepth 100000 in
set_option maxHeartbeats 2000000 in
theorem default_3 (o : Obj) (w : World) (hk : o.kind = 3) (hz : o.volume.size ≤ 140737488351232 ∧ o.node.size ≤ 140737488351232) :
    Calls Try.prog 22 #[encO o] w fun e w' => e = .returned (encO (defO o)) ∧ Below w.heap.size w w' := by
  have hE : Hid (defO o = { o with hold := true, phase := orI o.phase 1, mode := orI o.mode 1 }) := by show _ = _; unfold defO; rw [if_pos hk]; rfl
  have HZ := Lib.hid hz
  clear hz
  have e3 : (o.kind == 3) = true := by rw [hk]; rfl
  clear hk
  unfold encO
  go_enter Try.func22, Try.ntmps22
  go_upto_region 1 with (fail)
  refine wp_gen (fun W => BoxO W w.heap.size o ∧ BoxO W (w.heap.size + 1) O0 ∧ Below w.heap.size w W) ⟨(BoxO.new w o).alloc _, heap_alloc2_new w _ _, ((Below.refl _ _).alloc (Nat.le_refl _) _).alloc (by simp) _⟩ ?_
  rintro W1 ⟨hb, hr, hlow⟩
  have c0 := hb.c0
  have n5 := hb.c5
  have f5 := hb.free 5
  go_upto_region 4 with (fail)
  refine wp_gen (fun W => BoxO W w.heap.size ({ o with hold := true }) ∧ BoxO W (w.heap.size + 1) O0 ∧ Below w.heap.size w W) ⟨hb.s5 (true), hr.other (by simp) _, hlow.setCell (by simp) _⟩ ?_
  clear hb hr hlow n5 f5 c0
  rintro W2 ⟨hb, hr, hlow⟩
  have n17 := hb.c17
  have f17 := hb.free 17
  go_upto_region 5 with ((go_at_call 43; refine (orPhase' _ _ _).mono ?_; rintro e w' ⟨rfl, rfl⟩))
  refine wp_gen (fun W => BoxO W w.heap.size ({ o with hold := true, phase := orI o.phase 1 }) ∧ BoxO W (w.heap.size + 1) O0 ∧ Below w.heap.size w W) ⟨hb.s17 (orI o.phase 1), hr.other (by simp) _, hlow.setCell (by simp) _⟩ ?_
  clear hb hr hlow n17 f17
  rintro W3 ⟨hb, hr, hlow⟩
  have n9 := hb.c9
  have f9 := hb.free 9
  go_upto_region 16 with ((go_at_call 44; refine (orMode' _ _ _).mono ?_; rintro e w' ⟨rfl, rfl⟩))
  refine wp_gen (fun W => BoxO W w.heap.size ({ o with hold := true, phase := orI o.phase 1, mode := orI o.mode 1 }) ∧ BoxO W (w.heap.size + 1) O0 ∧ Below w.heap.size w W) ⟨hb.s9 (orI o.mode 1), hr.other (by simp) _, hlow.setCell (by simp) _⟩ ?_
  clear hb hr hlow n9 f9
  rintro W4 ⟨hb, hr, hlow⟩
  have hb' := hE.out ▸ hb
  go_wp2_with (first | ((with_reducible refine wpList_load_row rfl 27 _ rfl w.heap.size ?_ 27 (cellsO (defO o)) (0, 0) _ ?_ undObj ?_ ?_ ?_); rfl; exact hb'; rfl; exact sizeObj) | ((with_reducible refine wpList_store_rowTo rfl 27 _ _ rfl rfl (w.heap.size + 1) (cellsO (defO o)) ?_ ?_ 27 (cellsO O0) ?_ ?_ ?_ ?_ ?_); rfl; rfl; exact hr; exact sizeObj; exact sz_cells _ _; exact one_cells _))
  refine bodyPost_ret (v := encO (defO o)) (results_cell_row rfl _ _ (w.heap.size + 1) 27 (cellsO (defO o)) (0, 0) _ rfl (hr.setRow _) undObj rfl sizeObj) rfl ?_
  exact ⟨rfl, below_setRow hlow (by omega) _⟩
set_option maxRecDepth 100000 in
set_option maxHeartbeats 2000000 in
theorem default_4 (o : Obj) (w : World) (hk : o.kind = 4) (hz : o.volume.size ≤ 140737488351232 ∧ o.node.size ≤ 140737488351232) :
    Calls Try.prog 22 #[encO o] w fun e w' => e = .returned (encO (defO o)) ∧ Below w.heap.size w w' := by
  have hE : Hid (defO o = { o with hold := true, phase := orI o.phase 4, mode := orI o.mode 1, got := orI o.got o.size }) := by show _ = _; unfold defO; rw [if_neg (by omega), if_pos hk]; rfl
  have HZ := Lib.hid hz
  clear hz
  have e3 : (o.kind == 3) = false := by rw [hk]; rfl
  have e4 : (o.kind == 4) = true := by rw [hk]; rfl
  clear hk
  unfold encO
  go_enter Try.func22, Try.ntmps22
  go_upto_region 1 with (fail)
  refine wp_gen (fun W => BoxO W w.heap.size o ∧ BoxO W (w.heap.size + 1) O0 ∧ Below w.heap.size w W) ⟨(BoxO.new w o).alloc _, heap_alloc2_new w _ _, ((Below.refl _ _).alloc (Nat.le_refl _) _).alloc (by simp) _⟩ ?_
  rintro W1 ⟨hb, hr, hlow⟩
  have c0 := hb.c0
  have n5 := hb.c5
  have f5 := hb.free 5
  go_upto_region 8 with (fail)
  refine wp_gen (fun W => BoxO W w.heap.size ({ o with hold := true }) ∧ BoxO W (w.heap.size + 1) O0 ∧ Below w.heap.size w W) ⟨hb.s5 (true), hr.other (by simp) _, hlow.setCell (by simp) _⟩ ?_
  clear hb hr hlow n5 f5 c0
  rintro W2 ⟨hb, hr, hlow⟩
  have n17 := hb.c17
  have f17 := hb.free 17
  go_upto_region 9 with ((go_at_call 43; refine (orPhase' _ _ _).mono ?_; rintro e w' ⟨rfl, rfl⟩))
  refine wp_gen (fun W => BoxO W w.heap.size ({ o with hold := true, phase := orI o.phase 4 }) ∧ BoxO W (w.heap.size + 1) O0 ∧ Below w.heap.size w W) ⟨hb.s17 (orI o.phase 4), hr.other (by simp) _, hlow.setCell (by simp) _⟩ ?_
  clear hb hr hlow n17 f17
  rintro W3 ⟨hb, hr, hlow⟩
  have n9 := hb.c9
  have f9 := hb.free 9
  go_upto_region 10 with ((go_at_call 44; refine (orMode' _ _ _).mono ?_; rintro e w' ⟨rfl, rfl⟩))
  refine wp_gen (fun W => BoxO W w.heap.size ({ o with hold := true, phase := orI o.phase 4, mode := orI o.mode 1 }) ∧ BoxO W (w.heap.size + 1) O0 ∧ Below w.heap.size w W) ⟨hb.s9 (orI o.mode 1), hr.other (by simp) _, hlow.setCell (by simp) _⟩ ?_
  clear hb hr hlow n9 f9
  rintro W4 ⟨hb, hr, hlow⟩
  have n8 := hb.c8
  have f8 := hb.free 8
  have n7 := hb.c7
  go_upto_region 16 with ((go_at_call 45; refine (orInt' _ _ _).mono ?_; rintro e w' ⟨rfl, rfl⟩))
  refine wp_gen (fun W => BoxO W w.heap.size ({ o with hold := true, phase := orI o.phase 4, mode := orI o.mode 1, got := orI o.got o.size }) ∧ BoxO W (w.heap.size + 1) O0 ∧ Below w.heap.size w W) ⟨hb.s8 (orI o.got o.size), hr.other (by simp) _, hlow.setCell (by simp) _⟩ ?_
  clear n7 hb hr hlow n8 f8
  rintro W5 ⟨hb, hr, hlow⟩
  have hb' := hE.out ▸ hb
  go_wp2_with (first | ((with_reducible refine wpList_load_row rfl 27 _ rfl w.heap.size ?_ 27 (cellsO (defO o)) (0, 0) _ ?_ undObj ?_ ?_ ?_); rfl; exact hb'; rfl; exact sizeObj) | ((with_reducible refine wpList_store_rowTo rfl 27 _ _ rfl rfl (w.heap.size + 1) (cellsO (defO o)) ?_ ?_ 27 (cellsO O0) ?_ ?_ ?_ ?_ ?_); rfl; rfl; exact hr; exact sizeObj; exact sz_cells _ _; exact one_cells _))
  refine bodyPost_ret (v := encO (defO o)) (results_cell_row rfl _ _ (w.heap.size + 1) 27 (cellsO (defO o)) (0, 0) _ rfl (hr.setRow _) undObj rfl sizeObj) rfl ?_
  exact ⟨rfl, below_setRow hlow (by omega) _⟩
set_option maxRecDepth 100000 in
set_option maxHeartbeats 2000000 in
theorem default_7 (o : Obj) (w : World) (hk : o.kind = 7) (hz : o.volume.size ≤ 140737488351232 ∧ o.node.size ≤ 140737488351232) :
    Calls Try.prog 22 #[encO o] w fun e w' => e = .returned (encO (defO o)) ∧ Below w.heap.size w w' := by
  have hE : Hid (defO o = { o with hold := true, phase := orI o.phase 1 }) := by show _ = _; unfold defO; rw [if_neg (by omega), if_neg (by omega), if_pos hk]; rfl
  have HZ := Lib.hid hz
  clear hz
  have e3 : (o.kind == 3) = false := by rw [hk]; rfl
  have e4 : (o.kind == 4) = false := by rw [hk]; rfl
  have e7 : (o.kind == 7) = true := by rw [hk]; rfl
  clear hk
  unfold encO
  go_enter Try.func22, Try.ntmps22
  go_upto_region 1 with (fail)
  refine wp_gen (fun W => BoxO W w.heap.size o ∧ BoxO W (w.heap.size + 1) O0 ∧ Below w.heap.size w W) ⟨(BoxO.new w o).alloc _, heap_alloc2_new w _ _, ((Below.refl _ _).alloc (Nat.le_refl _) _).alloc (by simp) _⟩ ?_
  rintro W1 ⟨hb, hr, hlow⟩
  have c0 := hb.c0
  have n5 := hb.c5
  have f5 := hb.free 5
  go_upto_region 13 with (fail)
  refine wp_gen (fun W => BoxO W w.heap.size ({ o with hold := true }) ∧ BoxO W (w.heap.size + 1) O0 ∧ Below w.heap.size w W) ⟨hb.s5 (true), hr.other (by simp) _, hlow.setCell (by simp) _⟩ ?_
  clear hb hr hlow n5 f5 c0
  rintro W2 ⟨hb, hr, hlow⟩
  have n17 := hb.c17
  have f17 := hb.free 17
  go_upto_region 16 with ((go_at_call 43; refine (orPhase' _ _ _).mono ?_; rintro e w' ⟨rfl, rfl⟩))
  refine wp_gen (fun W => BoxO W w.heap.size ({ o with hold := true, phase := orI o.phase 1 }) ∧ BoxO W (w.heap.size + 1) O0 ∧ Below w.heap.size w W) ⟨hb.s17 (orI o.phase 1), hr.other (by simp) _, hlow.setCell (by simp) _⟩ ?_
  clear hb hr hlow n17 f17
  rintro W3 ⟨hb, hr, hlow⟩
  have hb' := hE.out ▸ hb
  go_wp2_with (first | ((with_reducible refine wpList_load_row rfl 27 _ rfl w.heap.size ?_ 27 (cellsO (defO o)) (0, 0) _ ?_ undObj ?_ ?_ ?_); rfl; exact hb'; rfl; exact sizeObj) | ((with_reducible refine wpList_store_rowTo rfl 27 _ _ rfl rfl (w.heap.size + 1) (cellsO (defO o)) ?_ ?_ 27 (cellsO O0) ?_ ?_ ?_ ?_ ?_); rfl; rfl; exact hr; exact sizeObj; exact sz_cells _ _; exact one_cells _))
  refine bodyPost_ret (v := encO (defO o)) (results_cell_row rfl _ _ (w.heap.size + 1) 27 (cellsO (defO o)) (0, 0) _ rfl (hr.setRow _) undObj rfl sizeObj) rfl ?_
  exact ⟨rfl, below_setRow hlow (by omega) _⟩
set_option maxRecDepth 100000 in
set_option maxHeartbeats 2000000 in
theorem default_0 (o : Obj) (w : World) (hk : o.kind ≠ 3 ∧ o.kind ≠ 4 ∧ o.kind ≠ 7 ∧ o.kind ≠ 5) (hz : o.volume.size ≤ 140737488351232 ∧ o.node.size ≤ 140737488351232) :
    Calls Try.prog 22 #[encO o] w fun e w' => e = .returned (encO (defO o)) ∧ Below w.heap.size w w' := by
  have hE : Hid (defO o = o) := by show _ = _; unfold defO; rw [if_neg hk.1, if_neg hk.2.1, if_neg hk.2.2.1, if_neg hk.2.2.2]
  have HZ := Lib.hid hz
  clear hz
  have e3 := beq_no hk.1
  have e4 := beq_no hk.2.1
  have e7 := beq_no hk.2.2.1
  have e5 := beq_no hk.2.2.2
  clear hk
  unfold encO
  go_enter Try.func22, Try.ntmps22
  go_upto_region 1 with (fail)
  refine wp_gen (fun W => BoxO W w.heap.size o ∧ BoxO W (w.heap.size + 1) O0 ∧ Below w.heap.size w W) ⟨(BoxO.new w o).alloc _, heap_alloc2_new w _ _, ((Below.refl _ _).alloc (Nat.le_refl _) _).alloc (by simp) _⟩ ?_
  rintro W1 ⟨hb, hr, hlow⟩
  have c0 := hb.c0
  go_upto_region 16 with (fail)
  have hb' := hE.out ▸ hb
  go_wp2_with (first | ((with_reducible refine wpList_load_row rfl 27 _ rfl w.heap.size ?_ 27 (cellsO (defO o)) (0, 0) _ ?_ undObj ?_ ?_ ?_); rfl; exact hb'; rfl; exact sizeObj) | ((with_reducible refine wpList_store_rowTo rfl 27 _ _ rfl rfl (w.heap.size + 1) (cellsO (defO o)) ?_ ?_ 27 (cellsO O0) ?_ ?_ ?_ ?_ ?_); rfl; rfl; exact hr; exact sizeObj; exact sz_cells _ _; exact one_cells _))
  refine bodyPost_ret (v := encO (defO o)) (results_cell_row rfl _ _ (w.heap.size + 1) 27 (cellsO (defO o)) (0, 0) _ rfl (hr.setRow _) undObj rfl sizeObj) rfl ?_
  exact ⟨rfl, below_setRow hlow (by omega) _⟩
set_option maxRecDepth 100000 in
set_option maxHeartbeats 2000000 in
theorem default_5 (o : Obj) (w : World) (hk : o.kind = 5) (hz : o.volume.size ≤ 140737488351232 ∧ o.node.size ≤ 140737488351232) :
    Calls Try.prog 22 #[encO o] w fun e w' => e = .returned (encO (defO o)) ∧ Below w.heap.size w w' := by
  have hE : Hid (defO o = { o with name := orS o.name (attachN o.volume o.node) }) := by show _ = _; unfold defO; rw [if_neg (by omega), if_neg (by omega), if_neg (by omega), if_pos hk]; rfl
  have HZ := Lib.hid hz
  clear hz
  have e3 : (o.kind == 3) = false := by rw [hk]; rfl
  have e4 : (o.kind == 4) = false := by rw [hk]; rfl
  have e7 : (o.kind == 7) = false := by rw [hk]; rfl
  have e5 : (o.kind == 5) = true := by rw [hk]; rfl
  clear hk
  unfold encO
  go_enter Try.func22, Try.ntmps22
  go_upto_region 1 with (fail)
  refine wp_gen (fun W => BoxO W w.heap.size o ∧ BoxO W (w.heap.size + 1) O0 ∧ Below w.heap.size w W) ⟨(BoxO.new w o).alloc _, heap_alloc2_new w _ _, ((Below.refl _ _).alloc (Nat.le_refl _) _).alloc (by simp) _⟩ ?_
  rintro W1 ⟨hb, hr, hlow⟩
  have c0 := hb.c0
  go_wp2_with fail
  refine wp_region_held_drew (S := fun W => ∃ n, BoxO W w.heap.size { o with name := n }) (by kernel_rfl) ⟨o.name, hb.drew⟩ (fun hS => ?_)
  replace hb := hb.drew
  replace hr := hr.drew
  replace hlow := hlow.drew
  clear c0 e3 e4 e5 e7
  refine HeldBy.take (i := 0) rfl (by kernel_rfl) (by kernel_rfl) (by kernel_rfl) (fun _ _ _ h => h) (by rfl) (fun _ _ => by go_simp; rfl) (by go_simp; rfl) hS ?_
  refine HeldBy.take (i := 2) rfl (by kernel_rfl) (by kernel_rfl) (by kernel_rfl) (fun _ _ _ h => h) (by rfl) (fun _ _ => by go_simp; rfl) (by go_simp; rfl) hS ?_
  refine HeldBy.take (i := 3) rfl (by kernel_rfl) (by kernel_rfl) (by kernel_rfl) (fun _ _ _ h => h) (by rfl) (fun _ ⟨_, h⟩ => by have c := BoxO.c15 h; go_simp; rfl) (by go_simp; rfl) hS ?_
  refine HeldBy.take (i := 4) rfl (by kernel_rfl) (by kernel_rfl) (by kernel_rfl) (fun _ _ _ h => h) (by rfl) (fun _ _ => by go_simp; rfl) (by go_simp; rfl) hS ?_
  refine HeldBy.take (i := 5) rfl (by kernel_rfl) (by kernel_rfl) (by kernel_rfl) (fun _ _ _ h => h) (by rfl) (fun _ ⟨_, h⟩ => by have c := BoxO.c13 h; go_simp; rfl) (by go_simp; rfl) hS ?_
  refine HeldBy.two (i := 1) (j := 6) (by kernel_rfl) ?_ ?_
  · have c1 := hb.c1
    refine HeldBy.op_value (i := 1) rfl (by rfl) (by go_simp; first | rfl | exact ⟨rfl, rfl⟩) (by go_simp; rfl) ?_
    clear c1
    refine ⟨hS, ?_⟩
    refine HeldBy.call (i := 6) (v := .string (attachN o.volume o.node)) rfl (by kernel_rfl) (by rfl) (by go_simp; exact ⟨rfl, rfl⟩) (by go_simp; rfl) ?_
    refine (attachName_any o.volume o.node _ HZ.out.1 HZ.out.2).mono ?_
    rintro e V1 ⟨rfl, hV⟩
    refine ⟨rfl, hV ▸ hS, ?_⟩
    clear hS
    replace hb : BoxO V1 _ _ := hV ▸ hb
    replace hr : BoxO V1 _ _ := hV ▸ hr
    replace hlow : Below _ _ V1 := hV ▸ hlow
    clear hV
    have hS : ∃ n, BoxO V1 w.heap.size { o with name := n } := ⟨o.name, hb⟩
    refine HeldBy.call (i := 7) (v := .string (orS o.name (attachN o.volume o.node))) rfl (by kernel_rfl) (by rfl) (by go_simp; exact ⟨rfl, rfl⟩) (by go_simp; rfl) ?_
    refine (orStr' o.name (attachN o.volume o.node) _).mono ?_
    rintro e V2 ⟨rfl, hV⟩
    refine ⟨rfl, hV ▸ hS, ?_⟩
    clear hS
    replace hb : BoxO V2 _ _ := hV ▸ hb
    replace hr : BoxO V2 _ _ := hV ▸ hr
    replace hlow : Below _ _ V2 := hV ▸ hlow
    clear hV
    have hS : ∃ n, BoxO V2 w.heap.size { o with name := n } := ⟨o.name, hb⟩
    refine HeldBy.take (i := 8) rfl (by kernel_rfl) (by kernel_rfl) (by kernel_rfl) (fun _ _ _ h => h) (by rfl) (fun _ _ => by go_simp; rfl) (by go_simp; rfl) hS ?_
    have n1 := hb.c1
    have f1 := hb.free 1
    refine HeldBy.store (i := 9) rfl (by kernel_rfl) (by rfl) (by go_simp; rfl) (by go_simp; rfl) ⟨_, hb.s1 _⟩ ?_
    clear n1 f1
    refine wpAnyH_done (by kernel_rfl) ?_ _
    go_upto_region 16 with (fail)
    refine wp_gen (fun W => BoxO W w.heap.size ({ o with name := orS o.name (attachN o.volume o.node) }) ∧ BoxO W (w.heap.size + 1) O0 ∧ Below w.heap.size w W) ⟨hb.s1 _, hr.other (by simp) _, hlow.setCell (by simp) _⟩ ?_
    clear hb hr hlow hS
    rintro W2 ⟨hb, hr, hlow⟩
    have hb' := hE.out ▸ hb
    go_wp2_with (first | ((with_reducible refine wpList_load_row rfl 27 _ rfl w.heap.size ?_ 27 (cellsO (defO o)) (0, 0) _ ?_ undObj ?_ ?_ ?_); rfl; exact hb'; rfl; exact sizeObj) | ((with_reducible refine wpList_store_rowTo rfl 27 _ _ rfl rfl (w.heap.size + 1) (cellsO (defO o)) ?_ ?_ 27 (cellsO O0) ?_ ?_ ?_ ?_ ?_); rfl; rfl; exact hr; exact sizeObj; exact sz_cells _ _; exact one_cells _))
    refine bodyPost_ret (v := encO (defO o)) (results_cell_row rfl _ _ (w.heap.size + 1) 27 (cellsO (defO o)) (0, 0) _ rfl (hr.setRow _) undObj rfl sizeObj) rfl ?_
    exact ⟨rfl, below_setRow hlow (by omega) _⟩
  · refine HeldBy.op_call (i := 6) (v := .string (attachN o.volume o.node)) rfl (by rfl) (by go_simp; exact ⟨rfl, rfl⟩) (by go_simp; rfl) ?_
    refine (attachName_any o.volume o.node _ HZ.out.1 HZ.out.2).mono ?_
    rintro e V1 ⟨rfl, hV⟩
    refine ⟨rfl, hV ▸ hS, ?_⟩
    clear hS
    replace hb : BoxO V1 _ _ := hV ▸ hb
    replace hr : BoxO V1 _ _ := hV ▸ hr
    replace hlow : Below _ _ V1 := hV ▸ hlow
    clear hV
    have hS : ∃ n, BoxO V1 w.heap.size { o with name := n } := ⟨o.name, hb⟩
    have c1 := hb.c1
    refine HeldBy.value (i := 1) rfl (by kernel_rfl) (by rfl) (by go_simp; first | rfl | exact ⟨rfl, rfl⟩) (by go_simp; rfl) hS ?_
    clear c1
    refine HeldBy.call (i := 7) (v := .string (orS o.name (attachN o.volume o.node))) rfl (by kernel_rfl) (by rfl) (by go_simp; exact ⟨rfl, rfl⟩) (by go_simp; rfl) ?_
    refine (orStr' o.name (attachN o.volume o.node) _).mono ?_
    rintro e V2 ⟨rfl, hV⟩
    refine ⟨rfl, hV ▸ hS, ?_⟩
    clear hS
    replace hb : BoxO V2 _ _ := hV ▸ hb
    replace hr : BoxO V2 _ _ := hV ▸ hr
    replace hlow : Below _ _ V2 := hV ▸ hlow
    clear hV
    have hS : ∃ n, BoxO V2 w.heap.size { o with name := n } := ⟨o.name, hb⟩
    refine HeldBy.take (i := 8) rfl (by kernel_rfl) (by kernel_rfl) (by kernel_rfl) (fun _ _ _ h => h) (by rfl) (fun _ _ => by go_simp; rfl) (by go_simp; rfl) hS ?_
    have n1 := hb.c1
    have f1 := hb.free 1
    refine HeldBy.store (i := 9) rfl (by kernel_rfl) (by rfl) (by go_simp; rfl) (by go_simp; rfl) ⟨_, hb.s1 _⟩ ?_
    clear n1 f1
    refine wpAnyH_done (by kernel_rfl) ?_ _
    go_upto_region 16 with (fail)
    refine wp_gen (fun W => BoxO W w.heap.size ({ o with name := orS o.name (attachN o.volume o.node) }) ∧ BoxO W (w.heap.size + 1) O0 ∧ Below w.heap.size w W) ⟨hb.s1 _, hr.other (by simp) _, hlow.setCell (by simp) _⟩ ?_
    clear hb hr hlow hS
    rintro W2 ⟨hb, hr, hlow⟩
    have hb' := hE.out ▸ hb
    go_wp2_with (first | ((with_reducible refine wpList_load_row rfl 27 _ rfl w.heap.size ?_ 27 (cellsO (defO o)) (0, 0) _ ?_ undObj ?_ ?_ ?_); rfl; exact hb'; rfl; exact sizeObj) | ((with_reducible refine wpList_store_rowTo rfl 27 _ _ rfl rfl (w.heap.size + 1) (cellsO (defO o)) ?_ ?_ 27 (cellsO O0) ?_ ?_ ?_ ?_ ?_); rfl; rfl; exact hr; exact sizeObj; exact sz_cells _ _; exact one_cells _))
    refine bodyPost_ret (v := encO (defO o)) (results_cell_row rfl _ _ (w.heap.size + 1) 27 (cellsO (defO o)) (0, 0) _ rfl (hr.setRow _) undObj rfl sizeObj) rfl ?_
    exact ⟨rfl, below_setRow hlow (by omega) _⟩

theorem default_any (o : Obj) (w : World) (hz : o.volume.size ≤ 140737488351232 ∧ o.node.size ≤ 140737488351232) : Calls Try.prog 22 #[encO o] w fun e w' => e = .returned (encO (defO o)) ∧ Below w.heap.size w w' := by
  by_cases h3 : o.kind = 3
  · exact default_3 o w h3 hz
  by_cases h4 : o.kind = 4
  · exact default_4 o w h4 hz
  by_cases h7 : o.kind = 7
  · exact default_7 o w h7 hz
  by_cases h5 : o.kind = 5
  · exact default_5 o w h5 hz
  exact default_0 o w ⟨h3, h4, h7, h5⟩ hz
end Go.Proofs.Ytacbfpgknfcimaa.O
