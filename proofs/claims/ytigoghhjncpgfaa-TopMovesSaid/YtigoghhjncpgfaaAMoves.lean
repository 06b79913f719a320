/- A volume of one node goes from one node to another only when it has left the first. -/
import Derived.Test.YtigoghhjncpgfaaAAfter
import Derived.Test.YtigoghhjncpgfaaALive
namespace Go.Proofs.Ytigoghhjncpgfaa.O.B
open Go Go.RowKit Go.Shelf Go.Lib KM
attribute [local go_sem] Oper.semAt_some

def pM : Obj := { O0 with kind := 6, name := ⟨#[112]⟩, claim := ⟨#[99]⟩, node := ⟨#[109]⟩ }
def oL : Obj := { O0 with kind := 5, name := ⟨#[118, 47, 108]⟩, volume := ⟨#[118]⟩, node := ⟨#[108]⟩, phase := 8 }
def oD (m : Int) : Obj := { oL with phase := 9, num := m }
def cB (m : Int) : Cl := ⟨4, nmV, m, 0, E0, ⟨#[108]⟩, E0⟩
def nM (m : Int) : Obj := { newA nmV ⟨#[109]⟩ m with name := ⟨#[118, 47, 109]⟩ }
theorem built_pM : Try.prog.built 37 [(0, .int .u8 6), (1, .string ⟨#[112]⟩), (14, .string ⟨#[99]⟩), (13, .string ⟨#[109]⟩)] = some (cellsO pM) := by kernel_rfl
theorem built_oL : Try.prog.built 37 [(0, .int .u8 5), (1, .string ⟨#[118, 47, 108]⟩), (15, .string ⟨#[118]⟩), (13, .string ⟨#[108]⟩), (17, .int .u8 8)] = some (cellsO oL) := by kernel_rfl
theorem built_lost : Try.prog.built 47 [(0, .int .i64 13)] = some #[.int .i64 13, .int .i64 0, .string E0, .int .u64 0] := by kernel_rfl
theorem built_done : Try.prog.built 47 [] = some #[.int .i64 0, .int .i64 0, .string E0, .int .u64 0] := by kernel_rfl
theorem up_is {t : Int} (h0 : 0 ≤ t) (h1 : t + 1 ≤ 18446744073709551615) : up t = t + 1 := by
  unfold up
  rw [IntKind.wrap_u64]
  omega
theorem mv1 (t : Int) : volumeA [cW, vW, pM, oL] t nmV = writeA (oD (up t)) := by kernel_rfl
theorem mv2 (m ver : Int) : volumeA [cW, vW, pM, oD m] ver nmV = askA (cB m) := by kernel_rfl
theorem mvA (m : Int) : attsL [cW, vW, pM, oD m] nmV = [oD m] := by kernel_rfl
theorem mvK (m : Int) : askedN [oD m] (cB m) = oD m := by
  unfold askedN
  rw [List.find?_cons_of_pos (show forC (cB m) (oD m) = true by unfold forC; rw [show (oD m).num = (cB m).num from rfl, show (oD m).node = (cB m).node from rfl]; simp)]
  rfl
theorem mv3 (m ver : Int) : afterA [cW, vW, pM, oD m] ver (cB m) ⟨13, 0, E0, 0⟩ = nothing := by
  unfold afterA
  rw [show (cB m).target = nmV from rfl, if_pos (mv2 m ver), mvA, mvK]
  kernel_rfl
theorem mv4 (m ver : Int) : afterA [cW, vW, pM, oD m] ver (cB m) ⟨0, 0, E0, 0⟩ = removeA (oD m) := by
  unfold afterA
  rw [show (cB m).target = nmV from rfl, if_pos (mv2 m ver), mvA, mvK]
  kernel_rfl
theorem mv5 (ver : Int) : volumeA [cW, vW, pM] ver nmV = writeA (nM (up ver)) := by kernel_rfl
def Sized (l : List Obj) : Prop := ∀ o ∈ l, o.name.size ≤ 140737488351232 ∧ o.node.size ≤ 140737488351232
theorem sized_cons {a : Obj} {l : List Obj} (h1 : a.name.size ≤ 1000 ∧ a.node.size ≤ 1000) (h : Sized l) : Sized (a :: l) := by
  intro o ho
  rcases List.mem_cons.1 ho with rfl | ho
  · omega
  · exact h o ho
theorem sized_nil : Sized [] := fun _ h => by cases h
theorem sz_c : cW.name.size ≤ 1000 ∧ cW.node.size ≤ 1000 := ⟨by decide, by decide⟩
theorem sz_v : vW.name.size ≤ 1000 ∧ vW.node.size ≤ 1000 := ⟨by decide, by decide⟩
theorem sz_p : pM.name.size ≤ 1000 ∧ pM.node.size ≤ 1000 := ⟨by decide, by decide⟩
theorem sz_o : oL.name.size ≤ 1000 ∧ oL.node.size ≤ 1000 := ⟨by decide, by decide⟩

set_option maxRecDepth 100000 in
set_option maxHeartbeats 16000000 in
theorem moves_any (t : Int) (w : World) (hv : 0 ≤ t ∧ t ≤ 4294967295) :
    Calls Try.prog 10 #[.int .u32 t] w fun e w' => e = .returned (.bool true) ∧ Below w.heap.size w w' := by
  obtain ⟨t0, t1⟩ := hv
  have h1 := mv1 t
  rw [up_is t0 (by omega)] at h1
  have h5 := mv5 (t + 2)
  rw [up_is (show 0 ≤ t + 2 by omega) (by omega), show t + 2 + 1 = t + 3 by omega] at h5
  have H1 := Lib.hid h1
  have H2 := Lib.hid (mv2 (t + 1) (t + 1))
  have H3 := Lib.hid (mv3 (t + 1) (t + 1))
  have H4 := Lib.hid (mv4 (t + 1) (t + 1))
  have H5 := Lib.hid h5
  have HBC := Lib.hid built_cW
  have HBV := Lib.hid built_vW
  have HBP := Lib.hid built_pM
  have HBO := Lib.hid built_oL
  have HZ1 := Lib.hid (sized_cons sz_c (sized_cons sz_v (sized_cons sz_p (sized_cons sz_o sized_nil))))
  have HZ2 := Lib.hid (sized_cons sz_c (sized_cons sz_v (sized_cons sz_p (sized_cons (show (oD (t + 1)).name.size ≤ 1000 ∧ (oD (t + 1)).node.size ≤ 1000 from sz_o) sized_nil))))
  have HZ3 := Lib.hid (sized_cons sz_c (sized_cons sz_v (sized_cons sz_p sized_nil)))
  have HK1 : Hid ((cellsA (writeA (oD (t + 1))))[14]? = some (.string ⟨#[108]⟩) ∧ (cellsA (writeA (oD (t + 1))))[18]? = some (.int .u8 9)) := ⟨rfl, rfl⟩
  have HK2 : Hid ((cellsA (askA (cB (t + 1))))[21]? = some (.int .u8 4)) := rfl
  have HK5 : Hid ((cellsA (writeA (nM (t + 3))))[14]? = some (.string ⟨#[109]⟩) ∧ (cellsA (writeA (nM (t + 3))))[19]? = some (.int .u64 (t + 3))) := ⟨rfl, rfl⟩
  clear h1 h5
  generalize hc : cW = c at *
  generalize hvv : vW = v at *
  generalize hp : pM = p at *
  generalize ho : oL = o at *
  generalize hs : oD (t + 1) = s at *
  generalize hb : cB (t + 1) = bc at *
  generalize hn : nM (t + 3) = n at *
  clear hc hvv hp ho hs hb hn
  have w1 : IntKind.u64.wrap (t + 1) = t + 1 := by rw [IntKind.wrap_u64]; omega
  have w2 : IntKind.u64.wrap (t + 2) = t + 2 := by rw [IntKind.wrap_u64]; omega
  have w3 : IntKind.u64.wrap (t + 3) = t + 3 := by rw [IntKind.wrap_u64]; omega
  go_enter Try.func10, Try.ntmps10
  obtain ⟨V1, st1, bx1, lw1, -⟩ := boxing w c
  obtain ⟨V2, st2, bx2, lw2, -⟩ := boxing V1 v
  obtain ⟨V3, st3, bx3, lw3, -⟩ := boxing V2 p
  obtain ⟨X0, st4, bx4, lw4, -⟩ := boxing V3 o
  have q1 := lw1.size
  have q2 := lw2.size
  have q3 := lw3.size
  have HW : Hid (Below w.heap.size w X0) := ((lw1.trans (lw2.mono q1)).trans (lw3.mono (by omega))).trans (lw4.mono (by omega))
  have HC : Hid (BoxO X0 w.heap.size c) := ((bx1.after lw2).after lw3).after lw4
  have HV : Hid (BoxO X0 V1.heap.size v) := (bx2.after lw3).after lw4
  have HP : Hid (BoxO X0 V2.heap.size p) := bx3.after lw4
  have HO : Hid (BoxO X0 V3.heap.size o) := bx4
  clear bx1 bx2 bx3 bx4 lw1 lw2 lw3 lw4 q1 q2 q3
  have bc0 := HC.out
  have bv0 := HV.out
  have bp0 := HP.out
  have bo0 := HO.out
  have hrun := run_objs4 X0 c v p o
  obtain ⟨Y0, hY⟩ : ∃ Y, X0.alloc (.cells (catO [c, v, p, o]) 37 (0, 0)) = Y := ⟨_, rfl⟩
  have hob : RowO Y0 X0.heap.size [c, v, p, o] := by rw [← hY]; exact heap_alloc_new _ _
  have hba : Below X0.heap.size X0 Y0 := by rw [← hY]; exact (Below.refl _ _).alloc (Nat.le_refl _) _
  rw [hY] at hrun
  have HRUN := Lib.hid hrun
  have hlw := HW.out.trans (hba.mono HW.out.size)
  replace HC := Lib.hid (HC.out.after hba)
  replace HV := Lib.hid (HV.out.after hba)
  replace HP := Lib.hid (HP.out.after hba)
  replace HO := Lib.hid (HO.out.after hba)
  replace HW := Lib.hid hlw
  have HCA := Lib.hid (volA_any [c, v, p, o] (.slice (some ⟨X0.heap.size, 0, none⟩) 4 4) t nmV Y0 (hob.objs 4 (by show 4 ≤ _; omega)) (by show 4 < 100000; omega) HZ1.out)
  rw [H1.out] at HCA
  clear hrun hY hba hlw hob H1
  unfold nmV at HCA
  go_wp2_with (first | ((with_reducible refine wpList_load_obj ?_ rfl ?_ bc0 ?_); rfl; rfl) | ((with_reducible refine wpList_load_obj ?_ rfl ?_ bv0 ?_); rfl; rfl) | ((with_reducible refine wpList_load_obj ?_ rfl ?_ bp0 ?_); rfl; rfl) | ((with_reducible refine wpList_objs rfl rfl _ HRUN.out ?_ ?_); rfl) | ((with_reducible refine wpList_build_to rfl 37 _ rfl (cellsO c) ?_ ?_); exact HBC.out; clear HBC) | ((with_reducible refine wpList_build_to rfl 37 _ rfl (cellsO v) ?_ ?_); exact HBV.out; clear HBV) | ((with_reducible refine wpList_build_to rfl 37 _ rfl (cellsO p) ?_ ?_); exact HBP.out; clear HBP) | ((with_reducible refine wpList_build_to rfl 37 _ rfl (cellsO o) ?_ ?_); exact HBO.out; clear HBO) | (refine wpList_skip rfl (st1 rfl rfl rfl) ?_) | (refine wpList_skip rfl (st2 rfl rfl rfl) ?_) | (refine wpList_skip rfl (st3 rfl rfl rfl) ?_) | (refine wpList_skip rfl (st4 rfl rfl rfl) ?_) | ((with_reducible refine wpList_load_obj ?_ rfl ?_ bo0 ?_); rfl; rfl))
  refine HCA.out.mono ?_
  rintro e W1 ⟨rfl, hbW1⟩
  obtain ⟨X1, sxX1, axX1, lxX1⟩ := actbox W1 (writeA s)
  have hlw1 := HW.out.trans (hbW1.mono HW.out.size)
  replace HC := Lib.hid ((HC.out.after hbW1).after lxX1)
  replace HV := Lib.hid ((HV.out.after hbW1).after lxX1)
  replace HP := Lib.hid ((HP.out.after hbW1).after lxX1)
  replace HO := Lib.hid ((HO.out.after hbW1).after lxX1)
  replace HW := Lib.hid (hlw1.trans (lxX1.mono hlw1.size))
  have HBW1 := Lib.hid axX1
  clear HCA hbW1 lxX1 axX1 hlw1 bc0 bv0 bp0 HRUN
  clear st1 st2 st3 st4 HZ1 bo0
  have a0 : X1.cell? ⟨W1.heap.size, 0, none⟩ = some (.int .u8 1) := (cell_of_row X1 _ 0 _ _ _ HBW1.out).trans rfl
  have a14 : X1.cell? ⟨W1.heap.size, 14, none⟩ = some (.string ⟨#[108]⟩) := (cell_of_row X1 _ 14 _ _ _ HBW1.out).trans HK1.out.1
  have a18 : X1.cell? ⟨W1.heap.size, 18, none⟩ = some (.int .u8 9) := (cell_of_row X1 _ 18 _ _ _ HBW1.out).trans HK1.out.2
  have bc0 := HC.out
  have bv0 := HV.out
  have bp0 := HP.out
  have hrow := HBW1.out.obj
  have hrun := run_objs4 X1 c v p s
  obtain ⟨Y1, hY⟩ : ∃ Y, X1.alloc (.cells (catO [c, v, p, s]) 37 (0, 0)) = Y := ⟨_, rfl⟩
  have hob : RowO Y1 X1.heap.size [c, v, p, s] := by rw [← hY]; exact heap_alloc_new _ _
  have hba : Below X1.heap.size X1 Y1 := by rw [← hY]; exact (Below.refl _ _).alloc (Nat.le_refl _) _
  rw [hY] at hrun
  have HRUN := Lib.hid hrun
  have hlw := HW.out.trans (hba.mono HW.out.size)
  replace HC := Lib.hid (HC.out.after hba)
  replace HV := Lib.hid (HV.out.after hba)
  replace HP := Lib.hid (HP.out.after hba)
  replace HO := Lib.hid (HO.out.after hba)
  replace HBW1 := Lib.hid (HBW1.out.after hba)
  replace HW := Lib.hid hlw
  have HCA := Lib.hid (volA_any [c, v, p, s] (.slice (some ⟨X1.heap.size, 0, none⟩) 4 4) (t + 1) nmV Y1 (hob.objs 4 (by show 4 ≤ _; omega)) (by show 4 < 100000; omega) HZ2.out)
  rw [H2.out] at HCA
  clear hrun hY hba hlw hob H2
  unfold nmV at HCA
  go_wp2_with (first | ((with_reducible refine wpList_load_obj ?_ rfl ?_ bc0 ?_); rfl; rfl) | ((with_reducible refine wpList_load_obj ?_ rfl ?_ bv0 ?_); rfl; rfl) | ((with_reducible refine wpList_load_obj ?_ rfl ?_ bp0 ?_); rfl; rfl) | ((with_reducible refine wpList_objs rfl rfl _ HRUN.out ?_ ?_); rfl) | (refine wpList_skip rfl (sxX1 rfl rfl rfl) ?_) | (refine wpList_got (v := encO s) rfl (load_mid hrow rfl rfl) ?_))
  refine HCA.out.mono ?_
  rintro e W2 ⟨rfl, hbW2⟩
  obtain ⟨X2, sxX2, axX2, lxX2⟩ := actbox W2 (askA bc)
  have hlw1 := HW.out.trans (hbW2.mono HW.out.size)
  replace HC := Lib.hid ((HC.out.after hbW2).after lxX2)
  replace HV := Lib.hid ((HV.out.after hbW2).after lxX2)
  replace HP := Lib.hid ((HP.out.after hbW2).after lxX2)
  replace HO := Lib.hid ((HO.out.after hbW2).after lxX2)
  replace HBW1 := Lib.hid ((HBW1.out.after hbW2).after lxX2)
  replace HW := Lib.hid (hlw1.trans (lxX2.mono hlw1.size))
  have HBW2 := Lib.hid axX2
  clear HCA hbW2 lxX2 axX2 hlw1 bc0 bv0 bp0 HRUN
  clear sxX1 a0 a14 a18 hrow HK1
  have bc0 := HC.out
  have bv0 := HV.out
  have bp0 := HP.out
  have hrow := HBW1.out.obj
  have hrun := run_objs4 X2 c v p s
  obtain ⟨Y2, hY⟩ : ∃ Y, X2.alloc (.cells (catO [c, v, p, s]) 37 (0, 0)) = Y := ⟨_, rfl⟩
  have hob : RowO Y2 X2.heap.size [c, v, p, s] := by rw [← hY]; exact heap_alloc_new _ _
  have hba : Below X2.heap.size X2 Y2 := by rw [← hY]; exact (Below.refl _ _).alloc (Nat.le_refl _) _
  rw [hY] at hrun
  have HRUN := Lib.hid hrun
  have hlw := HW.out.trans (hba.mono HW.out.size)
  replace HC := Lib.hid (HC.out.after hba)
  replace HV := Lib.hid (HV.out.after hba)
  replace HP := Lib.hid (HP.out.after hba)
  replace HO := Lib.hid (HO.out.after hba)
  replace HBW1 := Lib.hid (HBW1.out.after hba)
  replace HBW2 := Lib.hid (HBW2.out.after hba)
  replace HW := Lib.hid hlw
  have HCA := Lib.hid (after_any [c, v, p, s] (.slice (some ⟨X2.heap.size, 0, none⟩) 4 4) (t + 1) bc ⟨13, 0, E0, 0⟩ Y2 (hob.objs 4 (by show 4 ≤ _; omega)) (by show 4 < 100000; omega) HZ2.out)
  rw [H3.out] at HCA
  have hcall : Y2.rangeAt W2.heap.size 21 (cellsC bc).toList := HBW2.out.callAt
  unfold encR at HCA
  clear hrun hY hba hlw hob H3
  go_wp2_with (first | ((with_reducible refine wpList_load_obj ?_ rfl ?_ bc0 ?_); rfl; rfl) | ((with_reducible refine wpList_load_obj ?_ rfl ?_ bv0 ?_); rfl; rfl) | ((with_reducible refine wpList_load_obj ?_ rfl ?_ bp0 ?_); rfl; rfl) | ((with_reducible refine wpList_objs rfl rfl _ HRUN.out ?_ ?_); rfl) | (refine wpList_skip rfl (sxX2 rfl rfl rfl) ?_) | (refine wpList_got (v := encO s) rfl (load_mid hrow rfl rfl) ?_) | (refine wpList_got (v := encC bc) rfl (load_callAt hcall rfl rfl) ?_) | ((with_reducible refine wpList_build_to rfl 47 _ rfl _ ?_ ?_); exact built_lost))
  refine HCA.out.mono ?_
  rintro e W3 ⟨rfl, hbW3⟩
  obtain ⟨X3, sxX3, axX3, lxX3⟩ := actbox W3 (nothing)
  have hlw1 := HW.out.trans (hbW3.mono HW.out.size)
  replace HC := Lib.hid ((HC.out.after hbW3).after lxX3)
  replace HV := Lib.hid ((HV.out.after hbW3).after lxX3)
  replace HP := Lib.hid ((HP.out.after hbW3).after lxX3)
  replace HO := Lib.hid ((HO.out.after hbW3).after lxX3)
  replace HBW1 := Lib.hid ((HBW1.out.after hbW3).after lxX3)
  replace HBW2 := Lib.hid ((HBW2.out.after hbW3).after lxX3)
  replace HW := Lib.hid (hlw1.trans (lxX3.mono hlw1.size))
  have HBW3 := Lib.hid axX3
  clear HCA hbW3 lxX3 axX3 hlw1 bc0 bv0 bp0 HRUN
  clear sxX2 hrow hcall
  have bc0 := HC.out
  have bv0 := HV.out
  have bp0 := HP.out
  have hrow := HBW1.out.obj
  have hrun := run_objs4 X3 c v p s
  obtain ⟨Y3, hY⟩ : ∃ Y, X3.alloc (.cells (catO [c, v, p, s]) 37 (0, 0)) = Y := ⟨_, rfl⟩
  have hob : RowO Y3 X3.heap.size [c, v, p, s] := by rw [← hY]; exact heap_alloc_new _ _
  have hba : Below X3.heap.size X3 Y3 := by rw [← hY]; exact (Below.refl _ _).alloc (Nat.le_refl _) _
  rw [hY] at hrun
  have HRUN := Lib.hid hrun
  have hlw := HW.out.trans (hba.mono HW.out.size)
  replace HC := Lib.hid (HC.out.after hba)
  replace HV := Lib.hid (HV.out.after hba)
  replace HP := Lib.hid (HP.out.after hba)
  replace HO := Lib.hid (HO.out.after hba)
  replace HBW1 := Lib.hid (HBW1.out.after hba)
  replace HBW2 := Lib.hid (HBW2.out.after hba)
  replace HBW3 := Lib.hid (HBW3.out.after hba)
  replace HW := Lib.hid hlw
  have HCA := Lib.hid (after_any [c, v, p, s] (.slice (some ⟨X3.heap.size, 0, none⟩) 4 4) (t + 1) bc ⟨0, 0, E0, 0⟩ Y3 (hob.objs 4 (by show 4 ≤ _; omega)) (by show 4 < 100000; omega) HZ2.out)
  rw [H4.out] at HCA
  have hcall : Y3.rangeAt W2.heap.size 21 (cellsC bc).toList := HBW2.out.callAt
  unfold encR at HCA
  clear hrun hY hba hlw hob H4
  go_wp2_with (first | ((with_reducible refine wpList_load_obj ?_ rfl ?_ bc0 ?_); rfl; rfl) | ((with_reducible refine wpList_load_obj ?_ rfl ?_ bv0 ?_); rfl; rfl) | ((with_reducible refine wpList_load_obj ?_ rfl ?_ bp0 ?_); rfl; rfl) | ((with_reducible refine wpList_objs rfl rfl _ HRUN.out ?_ ?_); rfl) | (refine wpList_skip rfl (sxX3 rfl rfl rfl) ?_) | (refine wpList_got (v := encO s) rfl (load_mid hrow rfl rfl) ?_) | (refine wpList_got (v := encC bc) rfl (load_callAt hcall rfl rfl) ?_) | ((with_reducible refine wpList_build_to rfl 47 _ rfl _ ?_ ?_); exact built_done))
  refine HCA.out.mono ?_
  rintro e W4 ⟨rfl, hbW4⟩
  obtain ⟨X4, sxX4, axX4, lxX4⟩ := actbox W4 (removeA s)
  have hlw1 := HW.out.trans (hbW4.mono HW.out.size)
  replace HC := Lib.hid ((HC.out.after hbW4).after lxX4)
  replace HV := Lib.hid ((HV.out.after hbW4).after lxX4)
  replace HP := Lib.hid ((HP.out.after hbW4).after lxX4)
  replace HO := Lib.hid ((HO.out.after hbW4).after lxX4)
  replace HBW1 := Lib.hid ((HBW1.out.after hbW4).after lxX4)
  replace HBW2 := Lib.hid ((HBW2.out.after hbW4).after lxX4)
  replace HBW3 := Lib.hid ((HBW3.out.after hbW4).after lxX4)
  replace HW := Lib.hid (hlw1.trans (lxX4.mono hlw1.size))
  have HBW4 := Lib.hid axX4
  clear HCA hbW4 lxX4 axX4 hlw1 bc0 bv0 bp0 HRUN
  clear sxX3 hrow hcall
  have bc0 := HC.out
  have bv0 := HV.out
  have bp0 := HP.out
  have hrun := run_objs3 X4 c v p
  obtain ⟨Y4, hY⟩ : ∃ Y, X4.alloc (.cells (catO [c, v, p]) 37 (0, 0)) = Y := ⟨_, rfl⟩
  have hob : RowO Y4 X4.heap.size [c, v, p] := by rw [← hY]; exact heap_alloc_new _ _
  have hba : Below X4.heap.size X4 Y4 := by rw [← hY]; exact (Below.refl _ _).alloc (Nat.le_refl _) _
  rw [hY] at hrun
  have HRUN := Lib.hid hrun
  have hlw := HW.out.trans (hba.mono HW.out.size)
  replace HC := Lib.hid (HC.out.after hba)
  replace HV := Lib.hid (HV.out.after hba)
  replace HP := Lib.hid (HP.out.after hba)
  replace HO := Lib.hid (HO.out.after hba)
  replace HBW1 := Lib.hid (HBW1.out.after hba)
  replace HBW2 := Lib.hid (HBW2.out.after hba)
  replace HBW3 := Lib.hid (HBW3.out.after hba)
  replace HBW4 := Lib.hid (HBW4.out.after hba)
  replace HW := Lib.hid hlw
  have HCA := Lib.hid (volA_any [c, v, p] (.slice (some ⟨X4.heap.size, 0, none⟩) 3 3) (t + 2) nmV Y4 (hob.objs 3 (by show 3 ≤ _; omega)) (by show 3 < 100000; omega) HZ3.out)
  rw [H5.out] at HCA
  clear hrun hY hba hlw hob H5
  unfold nmV at HCA
  go_wp2_with (first | ((with_reducible refine wpList_load_obj ?_ rfl ?_ bc0 ?_); rfl; rfl) | ((with_reducible refine wpList_load_obj ?_ rfl ?_ bv0 ?_); rfl; rfl) | ((with_reducible refine wpList_load_obj ?_ rfl ?_ bp0 ?_); rfl; rfl) | ((with_reducible refine wpList_objs rfl rfl _ HRUN.out ?_ ?_); rfl) | (refine wpList_skip rfl (sxX4 rfl rfl rfl) ?_))
  refine HCA.out.mono ?_
  rintro e W5 ⟨rfl, hbW5⟩
  obtain ⟨X5, sxX5, axX5, lxX5⟩ := actbox W5 (writeA n)
  have hlw1 := HW.out.trans (hbW5.mono HW.out.size)
  replace HC := Lib.hid ((HC.out.after hbW5).after lxX5)
  replace HV := Lib.hid ((HV.out.after hbW5).after lxX5)
  replace HP := Lib.hid ((HP.out.after hbW5).after lxX5)
  replace HO := Lib.hid ((HO.out.after hbW5).after lxX5)
  replace HBW1 := Lib.hid ((HBW1.out.after hbW5).after lxX5)
  replace HBW2 := Lib.hid ((HBW2.out.after hbW5).after lxX5)
  replace HBW3 := Lib.hid ((HBW3.out.after hbW5).after lxX5)
  replace HBW4 := Lib.hid ((HBW4.out.after hbW5).after lxX5)
  replace HW := Lib.hid (hlw1.trans (lxX5.mono hlw1.size))
  have HBW5 := Lib.hid axX5
  clear HCA hbW5 lxX5 axX5 hlw1 bc0 bv0 bp0 HRUN
  clear sxX4
  have b0 : X5.cell? ⟨W2.heap.size, 0, none⟩ = some (.int .u8 3) := (cell_of_row X5 _ 0 _ _ _ HBW2.out).trans rfl
  have b21 : X5.cell? ⟨W2.heap.size, 21, none⟩ = some (.int .u8 4) := (cell_of_row X5 _ 21 _ _ _ HBW2.out).trans HK2.out
  have d0 : X5.cell? ⟨W3.heap.size, 0, none⟩ = some (.int .u8 0) := (cell_of_row X5 _ 0 _ _ _ HBW3.out).trans rfl
  have f0 : X5.cell? ⟨W4.heap.size, 0, none⟩ = some (.int .u8 2) := (cell_of_row X5 _ 0 _ _ _ HBW4.out).trans rfl
  have g0 : X5.cell? ⟨W5.heap.size, 0, none⟩ = some (.int .u8 1) := (cell_of_row X5 _ 0 _ _ _ HBW5.out).trans rfl
  have g14 : X5.cell? ⟨W5.heap.size, 14, none⟩ = some (.string ⟨#[109]⟩) := (cell_of_row X5 _ 14 _ _ _ HBW5.out).trans HK5.out.1
  have g19 : X5.cell? ⟨W5.heap.size, 19, none⟩ = some (.int .u64 (t + 3)) := (cell_of_row X5 _ 19 _ _ _ HBW5.out).trans HK5.out.2
  clear HC HV HP HO HBW1 HBW2 HBW3 HBW4 HBW5 HK2 HK5
  go_wp2_with (first | (refine wpList_skip rfl (sxX5 rfl rfl rfl) ?_))
  go_ret
  exact ⟨rfl, HW.out⟩
end Go.Proofs.Ytigoghhjncpgfaa.O.B
