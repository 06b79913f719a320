/- A snapshot is cut, ready, and dropped, step by step: the walk. -/
import Derived.Test.YtijgieefmnmakaaDoorDCut0
namespace Go.Proofs.YtijgieefmnmakaaDoor.O.B
open Go Go.RowKit Go.Shelf Go.Lib RangeMap KM
attribute [local go_sem] Oper.semAt_some

set_option maxRecDepth 100000 in
set_option maxHeartbeats 16000000 in
theorem cut_any (t g : Int) (w : World) (ht : Tab w) (hv : 0 ≤ t ∧ t ≤ 4294967295) :
    Calls Tryd.prog 11 #[.int .u32 t, .int .u64 g] w fun e w' => e = .returned (.bool true) ∧ Below w.heap.size w w' := by
  have HT := Lib.hid ht
  obtain ⟨t0, t1⟩ := hv
  have H1 := Lib.hid (cut1 t t0 (by omega))
  have H2 := Lib.hid (cut2 (t + 1) (t + 1))
  have H3 := Lib.hid (cut3 (t + 1) (t + 1) g)
  have h4 := cut4 g (t + 2) (by omega) (by omega)
  rw [show t + 2 + 1 = t + 3 by omega] at h4
  have H4 := Lib.hid h4
  have H5 := Lib.hid (cut5 g (t + 3) (t + 3))
  have H6 := Lib.hid (cut6 g (t + 3) (t + 3))
  have HBC := Lib.hid built_cT
  have HBV := Lib.hid built_vT
  have HBS := Lib.hid built_sT
  have HBU := Lib.hid (built_cutS (t + 1))
  have HF1 := Lib.hid (fits_three fit_cT fit_vW (fit_s sT rfl rfl))
  have HF2 := Lib.hid (fits_three fit_cT fit_vW (fit_s (sA (t + 1)) rfl rfl))
  have HF4 := Lib.hid (fits_three fit_cT fit_vW (fit_s (sG g) rfl rfl))
  have HF5 := Lib.hid (fits_three fit_cT fit_vW (fit_s (sD g (t + 3)) rfl rfl))
  have HK10 : Hid ((cellsA (writeA (sC g)))[18]? = some (.int .u8 11) ∧ (cellsA (writeA (sC g)))[20]? = some (.int .u64 g)) := ⟨rfl, rfl⟩
  have HK15 : Hid ((cellsA (writeA (sD g (t + 3))))[19]? = some (.int .u64 (t + 3))) := rfl
  have HG : Hid (∀ (V : World) (b : Nat), BoxO V b (sC g) → BoxO (V.setCell ⟨b, 4, none⟩ (.bool true)) b (sG g)) := fun V b h => h.s4 true
  have HG4 : Hid ((sC g).deleting = false) := rfl
  clear ht h4
  generalize hc : cT = c at *
  generalize hvv : vW = v at *
  generalize hs0 : sT = s0 at *
  generalize hs1 : sA (t + 1) = s1 at *
  generalize hs2 : sC g = s2 at *
  generalize hs3 : sG g = s3 at *
  generalize hs4 : sD g (t + 3) = s4 at *
  generalize hb1 : bT (t + 1) = bc at *
  have HE : Hid ((cellsA (askA (eT (t + 3))))[21]? = some (.int .u8 7)) := rfl
  generalize heT : eT (t + 3) = ec at *
  clear hc hvv hs0 hs1 hs2 hs3 hs4 hb1 heT
  unfold hS at HBU
  go_enter Tryd.func11, Tryd.ntmps11
  go_upto_region 3 with (fail)
  refine wp_gen (fun V => BoxK V w.heap.size 7 cS ∧ Below w.heap.size w V) ?_ ?_
  · exact ⟨heap_alloc_new _ _, (Below.refl _ _).alloc (Nat.le_refl _) _⟩
  rintro V0 ⟨hk, hw0⟩
  have HK := Lib.hid hk
  obtain ⟨V1, st1, bx1, lw1, -⟩ := boxing V0 c
  obtain ⟨V2, st2, bx2, lw2, -⟩ := boxing V1 v
  obtain ⟨V3, st3, bx3, lw3, -⟩ := boxing V2 s0
  have q1 := lw1.size
  have q2 := lw2.size
  have q3 := lw3.size
  have hlw : Below w.heap.size w V3 := ((hw0.trans (lw1.mono hw0.size)).trans (lw2.mono (by have := hw0.size; omega))).trans (lw3.mono (by have := hw0.size; omega))
  have HKB : Hid (BoxK V3 w.heap.size 7 cS) := ((hk.after lw1).after lw2).after lw3
  have HC : Hid (BoxO V3 V0.heap.size c) := (bx1.after lw2).after lw3
  have HV : Hid (BoxO V3 V1.heap.size v) := bx2.after lw3
  have HW := Lib.hid hlw
  have HS0 := Lib.hid bx3
  have hl : ∀ n : Nat, BoxO V3 n c → True := fun _ _ => trivial
  have bc3 := HC.out
  have bv3 := HV.out
  have bs3 := HS0.out
  clear hk hw0 bx1 lw1 bx2 lw2 bx3 lw3 q1 q2 q3 hlw hl HK
  have hrun := run_objs3 V3 c v s0
  obtain ⟨W0, hW0⟩ : ∃ W0, V3.alloc (.cells (catO [c, v, s0]) 31 (0, 0)) = W0 := ⟨_, rfl⟩
  have hob : ObjsIn W0 (.slice (some ⟨V3.heap.size, 0, none⟩) 3 3) [c, v, s0] := by rw [← hW0]; exact objs_new V3 c v s0
  have hba : Below V3.heap.size V3 W0 := by rw [← hW0]; exact (Below.refl _ _).alloc (Nat.le_refl _) _
  rw [hW0] at hrun
  have HRUN := Lib.hid hrun
  have HA0 := Lib.hid hba
  have HCA := Lib.hid (snapAll_any _ _ t cS W0 hob (HT.out.after (HW.out.trans (hba.mono HW.out.size))) HF1.out)
  rw [H1.out] at HCA
  clear hrun hW0 hob hba H1 HF1
  unfold cS at HCA
  go_wp2_with (first | ((with_reducible refine wpList_build_to rfl 31 _ rfl (cellsO c) ?_ ?_); exact HBC.out; clear HBC) | ((with_reducible refine wpList_build_to rfl 31 _ rfl (cellsO v) ?_ ?_); exact HBV.out; clear HBV) | ((with_reducible refine wpList_build_to rfl 31 _ rfl (cellsO s0) ?_ ?_); exact HBS.out; clear HBS) | (refine wpList_skip rfl (st1 rfl rfl rfl) ?_) | (refine wpList_skip rfl (st2 rfl rfl rfl) ?_) | (refine wpList_skip rfl (st3 rfl rfl rfl) ?_) | ((with_reducible refine wpList_load_obj ?_ rfl ?_ bc3 ?_); rfl; rfl) | ((with_reducible refine wpList_load_obj ?_ rfl ?_ bv3 ?_); rfl; rfl) | ((with_reducible refine wpList_load_obj ?_ rfl ?_ bs3 ?_); rfl; rfl) | ((with_reducible refine wpList_objs rfl rfl _ HRUN.out ?_ ?_); rfl))
  refine HCA.out.mono ?_
  rintro e W1 ⟨rfl, hb1⟩
  obtain ⟨X1, sx1, ax1, lx1⟩ := actbox W1 (writeA s1)
  have hlw0 := HW.out.trans (HA0.out.mono HW.out.size)
  have hlw1 := hlw0.trans (hb1.mono hlw0.size)
  have hlw := hlw1.trans (lx1.mono hlw1.size)
  replace HKB := Lib.hid ((((HKB.out).after HA0.out).after hb1).after lx1)
  replace HC := Lib.hid ((((HC.out).after HA0.out).after hb1).after lx1)
  replace HV := Lib.hid ((((HV.out).after HA0.out).after hb1).after lx1)
  replace HW := Lib.hid hlw
  have HA := Lib.hid ax1
  have hrow := ax1.obj
  clear HCA HA0 hb1 lx1 ax1 hlw0 hlw1 hlw st1 st2 st3 bc3 bv3 bs3 HRUN HS0
  have bc2 := HC.out
  have bv2 := HV.out
  have hrun := run_objs3 X1 c v s1
  obtain ⟨Y2, hY2⟩ : ∃ Y, X1.alloc (.cells (catO [c, v, s1]) 31 (0, 0)) = Y := ⟨_, rfl⟩
  have hob : RowO Y2 X1.heap.size [c, v, s1] := by rw [← hY2]; exact heap_alloc_new _ _
  have hba : Below X1.heap.size X1 Y2 := by rw [← hY2]; exact (Below.refl _ _).alloc (Nat.le_refl _) _
  rw [hY2] at hrun
  have HRUN := Lib.hid hrun
  have hlw := HW.out.trans (hba.mono HW.out.size)
  have HCA := Lib.hid (snapAll_any _ _ (t + 1) cS Y2 (hob.objs 3 (by show 3 ≤ _; omega)) (HT.out.after hlw) HF2.out)
  rw [H2.out] at HCA
  replace HKB := Lib.hid ((HKB.out).after hba)
  replace HC := Lib.hid ((HC.out).after hba)
  replace HV := Lib.hid ((HV.out).after hba)
  replace HA := Lib.hid ((HA.out).after hba)
  have HR := Lib.hid hob
  replace HW := Lib.hid hlw
  clear hrun hY2 hob hba hlw H2
  unfold cS at HCA
  go_wp2_with (first | (refine wpList_skip rfl (sx1 rfl rfl rfl) ?_) | ((with_reducible refine wpList_load_obj ?_ rfl ?_ bc2 ?_); rfl; rfl) | ((with_reducible refine wpList_load_obj ?_ rfl ?_ bv2 ?_); rfl; rfl) | (refine wpList_got rfl (load_mid hrow rfl rfl) ?_) | ((with_reducible refine wpList_objs rfl rfl _ HRUN.out ?_ ?_); rfl))
  refine HCA.out.mono ?_
  rintro e W2 ⟨rfl, hb2⟩
  obtain ⟨X2, sx2, ax2, lx2⟩ := actbox W2 (askA bc)
  have hlw1 := HW.out.trans (hb2.mono HW.out.size)
  have hlw := hlw1.trans (lx2.mono hlw1.size)
  replace HKB := Lib.hid (((HKB.out).after hb2).after lx2)
  replace HC := Lib.hid (((HC.out).after hb2).after lx2)
  replace HV := Lib.hid (((HV.out).after hb2).after lx2)
  replace HA := Lib.hid (((HA.out).after hb2).after lx2)
  replace HR := Lib.hid (((HR.out).after hb2).after lx2)
  replace HW := Lib.hid hlw
  have HB := Lib.hid ax2
  have hcall := ax2.callAt
  have hkk := HKB.out
  have HCB := Lib.hid (afterD_any _ (.slice (some ⟨X1.heap.size, 0, none⟩) 3 3) (t + 1) 7 cS bc ⟨0, 4, E0, g⟩ X2 (HR.out.objs 3 (by show 3 ≤ _; omega)) (HT.out.after hlw) HF2.out)
  rw [H3.out] at HCB
  clear HCA hb2 lx2 ax2 hlw1 hlw sx1 bc2 bv2 hrow HRUN HF2 H3
  unfold encR at HCB
  go_wp2_with (first | (refine wpList_skip rfl (sx2 rfl rfl rfl) ?_) | (refine wpList_got rfl (load_key hkk rfl rfl) ?_) | (refine wpList_got rfl (load_callAt hcall rfl rfl) ?_) | ((with_reducible refine wpList_build_to rfl 44 _ rfl _ ?_ ?_); exact built_res2 _))
  refine HCB.out.mono ?_
  rintro e W3 ⟨rfl, hb3⟩
  obtain ⟨X3, sx3, ax3, lx3⟩ := actbox W3 (writeA s2)
  have hlw1 := HW.out.trans (hb3.mono HW.out.size)
  have hlw := hlw1.trans (lx3.mono hlw1.size)
  replace HKB := Lib.hid (((HKB.out).after hb3).after lx3)
  replace HC := Lib.hid (((HC.out).after hb3).after lx3)
  replace HV := Lib.hid (((HV.out).after hb3).after lx3)
  replace HA := Lib.hid (((HA.out).after hb3).after lx3)
  replace HB := Lib.hid (((HB.out).after hb3).after lx3)
  replace HW := Lib.hid hlw
  have HX3 := Lib.hid ax3
  have a0 : X3.cell? ⟨W1.heap.size, 0, none⟩ = some (.int .u8 1) := (cell_of_row X3 _ 0 _ _ _ HA.out).trans rfl
  have b0 : X3.cell? ⟨W2.heap.size, 0, none⟩ = some (.int .u8 3) := (cell_of_row X3 _ 0 _ _ _ HB.out).trans rfl
  have d0 : X3.cell? ⟨W3.heap.size, 0, none⟩ = some (.int .u8 1) := (cell_of_row X3 _ 0 _ _ _ ax3).trans rfl
  have d18 : X3.cell? ⟨W3.heap.size, 18, none⟩ = some (.int .u8 11) := (cell_of_row X3 _ 18 _ _ _ ax3).trans HK10.out.1
  have d20 : X3.cell? ⟨W3.heap.size, 20, none⟩ = some (.int .u64 g) := (cell_of_row X3 _ 20 _ _ _ ax3).trans HK10.out.2
  replace hcall := HB.out.callAt
  have hrow := ax3.obj
  obtain ⟨X4, sx4, bx4, lx4, -⟩ := boxing X3 s2
  have hlw4 := HW.out.trans (lx4.mono HW.out.size)
  have hlt0 : w.heap.size < X3.heap.size := HKB.out.lt
  have hlt1 : V0.heap.size < X3.heap.size := HC.out.lt
  have hlt2 : V1.heap.size < X3.heap.size := HV.out.lt
  have HLT : Hid (w.heap.size < X3.heap.size ∧ V0.heap.size < X3.heap.size ∧ V1.heap.size < X3.heap.size) := ⟨hlt0, hlt1, hlt2⟩
  have g4 := bx4.c4
  rw [HG4.out] at g4
  have f4 := bx4.free 4
  have HBX := Lib.hid bx4
  replace HKB := Lib.hid ((HKB.out).after lx4)
  replace HC := Lib.hid ((HC.out).after lx4)
  replace HV := Lib.hid ((HV.out).after lx4)
  replace HW := Lib.hid hlw4
  clear HCB hb3 lx3 ax3 hlw1 hlw lx4 hlw4 bx4 hlt0 hlt1 hlt2 sx2 hkk HA HB HX3 HR HK10
  go_upto_region 14 with (first | (refine wpList_skip rfl (sx3 rfl rfl rfl) ?_) | (refine wpList_got rfl (load_callAt hcall rfl rfl) ?_) | (refine wpList_got rfl (exec_build 34 _ rfl (cellsC bc) (by exact HBU.out)) ?_) | (refine wpList_got rfl (exec_neq_same (A := bc) rfl rfl rfl) ?_) | (refine wpList_got rfl (load_mid hrow rfl rfl) ?_) | (refine wpList_skip rfl (sx4 rfl rfl rfl) ?_))
  refine wp_gen (fun V => BoxO V X3.heap.size s3 ∧ BoxK V w.heap.size 7 cS ∧ BoxO V V0.heap.size c ∧ BoxO V V1.heap.size v ∧ Below w.heap.size w V) ⟨HG.out _ _ HBX.out, (heap_setCell_other _ ⟨X3.heap.size, 4, none⟩ w.heap.size _ (by have := HLT.out.1; show w.heap.size ≠ X3.heap.size; omega)).trans HKB.out, (heap_setCell_other _ ⟨X3.heap.size, 4, none⟩ V0.heap.size _ (by have := HLT.out.2.1; show V0.heap.size ≠ X3.heap.size; omega)).trans HC.out, (heap_setCell_other _ ⟨X3.heap.size, 4, none⟩ V1.heap.size _ (by have := HLT.out.2.2; show V1.heap.size ≠ X3.heap.size; omega)).trans HV.out, HW.out.setCell (by have := HLT.out.1; show w.heap.size ≤ X3.heap.size; omega) _⟩ ?_
  clear HBX HKB HC HV HW HLT HG HG4 g4 f4 a0 b0 d0 d18 d20 hcall hrow sx3 sx4 HBU
  rintro Z ⟨hs3, hk, hc, hv, hlw⟩
  have HKB := Lib.hid hk
  have HC := Lib.hid hc
  have HV := Lib.hid hv
  have HW := Lib.hid hlw
  have bs5 := hs3
  clear hk hc hv hlw hs3
  have bc5 := HC.out
  have bv5 := HV.out
  have hrun := run_objs3 Z c v s3
  obtain ⟨Y5, hY5⟩ : ∃ Y, Z.alloc (.cells (catO [c, v, s3]) 31 (0, 0)) = Y := ⟨_, rfl⟩
  have hob : RowO Y5 Z.heap.size [c, v, s3] := by rw [← hY5]; exact heap_alloc_new _ _
  have hba : Below Z.heap.size Z Y5 := by rw [← hY5]; exact (Below.refl _ _).alloc (Nat.le_refl _) _
  rw [hY5] at hrun
  have HRUN := Lib.hid hrun
  have hlw := HW.out.trans (hba.mono HW.out.size)
  have HCA := Lib.hid (snapAll_any _ _ (t + 2) cS Y5 (hob.objs 3 (by show 3 ≤ _; omega)) (HT.out.after hlw) HF4.out)
  rw [H4.out] at HCA
  replace HKB := Lib.hid ((HKB.out).after hba)
  replace HC := Lib.hid ((HC.out).after hba)
  replace HV := Lib.hid ((HV.out).after hba)
  replace HW := Lib.hid hlw
  clear hrun hY5 hob hba hlw H4 HF4
  unfold cS at HCA
  go_wp2_with (first | ((with_reducible refine wpList_load_obj ?_ rfl ?_ bc5 ?_); rfl; rfl) | ((with_reducible refine wpList_load_obj ?_ rfl ?_ bv5 ?_); rfl; rfl) | ((with_reducible refine wpList_load_obj ?_ rfl ?_ bs5 ?_); rfl; rfl) | ((with_reducible refine wpList_objs rfl rfl _ HRUN.out ?_ ?_); rfl))
  refine HCA.out.mono ?_
  rintro e W6 ⟨rfl, hb6⟩
  obtain ⟨X6, sx6, ax6, lx6⟩ := actbox W6 (writeA s4)
  have hlw1 := HW.out.trans (hb6.mono HW.out.size)
  have hlw := hlw1.trans (lx6.mono hlw1.size)
  replace HKB := Lib.hid (((HKB.out).after hb6).after lx6)
  replace HC := Lib.hid (((HC.out).after hb6).after lx6)
  replace HV := Lib.hid (((HV.out).after hb6).after lx6)
  replace HW := Lib.hid hlw
  have HA := Lib.hid ax6
  have hrow := ax6.obj
  clear HCA hb6 lx6 ax6 hlw1 hlw bc5 bv5 bs5 HRUN
  have bc7 := HC.out
  have bv7 := HV.out
  have hrun := run_objs3 X6 c v s4
  obtain ⟨Y7, hY7⟩ : ∃ Y, X6.alloc (.cells (catO [c, v, s4]) 31 (0, 0)) = Y := ⟨_, rfl⟩
  have hob : RowO Y7 X6.heap.size [c, v, s4] := by rw [← hY7]; exact heap_alloc_new _ _
  have hba : Below X6.heap.size X6 Y7 := by rw [← hY7]; exact (Below.refl _ _).alloc (Nat.le_refl _) _
  rw [hY7] at hrun
  have HRUN := Lib.hid hrun
  have hlw := HW.out.trans (hba.mono HW.out.size)
  have HCA := Lib.hid (snapAll_any _ _ (t + 3) cS Y7 (hob.objs 3 (by show 3 ≤ _; omega)) (HT.out.after hlw) HF5.out)
  rw [H5.out] at HCA
  replace HKB := Lib.hid ((HKB.out).after hba)
  replace HC := Lib.hid ((HC.out).after hba)
  replace HV := Lib.hid ((HV.out).after hba)
  replace HA := Lib.hid ((HA.out).after hba)
  replace HW := Lib.hid hlw
  clear hrun hY7 hob hba hlw H5
  unfold cS at HCA
  go_wp2_with (first | (refine wpList_skip rfl (sx6 rfl rfl rfl) ?_) | ((with_reducible refine wpList_load_obj ?_ rfl ?_ bc7 ?_); rfl; rfl) | ((with_reducible refine wpList_load_obj ?_ rfl ?_ bv7 ?_); rfl; rfl) | (refine wpList_got rfl (load_mid hrow rfl rfl) ?_) | ((with_reducible refine wpList_objs rfl rfl _ HRUN.out ?_ ?_); rfl))
  refine HCA.out.mono ?_
  rintro e W8 ⟨rfl, hb8⟩
  obtain ⟨X8, sx8, ax8, lx8⟩ := actbox W8 (askA ec)
  have hlw1 := HW.out.trans (hb8.mono HW.out.size)
  have hlw := hlw1.trans (lx8.mono hlw1.size)
  replace HKB := Lib.hid (((HKB.out).after hb8).after lx8)
  replace HC := Lib.hid (((HC.out).after hb8).after lx8)
  replace HV := Lib.hid (((HV.out).after hb8).after lx8)
  replace HA := Lib.hid (((HA.out).after hb8).after lx8)
  replace HW := Lib.hid hlw
  have HB := Lib.hid ax8
  have hcall := ax8.callAt
  replace hrow := HA.out.obj
  have hkk := HKB.out
  clear HCA hb8 lx8 ax8 hlw1 hlw sx6 bc7 bv7 HRUN
  have bc9 := HC.out
  have bv9 := HV.out
  have hrun := run_objs3 X8 c v s4
  obtain ⟨Y9, hY9⟩ : ∃ Y, X8.alloc (.cells (catO [c, v, s4]) 31 (0, 0)) = Y := ⟨_, rfl⟩
  have hob : RowO Y9 X8.heap.size [c, v, s4] := by rw [← hY9]; exact heap_alloc_new _ _
  have hba : Below X8.heap.size X8 Y9 := by rw [← hY9]; exact (Below.refl _ _).alloc (Nat.le_refl _) _
  rw [hY9] at hrun
  have HRUN := Lib.hid hrun
  have hlw := HW.out.trans (hba.mono HW.out.size)
  have HCB := Lib.hid (afterD_any _ (.slice (some ⟨X8.heap.size, 0, none⟩) 3 3) (t + 3) 7 cS ec ⟨0, 0, E0, 0⟩ Y9 (hob.objs 3 (by show 3 ≤ _; omega)) (HT.out.after hlw) HF5.out)
  rw [H6.out] at HCB
  have hkk9 := hkk.after hba
  have hcall9 : Y9.rangeAt W8.heap.size 21 (cellsC ec).toList := ((HB.out.after hba).callAt)
  replace HKB := Lib.hid ((HKB.out).after hba)
  replace HA := Lib.hid ((HA.out).after hba)
  replace HB := Lib.hid ((HB.out).after hba)
  replace HW := Lib.hid hlw
  clear hrun hY9 hob hba hlw H6 HF5
  unfold encR at HCB
  go_wp2_with (first | (refine wpList_skip rfl (sx8 rfl rfl rfl) ?_) | ((with_reducible refine wpList_load_obj ?_ rfl ?_ bc9 ?_); rfl; rfl) | ((with_reducible refine wpList_load_obj ?_ rfl ?_ bv9 ?_); rfl; rfl) | (refine wpList_got rfl (load_mid hrow rfl rfl) ?_) | ((with_reducible refine wpList_objs rfl rfl _ HRUN.out ?_ ?_); rfl) | (refine wpList_got rfl (load_key hkk9 rfl rfl) ?_) | (refine wpList_got rfl (load_callAt hcall9 rfl rfl) ?_) | ((with_reducible refine wpList_build_to rfl 44 _ rfl _ ?_ ?_); exact built_res0))
  refine HCB.out.mono ?_
  rintro e W10 ⟨rfl, hb10⟩
  obtain ⟨X10, sx10, ax10, lx10⟩ := actbox W10 (removeA s4)
  have hlw1 := HW.out.trans (hb10.mono HW.out.size)
  have HX := Lib.hid (hlw1.trans (lx10.mono hlw1.size))
  replace HA := Lib.hid (((HA.out).after hb10).after lx10)
  replace HB := Lib.hid (((HB.out).after hb10).after lx10)
  have a0 : X10.cell? ⟨W6.heap.size, 0, none⟩ = some (.int .u8 1) := (cell_of_row X10 _ 0 _ _ _ HA.out).trans rfl
  have a19 : X10.cell? ⟨W6.heap.size, 19, none⟩ = some (.int .u64 (t + 3)) := (cell_of_row X10 _ 19 _ _ _ HA.out).trans HK15.out
  have b0 : X10.cell? ⟨W8.heap.size, 0, none⟩ = some (.int .u8 3) := (cell_of_row X10 _ 0 _ _ _ HB.out).trans rfl
  have b21 : X10.cell? ⟨W8.heap.size, 21, none⟩ = some (.int .u8 7) := (cell_of_row X10 _ 21 _ _ _ HB.out).trans HE.out
  have d0 : X10.cell? ⟨W10.heap.size, 0, none⟩ = some (.int .u8 2) := (cell_of_row X10 _ 0 _ _ _ ax10).trans rfl
  clear HCB hb10 lx10 ax10 hlw1 sx8 bc9 bv9 HRUN HKB HC HV HA HB HW hrow hcall hkk hkk9 hcall9 HE HK15
  go_wp2_with (refine wpList_skip rfl (sx10 rfl rfl rfl) ?_)
  go_ret
  exact ⟨rfl, HX.out⟩
end Go.Proofs.YtijgieefmnmakaaDoor.O.B
