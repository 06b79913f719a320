/- Own work. -/
import Derived.Test.YtbgfccanbgpjiaaDJIRCr0
namespace Go.Proofs.Ytbgfccanbgpjiaa.O.I
open Go Go.RowKit Go.Lib KM
attribute [local go_sem] Oper.semAt_some
section
variable {R : Nat} {w : World} {q : Nat} {S : St} {rd : Rd} {L : List (DV × Sl)} (h : RAt R w q S rd L) (hR : R ≤ w.heap.size) (c : Cl)
include h hR
set_option maxRecDepth 100000 in
set_option maxHeartbeats 8000000 in
theorem rdo_create (res : Rs × Core) (hv : c.verb = 1) (hcr : ∀ V, RAt R V q S rd L → R ≤ V.heap.size → Calls Try.prog 88 #[.pointer (some ⟨q, 0, none⟩), encC c] V (RQ R V q res S.seen)) :
    Calls Try.prog 77 #[.pointer (some ⟨q, 0, none⟩), encC c] w (RQ R w q res S.seen) := by
  have HH := Lib.hid h
  have HRR := Lib.hid hR
  have HVB := Lib.hid hv
  obtain ⟨vv, hvv⟩ := found_val (fun x : DV => decide (x.name = c.target)) S.core.vols
  have HFV := Lib.hid hvv
  clear hvv
  have HCR := Lib.hid hcr
  clear h hR hv hcr
  rw [show encC c = .agg (cellsC c) from rfl]
  go_enter Try.func77, Try.ntmps77
  go_upto_region 1 with (fail)
  refine wp_gen (fun V => BoxC V w.heap.size c ∧ BoxR V (w.heap.size + 1) zeroR ∧ Below w.heap.size w V) ⟨(heap2 w _ _).1, (heap2 w _ _).2, below2 w _ _⟩ ?_
  rintro V1 ⟨hc1, hr1, hw1⟩
  have HC := Lib.hid hc1
  have HR := Lib.hid hr1
  have HW := Lib.hid hw1
  have HA := Lib.hid (HH.out.after hw1)
  have HF1 := Lib.hid (rvol_v HA.out HFV.out)
  have c1 := hc1.c1
  clear hc1 hr1 hw1
  go_wp2_with (fail)
  clear c1
  refine HF1.out.mono ?_
  rintro e V2 ⟨rfl, hb⟩
  replace HC := Lib.hid (HC.out.after hb)
  replace HR := Lib.hid (HR.out.after hb)
  replace HA := Lib.hid (HA.out.after hb)
  replace HW := Lib.hid (HW.out.trans (hb.mono HW.out.size))
  clear hb HF1
  have c0 := HC.out.c0
  rw [HVB.out] at c0
  have HRV : Hid (R ≤ V2.heap.size) := by
    show _ ≤ _
    have := HRR.out
    have := HW.out.size
    omega
  have HK := Lib.hid (HCR.out V2 HA.out HRV.out)
  have hcl := HC.out
  clear HCR
  go_wp2_with (refine wpList_got rfl (loadC hcl rfl rfl) ?_)
  refine HK.out.mono ?_
  rintro e V6 ⟨rfl, ⟨rd', L', hA6⟩, hD6⟩
  obtain ⟨V7, hs7, hb7, hq7⟩ := RQ.done hA6 ((DocStay.of_below HW.out HRR.out).trans hD6) (HR.out.doc hD6) HRR.out
  have HV7 := Lib.hid hb7
  have HX := Lib.hid hq7
  clear hb7 hq7 hA6 hD6 hcl HK c0
  go_wp2_with (first | (refine wpList_skip rfl (hs7 rfl rfl rfl) ?_))
  refine bodyPost_ret (v := encR res.1) (results_cell_row rfl _ _ (w.heap.size + 1) 50 (cellsR res.1) (0, 0) _ rfl HV7.out undR rfl sizeR) rfl ?_
  exact HX.out
set_option maxRecDepth 100000 in
set_option maxHeartbeats 8000000 in
theorem rdo_cut (res : Rs × Core) (hv : c.verb = 6) (hcr : ∀ V, RAt R V q S rd L → R ≤ V.heap.size → Calls Try.prog 93 #[.pointer (some ⟨q, 0, none⟩), encC c] V (RQ R V q res S.seen)) :
    Calls Try.prog 77 #[.pointer (some ⟨q, 0, none⟩), encC c] w (RQ R w q res S.seen) := by
  have HH := Lib.hid h
  have HRR := Lib.hid hR
  have HVB := Lib.hid hv
  obtain ⟨vv, hvv⟩ := found_val (fun x : DV => decide (x.name = c.target)) S.core.vols
  have HFV := Lib.hid hvv
  clear hvv
  have HCR := Lib.hid hcr
  clear h hR hv hcr
  rw [show encC c = .agg (cellsC c) from rfl]
  go_enter Try.func77, Try.ntmps77
  go_upto_region 1 with (fail)
  refine wp_gen (fun V => BoxC V w.heap.size c ∧ BoxR V (w.heap.size + 1) zeroR ∧ Below w.heap.size w V) ⟨(heap2 w _ _).1, (heap2 w _ _).2, below2 w _ _⟩ ?_
  rintro V1 ⟨hc1, hr1, hw1⟩
  have HC := Lib.hid hc1
  have HR := Lib.hid hr1
  have HW := Lib.hid hw1
  have HA := Lib.hid (HH.out.after hw1)
  have HF1 := Lib.hid (rvol_v HA.out HFV.out)
  have c1 := hc1.c1
  clear hc1 hr1 hw1
  go_wp2_with (fail)
  clear c1
  refine HF1.out.mono ?_
  rintro e V2 ⟨rfl, hb⟩
  replace HC := Lib.hid (HC.out.after hb)
  replace HR := Lib.hid (HR.out.after hb)
  replace HA := Lib.hid (HA.out.after hb)
  replace HW := Lib.hid (HW.out.trans (hb.mono HW.out.size))
  clear hb HF1
  have c0 := HC.out.c0
  rw [HVB.out] at c0
  have HRV : Hid (R ≤ V2.heap.size) := by
    show _ ≤ _
    have := HRR.out
    have := HW.out.size
    omega
  have HK := Lib.hid (HCR.out V2 HA.out HRV.out)
  have hcl := HC.out
  clear HCR
  go_wp2_with (refine wpList_got rfl (loadC hcl rfl rfl) ?_)
  refine HK.out.mono ?_
  rintro e V6 ⟨rfl, ⟨rd', L', hA6⟩, hD6⟩
  obtain ⟨V7, hs7, hb7, hq7⟩ := RQ.done hA6 ((DocStay.of_below HW.out HRR.out).trans hD6) (HR.out.doc hD6) HRR.out
  have HV7 := Lib.hid hb7
  have HX := Lib.hid hq7
  clear hb7 hq7 hA6 hD6 hcl HK c0
  go_wp2_with (first | (refine wpList_skip rfl (hs7 rfl rfl rfl) ?_))
  refine bodyPost_ret (v := encR res.1) (results_cell_row rfl _ _ (w.heap.size + 1) 50 (cellsR res.1) (0, 0) _ rfl HV7.out undR rfl sizeR) rfl ?_
  exact HX.out
set_option maxRecDepth 100000 in
set_option maxHeartbeats 8000000 in
theorem rdo_expand (res : Rs × Core) (hv : c.verb = 5) (vv : Value) (hvv : ∀ u, Found (fun x : DV => decide (x.name = c.target)) S.core.vols u → u = vv) (hcr : ∀ V, RAt R V q S rd L → R ≤ V.heap.size → Calls Try.prog 92 #[.pointer (some ⟨q, 0, none⟩), vv, encC c] V (RQ R V q res S.seen)) :
    Calls Try.prog 77 #[.pointer (some ⟨q, 0, none⟩), encC c] w (RQ R w q res S.seen) := by
  have HH := Lib.hid h
  have HRR := Lib.hid hR
  have HVB := Lib.hid hv
  have HFV := Lib.hid hvv
  have HCR := Lib.hid hcr
  clear h hR hv hcr hvv
  rw [show encC c = .agg (cellsC c) from rfl]
  go_enter Try.func77, Try.ntmps77
  go_upto_region 1 with (fail)
  refine wp_gen (fun V => BoxC V w.heap.size c ∧ BoxR V (w.heap.size + 1) zeroR ∧ Below w.heap.size w V) ⟨(heap2 w _ _).1, (heap2 w _ _).2, below2 w _ _⟩ ?_
  rintro V1 ⟨hc1, hr1, hw1⟩
  have HC := Lib.hid hc1
  have HR := Lib.hid hr1
  have HW := Lib.hid hw1
  have HA := Lib.hid (HH.out.after hw1)
  have HF1 := Lib.hid (rvol_v HA.out HFV.out)
  have c1 := hc1.c1
  clear hc1 hr1 hw1
  go_wp2_with (fail)
  clear c1
  refine HF1.out.mono ?_
  rintro e V2 ⟨rfl, hb⟩
  replace HC := Lib.hid (HC.out.after hb)
  replace HR := Lib.hid (HR.out.after hb)
  replace HA := Lib.hid (HA.out.after hb)
  replace HW := Lib.hid (HW.out.trans (hb.mono HW.out.size))
  clear hb HF1
  have c0 := HC.out.c0
  rw [HVB.out] at c0
  have HRV : Hid (R ≤ V2.heap.size) := by
    show _ ≤ _
    have := HRR.out
    have := HW.out.size
    omega
  have HK := Lib.hid (HCR.out V2 HA.out HRV.out)
  have hcl := HC.out
  clear HCR
  go_wp2_with (refine wpList_got rfl (loadC hcl rfl rfl) ?_)
  refine HK.out.mono ?_
  rintro e V6 ⟨rfl, ⟨rd', L', hA6⟩, hD6⟩
  obtain ⟨V7, hs7, hb7, hq7⟩ := RQ.done hA6 ((DocStay.of_below HW.out HRR.out).trans hD6) (HR.out.doc hD6) HRR.out
  have HV7 := Lib.hid hb7
  have HX := Lib.hid hq7
  clear hb7 hq7 hA6 hD6 hcl HK c0
  go_wp2_with (first | (refine wpList_skip rfl (hs7 rfl rfl rfl) ?_))
  refine bodyPost_ret (v := encR res.1) (results_cell_row rfl _ _ (w.heap.size + 1) 50 (cellsR res.1) (0, 0) _ rfl HV7.out undR rfl sizeR) rfl ?_
  exact HX.out
end
end Go.Proofs.Ytbgfccanbgpjiaa.O.I
namespace Go.Proofs.Ytbgfccanbgpjiaa.O.I
open Go Go.RowKit Go.Lib KM
attribute [local go_sem] Oper.semAt_some
section
variable {R : Nat} {w : World} {q : Nat} {S : St} {rd : Rd} {L : List (DV × Sl)} (h : RAt R w q S rd L) (hR : R ≤ w.heap.size) (c : Cl)
include h hR
set_option maxRecDepth 100000 in
set_option maxHeartbeats 8000000 in
theorem rdo_dropnone (hv : c.verb = 7) (hs : snapOf S.core.snaps c.target = none) :
    Calls Try.prog 77 #[.pointer (some ⟨q, 0, none⟩), encC c] w (RQ R w q (zeroR, S.core) S.seen) := by
  have HH := Lib.hid h
  have HRR := Lib.hid hR
  have HVB := Lib.hid hv
  obtain ⟨vv, hvv⟩ := found_val (fun x : DV => decide (x.name = c.target)) S.core.vols
  have HFV := Lib.hid hvv
  clear hvv
  have HFS : Hid (∀ u, Found (fun x : DS => decide (x.name = c.target)) S.core.snaps u → u = .int .i64 (-1)) := fun u hu => found_not (snap_no hs) hu
  clear h hR hv hs
  rw [show encC c = .agg (cellsC c) from rfl]
  go_enter Try.func77, Try.ntmps77
  go_upto_region 1 with (fail)
  refine wp_gen (fun V => BoxC V w.heap.size c ∧ BoxR V (w.heap.size + 1) zeroR ∧ Below w.heap.size w V) ⟨(heap2 w _ _).1, (heap2 w _ _).2, below2 w _ _⟩ ?_
  rintro V1 ⟨hc1, hr1, hw1⟩
  have HC := Lib.hid hc1
  have HR := Lib.hid hr1
  have HW := Lib.hid hw1
  have HA := Lib.hid (HH.out.after hw1)
  have HF1 := Lib.hid (rvol_v HA.out HFV.out)
  have c1 := hc1.c1
  clear hc1 hr1 hw1
  go_wp2_with (fail)
  clear c1
  refine HF1.out.mono ?_
  rintro e V2 ⟨rfl, hb⟩
  replace HC := Lib.hid (HC.out.after hb)
  replace HR := Lib.hid (HR.out.after hb)
  replace HA := Lib.hid (HA.out.after hb)
  replace HW := Lib.hid (HW.out.trans (hb.mono HW.out.size))
  clear hb HF1
  have c0 := HC.out.c0
  rw [HVB.out] at c0
  have c1 := HC.out.c1
  have HF3 := Lib.hid (rsnap_v HA.out HFS.out)
  go_wp2_with (fail)
  clear c0 c1
  refine HF3.out.mono ?_
  rintro e V3 ⟨rfl, hb⟩
  replace HC := Lib.hid (HC.out.after hb)
  replace HR := Lib.hid (HR.out.after hb)
  replace HA := Lib.hid (HA.out.after hb)
  replace HW := Lib.hid (HW.out.trans (hb.mono HW.out.size))
  clear hb HF3
  obtain ⟨V7, hs7, hb7, hq7⟩ := RQ.done (res := (zeroR, S.core)) (seen := S.seen) HA.out (DocStay.of_below HW.out HRR.out) HR.out HRR.out
  have HV7 := Lib.hid hb7
  have HX := Lib.hid hq7
  clear hb7 hq7
  go_wp2_with (first | ((with_reducible refine wpList_build_to rfl 50 _ rfl (cellsR zeroR) ?_ ?_); exact built_r0) | (refine wpList_skip rfl (hs7 rfl rfl rfl) ?_))
  refine bodyPost_ret (v := encR zeroR) (results_cell_row rfl _ _ (w.heap.size + 1) 50 (cellsR zeroR) (0, 0) _ rfl HV7.out undR rfl sizeR) rfl ?_
  exact HX.out
set_option maxRecDepth 100000 in
set_option maxHeartbeats 16000000 in
theorem rdo_drop (hv : c.verb = 7) (i : Nat) (x : DS) (hx : S.core.snaps[i]? = some x) (hp : x.name = c.target) (hn : ∀ j y, j < i → S.core.snaps[j]? = some y → decide (y.name = c.target) = false) :
    Calls Try.prog 77 #[.pointer (some ⟨q, 0, none⟩), encC c] w (RQ R w q (zeroR, ⟨S.core.zones, S.core.vols, S.core.snaps.take i ++ S.core.snaps.drop (i + 1)⟩) S.seen) := by
  have HH := Lib.hid h
  have HRR := Lib.hid hR
  have HVB := Lib.hid hv
  obtain ⟨vv, hvv⟩ := found_val (fun x : DV => decide (x.name = c.target)) S.core.vols
  have HFV := Lib.hid hvv
  clear hvv
  have HXX := Lib.hid hx
  have HFS : Hid (∀ u, Found (fun x : DS => decide (x.name = c.target)) S.core.snaps u → u = .int .i64 (i : Int)) := fun u hu => found_at hx (by simpa using hp) hn hu
  have hfew : S.core.snaps.length ≤ 64 := h.few.2.2.1
  have hil := set_at hx
  have hlt : (i : Int) < (S.core.snaps.length : Int) := by omega
  clear h hR hv hx hp hn
  rw [show encC c = .agg (cellsC c) from rfl]
  go_enter Try.func77, Try.ntmps77
  go_upto_region 1 with (fail)
  refine wp_gen (fun V => BoxC V w.heap.size c ∧ BoxR V (w.heap.size + 1) zeroR ∧ Below w.heap.size w V) ⟨(heap2 w _ _).1, (heap2 w _ _).2, below2 w _ _⟩ ?_
  rintro V1 ⟨hc1, hr1, hw1⟩
  have HC := Lib.hid hc1
  have HR := Lib.hid hr1
  have HW := Lib.hid hw1
  have HA := Lib.hid (HH.out.after hw1)
  have HF1 := Lib.hid (rvol_v HA.out HFV.out)
  have c1 := hc1.c1
  clear hc1 hr1 hw1
  go_wp2_with (fail)
  clear c1
  refine HF1.out.mono ?_
  rintro e V2 ⟨rfl, hb⟩
  replace HC := Lib.hid (HC.out.after hb)
  replace HR := Lib.hid (HR.out.after hb)
  replace HA := Lib.hid (HA.out.after hb)
  replace HW := Lib.hid (HW.out.trans (hb.mono HW.out.size))
  clear hb HF1
  have c0 := HC.out.c0
  rw [HVB.out] at c0
  have c1 := HC.out.c1
  have HF3 := Lib.hid (rsnap_v HA.out HFS.out)
  go_wp2_with (fail)
  clear c0 c1
  refine HF3.out.mono ?_
  rintro e V3 ⟨rfl, hb⟩
  replace HC := Lib.hid (HC.out.after hb)
  replace HR := Lib.hid (HR.out.after hb)
  replace HA := Lib.hid (HA.out.after hb)
  replace HW := Lib.hid (HW.out.trans (hb.mono HW.out.size))
  clear hb HF3
  obtain ⟨g, cur, h1, h2, h3, h4, h5, h6⟩ := HA.out.snap_at HXX.out
  have HSL : Hid (rd.s.o = some ⟨g, 0, none⟩ ∧ rd.s.n = S.core.snaps.length) := ⟨h1, h6⟩
  have hcap : S.core.snaps.length ≤ rd.s.c := own_cap HA.out.snaps (by omega)
  have HB := Lib.hid HA.out.box
  clear h1 h2 h3 h4 h5 h6
  obtain ⟨off, hoff⟩ : ∃ off, (if rd.s.c = i + 1 then 0 else (i + 1) * 3) = off := ⟨_, rfl⟩
  have HOFF := Lib.hid hoff
  clear hoff
  go_upto_region 6 with (fail)
  refine wp_region_held_drew (S := fun V => BoxQ V q rd) (by kernel_rfl) HB.out (fun _ => ?_)
  refine HeldBy.gen (fun V => (BoxQ V q rd) ∧ (BoxR V (w.heap.size + 1) zeroR) ∧ (RAt R V q S rd L) ∧ (Below w.heap.size w V)) ⟨HB.out, HR.out, HA.out.drew, HW.out.drew⟩ ?_
  clear HB HR HA HW
  rintro U0 ⟨HS, HR, HA, HW⟩
  refine HeldBy.tn (i := 0) rfl HS ?_
  refine HeldBy.tn (i := 1) rfl HS ?_
  refine HeldBy.tn (i := 2) rfl HS ?_
  refine HeldBy.tn (i := 3) rfl HS ?_
  refine HeldBy.tk (i := 4) (v := .slice (some ⟨g, 0, none⟩) S.core.snaps.length rd.s.c) rfl (fun V hV => by have hc := hV.c2; rw [HSL.out.1, HSL.out.2] at hc; first | (go_simp; rfl) | (go_simp; done)) HS ?_
  refine HeldBy.tn (i := 5) rfl HS ?_
  refine HeldBy.tk (i := 6) (v := .slice (some ⟨g, 0, none⟩) i rd.s.c) rfl (fun _ _ => exec_cut rfl (run_first snap_rowy elem_ds size_ds _ g _ _ i (by omega))) HS ?_
  refine HeldBy.tn (i := 8) rfl HS ?_
  refine HeldBy.tn (i := 9) rfl HS ?_
  refine HeldBy.tn (i := 10) rfl HS ?_
  refine HeldBy.tk (i := 11) (v := .slice (some ⟨g, 0, none⟩) S.core.snaps.length rd.s.c) rfl (fun V hV => by have hc := hV.c2; rw [HSL.out.1, HSL.out.2] at hc; first | (go_simp; rfl) | (go_simp; done)) HS ?_
  refine HeldBy.tn (i := 12) rfl HS ?_
  refine HeldBy.tn (i := 13) rfl HS ?_
  refine HeldBy.tk (i := 14) (v := .slice (some ⟨g, off, none⟩) (S.core.snaps.length - (i + 1)) (rd.s.c - (i + 1))) rfl (fun _ _ => exec_cut rfl (run_rest snap_rowy elem_ds size_ds _ g _ _ (i + 1) (IntKind.i64.wrap ((i : Int) + 1)) (by rw [IntKind.wrap_i64]; omega) off HOFF.out (by omega))) HS ?_
  have hRU : R ≤ U0.heap.size := by
    have := HRR.out
    have := HW.size
    omega
  obtain ⟨g', v1, W1, s2, W2, e1, e2, e3, r1, r2, b1, b2, ho⟩ := HA.snaps_without hRU hil
  rw [HSL.out.1] at e1
  cases e1
  rw [HOFF.out] at r2
  refine HeldBy.value (i := 7) (v := v1) (w' := W1) rfl (by kernel_rfl) (by rfl) (exec_app rfl r1 rfl rfl) (by first | (go_simp; rfl) | (go_simp; done)) (HS.after b1) ?_
  refine HeldBy.value (i := 15) (v := .slice s2.o s2.n s2.c) (w' := W2) rfl (by kernel_rfl) (by rfl) (exec_app rfl r2 rfl rfl) (by first | (go_simp; rfl) | (go_simp; done)) (HS.after b2) ?_
  have hS2 := HS.after b2
  refine HeldBy.tn (i := 16) rfl hS2 ?_
  refine wpAnyH_done (by kernel_rfl) ?_ _
  have hA2 := (HA.after b2).snaps_new ho (by rw [List.length_append, List.length_take, List.length_drop]; omega)
  have hr8 : BoxR (W2.setCell ⟨q, 2, none⟩ (.slice s2.o s2.n s2.c)) (w.heap.size + 1) zeroR := (heap_setCell_other _ ⟨q, 2, none⟩ _ _ (kind_neF (BoxR.after HR b2) hS2 (by decide))).trans (BoxR.after HR b2)
  have hD8 : DocStay R w (W2.setCell ⟨q, 2, none⟩ (.slice s2.o s2.n s2.c)) := (DocStay.of_below (HW.trans (b2.mono HW.size)) HRR.out).set HA.low hS2.soft
  obtain ⟨V7, hs7, hb7, hq7⟩ := RQ.done (res := (zeroR, ⟨S.core.zones, S.core.vols, S.core.snaps.take i ++ S.core.snaps.drop (i + 1)⟩)) (seen := S.seen) hA2 hD8 hr8 HRR.out
  have HV7 := Lib.hid hb7
  have HX := Lib.hid hq7
  have y2 := hS2.c2
  have y3 := hS2.free 2
  clear hb7 hq7 hA2 hr8 hD8 hS2 HS ho b1 b2 r1 r2 HR HA HW
  go_wp2_with (first | ((with_reducible refine wpList_build_to rfl 50 _ rfl (cellsR zeroR) ?_ ?_); exact built_r0) | (refine wpList_skip rfl (hs7 rfl rfl rfl) ?_))
  refine bodyPost_ret (v := encR zeroR) (results_cell_row rfl _ _ (w.heap.size + 1) 50 (cellsR zeroR) (0, 0) _ rfl HV7.out undR rfl sizeR) rfl ?_
  exact HX.out
end
end Go.Proofs.Ytbgfccanbgpjiaa.O.I
