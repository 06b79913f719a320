/- Own work. -/
import Derived.Test.YtbgfccanbgpjiaaDJIRCr0
namespace Go.Proofs.Ytbgfccanbgpjiaa.O.I
open Go Go.RowKit Go.Lib KM
attribute [local go_sem] Oper.semAt_some
section
variable {R : Nat} {w : World} {q : Nat} {S : St} {rd : Rd} {L : List (DV × Sl)} (h : RAt R w q S rd L) (hR : R ≤ w.heap.size) (c : Cl)
include h hR
set_option maxRecDepth 100000 in
set_option maxHeartbeats 8000000 in
theorem rdo_pubnone (hv : c.verb = 3) (hx : volOf S.core.vols c.target = none) :
    Calls Try.prog 77 #[.pointer (some ⟨q, 0, none⟩), encC c] w (RQ R w q (errR 5, S.core) S.seen) := by
  have HH := Lib.hid h
  have HRR := Lib.hid hR
  have HVB := Lib.hid hv
  have HFV : Hid (∀ u, Found (fun x : DV => decide (x.name = c.target)) S.core.vols u → u = .int .i64 (-1)) := fun u hu => found_not (vol_no hx) hu
  clear h hR hv hx
  rw [show encC c = .agg (cellsC c) from rfl]
  go_enter Try.func77, Try.ntmps77
  go_upto_region 1 with (fail)
  refine wp_gen (fun V => BoxC V w.heap.size c ∧ BoxR V (w.heap.size + 1) zeroR ∧ Below w.heap.size w V) ⟨(heap2 w _ _).1, (heap2 w _ _).2, below2 w _ _⟩ ?_
  rintro V1 ⟨hc1, hr1, hw1⟩
  have HC := Lib.hid hc1
  have HR := Lib.hid hr1
  have HW := Lib.hid hw1
  have HA := Lib.hid (HH.out.after hw1)
  have HF1 := Lib.hid (rvol_v HA.out HFV.out)
  have c1 := hc1.c1
  clear hc1 hr1 hw1
  go_wp2_with (fail)
  clear c1
  refine HF1.out.mono ?_
  rintro e V2 ⟨rfl, hb⟩
  replace HC := Lib.hid (HC.out.after hb)
  replace HR := Lib.hid (HR.out.after hb)
  replace HA := Lib.hid (HA.out.after hb)
  replace HW := Lib.hid (HW.out.trans (hb.mono HW.out.size))
  clear hb HF1
  have c0 := HC.out.c0
  rw [HVB.out] at c0
  go_wp2_with (fail)
  refine (rfailed_any 5 _).mono ?_
  rintro e W6 ⟨rfl, hb6⟩
  replace HR := Lib.hid (HR.out.after hb6)
  replace HA := Lib.hid (HA.out.after hb6)
  replace HW := Lib.hid (HW.out.trans (hb6.mono HW.out.size))
  clear hb6
  obtain ⟨V7, hs7, hb7, hq7⟩ := RQ.done (res := (errR 5, S.core)) (seen := S.seen) HA.out (DocStay.of_below HW.out HRR.out) HR.out HRR.out
  have HV7 := Lib.hid hb7
  have HX := Lib.hid hq7
  clear hb7 hq7
  go_wp2_with (first | (refine wpList_skip rfl (hs7 rfl rfl rfl) ?_))
  refine bodyPost_ret (v := encR (errR 5)) (results_cell_row rfl _ _ (w.heap.size + 1) 50 (cellsR (errR 5)) (0, 0) _ rfl HV7.out undR rfl sizeR) rfl ?_
  exact HX.out
set_option maxRecDepth 100000 in
set_option maxHeartbeats 8000000 in
theorem rdo_unpubnone (hv : c.verb = 4) (hx : volOf S.core.vols c.target = none) :
    Calls Try.prog 77 #[.pointer (some ⟨q, 0, none⟩), encC c] w (RQ R w q (zeroR, S.core) S.seen) := by
  have HH := Lib.hid h
  have HRR := Lib.hid hR
  have HVB := Lib.hid hv
  have HFV : Hid (∀ u, Found (fun x : DV => decide (x.name = c.target)) S.core.vols u → u = .int .i64 (-1)) := fun u hu => found_not (vol_no hx) hu
  clear h hR hv hx
  rw [show encC c = .agg (cellsC c) from rfl]
  go_enter Try.func77, Try.ntmps77
  go_upto_region 1 with (fail)
  refine wp_gen (fun V => BoxC V w.heap.size c ∧ BoxR V (w.heap.size + 1) zeroR ∧ Below w.heap.size w V) ⟨(heap2 w _ _).1, (heap2 w _ _).2, below2 w _ _⟩ ?_
  rintro V1 ⟨hc1, hr1, hw1⟩
  have HC := Lib.hid hc1
  have HR := Lib.hid hr1
  have HW := Lib.hid hw1
  have HA := Lib.hid (HH.out.after hw1)
  have HF1 := Lib.hid (rvol_v HA.out HFV.out)
  have c1 := hc1.c1
  clear hc1 hr1 hw1
  go_wp2_with (fail)
  clear c1
  refine HF1.out.mono ?_
  rintro e V2 ⟨rfl, hb⟩
  replace HC := Lib.hid (HC.out.after hb)
  replace HR := Lib.hid (HR.out.after hb)
  replace HA := Lib.hid (HA.out.after hb)
  replace HW := Lib.hid (HW.out.trans (hb.mono HW.out.size))
  clear hb HF1
  have c0 := HC.out.c0
  rw [HVB.out] at c0
  obtain ⟨V7, hs7, hb7, hq7⟩ := RQ.done (res := (zeroR, S.core)) (seen := S.seen) HA.out (DocStay.of_below HW.out HRR.out) HR.out HRR.out
  have HV7 := Lib.hid hb7
  have HX := Lib.hid hq7
  clear hb7 hq7
  go_wp2_with (first | ((with_reducible refine wpList_build_to rfl 50 _ rfl (cellsR zeroR) ?_ ?_); exact built_r0) | (refine wpList_skip rfl (hs7 rfl rfl rfl) ?_))
  refine bodyPost_ret (v := encR zeroR) (results_cell_row rfl _ _ (w.heap.size + 1) 50 (cellsR zeroR) (0, 0) _ rfl HV7.out undR rfl sizeR) rfl ?_
  exact HX.out
set_option maxRecDepth 100000 in
set_option maxHeartbeats 16000000 in
theorem rdo_pub (hv : c.verb = 3) (i : Nat) (x : DV) (hx : S.core.vols[i]? = some x) (hp : x.name = c.target) (hn : ∀ j y, j < i → S.core.vols[j]? = some y → decide (y.name = c.target) = false) (hnl : x.nodes.length ≤ 1000) :
    Calls Try.prog 77 #[.pointer (some ⟨q, 0, none⟩), encC c] w (RQ R w q (zeroR, ⟨S.core.zones, S.core.vols.set i ⟨x.name, x.size, x.zone, x.tag, withN c.node false x.nodes⟩, S.core.snaps⟩) S.seen) := by
  have HH := Lib.hid h
  have HRR := Lib.hid hR
  have HVB := Lib.hid hv
  have hxo : volOf S.core.vols c.target = some x := found_find hx (by simpa using hp) hn
  have HXO := Lib.hid hxo
  have HXX := Lib.hid hx
  have HFV : Hid (∀ u, Found (fun x : DV => decide (x.name = c.target)) S.core.vols u → u = .int .i64 (i : Int)) := fun u hu => found_at hx (by simpa using hp) hn hu
  have hfew : S.core.vols.length ≤ 64 := h.few.2.1
  have hlt : (i : Int) < (S.core.vols.length : Int) := by have := set_at hx; omega
  have HNL := Lib.hid hnl
  clear h hR hv hx hp hn hxo hnl
  rw [show encC c = .agg (cellsC c) from rfl]
  go_enter Try.func77, Try.ntmps77
  go_upto_region 1 with (fail)
  refine wp_gen (fun V => BoxC V w.heap.size c ∧ BoxR V (w.heap.size + 1) zeroR ∧ Below w.heap.size w V) ⟨(heap2 w _ _).1, (heap2 w _ _).2, below2 w _ _⟩ ?_
  rintro V1 ⟨hc1, hr1, hw1⟩
  have HC := Lib.hid hc1
  have HR := Lib.hid hr1
  have HW := Lib.hid hw1
  have HA := Lib.hid (HH.out.after hw1)
  have HF1 := Lib.hid (rvol_v HA.out HFV.out)
  have c1 := hc1.c1
  clear hc1 hr1 hw1
  go_wp2_with (fail)
  clear c1
  refine HF1.out.mono ?_
  rintro e V2 ⟨rfl, hb⟩
  replace HC := Lib.hid (HC.out.after hb)
  replace HR := Lib.hid (HR.out.after hb)
  replace HA := Lib.hid (HA.out.after hb)
  replace HW := Lib.hid (HW.out.trans (hb.mono HW.out.size))
  clear hb HF1
  have c0 := HC.out.c0
  rw [HVB.out] at c0
  obtain ⟨g, cur, s, hL, h1, h2, h3, h4, h5, h6, h7⟩ := HA.out.vol_at HXX.out
  have HSL : Hid (rd.v.o = some ⟨g, 0, none⟩ ∧ rd.v.n = S.core.vols.length) := ⟨h1, h7⟩
  have HN4 : Hid (CellX V2 g (i * 5 + 4) (.slice s.o s.n s.c)) := ⟨(Array.getElem?_eq_some_iff.1 h3).1, h4 4 _ rfl⟩
  have HL := Lib.hid hL
  have HB := Lib.hid HA.out.box
  clear hL h1 h2 h3 h4 h5 h6 h7
  go_upto_region 22 with (fail)
  clear c0
  refine wp_region_held_drew (S := fun V => BoxQ V q rd ∧ BoxC V w.heap.size c) (by kernel_rfl) ⟨HB.out, HC.out⟩ (fun _ => ?_)
  refine HeldBy.gen (fun V => (BoxQ V q rd ∧ BoxC V w.heap.size c) ∧ (CellX V g (i * 5 + 4) (.slice s.o s.n s.c)) ∧ (BoxR V (w.heap.size + 1) zeroR) ∧ (RAt R V q S rd L) ∧ (Below w.heap.size w V)) ⟨⟨HB.out, HC.out⟩, HN4.out, HR.out, HA.out.drew, HW.out.drew⟩ ?_
  clear HB HC HN4 HR HA HW
  rintro U0 ⟨HS, HN4, HR, HA, HW⟩
  refine HeldBy.tn (i := 0) rfl HS ?_
  refine HeldBy.tn (i := 1) rfl HS ?_
  refine HeldBy.tn (i := 2) rfl HS ?_
  refine HeldBy.tk (i := 3) (v := .slice (some ⟨g, 0, none⟩) S.core.vols.length rd.v.c) rfl (fun V hV => by have hc := hV.1.c1; rw [HSL.out.1, HSL.out.2] at hc; first | (go_simp; rfl) | (go_simp; done)) HS ?_
  refine HeldBy.tn (i := 4) rfl HS ?_
  refine HeldBy.tn (i := 5) rfl HS ?_
  refine HeldBy.tn (i := 6) rfl HS ?_
  refine HeldBy.tn (i := 7) rfl HS ?_
  refine HeldBy.tk (i := 8) (v := .slice (some ⟨g, 0, none⟩) S.core.vols.length rd.v.c) rfl (fun V hV => by have hc := hV.1.c1; rw [HSL.out.1, HSL.out.2] at hc; first | (go_simp; rfl) | (go_simp; done)) HS ?_
  refine HeldBy.tn (i := 9) rfl HS ?_
  refine HeldBy.tn (i := 10) rfl HS ?_
  refine HeldBy.tn (i := 11) rfl HS ?_
  refine HeldBy.tn (i := 13) rfl HS ?_
  refine HeldBy.tk (i := 14) (v := .string c.node) rfl (fun V hV => by have hc := hV.2.c5; first | (go_simp; rfl) | (go_simp; done)) HS ?_
  have hstr : StrIn U0 s x.nodes := by
    obtain ⟨g', cur', s', k0, -, -, -, -, k5, -, -⟩ := HA.vol_at HXX.out
    rw [HL.out] at k0
    cases k0
    exact k5
  have hzc := HN4.2
  refine HeldBy.value (i := 12) (v := .slice s.o s.n s.c) rfl (by kernel_rfl) (by rfl) (by first | (go_simp; rfl) | (go_simp; done)) (by first | (go_simp; rfl) | (go_simp; done)) HS ?_
  clear hzc HN4
  refine HeldBy.callE (i := 15) rfl (by kernel_rfl) (by rfl) (by first | (go_simp; done) | (go_simp; first | exact ⟨rfl, rfl⟩ | rfl)) (fun v => by first | (go_simp; rfl) | (go_simp; done)) ?_
  refine (rwith_any c.node s x.nodes U0 hstr HNL.out).mono ?_
  rintro e U1 ⟨s1, rfl, hs1, hb⟩
  replace HS : BoxQ U1 q rd ∧ BoxC U1 w.heap.size c := ⟨HS.1.after hb, HS.2.after hb⟩
  have hA1 := HA.after hb
  have hR1 : BoxR U1 (w.heap.size + 1) zeroR := BoxR.after HR hb
  have hW1 := HW.trans (hb.mono HW.size)
  clear hb hstr
  refine ⟨_, rfl, HS, ?_⟩
  refine HeldBy.tn (i := 16) rfl HS ?_
  refine HeldBy.tn (i := 17) rfl HS ?_
  obtain ⟨g', cur', s', k0, k1, k2, k3, k4, -⟩ := hA1.vol_at HXX.out
  rw [HSL.out.1] at k1
  cases k1
  have hc9 : U1.cell? ⟨g, i * 5 + 4, none⟩ = some (.slice s'.o s'.n s'.c) := k4 4 _ rfl
  have hf9 : U1.frozen? ⟨g, i * 5 + 4, none⟩ = false := frozen_of_row U1 g (i * 5 + 4) _ _ k3
  have hA2 := hA1.vol_set (y := ⟨x.name, x.size, x.zone, x.tag, withN c.node false x.nodes⟩) (s' := s1) (j := 4) (v := .slice s1.o s1.n s1.c) HL.out (by decide) rfl hs1 HSL.out.1 k3
  have hst : ∀ {oi : Oper} {a : Act} {p r : Operand}, oi.op = .store 56 p r → a.eval p = .pointer (some ⟨g, i * 5 + 4, none⟩) → a.eval r = .slice s1.o s1.n s1.c → (execOp a.eval oi).run Try.prog U1 = .ok .skip (U1.setCell ⟨g, i * 5 + 4, none⟩ (.slice s1.o s1.n s1.c)) := fun ho h1 h2 => by
    unfold execOp
    simp only [ho, h1, h2]
    first | (go_simp; rfl) | (go_simp; done)
  have ho8 : ∀ b, b ≠ g → (U1.setCell ⟨g, i * 5 + 4, none⟩ (.slice s1.o s1.n s1.c)).heap[b]? = U1.heap[b]? := fun b hb => heap_setCell_other _ ⟨g, i * 5 + 4, none⟩ b _ hb
  have hD8 : DocStay R w (U1.setCell ⟨g, i * 5 + 4, none⟩ (.slice s1.o s1.n s1.c)) := (DocStay.of_below hW1 HRR.out).set k2 ⟨_, _, _, k3, .inr (.inr rfl)⟩
  have hr8 : BoxR (U1.setCell ⟨g, i * 5 + 4, none⟩ (.slice s1.o s1.n s1.c)) (w.heap.size + 1) zeroR := (ho8 _ (kind_neF hR1 k3 (by decide))).trans hR1
  have hcc : BoxC (U1.setCell ⟨g, i * 5 + 4, none⟩ (.slice s1.o s1.n s1.c)) w.heap.size c := (ho8 _ (kind_neF HS.2 k3 (by decide))).trans HS.2
  have hq8 : BoxQ (U1.setCell ⟨g, i * 5 + 4, none⟩ (.slice s1.o s1.n s1.c)) q rd := (ho8 _ (kind_neF HS.1 k3 (by decide))).trans HS.1
  obtain ⟨V8, hV8⟩ : ∃ V8, U1.setCell ⟨g, i * 5 + 4, none⟩ (.slice s1.o s1.n s1.c) = V8 := ⟨_, rfl⟩
  rw [hV8] at hA2 hst hD8 hr8 hq8 hcc
  refine HeldBy.store (i := 18) (w' := V8) rfl (by kernel_rfl) (by rfl) (hst rfl rfl rfl) (by first | (go_simp; rfl) | (go_simp; done)) ⟨hq8, hcc⟩ ?_
  refine wpAnyH_done (by kernel_rfl) ?_ _
  obtain ⟨V7, hs7, hb7, hq7⟩ := RQ.done (res := (zeroR, ⟨S.core.zones, S.core.vols.set i ⟨x.name, x.size, x.zone, x.tag, withN c.node false x.nodes⟩, S.core.snaps⟩)) (seen := S.seen) hA2 hD8 hr8 HRR.out
  have HV7 := Lib.hid hb7
  have HX := Lib.hid hq7
  clear hc9 hf9 hst ho8 hA2 hD8 hr8 hq8 hcc HS hA1 hR1 hW1 k0 k2 k3 k4 hs1 hV8 hb7 hq7 HR HW HA
  go_wp2_with (first | ((with_reducible refine wpList_build_to rfl 50 _ rfl (cellsR zeroR) ?_ ?_); exact built_r0) | (refine wpList_skip rfl (hs7 rfl rfl rfl) ?_))
  refine bodyPost_ret (v := encR zeroR) (results_cell_row rfl _ _ (w.heap.size + 1) 50 (cellsR zeroR) (0, 0) _ rfl HV7.out undR rfl sizeR) rfl ?_
  exact HX.out
set_option maxRecDepth 100000 in
set_option maxHeartbeats 16000000 in
theorem rdo_unpub (hv : c.verb = 4) (i : Nat) (x : DV) (hx : S.core.vols[i]? = some x) (hp : x.name = c.target) (hn : ∀ j y, j < i → S.core.vols[j]? = some y → decide (y.name = c.target) = false) (hnl : x.nodes.length ≤ 1000) :
    Calls Try.prog 77 #[.pointer (some ⟨q, 0, none⟩), encC c] w (RQ R w q (zeroR, ⟨S.core.zones, S.core.vols.set i ⟨x.name, x.size, x.zone, x.tag, withoutN c.node x.nodes⟩, S.core.snaps⟩) S.seen) := by
  have HH := Lib.hid h
  have HRR := Lib.hid hR
  have HVB := Lib.hid hv
  have hxo : volOf S.core.vols c.target = some x := found_find hx (by simpa using hp) hn
  have HXO := Lib.hid hxo
  have HXX := Lib.hid hx
  have HFV : Hid (∀ u, Found (fun x : DV => decide (x.name = c.target)) S.core.vols u → u = .int .i64 (i : Int)) := fun u hu => found_at hx (by simpa using hp) hn hu
  have hfew : S.core.vols.length ≤ 64 := h.few.2.1
  have hlt : (i : Int) < (S.core.vols.length : Int) := by have := set_at hx; omega
  have HNL := Lib.hid hnl
  clear h hR hv hx hp hn hxo hnl
  rw [show encC c = .agg (cellsC c) from rfl]
  go_enter Try.func77, Try.ntmps77
  go_upto_region 1 with (fail)
  refine wp_gen (fun V => BoxC V w.heap.size c ∧ BoxR V (w.heap.size + 1) zeroR ∧ Below w.heap.size w V) ⟨(heap2 w _ _).1, (heap2 w _ _).2, below2 w _ _⟩ ?_
  rintro V1 ⟨hc1, hr1, hw1⟩
  have HC := Lib.hid hc1
  have HR := Lib.hid hr1
  have HW := Lib.hid hw1
  have HA := Lib.hid (HH.out.after hw1)
  have HF1 := Lib.hid (rvol_v HA.out HFV.out)
  have c1 := hc1.c1
  clear hc1 hr1 hw1
  go_wp2_with (fail)
  clear c1
  refine HF1.out.mono ?_
  rintro e V2 ⟨rfl, hb⟩
  replace HC := Lib.hid (HC.out.after hb)
  replace HR := Lib.hid (HR.out.after hb)
  replace HA := Lib.hid (HA.out.after hb)
  replace HW := Lib.hid (HW.out.trans (hb.mono HW.out.size))
  clear hb HF1
  have c0 := HC.out.c0
  rw [HVB.out] at c0
  obtain ⟨g, cur, s, hL, h1, h2, h3, h4, h5, h6, h7⟩ := HA.out.vol_at HXX.out
  have HSL : Hid (rd.v.o = some ⟨g, 0, none⟩ ∧ rd.v.n = S.core.vols.length) := ⟨h1, h7⟩
  have HN4 : Hid (CellX V2 g (i * 5 + 4) (.slice s.o s.n s.c)) := ⟨(Array.getElem?_eq_some_iff.1 h3).1, h4 4 _ rfl⟩
  have HL := Lib.hid hL
  have HB := Lib.hid HA.out.box
  clear hL h1 h2 h3 h4 h5 h6 h7
  go_upto_region 25 with (fail)
  clear c0
  refine wp_region_held_drew (S := fun V => BoxQ V q rd ∧ BoxC V w.heap.size c) (by kernel_rfl) ⟨HB.out, HC.out⟩ (fun _ => ?_)
  refine HeldBy.gen (fun V => (BoxQ V q rd ∧ BoxC V w.heap.size c) ∧ (CellX V g (i * 5 + 4) (.slice s.o s.n s.c)) ∧ (BoxR V (w.heap.size + 1) zeroR) ∧ (RAt R V q S rd L) ∧ (Below w.heap.size w V)) ⟨⟨HB.out, HC.out⟩, HN4.out, HR.out, HA.out.drew, HW.out.drew⟩ ?_
  clear HB HC HN4 HR HA HW
  rintro U0 ⟨HS, HN4, HR, HA, HW⟩
  refine HeldBy.tn (i := 0) rfl HS ?_
  refine HeldBy.tn (i := 1) rfl HS ?_
  refine HeldBy.tn (i := 2) rfl HS ?_
  refine HeldBy.tk (i := 3) (v := .slice (some ⟨g, 0, none⟩) S.core.vols.length rd.v.c) rfl (fun V hV => by have hc := hV.1.c1; rw [HSL.out.1, HSL.out.2] at hc; first | (go_simp; rfl) | (go_simp; done)) HS ?_
  refine HeldBy.tn (i := 4) rfl HS ?_
  refine HeldBy.tn (i := 5) rfl HS ?_
  refine HeldBy.tn (i := 6) rfl HS ?_
  refine HeldBy.tn (i := 7) rfl HS ?_
  refine HeldBy.tk (i := 8) (v := .slice (some ⟨g, 0, none⟩) S.core.vols.length rd.v.c) rfl (fun V hV => by have hc := hV.1.c1; rw [HSL.out.1, HSL.out.2] at hc; first | (go_simp; rfl) | (go_simp; done)) HS ?_
  refine HeldBy.tn (i := 9) rfl HS ?_
  refine HeldBy.tn (i := 10) rfl HS ?_
  refine HeldBy.tn (i := 11) rfl HS ?_
  refine HeldBy.tn (i := 13) rfl HS ?_
  refine HeldBy.tk (i := 14) (v := .string c.node) rfl (fun V hV => by have hc := hV.2.c5; first | (go_simp; rfl) | (go_simp; done)) HS ?_
  have hstr : StrIn U0 s x.nodes := by
    obtain ⟨g', cur', s', k0, -, -, -, -, k5, -, -⟩ := HA.vol_at HXX.out
    rw [HL.out] at k0
    cases k0
    exact k5
  have hzc := HN4.2
  refine HeldBy.value (i := 12) (v := .slice s.o s.n s.c) rfl (by kernel_rfl) (by rfl) (by first | (go_simp; rfl) | (go_simp; done)) (by first | (go_simp; rfl) | (go_simp; done)) HS ?_
  clear hzc HN4
  refine HeldBy.callE (i := 15) rfl (by kernel_rfl) (by rfl) (by first | (go_simp; done) | (go_simp; first | exact ⟨rfl, rfl⟩ | rfl)) (fun v => by first | (go_simp; rfl) | (go_simp; done)) ?_
  refine (rwithout_any c.node s x.nodes U0 hstr HNL.out).mono ?_
  rintro e U1 ⟨s1, rfl, hs1, hb⟩
  replace HS : BoxQ U1 q rd ∧ BoxC U1 w.heap.size c := ⟨HS.1.after hb, HS.2.after hb⟩
  have hA1 := HA.after hb
  have hR1 : BoxR U1 (w.heap.size + 1) zeroR := BoxR.after HR hb
  have hW1 := HW.trans (hb.mono HW.size)
  clear hb hstr
  refine ⟨_, rfl, HS, ?_⟩
  refine HeldBy.tn (i := 16) rfl HS ?_
  refine HeldBy.tn (i := 17) rfl HS ?_
  obtain ⟨g', cur', s', k0, k1, k2, k3, k4, -⟩ := hA1.vol_at HXX.out
  rw [HSL.out.1] at k1
  cases k1
  have hc9 : U1.cell? ⟨g, i * 5 + 4, none⟩ = some (.slice s'.o s'.n s'.c) := k4 4 _ rfl
  have hf9 : U1.frozen? ⟨g, i * 5 + 4, none⟩ = false := frozen_of_row U1 g (i * 5 + 4) _ _ k3
  have hA2 := hA1.vol_set (y := ⟨x.name, x.size, x.zone, x.tag, withoutN c.node x.nodes⟩) (s' := s1) (j := 4) (v := .slice s1.o s1.n s1.c) HL.out (by decide) rfl hs1 HSL.out.1 k3
  have hst : ∀ {oi : Oper} {a : Act} {p r : Operand}, oi.op = .store 56 p r → a.eval p = .pointer (some ⟨g, i * 5 + 4, none⟩) → a.eval r = .slice s1.o s1.n s1.c → (execOp a.eval oi).run Try.prog U1 = .ok .skip (U1.setCell ⟨g, i * 5 + 4, none⟩ (.slice s1.o s1.n s1.c)) := fun ho h1 h2 => by
    unfold execOp
    simp only [ho, h1, h2]
    first | (go_simp; rfl) | (go_simp; done)
  have ho8 : ∀ b, b ≠ g → (U1.setCell ⟨g, i * 5 + 4, none⟩ (.slice s1.o s1.n s1.c)).heap[b]? = U1.heap[b]? := fun b hb => heap_setCell_other _ ⟨g, i * 5 + 4, none⟩ b _ hb
  have hD8 : DocStay R w (U1.setCell ⟨g, i * 5 + 4, none⟩ (.slice s1.o s1.n s1.c)) := (DocStay.of_below hW1 HRR.out).set k2 ⟨_, _, _, k3, .inr (.inr rfl)⟩
  have hr8 : BoxR (U1.setCell ⟨g, i * 5 + 4, none⟩ (.slice s1.o s1.n s1.c)) (w.heap.size + 1) zeroR := (ho8 _ (kind_neF hR1 k3 (by decide))).trans hR1
  have hcc : BoxC (U1.setCell ⟨g, i * 5 + 4, none⟩ (.slice s1.o s1.n s1.c)) w.heap.size c := (ho8 _ (kind_neF HS.2 k3 (by decide))).trans HS.2
  have hq8 : BoxQ (U1.setCell ⟨g, i * 5 + 4, none⟩ (.slice s1.o s1.n s1.c)) q rd := (ho8 _ (kind_neF HS.1 k3 (by decide))).trans HS.1
  obtain ⟨V8, hV8⟩ : ∃ V8, U1.setCell ⟨g, i * 5 + 4, none⟩ (.slice s1.o s1.n s1.c) = V8 := ⟨_, rfl⟩
  rw [hV8] at hA2 hst hD8 hr8 hq8 hcc
  refine HeldBy.store (i := 18) (w' := V8) rfl (by kernel_rfl) (by rfl) (hst rfl rfl rfl) (by first | (go_simp; rfl) | (go_simp; done)) ⟨hq8, hcc⟩ ?_
  refine wpAnyH_done (by kernel_rfl) ?_ _
  obtain ⟨V7, hs7, hb7, hq7⟩ := RQ.done (res := (zeroR, ⟨S.core.zones, S.core.vols.set i ⟨x.name, x.size, x.zone, x.tag, withoutN c.node x.nodes⟩, S.core.snaps⟩)) (seen := S.seen) hA2 hD8 hr8 HRR.out
  have HV7 := Lib.hid hb7
  have HX := Lib.hid hq7
  clear hc9 hf9 hst ho8 hA2 hD8 hr8 hq8 hcc HS hA1 hR1 hW1 k0 k2 k3 k4 hs1 hV8 hb7 hq7 HR HW HA
  go_wp2_with (first | ((with_reducible refine wpList_build_to rfl 50 _ rfl (cellsR zeroR) ?_ ?_); exact built_r0) | (refine wpList_skip rfl (hs7 rfl rfl rfl) ?_))
  refine bodyPost_ret (v := encR zeroR) (results_cell_row rfl _ _ (w.heap.size + 1) 50 (cellsR zeroR) (0, 0) _ rfl HV7.out undR rfl sizeR) rfl ?_
  exact HX.out
end
end Go.Proofs.Ytbgfccanbgpjiaa.O.I
