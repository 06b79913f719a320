/- Own work. -/
import Derived.Test.YtbgfccanbgpjiaaDJIRCr0
namespace Go.Proofs.Ytbgfccanbgpjiaa.O.I
open Go Go.RowKit Go.Lib KM
attribute [local go_sem] Oper.semAt_some
section
variable {R : Nat} {w : World} {q : Nat} {S : St} {rd : Rd} {L : List (DV × Sl)} (h : RAt R w q S rd L) (hR : R ≤ w.heap.size) (c : Cl)
include h hR
set_option maxRecDepth 100000 in
set_option maxHeartbeats 8000000 in
theorem rdo_erasenone (hv : c.verb = 2) (hx : volOf S.core.vols c.target = none) :
    Calls Try.prog 77 #[.pointer (some ⟨q, 0, none⟩), encC c] w (RQ R w q (zeroR, S.core) S.seen) := by
  have HH := Lib.hid h
  have HRR := Lib.hid hR
  have HVB := Lib.hid hv
  have HFV : Hid (∀ u, Found (fun x : DV => decide (x.name = c.target)) S.core.vols u → u = .int .i64 (-1)) := fun u hu => found_not (vol_no hx) hu
  clear h hR hv hx
  rw [show encC c = .agg (cellsC c) from rfl]
  go_enter Try.func77, Try.ntmps77
  go_upto_region 1 with (fail)
  refine wp_gen (fun V => BoxC V w.heap.size c ∧ BoxR V (w.heap.size + 1) zeroR ∧ Below w.heap.size w V) ⟨(heap2 w _ _).1, (heap2 w _ _).2, below2 w _ _⟩ ?_
  rintro V1 ⟨hc1, hr1, hw1⟩
  have HC := Lib.hid hc1
  have HR := Lib.hid hr1
  have HW := Lib.hid hw1
  have HA := Lib.hid (HH.out.after hw1)
  have HF1 := Lib.hid (rvol_v HA.out HFV.out)
  have c1 := hc1.c1
  clear hc1 hr1 hw1
  go_wp2_with (fail)
  clear c1
  refine HF1.out.mono ?_
  rintro e V2 ⟨rfl, hb⟩
  replace HC := Lib.hid (HC.out.after hb)
  replace HR := Lib.hid (HR.out.after hb)
  replace HA := Lib.hid (HA.out.after hb)
  replace HW := Lib.hid (HW.out.trans (hb.mono HW.out.size))
  clear hb HF1
  have c0 := HC.out.c0
  rw [HVB.out] at c0
  obtain ⟨V7, hs7, hb7, hq7⟩ := RQ.done (res := (zeroR, S.core)) (seen := S.seen) HA.out (DocStay.of_below HW.out HRR.out) HR.out HRR.out
  have HV7 := Lib.hid hb7
  have HX := Lib.hid hq7
  clear hb7 hq7
  go_wp2_with (first | ((with_reducible refine wpList_build_to rfl 50 _ rfl (cellsR zeroR) ?_ ?_); exact built_r0) | (refine wpList_skip rfl (hs7 rfl rfl rfl) ?_))
  refine bodyPost_ret (v := encR zeroR) (results_cell_row rfl _ _ (w.heap.size + 1) 50 (cellsR zeroR) (0, 0) _ rfl HV7.out undR rfl sizeR) rfl ?_
  exact HX.out
set_option maxRecDepth 100000 in
set_option maxHeartbeats 8000000 in
theorem rdo_erasebusy (hv : c.verb = 2) (i : Nat) (x : DV) (hx : S.core.vols[i]? = some x) (hp : x.name = c.target) (hn : ∀ j y, j < i → S.core.vols[j]? = some y → decide (y.name = c.target) = false) (hno : x.nodes ≠ []) :
    Calls Try.prog 77 #[.pointer (some ⟨q, 0, none⟩), encC c] w (RQ R w q (errR 10, S.core) S.seen) := by
  have HH := Lib.hid h
  have HRR := Lib.hid hR
  have HVB := Lib.hid hv
  have hxo : volOf S.core.vols c.target = some x := found_find hx (by simpa using hp) hn
  have HXO := Lib.hid hxo
  have HXX := Lib.hid hx
  have HFV : Hid (∀ u, Found (fun x : DV => decide (x.name = c.target)) S.core.vols u → u = .int .i64 (i : Int)) := fun u hu => found_at hx (by simpa using hp) hn hu
  have hfew : S.core.vols.length ≤ 64 := h.few.2.1
  have hlt : (i : Int) < (S.core.vols.length : Int) := by have := set_at hx; omega
  have hnn : (0 : Int) < (x.nodes.length : Int) := by
    have := List.length_pos_iff.2 hno
    omega
  clear h hR hv hx hp hn hxo hno
  rw [show encC c = .agg (cellsC c) from rfl]
  go_enter Try.func77, Try.ntmps77
  go_upto_region 1 with (fail)
  refine wp_gen (fun V => BoxC V w.heap.size c ∧ BoxR V (w.heap.size + 1) zeroR ∧ Below w.heap.size w V) ⟨(heap2 w _ _).1, (heap2 w _ _).2, below2 w _ _⟩ ?_
  rintro V1 ⟨hc1, hr1, hw1⟩
  have HC := Lib.hid hc1
  have HR := Lib.hid hr1
  have HW := Lib.hid hw1
  have HA := Lib.hid (HH.out.after hw1)
  have HF1 := Lib.hid (rvol_v HA.out HFV.out)
  have c1 := hc1.c1
  clear hc1 hr1 hw1
  go_wp2_with (fail)
  clear c1
  refine HF1.out.mono ?_
  rintro e V2 ⟨rfl, hb⟩
  replace HC := Lib.hid (HC.out.after hb)
  replace HR := Lib.hid (HR.out.after hb)
  replace HA := Lib.hid (HA.out.after hb)
  replace HW := Lib.hid (HW.out.trans (hb.mono HW.out.size))
  clear hb HF1
  have c0 := HC.out.c0
  rw [HVB.out] at c0
  obtain ⟨g, cur, s, hL, h1, h2, h3, h4, h5, h6, h7⟩ := HA.out.vol_at HXX.out
  have HSL : Hid (rd.v.o = some ⟨g, 0, none⟩ ∧ rd.v.n = S.core.vols.length) := ⟨h1, h7⟩
  have k4 : V2.cell? ⟨g, i * 5 + 4, none⟩ = some (.slice s.o s.n s.c) := h4 4 _ rfl
  rw [h5.1] at k4
  have d1 := HA.out.box.c1
  rw [h1, h7] at d1
  clear hL h1 h2 h3 h4 h5 h6 h7
  go_wp2_with (fail)
  refine (rfailed_any 10 _).mono ?_
  rintro e W6 ⟨rfl, hb6⟩
  replace HR := Lib.hid (HR.out.after hb6)
  replace HA := Lib.hid (HA.out.after hb6)
  replace HW := Lib.hid (HW.out.trans (hb6.mono HW.out.size))
  clear hb6
  obtain ⟨V7, hs7, hb7, hq7⟩ := RQ.done (res := (errR 10, S.core)) (seen := S.seen) HA.out (DocStay.of_below HW.out HRR.out) HR.out HRR.out
  have HV7 := Lib.hid hb7
  have HX := Lib.hid hq7
  clear hb7 hq7
  go_wp2_with (first | (refine wpList_skip rfl (hs7 rfl rfl rfl) ?_))
  refine bodyPost_ret (v := encR (errR 10)) (results_cell_row rfl _ _ (w.heap.size + 1) 50 (cellsR (errR 10)) (0, 0) _ rfl HV7.out undR rfl sizeR) rfl ?_
  exact HX.out
set_option maxRecDepth 100000 in
set_option maxHeartbeats 32000000 in
theorem rdo_erase (hv : c.verb = 2) (i : Nat) (x : DV) (hx : S.core.vols[i]? = some x) (hp : x.name = c.target) (hn : ∀ j y, j < i → S.core.vols[j]? = some y → decide (y.name = c.target) = false) (hno : x.nodes = []) (k : Nat) (z : Zn) (hz : S.core.zones[k]? = some z) (hzp : z.name = x.zone) (hzk : ∀ j y, j < k → S.core.zones[j]? = some y → decide (y.name = x.zone) = false) :
    Calls Try.prog 77 #[.pointer (some ⟨q, 0, none⟩), encC c] w (RQ R w q (zeroR, ⟨S.core.zones.set k ⟨z.name, IntKind.i64.wrap (z.room + x.size)⟩, S.core.vols.take i ++ S.core.vols.drop (i + 1), S.core.snaps⟩) S.seen) := by
  have HH := Lib.hid h
  have HRR := Lib.hid hR
  have HVB := Lib.hid hv
  have hxo : volOf S.core.vols c.target = some x := found_find hx (by simpa using hp) hn
  have HXO := Lib.hid hxo
  have HXX := Lib.hid hx
  have HFV : Hid (∀ u, Found (fun x : DV => decide (x.name = c.target)) S.core.vols u → u = .int .i64 (i : Int)) := fun u hu => found_at hx (by simpa using hp) hn hu
  have hfew : S.core.vols.length ≤ 64 := h.few.2.1
  have hlt : (i : Int) < (S.core.vols.length : Int) := by have := set_at hx; omega
  have hil := set_at hx
  have hll : L.length = S.core.vols.length := h.len
  have HLL := Lib.hid hll
  have HZZ := Lib.hid hz
  have hfewz : S.core.zones.length ≤ 16 := h.few.1
  have hltz : (k : Int) < (S.core.zones.length : Int) := by have := set_at hz; omega
  have HFZ : Hid (∀ u, Found (fun y : Zn => decide (y.name = x.zone)) S.core.zones u → u = .int .i64 (k : Int)) := fun u hu => found_at hz (by simpa using hzp) hzk hu
  have HNO := Lib.hid hno
  clear h hR hv hx hp hn hxo hno hz hzp hzk hll
  rw [show encC c = .agg (cellsC c) from rfl]
  go_enter Try.func77, Try.ntmps77
  go_upto_region 1 with (fail)
  refine wp_gen (fun V => BoxC V w.heap.size c ∧ BoxR V (w.heap.size + 1) zeroR ∧ Below w.heap.size w V) ⟨(heap2 w _ _).1, (heap2 w _ _).2, below2 w _ _⟩ ?_
  rintro V1 ⟨hc1, hr1, hw1⟩
  have HC := Lib.hid hc1
  have HR := Lib.hid hr1
  have HW := Lib.hid hw1
  have HA := Lib.hid (HH.out.after hw1)
  have HF1 := Lib.hid (rvol_v HA.out HFV.out)
  have c1 := hc1.c1
  clear hc1 hr1 hw1
  go_wp2_with (fail)
  clear c1
  refine HF1.out.mono ?_
  rintro e V2 ⟨rfl, hb⟩
  replace HC := Lib.hid (HC.out.after hb)
  replace HR := Lib.hid (HR.out.after hb)
  replace HA := Lib.hid (HA.out.after hb)
  replace HW := Lib.hid (HW.out.trans (hb.mono HW.out.size))
  clear hb HF1
  have c0 := HC.out.c0
  rw [HVB.out] at c0
  obtain ⟨g, cur, s, hL, h1, h2, h3, h4, h5, h6, h7⟩ := HA.out.vol_at HXX.out
  have HSL : Hid (rd.v.o = some ⟨g, 0, none⟩ ∧ rd.v.n = S.core.vols.length) := ⟨h1, h7⟩
  have k4 : V2.cell? ⟨g, i * 5 + 4, none⟩ = some (.slice s.o s.n s.c) := h4 4 _ rfl
  rw [h5.1] at k4
  have d1 := HA.out.box.c1
  rw [h1, h7] at d1
  rw [HNO.out, List.length_nil] at k4
  have hcap : S.core.vols.length ≤ rd.v.c := by
    have := own_cap HA.out.vols.1 (by have := HLL.out; omega)
    have := HLL.out
    omega
  have HS1 : Hid (CellX V2 g (i * 5 + 1) (.int .i64 x.size)) := ⟨(Array.getElem?_eq_some_iff.1 h3).1, h4 1 _ rfl⟩
  have HS2 : Hid (CellX V2 g (i * 5 + 2) (.string x.zone)) := ⟨(Array.getElem?_eq_some_iff.1 h3).1, h4 2 _ rfl⟩
  clear hL h1 h2 h3 h4 h5 h6 h7
  obtain ⟨gz, curz, k1, k2, k3, k5, k6, k7, k8⟩ := HA.out.zone_at HZZ.out
  have HZL : Hid (rd.z.o = some ⟨gz, 0, none⟩ ∧ rd.z.n = S.core.zones.length) := ⟨k1, k8⟩
  have HZC : Hid (CellX V2 gz (k * 2 + 1) (.int .i64 z.room)) := ⟨(Array.getElem?_eq_some_iff.1 k3).1, k6⟩
  clear k1 k2 k3 k5 k6 k7 k8
  have HB := Lib.hid HA.out.box
  go_upto_region 15 with (fail)
  clear c0 k4 d1
  refine wp_region_held_drew (S := fun V => BoxQ V q rd ∧ CellX V g (i * 5 + 1) (.int .i64 x.size) ∧ CellX V g (i * 5 + 2) (.string x.zone)) (by kernel_rfl) ⟨HB.out, HS1.out, HS2.out⟩ (fun _ => ?_)
  refine HeldBy.gen (fun V => (BoxQ V q rd ∧ CellX V g (i * 5 + 1) (.int .i64 x.size) ∧ CellX V g (i * 5 + 2) (.string x.zone)) ∧ (CellX V gz (k * 2 + 1) (.int .i64 z.room)) ∧ (BoxR V (w.heap.size + 1) zeroR) ∧ (RAt R V q S rd L) ∧ (Below w.heap.size w V)) ⟨⟨HB.out, HS1.out, HS2.out⟩, HZC.out, HR.out, HA.out.drew, HW.out.drew⟩ ?_
  clear HB HS1 HS2 HZC HR HA HW
  rintro U0 ⟨HS, HZC, HR, HA, HW⟩
  refine HeldBy.tn (i := 0) rfl HS ?_
  refine HeldBy.tn (i := 1) rfl HS ?_
  refine HeldBy.tn (i := 2) rfl HS ?_
  refine HeldBy.tk (i := 3) (v := .slice (some ⟨gz, 0, none⟩) S.core.zones.length rd.z.c) rfl (fun V hV => by have hc := hV.1.c0; rw [HZL.out.1, HZL.out.2] at hc; first | (go_simp; rfl) | (go_simp; done)) HS ?_
  refine HeldBy.tn (i := 4) rfl HS ?_
  refine HeldBy.tn (i := 5) rfl HS ?_
  refine HeldBy.tn (i := 6) rfl HS ?_
  refine HeldBy.tn (i := 7) rfl HS ?_
  refine HeldBy.tk (i := 8) (v := .slice (some ⟨g, 0, none⟩) S.core.vols.length rd.v.c) rfl (fun V hV => by have hc := hV.1.c1; rw [HSL.out.1, HSL.out.2] at hc; first | (go_simp; rfl) | (go_simp; done)) HS ?_
  refine HeldBy.tn (i := 9) rfl HS ?_
  refine HeldBy.tn (i := 10) rfl HS ?_
  refine HeldBy.tn (i := 11) rfl HS ?_
  refine HeldBy.tk (i := 12) (v := .string x.zone) rfl (fun V hV => by have hc := hV.2.2.2; first | (go_simp; rfl) | (go_simp; done)) HS ?_
  refine HeldBy.tn (i := 17) rfl HS ?_
  refine HeldBy.tn (i := 18) rfl HS ?_
  refine HeldBy.tn (i := 19) rfl HS ?_
  refine HeldBy.tk (i := 20) (v := .slice (some ⟨g, 0, none⟩) S.core.vols.length rd.v.c) rfl (fun V hV => by have hc := hV.1.c1; rw [HSL.out.1, HSL.out.2] at hc; first | (go_simp; rfl) | (go_simp; done)) HS ?_
  refine HeldBy.tn (i := 21) rfl HS ?_
  refine HeldBy.tn (i := 22) rfl HS ?_
  refine HeldBy.tn (i := 23) rfl HS ?_
  refine HeldBy.tk (i := 24) (v := .int .i64 x.size) rfl (fun V hV => by have hc := hV.2.1.2; first | (go_simp; rfl) | (go_simp; done)) HS ?_
  refine HeldBy.call (i := 13) (v := .int .i64 (k : Int)) rfl (by kernel_rfl) (by rfl) (by first | (go_simp; done) | (go_simp; first | exact ⟨rfl, rfl⟩ | rfl)) (by first | (go_simp; rfl) | (go_simp; done)) ?_
  refine (rzone_v HA HFZ.out).mono ?_
  rintro e U1 ⟨rfl, hb⟩
  replace HS : BoxQ U1 q rd ∧ CellX U1 g (i * 5 + 1) (.int .i64 x.size) ∧ CellX U1 g (i * 5 + 2) (.string x.zone) := ⟨HS.1.after hb, HS.2.1.after hb, HS.2.2.after hb⟩
  replace HZC := HZC.after hb
  replace HR := HR.after hb
  replace HA := HA.after hb
  replace HW := HW.trans (hb.mono HW.size)
  refine ⟨rfl, HS, ?_⟩
  clear hb
  refine HeldBy.tn (i := 14) rfl HS ?_
  refine HeldBy.tn (i := 15) rfl HS ?_
  have hzc := HZC.2
  refine HeldBy.value (i := 16) (v := .int .i64 z.room) rfl (by kernel_rfl) (by rfl) (by first | (go_simp; rfl) | (go_simp; done)) (by first | (go_simp; rfl) | (go_simp; done)) HS ?_
  refine HeldBy.tk (i := 25) (v := .int .i64 (IntKind.i64.wrap (z.room + x.size))) rfl (fun _ _ => by first | (go_simp; rfl) | (go_simp; done)) HS ?_
  refine HeldBy.tn (i := 26) rfl HS ?_
  refine HeldBy.tn (i := 27) rfl HS ?_
  clear hzc
  obtain ⟨gz', curz', p1, p2, p3, -, p5, -, p7⟩ := HA.zone_at HZZ.out
  rw [HZL.out.1] at p1
  cases p1
  have hc9 := p5
  have hf9 : U1.frozen? ⟨gz, k * 2 + 1, none⟩ = false := frozen_of_row U1 gz (k * 2 + 1) _ _ p3
  have hA2 := HA.zone_set HZZ.out (IntKind.i64.wrap (z.room + x.size)) HZL.out.1 p3
  obtain ⟨V8, hV8⟩ : ∃ V8, U1.setCell ⟨gz, k * 2 + 1, none⟩ (.int .i64 (IntKind.i64.wrap (z.room + x.size))) = V8 := ⟨_, rfl⟩
  have hst : ∀ {oi : Oper} {a : Act} {p r : Operand}, oi.op = .store 2 p r → a.eval p = .pointer (some ⟨gz, k * 2 + 1, none⟩) → a.eval r = .int .i64 (IntKind.i64.wrap (z.room + x.size)) → (execOp a.eval oi).run Try.prog U1 = .ok .skip V8 := fun ho h1 h2 => by
    rw [← hV8]
    unfold execOp
    simp only [ho, h1, h2]
    first | (go_simp; rfl) | (go_simp; done)
  have ho8 : ∀ b, b ≠ gz → V8.heap[b]? = U1.heap[b]? := fun b hb => by rw [← hV8]; exact heap_setCell_other _ ⟨gz, k * 2 + 1, none⟩ b _ hb
  obtain ⟨g', cur', s', -, t1, -, t3, -⟩ := HA.vol_at HXX.out
  rw [HSL.out.1] at t1
  cases t1
  have hsz8 : V8.heap.size = U1.heap.size := by
    rw [← hV8]
    simp
  have hgz : g ≠ gz := kind_neF t3 p3 (by decide)
  have hS8 : BoxQ V8 q rd ∧ CellX V8 g (i * 5 + 1) (.int .i64 x.size) ∧ CellX V8 g (i * 5 + 2) (.string x.zone) := ⟨(ho8 q (kind_neF HS.1 p3 (by decide))).trans HS.1, ⟨by rw [hsz8]; exact HS.2.1.1, (cell_sameX (ho8 g hgz)).trans HS.2.1.2⟩, ⟨by rw [hsz8]; exact HS.2.2.1, (cell_sameX (ho8 g hgz)).trans HS.2.2.2⟩⟩
  have hR8 : BoxR V8 (w.heap.size + 1) zeroR := (ho8 _ (kind_neF HR p3 (by decide))).trans HR
  refine HeldBy.store (i := 28) (w' := V8) rfl (by kernel_rfl) (by rfl) (hst rfl rfl rfl) (by first | (go_simp; rfl) | (go_simp; done)) hS8 ?_
  refine wpAnyH_done (by kernel_rfl) ?_ _
  rw [hV8] at hA2
  have hD8 : DocStay R w V8 := by
    rw [← hV8]
    exact (DocStay.of_below HW HRR.out).set p2 ⟨_, _, _, p3, .inr (.inl rfl)⟩
  have hsw : w.heap.size ≤ V8.heap.size := by rw [hsz8]; exact HW.size
  obtain ⟨S2, hS2⟩ : ∃ S2 : St, S2 = ⟨⟨S.core.zones.set k ⟨z.name, IntKind.i64.wrap (z.room + x.size)⟩, S.core.vols, S.core.snaps⟩, S.seen⟩ := ⟨_, rfl⟩
  rw [← hS2] at hA2
  have HS2 : Hid (S2.seen = S.seen ∧ S2.core.vols = S.core.vols ∧ S2.core.snaps = S.core.snaps ∧ S2.core.zones = S.core.zones.set k ⟨z.name, IntKind.i64.wrap (z.room + x.size)⟩) := by
    show _ ∧ _
    rw [hS2]
    exact ⟨rfl, rfl, rfl, rfl⟩
  have HB := Lib.hid hS8.1
  have HR2 := Lib.hid hR8
  have HA2 := Lib.hid hA2
  have HW2 := Lib.hid hD8
  have HZ : Hid (w.heap.size ≤ V8.heap.size) := hsw
  clear HR HA HW HS HZC HZZ HZL HFZ hc9 hf9 hA2 hst ho8 p2 p3 p5 p7 t3 hsz8 hgz hS8 hR8 hD8 hsw hS2 hV8
  have HR := HR2
  have HA := HA2
  have HW := HW2
  clear HR2 HA2 HW2
  obtain ⟨off, hoff⟩ : ∃ off, (if rd.v.c = i + 1 then 0 else (i + 1) * 5) = off := ⟨_, rfl⟩
  have HOFF := Lib.hid hoff
  clear hoff
  go_upto_region 17 with (fail)
  refine wp_region_held_drew (S := fun V => BoxQ V q rd) (by kernel_rfl) HB.out (fun _ => ?_)
  refine HeldBy.gen (fun V => (BoxQ V q rd) ∧ (BoxR V (w.heap.size + 1) zeroR) ∧ (RAt R V q S2 rd L) ∧ (DocStay R w V) ∧ (w.heap.size ≤ V.heap.size)) ⟨HB.out, HR.out, HA.out.drew, HW.out.drew, HZ.out⟩ ?_
  clear HB HR HA HW HZ
  rintro U0 ⟨HS, HR, HA, HW, HZ⟩
  refine HeldBy.tn (i := 0) rfl HS ?_
  refine HeldBy.tn (i := 1) rfl HS ?_
  refine HeldBy.tn (i := 2) rfl HS ?_
  refine HeldBy.tn (i := 3) rfl HS ?_
  refine HeldBy.tk (i := 4) (v := .slice (some ⟨g, 0, none⟩) S.core.vols.length rd.v.c) rfl (fun V hV => by have hc := hV.c1; rw [HSL.out.1, HSL.out.2] at hc; first | (go_simp; rfl) | (go_simp; done)) HS ?_
  refine HeldBy.tn (i := 5) rfl HS ?_
  refine HeldBy.tk (i := 6) (v := .slice (some ⟨g, 0, none⟩) i rd.v.c) rfl (fun _ _ => exec_cut rfl (run_first vol_rowy elem_dv size_dv _ g _ _ i (by omega))) HS ?_
  refine HeldBy.tn (i := 8) rfl HS ?_
  refine HeldBy.tn (i := 9) rfl HS ?_
  refine HeldBy.tn (i := 10) rfl HS ?_
  refine HeldBy.tk (i := 11) (v := .slice (some ⟨g, 0, none⟩) S.core.vols.length rd.v.c) rfl (fun V hV => by have hc := hV.c1; rw [HSL.out.1, HSL.out.2] at hc; first | (go_simp; rfl) | (go_simp; done)) HS ?_
  refine HeldBy.tn (i := 12) rfl HS ?_
  refine HeldBy.tn (i := 13) rfl HS ?_
  refine HeldBy.tk (i := 14) (v := .slice (some ⟨g, off, none⟩) (S.core.vols.length - (i + 1)) (rd.v.c - (i + 1))) rfl (fun _ _ => exec_cut rfl (run_rest vol_rowy elem_dv size_dv _ g _ _ (i + 1) (IntKind.i64.wrap ((i : Int) + 1)) (by rw [IntKind.wrap_i64]; omega) off HOFF.out (by omega))) HS ?_
  have hRU : R ≤ U0.heap.size := by
    have := HRR.out
    have := HZ
    omega
  obtain ⟨g', v1, W1, s2, W2, e1, e2, e3, r1, r2, b1, b2, ho⟩ := HA.vols_without hRU (by rw [HS2.out.2.1]; exact hil)
  rw [HS2.out.2.1] at e2 e3 r2
  rw [HSL.out.1] at e1
  cases e1
  rw [HOFF.out] at r2
  refine HeldBy.value (i := 7) (v := v1) (w' := W1) rfl (by kernel_rfl) (by rfl) (exec_app rfl r1 rfl rfl) (by first | (go_simp; rfl) | (go_simp; done)) (HS.after b1) ?_
  refine HeldBy.value (i := 15) (v := .slice s2.o s2.n s2.c) (w' := W2) rfl (by kernel_rfl) (by rfl) (exec_app rfl r2 rfl rfl) (by first | (go_simp; rfl) | (go_simp; done)) (HS.after b2) ?_
  have hS2 := HS.after b2
  refine HeldBy.tn (i := 16) rfl hS2 ?_
  refine wpAnyH_done (by kernel_rfl) ?_ _
  have hA2 := (HA.after b2).vols_new ho (by rw [List.length_append, List.length_take, List.length_drop, HLL.out]; omega)
  rw [HS2.out.1, HS2.out.2.2.1, HS2.out.2.2.2, List.map_append, List.map_take, List.map_drop, HA.told, HS2.out.2.1] at hA2
  have hr8 : BoxR (W2.setCell ⟨q, 1, none⟩ (.slice s2.o s2.n s2.c)) (w.heap.size + 1) zeroR := (heap_setCell_other _ ⟨q, 1, none⟩ _ _ (kind_neF (BoxR.after HR b2) hS2 (by decide))).trans (BoxR.after HR b2)
  have hD8 : DocStay R w (W2.setCell ⟨q, 1, none⟩ (.slice s2.o s2.n s2.c)) := (HW.after b2 HRR.out).set HA.low hS2.soft
  obtain ⟨V7, hs7, hb7, hq7⟩ := RQ.done (res := (zeroR, ⟨S.core.zones.set k ⟨z.name, IntKind.i64.wrap (z.room + x.size)⟩, S.core.vols.take i ++ S.core.vols.drop (i + 1), S.core.snaps⟩)) (seen := S.seen) hA2 hD8 hr8 HRR.out
  have HV7 := Lib.hid hb7
  have HX := Lib.hid hq7
  have y1 := hS2.c1
  have y3 := hS2.free 1
  clear hb7 hq7 hA2 hr8 hD8 hS2 HS ho b1 b2 r1 r2 HR HA HW
  go_wp2_with (first | ((with_reducible refine wpList_build_to rfl 50 _ rfl (cellsR zeroR) ?_ ?_); exact built_r0) | (refine wpList_skip rfl (hs7 rfl rfl rfl) ?_))
  refine bodyPost_ret (v := encR zeroR) (results_cell_row rfl _ _ (w.heap.size + 1) 50 (cellsR zeroR) (0, 0) _ rfl HV7.out undR rfl sizeR) rfl ?_
  exact HX.out
end
end Go.Proofs.Ytbgfccanbgpjiaa.O.I
