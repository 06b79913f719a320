/- Own work. -/
import Derived.Test.YtbgfccanbgpjiaaDJIRCr0
namespace Go.Proofs.Ytbgfccanbgpjiaa.O.I
open Go Go.RowKit Go.Lib KM
attribute [local go_sem] Oper.semAt_some
section
variable {R : Nat} {w : World} {q : Nat} {S : St} {rd : Rd} {L : List (DV × Sl)} (h : RAt R w q S rd L) (hR : R ≤ w.heap.size) (c : Cl)
include h hR
set_option maxRecDepth 100000 in
set_option maxHeartbeats 32000000 in
theorem rcreate_ofsnap (k : Nat) (z : Zn) (hx : volOf S.core.vols c.target = none) (hz : S.core.zones[k]? = some z) (hzp : z.name = c.zone) (hzk : ∀ j y, j < k → S.core.zones[j]? = some y → decide (y.name = c.zone) = false) (_hcs : 0 ≤ c.size ∧ c.size ≤ 1125899906842624) (si : Nat) (sx : DS) (hs : c.source ≠ E0) (hsx : S.core.snaps[si]? = some sx) (hsp : sx.name = c.source) (hsn : ∀ j y, j < si → S.core.snaps[j]? = some y → decide (y.name = c.source) = false) :
    Calls Try.prog 88 #[.pointer (some ⟨q, 0, none⟩), encC c] w (RQ R w q (createC S.core c) S.seen) := by
  have HH := Lib.hid h
  have HRR := Lib.hid hR
  have HXO := Lib.hid hx
  have HFV : Hid (∀ u, Found (fun x : DV => decide (x.name = c.target)) S.core.vols u → u = .int .i64 (-1)) := fun u hu => found_not (vol_no hx) hu
  have hzo : zoneOf S.core.zones c.zone = some z := found_find hz (by simpa using hzp) hzk
  have HZO := Lib.hid hzo
  have HZZ := Lib.hid hz
  have HMZ := Lib.hid (fun f : Int → Int => modZ_set (f := f) hz hzp hzk)
  have HFZ : Hid (∀ u, Found (fun x : Zn => decide (x.name = c.zone)) S.core.zones u → u = .int .i64 (k : Int)) := fun u hu => found_at hz (by simpa using hzp) hzk hu
  have hfew : S.core.vols.length ≤ 64 := h.few.2.1
  have hfewz : S.core.zones.length ≤ 16 := h.few.1
  have hltz : (k : Int) < (S.core.zones.length : Int) := by have := set_at hz; omega
  have hll : L.length = S.core.vols.length := h.len
  have HLL := Lib.hid hll
  have HSRC : Hid (srcOf S.core c.source = some ⟨sx.size, sx.tag⟩) := by
    show _ = _
    unfold srcOf
    rw [if_neg hs, show snapOf S.core.snaps c.source = some sx from found_find hsx (by simpa using hsp) hsn]
  have HNE : Hid (c.source ≠ E0) := hs
  have HSX := Lib.hid hsx
  have HFS : Hid (∀ u, Found (fun x : DS => decide (x.name = c.source)) S.core.snaps u → u = .int .i64 (si : Int)) := fun u hu => found_at hsx (by simpa using hsp) hsn hu
  obtain ⟨vv, hvv⟩ := found_val (fun x : DV => decide (x.name = c.source)) S.core.vols
  have HFW := Lib.hid hvv
  have hfews : S.core.snaps.length ≤ 64 := h.few.2.2.1
  have hsi := set_at hsx
  clear hs hsx hsp hsn hvv
  clear h hR hx hz hzp hzk hzo
  rw [show encC c = .agg (cellsC c) from rfl]
  go_enter Try.func88, Try.ntmps88
  go_upto_region 1 with (fail)
  refine wp_gen (fun V => BoxC V w.heap.size c ∧ BoxR V (w.heap.size + 1) zeroR ∧ Below w.heap.size w V) ⟨(heap2 w _ _).1, (heap2 w _ _).2, below2 w _ _⟩ ?_
  rintro V1 ⟨hc1, hr1, hw1⟩
  have HC := Lib.hid hc1
  have HR := Lib.hid hr1
  have HW := Lib.hid hw1
  have HA := Lib.hid (HH.out.after hw1)
  have HF1 := Lib.hid (rvol_v HA.out HFV.out)
  have c1 := hc1.c1
  clear hc1 hr1 hw1
  go_wp2_with (fail)
  clear c1
  refine HF1.out.mono ?_
  rintro e V2 ⟨rfl, hb⟩
  replace HC := Lib.hid (HC.out.after hb)
  replace HR := Lib.hid (HR.out.after hb)
  replace HA := Lib.hid (HA.out.after hb)
  replace HW := Lib.hid (HW.out.trans (hb.mono HW.out.size))
  clear hb HF1
  have HF2 := Lib.hid (rzone_v HA.out HFZ.out)
  have c4 := HC.out.c4
  go_wp2_with (fail)
  clear c4
  refine HF2.out.mono ?_
  rintro e V3 ⟨rfl, hb⟩
  replace HC := Lib.hid (HC.out.after hb)
  replace HR := Lib.hid (HR.out.after hb)
  replace HA := Lib.hid (HA.out.after hb)
  replace HW := Lib.hid (HW.out.trans (hb.mono HW.out.size))
  clear hb HF2
  have c6 := HC.out.c6
  have e1 : ¬ c.source.toList = [] := fun h => HNE.out ((emp_iff _).1 h)
  have e2 : (c.source.toList == []) = false := by simp [e1]
  have e3 : c.source.toList.isEmpty = false := by simp [e1]
  go_upto_region 12 with (fail)
  clear c6 e1 e2 e3
  refine wp_region_held_drew (S := fun V => BoxC V w.heap.size c ∧ BoxR V (w.heap.size + 1) zeroR ∧ RAt R V q S rd L ∧ Below w.heap.size w V) (by kernel_rfl) ⟨HC.out, HR.out, HA.out.drew, HW.out.drew⟩ (fun _ => ?_)
  refine HeldBy.gen (fun V => BoxC V w.heap.size c ∧ BoxR V (w.heap.size + 1) zeroR ∧ RAt R V q S rd L ∧ Below w.heap.size w V) ⟨HC.out, HR.out, HA.out.drew, HW.out.drew⟩ ?_
  clear HC HR HA HW
  rintro U0 HS
  refine HeldBy.tn (i := 0) rfl HS ?_
  refine HeldBy.tn (i := 1) rfl HS ?_
  refine HeldBy.tk (i := 2) rfl (fun V hV => by have hc := hV.1.c6; first | (go_simp; rfl) | (go_simp; done)) HS ?_
  refine HeldBy.tn (i := 4) rfl HS ?_
  refine HeldBy.tn (i := 5) rfl HS ?_
  refine HeldBy.tk (i := 6) rfl (fun V hV => by have hc := hV.1.c6; first | (go_simp; rfl) | (go_simp; done)) HS ?_
  refine HeldBy.call (i := 3) (v := .int .i64 (si : Int)) rfl (by kernel_rfl) (by rfl) (by go_simp; exact ⟨rfl, rfl⟩) (by go_simp; rfl) ?_
  refine (rsnap_v HS.2.2.1 HFS.out).mono ?_
  rintro e U1 ⟨rfl, hb⟩
  replace HS : BoxC U1 w.heap.size c ∧ BoxR U1 (w.heap.size + 1) zeroR ∧ RAt R U1 q S rd L ∧ Below w.heap.size w U1 := ⟨HS.1.after hb, HS.2.1.after hb, HS.2.2.1.after hb, HS.2.2.2.trans (hb.mono HS.2.2.2.size)⟩
  refine ⟨rfl, HS, ?_⟩
  clear hb
  refine HeldBy.call (i := 7) (v := vv) rfl (by kernel_rfl) (by rfl) (by go_simp; exact ⟨rfl, rfl⟩) (by go_simp; rfl) ?_
  refine (rvol_v HS.2.2.1 HFW.out).mono ?_
  rintro e U2 ⟨rfl, hb⟩
  replace HS : BoxC U2 w.heap.size c ∧ BoxR U2 (w.heap.size + 1) zeroR ∧ RAt R U2 q S rd L ∧ Below w.heap.size w U2 := ⟨HS.1.after hb, HS.2.1.after hb, HS.2.2.1.after hb, HS.2.2.2.trans (hb.mono HS.2.2.2.size)⟩
  refine ⟨rfl, HS, ?_⟩
  clear hb
  refine HeldBy.tn (i := 8) rfl HS ?_
  refine HeldBy.tn (i := 9) rfl HS ?_
  refine wpAnyH_done (by kernel_rfl) ?_ _
  have HC := Lib.hid HS.1
  have HR := Lib.hid HS.2.1
  have HA := Lib.hid HS.2.2.1
  have HW := Lib.hid HS.2.2.2
  clear HS HFS HFW
  obtain ⟨gs, curs, s1, s2, s3, s4, s6, s7⟩ := HA.out.snap_at HSX.out
  have HGL : Hid (rd.s.o = some ⟨gs, 0, none⟩ ∧ rd.s.n = S.core.snaps.length) := ⟨s1, s7⟩
  have hlts : (si : Int) < (S.core.snaps.length : Int) := by omega
  have HT : Hid (CellX U2 gs (si * 3 + 2) (.int .u64 sx.tag)) := ⟨(Array.getElem?_eq_some_iff.1 s3).1, s4 2 _ rfl⟩
  have HZ : Hid (CellX U2 gs (si * 3 + 1) (.int .i64 sx.size)) := ⟨(Array.getElem?_eq_some_iff.1 s3).1, s4 1 _ rfl⟩
  have HB := Lib.hid HA.out.box
  clear s1 s2 s3 s4 s6 s7
  go_upto_region 15 with (fail)
  refine wp_region_held_drew (S := fun V => BoxQ V q rd ∧ CellX V gs (si * 3 + 2) (.int .u64 sx.tag) ∧ CellX V gs (si * 3 + 1) (.int .i64 sx.size)) (by kernel_rfl) ⟨HB.out, HT.out, HZ.out⟩ (fun _ => ?_)
  refine HeldBy.gen (fun V => (BoxQ V q rd ∧ CellX V gs (si * 3 + 2) (.int .u64 sx.tag) ∧ CellX V gs (si * 3 + 1) (.int .i64 sx.size)) ∧ (BoxC V w.heap.size c) ∧ (BoxR V (w.heap.size + 1) zeroR) ∧ (RAt R V q S rd L) ∧ (Below w.heap.size w V)) ⟨⟨HB.out, HT.out, HZ.out⟩, HC.out, HR.out, HA.out.drew, HW.out.drew⟩ ?_
  clear HB HT HZ HC HR HA HW
  rintro U0 ⟨HS, HC, HR, HA, HW⟩
  refine HeldBy.tn (i := 0) rfl HS ?_
  refine HeldBy.tn (i := 1) rfl HS ?_
  refine HeldBy.tn (i := 2) rfl HS ?_
  refine HeldBy.tk (i := 3) (v := .slice (some ⟨gs, 0, none⟩) S.core.snaps.length rd.s.c) rfl (fun V hV => by have hc := hV.1.c2; rw [HGL.out.1, HGL.out.2] at hc; first | (go_simp; rfl) | (go_simp; done)) HS ?_
  refine HeldBy.tn (i := 4) rfl HS ?_
  refine HeldBy.tn (i := 5) rfl HS ?_
  refine HeldBy.tn (i := 6) rfl HS ?_
  refine HeldBy.tk (i := 7) (v := .int .u64 sx.tag) rfl (fun V hV => by have hc := hV.2.1.2; first | (go_simp; rfl) | (go_simp; done)) HS ?_
  refine HeldBy.tn (i := 8) rfl HS ?_
  refine HeldBy.tn (i := 9) rfl HS ?_
  refine HeldBy.tn (i := 10) rfl HS ?_
  refine HeldBy.tk (i := 11) (v := .slice (some ⟨gs, 0, none⟩) S.core.snaps.length rd.s.c) rfl (fun V hV => by have hc := hV.1.c2; rw [HGL.out.1, HGL.out.2] at hc; first | (go_simp; rfl) | (go_simp; done)) HS ?_
  refine HeldBy.tn (i := 12) rfl HS ?_
  refine HeldBy.tn (i := 13) rfl HS ?_
  refine HeldBy.tn (i := 14) rfl HS ?_
  refine HeldBy.tk (i := 15) (v := .int .i64 sx.size) rfl (fun V hV => by have hc := hV.2.2.2; first | (go_simp; rfl) | (go_simp; done)) HS ?_
  refine HeldBy.tn (i := 16) rfl HS ?_
  refine HeldBy.tn (i := 17) rfl HS ?_
  refine wpAnyH_done (by kernel_rfl) ?_ _
  clear HS hlts hfews HGL HSX
  replace HC := Lib.hid HC
  replace HR := Lib.hid HR
  replace HA := Lib.hid HA
  replace HW := Lib.hid HW
  by_cases hsm : c.size < sx.size
  · have HCU : Hid (createC S.core c = (errR 12, S.core)) := by show _ = _; unfold createC; rw [HXO.out]; dsimp only; rw [HZO.out]; dsimp only; rw [HSRC.out]; exact if_pos hsm
    have c3 := HC.out.c3
    go_wp2_with (fail)
    refine (rfailed_any 12 _).mono ?_
    rintro e W6 ⟨rfl, hb6⟩
    obtain ⟨V7, hs7, hb7, -, hl7⟩ := stoR (HR.out.after hb6) (errR 12)
    have HV7 := Lib.hid hb7
    have HX : Hid (RQ R w q (createC S.core c) S.seen (.returned (encR (errR 12))) V7) := rq_sameX HH.out HCU.out (hl7 _ _ (HW.out.trans (hb6.mono HW.out.size)) (Nat.le_succ _)) HRR.out
    clear hb6 hb7 hl7
    go_wp2_with (refine wpList_skip rfl (hs7 rfl rfl rfl) ?_)
    refine bodyPost_ret (v := encR (errR 12)) (results_cell_row rfl _ _ (w.heap.size + 1) 50 (cellsR (errR 12)) (0, 0) _ rfl HV7.out undR rfl sizeR) rfl ?_
    exact HX.out
  have hsm2 : sx.size ≤ c.size := by omega
  have HSM : Hid (sx.size ≤ c.size) := hsm2
  clear hsm
  have hvn := HA.out.box.c1
  have hvl : rd.v.n = S.core.vols.length := (own_view HA.out.vols.1).1.trans hll
  rw [hvl] at hvn
  clear hvl
  by_cases hl : 64 ≤ S.core.vols.length
  · have hl' : (64 : Int) ≤ (S.core.vols.length : Int) := by omega
    have HCU : Hid (createC S.core c = (errR 7, S.core)) := by show _ = _; unfold createC; rw [HXO.out]; dsimp only; rw [HZO.out]; dsimp only; rw [HSRC.out]; dsimp only; rw [if_neg (show ¬ c.size < sx.size by have := HSM.out; omega)]; exact if_pos hl
    have c3 := HC.out.c3
    go_wp2_with (fail)
    refine (rfailed_any 7 _).mono ?_
    rintro e W6 ⟨rfl, hb6⟩
    obtain ⟨V7, hs7, hb7, -, hl7⟩ := stoR (HR.out.after hb6) (errR 7)
    have HV7 := Lib.hid hb7
    have HX : Hid (RQ R w q (createC S.core c) S.seen (.returned (encR (errR 7))) V7) := rq_sameX HH.out HCU.out (hl7 _ _ (HW.out.trans (hb6.mono HW.out.size)) (Nat.le_succ _)) HRR.out
    clear hb6 hb7 hl7
    go_wp2_with (refine wpList_skip rfl (hs7 rfl rfl rfl) ?_)
    refine bodyPost_ret (v := encR (errR 7)) (results_cell_row rfl _ _ (w.heap.size + 1) 50 (cellsR (errR 7)) (0, 0) _ rfl HV7.out undR rfl sizeR) rfl ?_
    exact HX.out
  have hl' : ¬ (64 : Int) ≤ (S.core.vols.length : Int) := by omega
  have hl2 : (S.core.vols.length : Int) < 64 := by omega
  have HL6 : Hid (S.core.vols.length < 64) := by show _ < _; omega
  clear hl
  obtain ⟨gz, curz, k1, k2, k3, k4, k5, k6, k7⟩ := HA.out.zone_at HZZ.out
  have HZL : Hid (rd.z.o = some ⟨gz, 0, none⟩ ∧ rd.z.n = S.core.zones.length) := ⟨k1, k7⟩
  have HZC : Hid (CellX U0 gz (k * 2 + 1) (.int .i64 z.room)) := ⟨(Array.getElem?_eq_some_iff.1 k3).1, k5⟩
  clear k1 k2 k3 k4 k5 k6 k7
  have HB := Lib.hid HA.out.box
  have c3 := HC.out.c3
  go_upto_region 22 with (fail)
  clear c3 hvn
  refine wp_region_held_drew (S := fun V => BoxQ V q rd ∧ CellX V gz (k * 2 + 1) (.int .i64 z.room) ∧ BoxC V w.heap.size c ∧ BoxR V (w.heap.size + 1) zeroR ∧ RAt R V q S rd L ∧ Below w.heap.size w V) (by kernel_rfl) ⟨HB.out, HZC.out, HC.out, HR.out, HA.out.drew, HW.out.drew⟩ (fun _ => ?_)
  refine HeldBy.gen (fun V => BoxQ V q rd ∧ CellX V gz (k * 2 + 1) (.int .i64 z.room) ∧ BoxC V w.heap.size c ∧ BoxR V (w.heap.size + 1) zeroR ∧ RAt R V q S rd L ∧ Below w.heap.size w V) ⟨HB.out, HZC.out, HC.out, HR.out, HA.out.drew, HW.out.drew⟩ ?_
  clear HB HZC HC HR HA HW
  rintro U0 HS
  refine HeldBy.tn (i := 0) rfl HS ?_
  refine HeldBy.tn (i := 1) rfl HS ?_
  refine HeldBy.tn (i := 2) rfl HS ?_
  refine HeldBy.tk (i := 3) (v := .slice (some ⟨gz, 0, none⟩) S.core.zones.length rd.z.c) rfl (fun V hV => by have hc := hV.1.c0; rw [HZL.out.1, HZL.out.2] at hc; first | (go_simp; rfl) | (go_simp; done)) HS ?_
  refine HeldBy.tn (i := 4) rfl HS ?_
  refine HeldBy.tn (i := 5) rfl HS ?_
  refine HeldBy.tn (i := 6) rfl HS ?_
  refine HeldBy.tk (i := 7) (v := .int .i64 z.room) rfl (fun V hV => by have hc := hV.2.1.2; first | (go_simp; rfl) | (go_simp; done)) HS ?_
  refine HeldBy.tn (i := 8) rfl HS ?_
  refine HeldBy.tk (i := 9) (v := .int .i64 c.size) rfl (fun V hV => by have hc := hV.2.2.1.c3; first | (go_simp; rfl) | (go_simp; done)) HS ?_
  refine HeldBy.tn (i := 10) rfl HS ?_
  refine HeldBy.tn (i := 11) rfl HS ?_
  refine wpAnyH_done (by kernel_rfl) ?_ _
  have HB := Lib.hid HS.1
  have HZC := Lib.hid HS.2.1
  have HC := Lib.hid HS.2.2.1
  have HR := Lib.hid HS.2.2.2.1
  have HA := Lib.hid HS.2.2.2.2.1
  have HW := Lib.hid HS.2.2.2.2.2
  clear HS
  by_cases hrm : z.room < c.size
  · have HCU : Hid (createC S.core c = (errR 11, S.core)) := by
      show _ = _
      unfold createC
      rw [HXO.out]
      dsimp only
      rw [HZO.out]
      dsimp only
      rw [HSRC.out]
      dsimp only
      rw [if_neg (show ¬ c.size < sx.size by have := HSM.out; omega), if_neg (show ¬ 64 ≤ S.core.vols.length by have := HL6.out; omega)]
      exact if_pos hrm
    go_wp2_with (fail)
    refine (rfailed_any 11 _).mono ?_
    rintro e W6 ⟨rfl, hb6⟩
    obtain ⟨V7, hs7, hb7, -, hl7⟩ := stoR (HR.out.after hb6) (errR 11)
    have HV7 := Lib.hid hb7
    have HX : Hid (RQ R w q (createC S.core c) S.seen (.returned (encR (errR 11))) V7) := rq_sameX HH.out HCU.out (hl7 _ _ (HW.out.trans (hb6.mono HW.out.size)) (Nat.le_succ _)) HRR.out
    clear hb6 hb7 hl7
    go_wp2_with (refine wpList_skip rfl (hs7 rfl rfl rfl) ?_)
    refine bodyPost_ret (v := encR (errR 11)) (results_cell_row rfl _ _ (w.heap.size + 1) 50 (cellsR (errR 11)) (0, 0) _ rfl HV7.out undR rfl sizeR) rfl ?_
    exact HX.out
  have HCU : Hid (createC S.core c = (⟨0, c.size, c.zone, sx.tag⟩, ⟨S.core.zones.set k ⟨z.name, IntKind.i64.wrap (z.room - c.size)⟩, insV ⟨c.target, c.size, c.zone, sx.tag, []⟩ S.core.vols, S.core.snaps⟩)) := by
    show _ = _
    unfold createC
    rw [HXO.out]
    dsimp only
    rw [HZO.out]
    dsimp only
    rw [HSRC.out]
    dsimp only
    rw [if_neg (show ¬ c.size < sx.size by have := HSM.out; omega), if_neg (show ¬ 64 ≤ S.core.vols.length by have := HL6.out; omega), if_neg hrm, HMZ.out]
  clear _hcs hsm2 hl' hl2
  go_upto_region 24 with (fail)
  clear hrm
  refine wp_region_held_drew (S := fun V => BoxQ V q rd ∧ BoxC V w.heap.size c) (by kernel_rfl) ⟨HB.out, HC.out⟩ (fun _ => ?_)
  refine HeldBy.gen (fun V => (BoxQ V q rd ∧ BoxC V w.heap.size c) ∧ (CellX V gz (k * 2 + 1) (.int .i64 z.room)) ∧ (BoxR V (w.heap.size + 1) zeroR) ∧ (RAt R V q S rd L) ∧ (Below w.heap.size w V)) ⟨⟨HB.out, HC.out⟩, HZC.out, HR.out, HA.out.drew, HW.out.drew⟩ ?_
  clear HB HC HZC HR HA HW
  rintro U0 ⟨HS, HZC, HR, HA, HW⟩
  refine HeldBy.tn (i := 0) rfl HS ?_
  refine HeldBy.tn (i := 1) rfl HS ?_
  refine HeldBy.tn (i := 2) rfl HS ?_
  refine HeldBy.tk (i := 3) (v := .slice (some ⟨gz, 0, none⟩) S.core.zones.length rd.z.c) rfl (fun V hV => by have hc := hV.1.c0; rw [HZL.out.1, HZL.out.2] at hc; first | (go_simp; rfl) | (go_simp; done)) HS ?_
  refine HeldBy.tn (i := 4) rfl HS ?_
  refine HeldBy.tn (i := 5) rfl HS ?_
  refine HeldBy.tn (i := 6) rfl HS ?_
  refine HeldBy.tn (i := 8) rfl HS ?_
  refine HeldBy.tk (i := 9) (v := .int .i64 c.size) rfl (fun V hV => by have hc := hV.2.c3; first | (go_simp; rfl) | (go_simp; done)) HS ?_
  have hzc := HZC.2
  refine HeldBy.value (i := 7) (v := .int .i64 z.room) rfl (by kernel_rfl) (by rfl) (by first | (go_simp; rfl) | (go_simp; done)) (by first | (go_simp; rfl) | (go_simp; done)) HS ?_
  refine HeldBy.tk (i := 10) (v := .int .i64 (IntKind.i64.wrap (z.room - c.size))) rfl (fun _ _ => by first | (go_simp; rfl) | (go_simp; done)) HS ?_
  refine HeldBy.tn (i := 11) rfl HS ?_
  refine HeldBy.tn (i := 12) rfl HS ?_
  clear hzc
  obtain ⟨gz', curz', p1, p2, p3, -, p5, -, p7⟩ := HA.zone_at HZZ.out
  rw [HZL.out.1] at p1
  cases p1
  have hc9 := p5
  have hf9 : U0.frozen? ⟨gz, k * 2 + 1, none⟩ = false := frozen_of_row U0 gz (k * 2 + 1) _ _ p3
  have hA2 := HA.zone_set HZZ.out (IntKind.i64.wrap (z.room - c.size)) HZL.out.1 p3
  obtain ⟨V8, hV8⟩ : ∃ V8, U0.setCell ⟨gz, k * 2 + 1, none⟩ (.int .i64 (IntKind.i64.wrap (z.room - c.size))) = V8 := ⟨_, rfl⟩
  have hst : ∀ {oi : Oper} {a : Act} {p r : Operand}, oi.op = .store 2 p r → a.eval p = .pointer (some ⟨gz, k * 2 + 1, none⟩) → a.eval r = .int .i64 (IntKind.i64.wrap (z.room - c.size)) → (execOp a.eval oi).run Try.prog U0 = .ok .skip V8 := fun ho h1 h2 => by
    rw [← hV8]
    unfold execOp
    simp only [ho, h1, h2]
    first | (go_simp; rfl) | (go_simp; done)
  have ho8 : ∀ b, b ≠ gz → V8.heap[b]? = U0.heap[b]? := fun b hb => by rw [← hV8]; exact heap_setCell_other _ ⟨gz, k * 2 + 1, none⟩ b _ hb
  have hqz : q ≠ gz := kind_neF HS.1 p3 (by decide)
  have hcz : w.heap.size ≠ gz := kind_neF HS.2 p3 (by decide)
  have hrz : w.heap.size + 1 ≠ gz := kind_neF HR p3 (by decide)
  have hS8 : BoxQ V8 q rd ∧ BoxC V8 w.heap.size c := ⟨(ho8 q hqz).trans HS.1, (ho8 _ hcz).trans HS.2⟩
  refine HeldBy.store (i := 13) (w' := V8) rfl (by kernel_rfl) (by rfl) (hst rfl rfl rfl) (by first | (go_simp; rfl) | (go_simp; done)) hS8 ?_
  refine wpAnyH_done (by kernel_rfl) ?_ _
  rw [hV8] at hA2
  have hD8 : DocStay R w V8 := by
    rw [← hV8]
    exact (DocStay.of_below HW HRR.out).set p2 ⟨_, _, _, p3, .inr (.inl rfl)⟩
  have hsz8 : w.heap.size ≤ V8.heap.size := by
    rw [← hV8]
    exact Nat.le_trans HW.size (by simp)
  obtain ⟨S2, hS2⟩ : ∃ S2 : St, S2 = ⟨⟨S.core.zones.set k ⟨z.name, IntKind.i64.wrap (z.room - c.size)⟩, S.core.vols, S.core.snaps⟩, S.seen⟩ := ⟨_, rfl⟩
  rw [← hS2] at hA2
  have HS2 : Hid (S2.seen = S.seen ∧ S2.core.vols = S.core.vols ∧ S2.core.snaps = S.core.snaps ∧ S2.core.zones = S.core.zones.set k ⟨z.name, IntKind.i64.wrap (z.room - c.size)⟩) := by
    show _ ∧ _
    rw [hS2]
    exact ⟨rfl, rfl, rfl, rfl⟩
  have hc8 := hS8.2
  have k1 := hc8.c1
  have k3 := hc8.c3
  have k4 := hc8.c4
  obtain ⟨V5, sb, bb, lb⟩ := boxY V8 zeroY rfl (⟨c.target, c.size, c.zone, sx.tag, []⟩, nilS)
  have HA5 := Lib.hid (hA2.after lb)
  have HR5 : Hid (BoxR V5 (w.heap.size + 1) zeroR) := BoxR.after ((ho8 _ hrz).trans HR) lb
  have HC5 := Lib.hid (hc8.after lb)
  have HD5 : Hid (DocStay R w V5) := hD8.after lb HRR.out
  have HX5 := Lib.hid bb
  have HP5 : Hid (w.heap.size ≤ V5.heap.size) := by have := lb.size; show _ ≤ _; omega
  clear p2 p3 p5 p7 hc9 hf9 hst hA2 ho8 hqz hcz hrz hS8 hD8 hsz8 hS2 HS HR HW HA hV8 HZC HZZ HMZ HZO HXO HSM HZL bb lb hc8
  go_wp2_with (first | ((with_reducible refine wpList_build_to rfl 58 _ rfl (cellsY (⟨c.target, c.size, c.zone, sx.tag, []⟩, nilS)) ?_ ?_); exact built_dv4 _ _ _ _) | (refine wpList_skip rfl (sb rfl rfl rfl) ?_))
  clear sb k1 k3 k4
  obtain ⟨y, hy⟩ : ∃ y : DVS, y = (⟨c.target, c.size, c.zone, sx.tag, []⟩, nilS) := ⟨_, rfl⟩
  rw [← hy] at HX5
  have HY : Hid (y.1 = ⟨c.target, c.size, c.zone, sx.tag, []⟩ ∧ y.2 = nilS) := by
    show _ ∧ _
    rw [hy]
    exact ⟨rfl, rfl⟩
  clear hy
  go_loopw [13, 14, 15] (fun lv pv iv wr => ∃ (j : Nat) (o : List DVS) (b : Bool) (ov : Value), iv = .int .i64 (j : Int) ∧ pv = .bool b ∧ ov = lv ∧ j ≤ L.length ∧ (L.take j).foldl (stepG (fun z => Op.bytesLess y.1.name.toList z.1.name.toList) y) ([], false) = (o, b) ∧ wr.ownsRow V5.heap.size 58 5 ov o.length (catW o) ∧ Below V5.heap.size V5 wr) (fun _ _ iv _ => L.length - (RowKit.intOf iv).toNat)
  case atStart => exact ⟨0, [], false, _, rfl, rfl, rfl, Nat.zero_le _, rfl, own_none _ _ _ _, Below.refl _ _⟩
  case round =>
    obtain ⟨j, o, b, ov, rfl, rfl, rfl, hj, hq, hown, hlow⟩ := hrel
    have HO := Lib.hid hown
    have HLW := Lib.hid hlow
    have HQ := Lib.hid hq
    have hLf : L.length ≤ 64 := by rw [HLL.out]; exact hfew
    have HLN : Hid (o.length ≤ 200) := by
      have h1 := foldG_len (fun z : DVS => Op.bytesLess y.1.name.toList z.1.name.toList) y (L.take j) ([], false)
      rw [hq, List.length_take] at h1
      have h2 : o.length ≤ 0 + 2 * min j L.length := h1
      show o.length ≤ 200
      omega
    have HAW := Lib.hid (HA5.out.after hlow)
    have HXW := Lib.hid (HX5.out.after hlow)
    have c1 := HAW.out.box.c1
    have hsn : rd.v.n = L.length := (own_view HAW.out.vols.1).1
    rw [hsn] at c1
    have HSN := Lib.hid hsn
    clear hown hlow hq hsn
    by_cases hlj : j < L.length
    · have hlj' : (j : Int) < (L.length : Int) := by omega
      obtain ⟨t, ht⟩ : ∃ t, L[j]? = some t := ⟨_, List.getElem?_eq_getElem hlj⟩
      obtain ⟨gs, cur2, k1, -, k3, k4⟩ := HAW.out.vol_at2 ht
      have HGS := Lib.hid k1
      have HT := Lib.hid ((foldG_next (lt := fun z : DVS => Op.bytesLess y.1.name.toList z.1.name.toList) (x := y) ht).trans (by rw [HQ.out]))
      have hgl2 := (Array.getElem?_eq_some_iff.1 k3).1
      have HN0 : Hid (CellAt wr gs (j * 5) (.string t.1.name)) := ⟨hgl2, k4 0 _ rfl⟩
      have HZR : Hid (∀ V, Below V5.heap.size V5 V → World.rangeAt V gs (j * 5) (cellsDV t.1 t.2).toList) := fun V hb => by
        obtain ⟨g', _, q1, -, -, q4⟩ := (HA5.out.after hb).vol_at2 ht
        rw [HGS.out] at q1
        cases q1
        exact q4
      rw [k1] at c1
      have HBX := Lib.hid HAW.out.box
      clear k1 k3 k4 hgl2 ht HQ
      have keep : Hid (∀ (W' : World) (v' : Value) (b' : Bool) (o' : List DVS), stepG (fun z : DVS => Op.bytesLess y.1.name.toList z.1.name.toList) y (o, b) t = (o', b') → W'.ownsRow V5.heap.size 58 5 v' o'.length (catW o') → Below V5.heap.size V5 W' → ∃ (j' : Nat) (o : List DVS) (b : Bool) (ov : Value), (Value.int .i64 ((j : Int) + 1)) = .int .i64 (j' : Int) ∧ (Value.bool b') = .bool b ∧ ov = v' ∧ j' ≤ L.length ∧ (L.take j').foldl (stepG (fun z => Op.bytesLess y.1.name.toList z.1.name.toList) y) ([], false) = (o, b) ∧ W'.ownsRow V5.heap.size 58 5 ov o.length (catW o) ∧ Below V5.heap.size V5 W') := fun W' v' b' o' h1 h2 h3 => ⟨j + 1, o', b', v', by go_num, rfl, rfl, by omega, HT.out.trans h1, h2, h3⟩
      cases b with
      | true =>
        go_upto_region 31 with (fail)
        clear c1
        refine wp_region_held_drew (S := fun V => Below V5.heap.size V5 V) (by kernel_rfl) HLW.out.drew (fun _ => ?_)
        refine HeldBy.gen (fun V => (Below V5.heap.size V5 V) ∧ (V.ownsRow V5.heap.size 58 5 ov o.length (catW o)) ∧ (BoxQ V q rd)) ⟨HLW.out.drew, HO.out, HBX.out⟩ ?_
        clear HLW HO HBX
        rintro U0 ⟨HS, HO, HBX⟩
        refine HeldBy.tn (i := 0) rfl HS ?_
        refine HeldBy.tn (i := 1) rfl HS ?_
        refine HeldBy.tn (i := 2) rfl HS ?_
        refine HeldBy.skip (i := 3) rfl (by kernel_rfl) (by kernel_rfl) (by kernel_rfl) (fun _ _ _ h => h) (by rfl) (by go_simp; rfl) HS ?_
        refine HeldBy.skip (i := 4) rfl (by kernel_rfl) (by kernel_rfl) (by kernel_rfl) (fun _ _ _ h => h) (by rfl) (by go_simp; rfl) HS ?_
        refine HeldBy.skip (i := 5) rfl (by kernel_rfl) (by kernel_rfl) (by kernel_rfl) (fun _ _ _ h => h) (by rfl) (by go_simp; rfl) HS ?_
        refine HeldBy.skip (i := 6) rfl (by kernel_rfl) (by kernel_rfl) (by kernel_rfl) (fun _ _ _ h => h) (by rfl) (by go_simp; rfl) HS ?_
        refine HeldBy.skip (i := 7) rfl (by kernel_rfl) (by kernel_rfl) (by kernel_rfl) (fun _ _ _ h => h) (by rfl) (by go_simp; rfl) HS ?_
        refine HeldBy.skip (i := 8) rfl (by kernel_rfl) (by kernel_rfl) (by kernel_rfl) (fun _ _ _ h => h) (by rfl) (by go_simp; rfl) HS ?_
        refine HeldBy.skip (i := 9) rfl (by kernel_rfl) (by kernel_rfl) (by kernel_rfl) (fun _ _ _ h => h) (by rfl) (by go_simp; rfl) HS ?_
        refine HeldBy.skip (i := 10) rfl (by kernel_rfl) (by kernel_rfl) (by kernel_rfl) (fun _ _ _ h => h) (by rfl) (by go_simp; rfl) HS ?_
        refine HeldBy.skip (i := 11) rfl (by kernel_rfl) (by kernel_rfl) (by kernel_rfl) (fun _ _ _ h => h) (by rfl) (by go_simp; rfl) HS ?_
        refine HeldBy.skip (i := 12) rfl (by kernel_rfl) (by kernel_rfl) (by kernel_rfl) (fun _ _ _ h => h) (by rfl) (by go_simp; rfl) HS ?_
        refine HeldBy.skip (i := 13) rfl (by kernel_rfl) (by kernel_rfl) (by kernel_rfl) (fun _ _ _ h => h) (by rfl) (by go_simp; rfl) HS ?_
        refine HeldBy.tn (i := 14) rfl HS ?_
        refine wpAnyH_done (by kernel_rfl) ?_ _
        have HLW := Lib.hid HS
        replace HO := Lib.hid HO
        have c1 := HBX.c1
        rw [HSN.out, HGS.out] at c1
        have hzr := HZR.out U0 HS
        obtain ⟨v', W', hrun, hown2, hb2⟩ := add_vol V5.heap.size U0 ov o t HO.out HS.size (by have := HLN.out; omega)
        have HRUN := Lib.hid hrun
        have HSL := Lib.hid (run_y1 U0 t)
        have HN := Lib.hid (keep.out W' v' true (o ++ [t]) (by unfold stepG; simp) hown2 (HS.trans hb2))
        clear hrun hown2 hb2 HS
        go_wp2_with (first | (refine wpList_got rfl (loadY_at hzr rfl rfl) ?_) | (refine wpList_got rfl (exec_slice0 HSL.out rfl rfl) ?_) | ((with_reducible refine wpList_app rfl rfl HRUN.out ?_ ?_ ?_); rfl; rfl))
        go_roundw
        case rel => exact HN.out
        case measure => simp [RowKit.intOf]; omega
      | false =>
        obtain ⟨m, hm⟩ : ∃ m, Op.bytesLess y.1.name.toList t.1.name.toList = m := ⟨_, rfl⟩
        have HM := Lib.hid hm
        clear hm
        go_upto_region 31 with (fail)
        clear c1
        refine wp_region_held_drew (S := fun V => Below V5.heap.size V5 V ∧ BoxQ V q rd ∧ BoxY V V8.heap.size y ∧ CellAt V gs (j * 5) (.string t.1.name)) (by kernel_rfl) ⟨HLW.out.drew, HBX.out, HXW.out, HN0.out⟩ (fun _ => ?_)
        refine HeldBy.gen (fun V => (Below V5.heap.size V5 V ∧ BoxQ V q rd ∧ BoxY V V8.heap.size y ∧ CellAt V gs (j * 5) (.string t.1.name)) ∧ (V.ownsRow V5.heap.size 58 5 ov o.length (catW o))) ⟨⟨HLW.out.drew, HBX.out, HXW.out, HN0.out⟩, HO.out⟩ ?_
        clear HLW HBX HXW HN0 HO
        rintro U0 ⟨HS, HO⟩
        refine HeldBy.tn (i := 0) rfl HS ?_
        refine HeldBy.tn (i := 1) rfl HS ?_
        refine HeldBy.tn (i := 2) rfl HS ?_
        refine HeldBy.tn (i := 3) rfl HS ?_
        refine HeldBy.tk (i := 4) rfl (fun V hV => by have hc := hV.2.2.1.c0; first | (go_simp; rfl) | (go_simp; done)) HS ?_
        refine HeldBy.tn (i := 5) rfl HS ?_
        refine HeldBy.tn (i := 6) rfl HS ?_
        refine HeldBy.tn (i := 7) rfl HS ?_
        refine HeldBy.tk (i := 8) (v := .slice (some ⟨gs, 0, none⟩) L.length rd.v.c) rfl (fun V hV => by have hc := hV.2.1.c1; rw [HSN.out, HGS.out] at hc; first | (go_simp; rfl) | (go_simp; done)) HS ?_
        refine HeldBy.tn (i := 9) rfl HS ?_
        refine HeldBy.tn (i := 10) rfl HS ?_
        refine HeldBy.tn (i := 11) rfl HS ?_
        refine HeldBy.tk (i := 12) (v := .string t.1.name) rfl (fun V hV => by have hc := hV.2.2.2.2; first | (go_simp; rfl) | (go_simp; done)) HS ?_
        refine HeldBy.tk (i := 13) (v := .bool m) rfl (fun _ _ => exec_lss_str rfl rfl rfl HM.out) HS ?_
        refine HeldBy.tn (i := 14) rfl HS ?_
        refine wpAnyH_done (by kernel_rfl) ?_ _
        have HLW := Lib.hid HS.1
        have c1 := HS.2.1.c1
        rw [HSN.out, HGS.out] at c1
        have hxw := HS.2.2.1
        cases m with
        | true =>
          obtain ⟨v1, W1, hrun1, hown1, hb1⟩ := add_vol V5.heap.size U0 ov o y HO HS.1.size (by have := HLN.out; omega)
          have hw1 := HS.1.trans hb1
          have hzr := HZR.out W1 hw1
          have c2b : W1.cell? ⟨q, 1, none⟩ = some (.slice (some ⟨gs, 0, none⟩) L.length rd.v.c) := by
            have h := (HA5.out.after hw1).box.c1
            rw [HSN.out, HGS.out] at h
            exact h
          obtain ⟨v2, W2, hrun2, hown2, hb2⟩ := add_vol V5.heap.size W1 v1 (o ++ [y]) t hown1 hw1.size (by rw [List.length_append]; have := HLN.out; show o.length + 1 < _; omega)
          have HRUN1 := Lib.hid hrun1
          have HRUN2 := Lib.hid hrun2
          have HSL1 := Lib.hid (run_y1 U0 y)
          have HSL2 := Lib.hid (run_y1 W1 t)
          have HN := Lib.hid (keep.out W2 v2 true (o ++ [y] ++ [t]) (by unfold stepG; simp [HM.out]) hown2 (hw1.trans hb2))
          clear hrun1 hown1 hb1 hw1 hrun2 hown2 hb2 HS HO
          go_wp2_with (first | (refine wpList_got rfl (loadY hxw rfl rfl) ?_) | (refine wpList_got rfl (loadY_at hzr rfl rfl) ?_) | (refine wpList_got rfl (exec_slice0 HSL1.out rfl rfl) ?_) | ((with_reducible refine wpList_app rfl rfl HRUN1.out ?_ ?_ ?_); rfl; rfl) | (refine wpList_got rfl (exec_slice0 HSL2.out rfl rfl) ?_) | ((with_reducible refine wpList_app rfl rfl HRUN2.out ?_ ?_ ?_); rfl; rfl))
          go_roundw
          case rel => exact HN.out
          case measure => simp [RowKit.intOf]; omega
        | false =>
          have hzr := HZR.out U0 HS.1
          obtain ⟨v', W', hrun, hown2, hb2⟩ := add_vol V5.heap.size U0 ov o t HO HS.1.size (by have := HLN.out; omega)
          have HRUN := Lib.hid hrun
          have HSL := Lib.hid (run_y1 U0 t)
          have HN := Lib.hid (keep.out W' v' false (o ++ [t]) (by unfold stepG; simp [HM.out]) hown2 (HS.1.trans hb2))
          clear hrun hown2 hb2 HS HO
          go_wp2_with (first | (refine wpList_got rfl (loadY_at hzr rfl rfl) ?_) | (refine wpList_got rfl (exec_slice0 HSL.out rfl rfl) ?_) | ((with_reducible refine wpList_app rfl rfl HRUN.out ?_ ?_ ?_); rfl; rfl))
          go_roundw
          case rel => exact HN.out
          case measure => simp [RowKit.intOf]; omega
    · have hlj' : ¬ (j : Int) < (L.length : Int) := by omega
      have hE : j = L.length := by omega
      rw [hE, List.take_length] at HQ
      have hfin := fold_insP y L []
      rw [HQ.out, List.nil_append] at hfin
      have HFIN : Hid ((o ++ if b then [] else [y]) = insP y L) := hfin
      clear hfin HQ hE
      have last : Hid (∀ (V : World) (sl : Sl), V.ownsRow V5.heap.size 58 5 (encSl sl) (insP y L).length (catW (insP y L)) → Below V5.heap.size V5 V → ∃ V9, (∀ {oi : Oper} {a : Act} {p q' : Operand}, oi.op = .store 50 p q' → a.eval p = .pointer (some ⟨w.heap.size + 1, 0, none⟩) → a.eval q' = encR ⟨0, c.size, c.zone, sx.tag⟩ → (execOp a.eval oi).run Try.prog (V.setCell ⟨q, 1, none⟩ (.slice sl.o sl.n sl.c)) = .ok .skip V9) ∧ BoxR V9 (w.heap.size + 1) ⟨0, c.size, c.zone, sx.tag⟩ ∧ RQ R w q (createC S.core c) S.seen (.returned (encR ⟨0, c.size, c.zone, sx.tag⟩)) V9 ∧ BoxC (V.setCell ⟨q, 1, none⟩ (.slice sl.o sl.n sl.c)) w.heap.size c) := fun V sl h1 h2 => by
        have hRW : R ≤ V5.heap.size := by have := HRR.out; have := HP5.out; omega
        have hav := HA5.out.after h2
        have h3 : VOwn V R sl (insP y L) := ⟨⟨h1.1, by
          rcases h1.2 with h4 | ⟨g', cap, cu, h4, h5, h6⟩
          · exact .inl h4
          · exact .inr ⟨g', cap, cu, h4, by omega, h6⟩⟩, fun p hp => by
            rcases insP_mem hp with h5 | h5
            · rw [h5, HY.out.1, HY.out.2]
              exact ⟨rfl, .inl rfl⟩
            · exact hav.vols.2 p h5⟩
        have h4 := hav.vols_new h3 (by rw [insP_length, HLL.out]; have := HL6.out; omega)
        rw [insP_map, hav.told, HY.out.1, HS2.out.1, HS2.out.2.1, HS2.out.2.2.1, HS2.out.2.2.2] at h4
        have hrv : BoxR V (w.heap.size + 1) zeroR := HR5.out.after h2
        have hr4 : BoxR (V.setCell ⟨q, 1, none⟩ (.slice sl.o sl.n sl.c)) (w.heap.size + 1) zeroR := (heap_setCell_other _ ⟨q, 1, none⟩ _ _ (kind_neF hrv hav.box (by decide))).trans hrv
        obtain ⟨V9, sr, br, or, lr⟩ := stoR hr4 ⟨0, c.size, c.zone, sx.tag⟩
        have hds : DocStay R w V := HD5.out.after h2 HRR.out
        refine ⟨V9, sr, br, ⟨by rw [HCU.out], ⟨⟨rd.z, sl, rd.s, rd.d⟩, insP y L, ?_⟩, (hds.set hav.low hav.box.soft).sto or lr (Nat.le_succ _) HRR.out⟩, (heap_setCell_other _ ⟨q, 1, none⟩ _ _ (kind_neF (HC5.out.after h2) hav.box (by decide))).trans (HC5.out.after h2)⟩
        rw [HCU.out]
        exact h4.keep hr4 (by decide) or
      cases b with
      | true =>
        obtain ⟨sl, hsl, -⟩ := own_sl HO.out
        have hfin := HFIN.out
        simp only [if_true, List.append_nil] at hfin
        have ho := HO.out
        rw [hsl, hfin] at ho
        obtain ⟨V9, sr, br, hrq, hbx⟩ := last.out wr sl ho HLW.out
        have f2 := HAW.out.box.free 1
        have HBR := Lib.hid br
        have HX := Lib.hid hrq
        have x3 := hbx.c3
        have x4 := hbx.c4
        rw [hsl]
        clear hsl hfin ho br hrq hbx last HO HFIN
        go_wp2_with (first | ((with_reducible refine wpList_build_to rfl 50 _ rfl (cellsR ⟨0, c.size, c.zone, sx.tag⟩) ?_ ?_); exact built_rm _ _ _) | (refine wpList_skip rfl (sr rfl rfl rfl) ?_))
        refine bodyPost_ret (v := encR ⟨0, c.size, c.zone, sx.tag⟩) (results_cell_row rfl _ _ (w.heap.size + 1) 50 (cellsR ⟨0, c.size, c.zone, sx.tag⟩) (0, 0) _ rfl HBR.out undR rfl sizeR) rfl ?_
        exact HX.out
      | false =>
        obtain ⟨v', W', hrun, hown2, hb2⟩ := add_vol V5.heap.size wr ov o y HO.out HLW.out.size (by have := HLN.out; omega)
        obtain ⟨sl, hsl, -⟩ := own_sl hown2
        have hfin : o ++ [y] = insP y L := HFIN.out
        rw [hsl, hfin] at hown2
        rw [hsl] at hrun
        change (Builtin.append_ _ _ _).run Try.prog _ = .ok (.slice sl.o sl.n sl.c) W' at hrun
        have hlw2 := HLW.out.trans hb2
        obtain ⟨V9, sr, br, hrq, hbx⟩ := last.out W' sl hown2 hlw2
        have hq2 := (HA5.out.after hlw2).box
        have c2b := hq2.c1
        have f2 := hq2.free 1
        have HBR := Lib.hid br
        have HX := Lib.hid hrq
        have x3 := hbx.c3
        have x4 := hbx.c4
        have hxw := HXW.out
        have HRUN := Lib.hid hrun
        have HSL := Lib.hid (run_y1 wr y)
        clear hsl hfin hown2 hrun hb2 hlw2 hq2 br hrq hbx last HO HFIN
        go_wp2_with (first | (refine wpList_got rfl (loadY hxw rfl rfl) ?_) | (refine wpList_got rfl (exec_slice0 HSL.out rfl rfl) ?_) | ((with_reducible refine wpList_app rfl rfl HRUN.out ?_ ?_ ?_); rfl; rfl) | ((with_reducible refine wpList_build_to rfl 50 _ rfl (cellsR ⟨0, c.size, c.zone, sx.tag⟩) ?_ ?_); exact built_rm _ _ _) | (refine wpList_skip rfl (sr rfl rfl rfl) ?_))
        refine bodyPost_ret (v := encR ⟨0, c.size, c.zone, sx.tag⟩) (results_cell_row rfl _ _ (w.heap.size + 1) 50 (cellsR ⟨0, c.size, c.zone, sx.tag⟩) (0, 0) _ rfl HBR.out undR rfl sizeR) rfl ?_
        exact HX.out
end
end Go.Proofs.Ytbgfccanbgpjiaa.O.I
