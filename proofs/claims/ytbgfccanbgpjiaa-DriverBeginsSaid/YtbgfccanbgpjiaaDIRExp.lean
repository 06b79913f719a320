/- Own work. -/
import Derived.Test.YtbgfccanbgpjiaaDJIRWith
namespace Go.Proofs.Ytbgfccanbgpjiaa.O.I
open Go Go.RowKit Go.Lib KM
attribute [local go_sem] Oper.semAt_some
theorem cell_sameX {W V : World} {g i : Nat} (h : V.heap[g]? = W.heap[g]?) : V.cell? ⟨g, i, none⟩ = W.cell? ⟨g, i, none⟩ := by
  unfold World.cell?
  rw [h]
def CellX (W : World) (g i : Nat) (v : Value) : Prop := g < W.heap.size ∧ W.cell? ⟨g, i, none⟩ = some v
theorem CellX.after {W V : World} {g i : Nat} {v : Value} (h : CellX W g i v) (hb : Below W.heap.size W V) : CellX V g i v := ⟨Nat.lt_of_lt_of_le h.1 hb.size, (cell_sameX (hb.block g h.1)).trans h.2⟩
theorem DocStay.drew {R : Nat} {W V : World} (h : DocStay R W V) : DocStay R W V.drew := ⟨h.1.drew, fun g hg hs => h.2 g hg hs⟩
theorem built_rsz (n : Int) : Try.prog.built 50 [(1, .int .i64 n)] = some (cellsR ⟨0, n, E0, 0⟩) := by kernel_rfl
section
variable {R : Nat} {w : World} {q : Nat} {S : St} {rd : Rd} {L : List (DV × Sl)}
theorem rq_sameX {V : World} {r : Rs} {res : Rs × Core} (h : RAt R w q S rd L) (hres : res = (r, S.core)) (hb : Below w.heap.size w V) (hR : R ≤ w.heap.size) : RQ R w q res S.seen (.returned (encR r)) V := by
  subst hres
  exact ⟨rfl, ⟨rd, L, h.after hb⟩, DocStay.of_below hb hR⟩
variable (h : RAt R w q S rd L) (hR : R ≤ w.heap.size) (c : Cl)
include h hR
set_option maxRecDepth 100000 in
set_option maxHeartbeats 4000000 in
theorem rexpand_none (hx : volOf S.core.vols c.target = none) : Calls Try.prog 92 #[.pointer (some ⟨q, 0, none⟩), .int .i64 (-1), encC c] w (RQ R w q (expandC S.core c.target c.size) S.seen) := by
  have HH := Lib.hid h
  have HRR := Lib.hid hR
  have HCU : Hid (expandC S.core c.target c.size = (errR 5, S.core)) := by show _ = _; unfold expandC; rw [hx]
  clear h hR hx
  rw [show encC c = .agg (cellsC c) from rfl]
  go_enter Try.func92, Try.ntmps92
  go_upto_region 1 with (fail)
  refine wp_gen (fun V => BoxR V (w.heap.size + 1) zeroR ∧ Below w.heap.size w V) ⟨(heap2 w _ _).2, below2 w _ _⟩ ?_
  rintro V1 ⟨hr1, hw1⟩
  have HR := Lib.hid hr1
  have HW := Lib.hid hw1
  clear hr1 hw1
  go_wp2_with (fail)
  refine (rfailed_any 5 _).mono ?_
  rintro e W6 ⟨rfl, hb6⟩
  obtain ⟨V7, hs7, hb7, -, hl7⟩ := stoR (HR.out.after hb6) (errR 5)
  have HV7 := Lib.hid hb7
  have HX : Hid (RQ R w q (expandC S.core c.target c.size) S.seen (.returned (encR (errR 5))) V7) := rq_sameX HH.out HCU.out (hl7 _ _ (HW.out.trans (hb6.mono HW.out.size)) (Nat.le_succ _)) HRR.out
  clear hb6 hb7 hl7
  go_wp2_with (refine wpList_skip rfl (hs7 rfl rfl rfl) ?_)
  refine bodyPost_ret (v := encR (errR 5)) (results_cell_row rfl _ _ (w.heap.size + 1) 50 (cellsR (errR 5)) (0, 0) _ rfl HV7.out undR rfl sizeR) rfl ?_
  exact HX.out
set_option maxRecDepth 100000 in
set_option maxHeartbeats 16000000 in
theorem rexpand_some (i : Nat) (x : DV) (hx : S.core.vols[i]? = some x) (hp : x.name = c.target) (hn : ∀ j y, j < i → S.core.vols[j]? = some y → decide (y.name = c.target) = false) (hzn : ∃ z, zoneOf S.core.zones x.zone = some z) (_hsz : 0 ≤ x.size ∧ x.size ≤ 1125899906842624) (hcs : 0 ≤ c.size ∧ c.size ≤ 1125899906842624) :
    Calls Try.prog 92 #[.pointer (some ⟨q, 0, none⟩), .int .i64 (i : Int), encC c] w (RQ R w q (expandC S.core c.target c.size) S.seen) := by
  have HH := Lib.hid h
  have HRR := Lib.hid hR
  have hxo : volOf S.core.vols c.target = some x := found_find hx (by simpa using hp) hn
  have HXO := Lib.hid hxo
  have HMV := Lib.hid (modV_set (f := fun y : DV => ⟨y.name, c.size, y.zone, y.tag, y.nodes⟩) hx hp hn)
  obtain ⟨g, cur, s, hL, h1, h2, h3, h4, h5, h6, h7⟩ := h.vol_at hx
  have hgl := (Array.getElem?_eq_some_iff.1 h3).1
  have hlt : (i : Int) < (S.core.vols.length : Int) := by omega
  have HSL : Hid (rd.v.o = some ⟨g, 0, none⟩ ∧ rd.v.n = S.core.vols.length) := ⟨h1, h7⟩
  have HL := Lib.hid hL
  have HXX := Lib.hid hx
  have HST := Lib.hid h5
  have HGR := Lib.hid h2
  have HS1 : Hid (CellX w g (i * 5 + 1) (.int .i64 x.size)) := ⟨hgl, h4 1 _ rfl⟩
  have HS2 : Hid (CellX w g (i * 5 + 2) (.string x.zone)) := ⟨hgl, h4 2 _ rfl⟩
  have HKC := Lib.hid h3
  have hfew : S.core.vols.length ≤ 64 := h.few.2.1
  have hfewz : S.core.zones.length ≤ 16 := h.few.1
  clear h hR hx hp hn hxo h1 h2 h3 h4 h5 h6 h7 hL hgl
  rw [show encC c = .agg (cellsC c) from rfl]
  go_enter Try.func92, Try.ntmps92
  go_upto_region 1 with (fail)
  refine wp_gen (fun V => BoxC V w.heap.size c ∧ BoxR V (w.heap.size + 1) zeroR ∧ Below w.heap.size w V) ⟨(heap2 w _ _).1, (heap2 w _ _).2, below2 w _ _⟩ ?_
  rintro V1 ⟨hc1, hr1, hw1⟩
  have HC := Lib.hid hc1
  have HR := Lib.hid hr1
  have HW := Lib.hid hw1
  have HB := Lib.hid (HH.out.after hw1).box
  replace HS1 := Lib.hid (HS1.out.after hw1)
  replace HS2 := Lib.hid (HS2.out.after hw1)
  clear hc1 hr1 hw1
  go_upto_region 3 with (fail)
  refine wp_region_held_drew (S := fun V => BoxQ V q rd ∧ CellX V g (i * 5 + 1) (.int .i64 x.size) ∧ CellX V g (i * 5 + 2) (.string x.zone) ∧ BoxC V w.heap.size c ∧ BoxR V (w.heap.size + 1) zeroR ∧ Below w.heap.size w V) (by kernel_rfl) ⟨HB.out, HS1.out, HS2.out, HC.out, HR.out, HW.out.drew⟩ (fun _ => ?_)
  refine HeldBy.gen (fun V => BoxQ V q rd ∧ CellX V g (i * 5 + 1) (.int .i64 x.size) ∧ CellX V g (i * 5 + 2) (.string x.zone) ∧ BoxC V w.heap.size c ∧ BoxR V (w.heap.size + 1) zeroR ∧ Below w.heap.size w V) ⟨HB.out, HS1.out, HS2.out, HC.out, HR.out, HW.out.drew⟩ ?_
  clear HB HS1 HS2 HC HR HW
  rintro U0 HS
  refine HeldBy.tn (i := 0) rfl HS ?_
  refine HeldBy.tn (i := 1) rfl HS ?_
  refine HeldBy.tn (i := 2) rfl HS ?_
  refine HeldBy.tk (i := 3) (v := .slice (some ⟨g, 0, none⟩) S.core.vols.length rd.v.c) rfl (fun V hV => by have hc := hV.1.c1; rw [HSL.out.1, HSL.out.2] at hc; first | (go_simp; rfl) | (go_simp; done)) HS ?_
  refine HeldBy.tn (i := 4) rfl HS ?_
  refine HeldBy.tn (i := 5) rfl HS ?_
  refine HeldBy.tn (i := 6) rfl HS ?_
  refine HeldBy.tk (i := 7) (v := .int .i64 x.size) rfl (fun V hV => by have hc := hV.2.1.2; first | (go_simp; rfl) | (go_simp; done)) HS ?_
  refine HeldBy.tn (i := 8) rfl HS ?_
  refine HeldBy.tk (i := 9) (v := .int .i64 c.size) rfl (fun V hV => by have hc := hV.2.2.2.1.c3; first | (go_simp; rfl) | (go_simp; done)) HS ?_
  refine HeldBy.tn (i := 10) rfl HS ?_
  refine wpAnyH_done (by kernel_rfl) ?_ _
  have HB := Lib.hid HS.1
  have HS1 := Lib.hid HS.2.1
  have HS2 := Lib.hid HS.2.2.1
  have HC := Lib.hid HS.2.2.2.1
  have HR := Lib.hid HS.2.2.2.2.1
  have HW := Lib.hid HS.2.2.2.2.2
  clear HS
  by_cases hle : c.size ≤ x.size
  · have HCU : Hid (expandC S.core c.target c.size = (⟨0, x.size, E0, 0⟩, S.core)) := by show _ = _; unfold expandC; rw [HXO.out]; exact if_pos hle
    have c1 := HB.out.c1
    rw [HSL.out.1, HSL.out.2] at c1
    have s1 := HS1.out.2
    obtain ⟨V7, hs7, hb7, -, hl7⟩ := stoR HR.out ⟨0, x.size, E0, 0⟩
    have HV7 := Lib.hid hb7
    have HX : Hid (RQ R w q (expandC S.core c.target c.size) S.seen (.returned (encR ⟨0, x.size, E0, 0⟩)) V7) := rq_sameX HH.out HCU.out (hl7 _ _ HW.out (Nat.le_succ _)) HRR.out
    clear hb7 hl7
    go_wp2_with (first | ((with_reducible refine wpList_build_to rfl 50 _ rfl (cellsR ⟨0, x.size, E0, 0⟩) ?_ ?_); exact built_rsz _) | (refine wpList_skip rfl (hs7 rfl rfl rfl) ?_))
    refine bodyPost_ret (v := encR ⟨0, x.size, E0, 0⟩) (results_cell_row rfl _ _ (w.heap.size + 1) 50 (cellsR ⟨0, x.size, E0, 0⟩) (0, 0) _ rfl HV7.out undR rfl sizeR) rfl ?_
    exact HX.out
  · have hgt : x.size < c.size := by omega
    have HLE : Hid (¬ c.size ≤ x.size) := hle
    have c1 := HB.out.c1
    rw [HSL.out.1, HSL.out.2] at c1
    have s2 := HS2.out.2
    have HA := Lib.hid (HH.out.after HW.out)
    have HF := Lib.hid (rzone_any HA.out x.zone)
    go_wp2_with (fail)
    clear c1 s2
    refine HF.out.mono ?_
    rintro e w' ⟨v, rfl, hf, rfl⟩
    clear HF
    rcases hf with ⟨k, z, rfl, hz, hzp, hzk⟩ | ⟨rfl, hno⟩
    · have hzo : zoneOf S.core.zones x.zone = some z := found_find hz hzp hzk
      have HZO := Lib.hid hzo
      obtain ⟨dz, hdz⟩ : ∃ d, IntKind.i64.wrap (c.size - x.size) = d := ⟨_, rfl⟩
      have HDZ := Lib.hid hdz
      have HMZ := Lib.hid (fun f : Int → Int => modZ_set (f := f) hz (by simpa using hzp) hzk)
      obtain ⟨gz, curz, k1, k2, k3, k4, k5, k6, k7⟩ := HA.out.zone_at hz
      have hgzl := (Array.getElem?_eq_some_iff.1 k3).1
      have hltz : (k : Int) < (S.core.zones.length : Int) := by omega
      have HZL : Hid (rd.z.o = some ⟨gz, 0, none⟩ ∧ rd.z.n = S.core.zones.length) := ⟨k1, k7⟩
      have HZC : Hid (CellX U0 gz (k * 2 + 1) (.int .i64 z.room)) := ⟨hgzl, k5⟩
      have HGZ := Lib.hid k2
      have HZZ := Lib.hid hz
      clear k1 k2 k3 k4 k5 k6 k7 hz hzp hzk hzo hgzl hdz hzn
      have HCS := Lib.hid hcs
      clear hcs _hsz hgt
      go_upto_region 6 with (fail)
      refine wp_region_held_drew (S := fun V => BoxQ V q rd ∧ CellX V g (i * 5 + 1) (.int .i64 x.size) ∧ CellX V gz (k * 2 + 1) (.int .i64 z.room) ∧ BoxC V w.heap.size c ∧ BoxR V (w.heap.size + 1) zeroR ∧ Below w.heap.size w V) (by kernel_rfl) ⟨HB.out, HS1.out, HZC.out, HC.out, HR.out, HW.out.drew⟩ (fun _ => ?_)
      refine HeldBy.gen (fun V => BoxQ V q rd ∧ CellX V g (i * 5 + 1) (.int .i64 x.size) ∧ CellX V gz (k * 2 + 1) (.int .i64 z.room) ∧ BoxC V w.heap.size c ∧ BoxR V (w.heap.size + 1) zeroR ∧ Below w.heap.size w V) ⟨HB.out, HS1.out, HZC.out, HC.out, HR.out, HW.out.drew⟩ ?_
      clear HB HS1 HZC HC HR HW
      rintro U0 HS
      refine HeldBy.tn (i := 0) rfl HS ?_
      refine HeldBy.tn (i := 1) rfl HS ?_
      refine HeldBy.tn (i := 2) rfl HS ?_
      refine HeldBy.tk (i := 3) (v := .slice (some ⟨gz, 0, none⟩) S.core.zones.length rd.z.c) rfl (fun V hV => by have hc := hV.1.c0; rw [HZL.out.1, HZL.out.2] at hc; first | (go_simp; rfl) | (go_simp; done)) HS ?_
      refine HeldBy.tn (i := 4) rfl HS ?_
      refine HeldBy.tn (i := 5) rfl HS ?_
      refine HeldBy.tn (i := 6) rfl HS ?_
      refine HeldBy.tk (i := 7) (v := .int .i64 z.room) rfl (fun V hV => by have hc := hV.2.2.1.2; first | (go_simp; rfl) | (go_simp; done)) HS ?_
      refine HeldBy.tn (i := 8) rfl HS ?_
      refine HeldBy.tk (i := 9) (v := .int .i64 c.size) rfl (fun V hV => by have hc := hV.2.2.2.1.c3; first | (go_simp; rfl) | (go_simp; done)) HS ?_
      refine HeldBy.tn (i := 10) rfl HS ?_
      refine HeldBy.tn (i := 11) rfl HS ?_
      refine HeldBy.tn (i := 12) rfl HS ?_
      refine HeldBy.tk (i := 13) (v := .slice (some ⟨g, 0, none⟩) S.core.vols.length rd.v.c) rfl (fun V hV => by have hc := hV.1.c1; rw [HSL.out.1, HSL.out.2] at hc; first | (go_simp; rfl) | (go_simp; done)) HS ?_
      refine HeldBy.tn (i := 14) rfl HS ?_
      refine HeldBy.tn (i := 15) rfl HS ?_
      refine HeldBy.tn (i := 16) rfl HS ?_
      refine HeldBy.tk (i := 17) (v := .int .i64 x.size) rfl (fun V hV => by have hc := hV.2.1.2; first | (go_simp; rfl) | (go_simp; done)) HS ?_
      refine HeldBy.tk (i := 18) (v := .int .i64 dz) rfl (fun _ _ => by rw [← HDZ.out]; first | (go_simp; rfl) | (go_simp; done)) HS ?_
      refine HeldBy.tn (i := 19) rfl HS ?_
      refine wpAnyH_done (by kernel_rfl) ?_ _
      have HB := Lib.hid HS.1
      have HS1 := Lib.hid HS.2.1
      have HZC := Lib.hid HS.2.2.1
      have HC := Lib.hid HS.2.2.2.1
      have HR := Lib.hid HS.2.2.2.2.1
      have HW := Lib.hid HS.2.2.2.2.2
      clear HS
      by_cases hrm : z.room < dz
      · have HCU : Hid (expandC S.core c.target c.size = (errR 11, S.core)) := by show _ = _; unfold expandC; rw [HXO.out]; dsimp only; rw [if_neg (show ¬ c.size ≤ x.size by have := HLE.out; omega), HZO.out]; dsimp only; rw [HDZ.out]; exact if_pos (by omega)
        go_wp2_with (fail)
        refine (rfailed_any 11 _).mono ?_
        rintro e W6 ⟨rfl, hb6⟩
        obtain ⟨V7, hs7, hb7, -, hl7⟩ := stoR (HR.out.after hb6) (errR 11)
        have HV7 := Lib.hid hb7
        have HX : Hid (RQ R w q (expandC S.core c.target c.size) S.seen (.returned (encR (errR 11))) V7) := rq_sameX HH.out HCU.out (hl7 _ _ (HW.out.trans (hb6.mono HW.out.size)) (Nat.le_succ _)) HRR.out
        clear hb6 hb7 hl7
        go_wp2_with (refine wpList_skip rfl (hs7 rfl rfl rfl) ?_)
        refine bodyPost_ret (v := encR (errR 11)) (results_cell_row rfl _ _ (w.heap.size + 1) 50 (cellsR (errR 11)) (0, 0) _ rfl HV7.out undR rfl sizeR) rfl ?_
        exact HX.out
      · have HCU : Hid (expandC S.core c.target c.size = (⟨0, c.size, E0, 0⟩, ⟨S.core.zones.set k ⟨z.name, IntKind.i64.wrap (z.room - dz)⟩, S.core.vols.set i ⟨x.name, c.size, x.zone, x.tag, x.nodes⟩, S.core.snaps⟩)) := by
          show _ = _
          unfold expandC
          rw [HXO.out]
          dsimp only
          rw [if_neg (show ¬ c.size ≤ x.size by have := HLE.out; omega), HZO.out]
          dsimp only
          rw [HDZ.out, if_neg (show ¬ z.room < dz by omega), HMZ.out, HMV.out]
        go_upto_region 8 with (fail)
        refine wp_region_held_drew (S := fun V => BoxQ V q rd ∧ CellX V g (i * 5 + 1) (.int .i64 x.size) ∧ BoxC V w.heap.size c) (by kernel_rfl) ⟨HB.out, HS1.out, HC.out⟩ (fun _ => ?_)
        refine HeldBy.gen (fun V => (BoxQ V q rd ∧ CellX V g (i * 5 + 1) (.int .i64 x.size) ∧ BoxC V w.heap.size c) ∧ (CellX V gz (k * 2 + 1) (.int .i64 z.room)) ∧ (BoxR V (w.heap.size + 1) zeroR) ∧ (Below w.heap.size w V)) ⟨⟨HB.out, HS1.out, HC.out⟩, HZC.out, HR.out, HW.out.drew⟩ ?_
        clear HB HS1 HC HZC HR HW
        rintro U0 ⟨HS, HZC, HR, HW⟩
        refine HeldBy.tn (i := 0) rfl HS ?_
        refine HeldBy.tn (i := 1) rfl HS ?_
        refine HeldBy.tn (i := 2) rfl HS ?_
        refine HeldBy.tk (i := 3) (v := .slice (some ⟨gz, 0, none⟩) S.core.zones.length rd.z.c) rfl (fun V hV => by have hc := hV.1.c0; rw [HZL.out.1, HZL.out.2] at hc; first | (go_simp; rfl) | (go_simp; done)) HS ?_
        refine HeldBy.tn (i := 4) rfl HS ?_
        refine HeldBy.tn (i := 5) rfl HS ?_
        refine HeldBy.tn (i := 6) rfl HS ?_
        refine HeldBy.tn (i := 8) rfl HS ?_
        refine HeldBy.tk (i := 9) (v := .int .i64 c.size) rfl (fun V hV => by have hc := hV.2.2.c3; first | (go_simp; rfl) | (go_simp; done)) HS ?_
        refine HeldBy.tn (i := 10) rfl HS ?_
        refine HeldBy.tn (i := 11) rfl HS ?_
        refine HeldBy.tn (i := 12) rfl HS ?_
        refine HeldBy.tk (i := 13) (v := .slice (some ⟨g, 0, none⟩) S.core.vols.length rd.v.c) rfl (fun V hV => by have hc := hV.1.c1; rw [HSL.out.1, HSL.out.2] at hc; first | (go_simp; rfl) | (go_simp; done)) HS ?_
        refine HeldBy.tn (i := 14) rfl HS ?_
        refine HeldBy.tn (i := 15) rfl HS ?_
        refine HeldBy.tn (i := 16) rfl HS ?_
        refine HeldBy.tk (i := 17) (v := .int .i64 x.size) rfl (fun V hV => by have hc := hV.2.1.2; first | (go_simp; rfl) | (go_simp; done)) HS ?_
        refine HeldBy.tk (i := 18) (v := .int .i64 dz) rfl (fun _ _ => by rw [← HDZ.out]; first | (go_simp; rfl) | (go_simp; done)) HS ?_
        have hzc := HZC.2
        refine HeldBy.value (i := 7) (v := .int .i64 z.room) rfl (by kernel_rfl) (by rfl) (by first | (go_simp; rfl) | (go_simp; done)) (by first | (go_simp; rfl) | (go_simp; done)) HS ?_
        refine HeldBy.tk (i := 19) (v := .int .i64 (IntKind.i64.wrap (z.room - dz))) rfl (fun _ _ => by first | (go_simp; rfl) | (go_simp; done)) HS ?_
        refine HeldBy.tn (i := 20) rfl HS ?_
        refine HeldBy.tn (i := 21) rfl HS ?_
        clear hzc
        have hA := HH.out.after HW
        obtain ⟨gz', curz', p1, p2, p3, -, p5, -, p7⟩ := hA.zone_at HZZ.out
        rw [HZL.out.1] at p1
        cases p1
        have hc9 := p5
        have hf9 : U0.frozen? ⟨gz, k * 2 + 1, none⟩ = false := frozen_of_row U0 gz (k * 2 + 1) _ _ p3
        obtain ⟨gv', curv', sv', q0, q1, q2, q3, q4, q5, -, -⟩ := hA.vol_at HXX.out
        rw [HSL.out.1] at q1
        cases q1
        have hne : g ≠ gz := kind_neF q3 p3 (by decide)
        have hA2 := hA.zone_set HZZ.out (IntKind.i64.wrap (z.room - dz)) HZL.out.1 p3
        obtain ⟨V8, hV8⟩ : ∃ V8, U0.setCell ⟨gz, k * 2 + 1, none⟩ (.int .i64 (IntKind.i64.wrap (z.room - dz))) = V8 := ⟨_, rfl⟩
        have hst : ∀ {oi : Oper} {a : Act} {p r : Operand}, oi.op = .store 2 p r → a.eval p = .pointer (some ⟨gz, k * 2 + 1, none⟩) → a.eval r = .int .i64 (IntKind.i64.wrap (z.room - dz)) → (execOp a.eval oi).run Try.prog U0 = .ok .skip V8 := fun ho h1 h2 => by
          rw [← hV8]
          unfold execOp
          simp only [ho, h1, h2]
          first | (go_simp; rfl) | (go_simp; done)
        have ho8 : ∀ b, b ≠ gz → V8.heap[b]? = U0.heap[b]? := fun b hb => by rw [← hV8]; exact heap_setCell_other _ ⟨gz, k * 2 + 1, none⟩ b _ hb
        have hsz8 : U0.heap.size ≤ V8.heap.size := by rw [← hV8]; simp
        have hqz : q ≠ gz := kind_neF HS.1 p3 (by decide)
        have hcz : w.heap.size ≠ gz := kind_neF HS.2.2 p3 (by decide)
        have hrz : w.heap.size + 1 ≠ gz := kind_neF HR p3 (by decide)
        have hS8 : BoxQ V8 q rd ∧ CellX V8 g (i * 5 + 1) (.int .i64 x.size) ∧ BoxC V8 w.heap.size c :=
          ⟨(ho8 q hqz).trans HS.1, ⟨by have := HS.2.1.1; omega, (cell_sameX (ho8 g hne)).trans HS.2.1.2⟩, (ho8 _ hcz).trans HS.2.2⟩
        refine HeldBy.store (i := 22) (w' := V8) rfl (by kernel_rfl) (by rfl) (hst rfl rfl rfl) (by first | (go_simp; rfl) | (go_simp; done)) hS8 ?_
        refine wpAnyH_done (by kernel_rfl) ?_ _
        rw [hV8] at hA2
        have hD8 : DocStay R w V8 := by
          rw [← hV8]
          exact (DocStay.of_below HW HRR.out).set p2 ⟨_, _, _, p3, .inr (.inl rfl)⟩
        have HA2 := Lib.hid hA2
        have HD8 := Lib.hid hD8
        have HB := Lib.hid hS8.1
        have HS1 := Lib.hid hS8.2.1
        have HC := Lib.hid hS8.2.2
        have HR8 : Hid (BoxR V8 (w.heap.size + 1) zeroR) := (ho8 _ hrz).trans HR
        clear hA p2 p3 p5 p7 hc9 hf9 q0 q2 q3 q4 q5 hne hst hA2 ho8 hsz8 hqz hcz hrz hS8 hD8 HS HR HW hV8 HZC
        go_upto_region 9 with (fail)
        refine wp_region_held_drew (S := fun V => BoxQ V q rd ∧ BoxC V w.heap.size c) (by kernel_rfl) ⟨HB.out, HC.out⟩ (fun _ => ?_)
        refine HeldBy.gen (fun V => (BoxQ V q rd ∧ BoxC V w.heap.size c) ∧ (RAt R V q ⟨⟨S.core.zones.set k ⟨z.name, IntKind.i64.wrap (z.room - dz)⟩, S.core.vols, S.core.snaps⟩, S.seen⟩ rd L) ∧ (BoxR V (w.heap.size + 1) zeroR) ∧ (DocStay R w V)) ⟨⟨HB.out, HC.out⟩, HA2.out.drew, HR8.out, HD8.out.drew⟩ ?_
        clear HB HC HA2 HR8 HD8
        rintro U0 ⟨HS, HA2, HR8, HD8⟩
        refine HeldBy.tn (i := 0) rfl HS ?_
        refine HeldBy.tn (i := 1) rfl HS ?_
        refine HeldBy.tn (i := 2) rfl HS ?_
        refine HeldBy.tk (i := 3) (v := .slice (some ⟨g, 0, none⟩) S.core.vols.length rd.v.c) rfl (fun V hV => by have hc := hV.1.c1; rw [HSL.out.1, HSL.out.2] at hc; first | (go_simp; rfl) | (go_simp; done)) HS ?_
        refine HeldBy.tn (i := 4) rfl HS ?_
        refine HeldBy.tn (i := 5) rfl HS ?_
        refine HeldBy.tk (i := 6) (v := .int .i64 c.size) rfl (fun V hV => by have hc := hV.2.c3; first | (go_simp; rfl) | (go_simp; done)) HS ?_
        refine HeldBy.tn (i := 7) rfl HS ?_
        refine HeldBy.tn (i := 8) rfl HS ?_
        obtain ⟨gv2, curv2, sv2, q0, q1, q2, q3, q4, q5, -, -⟩ := HA2.vol_at HXX.out
        rw [HSL.out.1] at q1
        cases q1
        have hc9 : U0.cell? ⟨g, i * 5 + 1, none⟩ = some (.int .i64 x.size) := q4 1 _ rfl
        have hf9 : U0.frozen? ⟨g, i * 5 + 1, none⟩ = false := frozen_of_row U0 g (i * 5 + 1) _ _ q3
        have hA9 := HA2.vol_set (y := ⟨x.name, c.size, x.zone, x.tag, x.nodes⟩) (s' := sv2) q0 (j := 1) (v := .int .i64 c.size) (by decide) rfl q5 HSL.out.1 q3
        obtain ⟨V9, hV9⟩ : ∃ V9, U0.setCell ⟨g, i * 5 + 1, none⟩ (.int .i64 c.size) = V9 := ⟨_, rfl⟩
        have hst : ∀ {oi : Oper} {a : Act} {p r : Operand}, oi.op = .store 2 p r → a.eval p = .pointer (some ⟨g, i * 5 + 1, none⟩) → a.eval r = .int .i64 c.size → (execOp a.eval oi).run Try.prog U0 = .ok .skip V9 := fun ho h1 h2 => by
          rw [← hV9]
          unfold execOp
          simp only [ho, h1, h2]
          first | (go_simp; rfl) | (go_simp; done)
        have ho9 : ∀ b, b ≠ g → V9.heap[b]? = U0.heap[b]? := fun b hb => by rw [← hV9]; exact heap_setCell_other _ ⟨g, i * 5 + 1, none⟩ b _ hb
        have hS9 : BoxQ V9 q rd ∧ BoxC V9 w.heap.size c := ⟨(ho9 q (kind_neF HS.1 q3 (by decide))).trans HS.1, (ho9 _ (kind_neF HS.2 q3 (by decide))).trans HS.2⟩
        refine HeldBy.store (i := 9) (w' := V9) rfl (by kernel_rfl) (by rfl) (hst rfl rfl rfl) (by first | (go_simp; rfl) | (go_simp; done)) hS9 ?_
        refine wpAnyH_done (by kernel_rfl) ?_ _
        rw [hV9] at hA9
        have hD9 : DocStay R w V9 := by
          rw [← hV9]
          exact HD8.set q2 ⟨_, _, _, q3, .inr (.inr rfl)⟩
        have hr9 : BoxR V9 (w.heap.size + 1) zeroR := (ho9 _ (kind_neF HR8 q3 (by decide))).trans HR8
        have c3 := hS9.2.c3
        obtain ⟨V10, sr, br, or, lr⟩ := stoR hr9 ⟨0, c.size, E0, 0⟩
        have HBR := Lib.hid br
        have HX : Hid (RQ R w q (expandC S.core c.target c.size) S.seen (.returned (encR ⟨0, c.size, E0, 0⟩)) V10) := by
          refine ⟨by rw [HCU.out], ⟨rd, L.set i (⟨x.name, c.size, x.zone, x.tag, x.nodes⟩, sv2), ?_⟩, hD9.sto or lr (Nat.le_succ _) HRR.out⟩
          rw [HCU.out]
          exact hA9.keep hr9 (by decide) or
        clear q0 q2 q3 q4 q5 hc9 hf9 hA9 hst ho9 hS9 hV9 hD9 hr9 br or lr HS HA2 HR8 HD8
        go_wp2_with (first | ((with_reducible refine wpList_build_to rfl 50 _ rfl (cellsR ⟨0, c.size, E0, 0⟩) ?_ ?_); exact built_rsz _) | (refine wpList_skip rfl (sr rfl rfl rfl) ?_))
        refine bodyPost_ret (v := encR ⟨0, c.size, E0, 0⟩) (results_cell_row rfl _ _ (w.heap.size + 1) 50 (cellsR ⟨0, c.size, E0, 0⟩) (0, 0) _ rfl HBR.out undR rfl sizeR) rfl ?_
        exact HX.out
    · exfalso
      obtain ⟨z, hz⟩ := hzn
      have := zoneOf_name hz
      have h2 := hno z (List.mem_of_find?_eq_some hz)
      simp [this] at h2
end
end Go.Proofs.Ytbgfccanbgpjiaa.O.I
