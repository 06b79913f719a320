/- Own work. -/
import Derived.Test.YtbgfccanbgpjiaaDJIRTop0
namespace Go.Proofs.Ytbgfccanbgpjiaa.O.I
open Go Go.RowKit Go.Lib KM
attribute [local go_sem] Oper.semAt_some
theorem take_next {α : Type} {l : List α} {j : Nat} {t : α} (ht : l[j]? = some t) : l.take (j + 1) = l.take j ++ [t] := by
  have hj := set_at ht
  have e : l[j] = t := by rw [List.getElem?_eq_getElem hj] at ht; exact Option.some.inj ht
  rw [List.take_succ_eq_append_getElem hj, e]
section
variable {R : Nat} {w : World} {q : Nat} {S : St} {rd : Rd} {L : List (DV × Sl)} (h : RAt R w q S rd L) (hR : R ≤ w.heap.size) (c : Cl) (hfc : FitC c)
include h hR hfc
set_option maxRecDepth 100000 in
set_option maxHeartbeats 32000000 in
theorem rDo_first (res : Rs × Core) (hno : ∀ y ∈ S.seen, (decide (y.1.target = c.target) && (snapV y.1.verb == snapV c.verb)) = false) (hri : rightB c = true) (hnf : S.seen.length < 256) (hdo : ∀ V, RAt R V q S rd L → R ≤ V.heap.size → Calls Try.prog 77 #[.pointer (some ⟨q, 0, none⟩), encC c] V (RQ R V q res S.seen)) :
    Calls Try.prog 57 #[.pointer (some ⟨q, 0, none⟩), encC c] w (RDQ R w q (res.1, ⟨res.2, (S.seen ++ [(c, res.1)])⟩)) := by
  have HH := Lib.hid h
  have HRR := Lib.hid hR
  have HFC := Lib.hid hfc
  have HRI : Hid (rightB c = true) := hri
  have HFL : Hid (∀ u, Found (fun p : Cl × Rs => decide (p.1.target = c.target) && (snapV p.1.verb == snapV c.verb)) S.seen u → u = .int .i64 (-1)) := fun u hu => found_not hno hu
  have hff : ¬ (256 : Int) ≤ (S.seen.length : Int) := by omega
  have hf2 : (S.seen.length : Int) < 256 := by omega
  have HDO := Lib.hid hdo
  clear h hR hfc hri hno hdo
  rw [show encC c = .agg (cellsC c) from rfl]
  go_enter Try.func57, Try.ntmps57
  go_upto_region 1 with (fail)
  refine wp_gen (fun V => BoxC V w.heap.size c ∧ BoxR V (w.heap.size + 1) zeroR ∧ Below w.heap.size w V) ⟨(heap2 w _ _).1, (heap2 w _ _).2, below2 w _ _⟩ ?_
  rintro V1 ⟨hc1, hr1, hw1⟩
  have HC := Lib.hid hc1
  have HR := Lib.hid hr1
  have HW := Lib.hid hw1
  have HA := Lib.hid (HH.out.after hw1)
  clear hr1 hw1
  go_wp2_with (refine wpList_got rfl (loadC hc1 rfl rfl) ?_)
  clear hc1
  refine (HRI.out ▸ rright_any c HFC.out V1 : Calls _ _ _ _ fun e w' => e = .returned (.bool true) ∧ Below V1.heap.size V1 w').mono ?_
  rintro e V2 ⟨rfl, hb⟩
  replace HC := Lib.hid (HC.out.after hb)
  replace HR := Lib.hid (HR.out.after hb)
  replace HA := Lib.hid (HA.out.after hb)
  replace HW := Lib.hid (HW.out.trans (hb.mono HW.out.size))
  clear hb
  have c0 := HC.out.c0
  have c1 := HC.out.c1
  have HF1 := Lib.hid (rlast_v HA.out HFL.out)
  go_wp2_with (fail)
  clear c0 c1
  refine HF1.out.mono ?_
  rintro e V3 ⟨rfl, hb⟩
  replace HC := Lib.hid (HC.out.after hb)
  replace HR := Lib.hid (HR.out.after hb)
  replace HA := Lib.hid (HA.out.after hb)
  replace HW := Lib.hid (HW.out.trans (hb.mono HW.out.size))
  clear hb HF1
  have HB := Lib.hid HA.out.box
  go_upto_region 6 with (fail)
  refine wp_region_held_drew (S := fun V => Below w.heap.size w V) (by kernel_rfl) HW.out.drew (fun _ => ?_)
  refine HeldBy.gen (fun V => (Below w.heap.size w V) ∧ (BoxQ V q rd) ∧ (BoxC V w.heap.size c) ∧ (BoxR V (w.heap.size + 1) zeroR) ∧ (RAt R V q S rd L)) ⟨HW.out.drew, HB.out, HC.out, HR.out, HA.out.drew⟩ ?_
  clear HW HB HC HR HA
  rintro U0 ⟨HS, HB, HC, HR, HA⟩
  refine HeldBy.tn (i := 0) rfl HS ?_
  refine HeldBy.tn (i := 1) rfl HS ?_
  refine HeldBy.tn (i := 2) rfl HS ?_
  refine HeldBy.skip (i := 3) rfl (by kernel_rfl) (by kernel_rfl) (by kernel_rfl) (fun _ _ _ h => h) (by rfl) (by go_simp; rfl) HS ?_
  refine HeldBy.skip (i := 4) rfl (by kernel_rfl) (by kernel_rfl) (by kernel_rfl) (fun _ _ _ h => h) (by rfl) (by go_simp; rfl) HS ?_
  refine HeldBy.skip (i := 5) rfl (by kernel_rfl) (by kernel_rfl) (by kernel_rfl) (fun _ _ _ h => h) (by rfl) (by go_simp; rfl) HS ?_
  refine HeldBy.skip (i := 6) rfl (by kernel_rfl) (by kernel_rfl) (by kernel_rfl) (fun _ _ _ h => h) (by rfl) (by go_simp; rfl) HS ?_
  refine HeldBy.skip (i := 7) rfl (by kernel_rfl) (by kernel_rfl) (by kernel_rfl) (fun _ _ _ h => h) (by rfl) (by go_simp; rfl) HS ?_
  refine HeldBy.skip (i := 8) rfl (by kernel_rfl) (by kernel_rfl) (by kernel_rfl) (fun _ _ _ h => h) (by rfl) (by go_simp; rfl) HS ?_
  refine HeldBy.skip (i := 9) rfl (by kernel_rfl) (by kernel_rfl) (by kernel_rfl) (fun _ _ _ h => h) (by rfl) (by go_simp; rfl) HS ?_
  refine HeldBy.skip (i := 10) rfl (by kernel_rfl) (by kernel_rfl) (by kernel_rfl) (fun _ _ _ h => h) (by rfl) (by go_simp; rfl) HS ?_
  refine HeldBy.skip (i := 11) rfl (by kernel_rfl) (by kernel_rfl) (by kernel_rfl) (fun _ _ _ h => h) (by rfl) (by go_simp; rfl) HS ?_
  refine HeldBy.skip (i := 12) rfl (by kernel_rfl) (by kernel_rfl) (by kernel_rfl) (fun _ _ _ h => h) (by rfl) (by go_simp; rfl) HS ?_
  refine HeldBy.skip (i := 13) rfl (by kernel_rfl) (by kernel_rfl) (by kernel_rfl) (fun _ _ _ h => h) (by rfl) (by go_simp; rfl) HS ?_
  refine HeldBy.skip (i := 14) rfl (by kernel_rfl) (by kernel_rfl) (by kernel_rfl) (fun _ _ _ h => h) (by rfl) (by go_simp; rfl) HS ?_
  refine HeldBy.tn (i := 15) rfl HS ?_
  refine HeldBy.tn (i := 16) rfl HS ?_
  refine wpAnyH_done (by kernel_rfl) ?_ _
  replace HB := Lib.hid HB
  replace HC := Lib.hid HC
  replace HR := Lib.hid HR
  replace HA := Lib.hid HA
  have HW := Lib.hid HS
  clear HS
  go_upto_region 8 with (fail)
  refine wp_region_held_drew (S := fun V => Below w.heap.size w V) (by kernel_rfl) HW.out.drew (fun _ => ?_)
  refine HeldBy.gen (fun V => (Below w.heap.size w V) ∧ (BoxQ V q rd) ∧ (BoxC V w.heap.size c) ∧ (BoxR V (w.heap.size + 1) zeroR) ∧ (RAt R V q S rd L)) ⟨HW.out.drew, HB.out, HC.out, HR.out, HA.out.drew⟩ ?_
  clear HW HB HC HR HA
  rintro U0 ⟨HS, HB, HC, HR, HA⟩
  refine HeldBy.tn (i := 0) rfl HS ?_
  refine HeldBy.tn (i := 1) rfl HS ?_
  refine HeldBy.tn (i := 2) rfl HS ?_
  refine HeldBy.skip (i := 3) rfl (by kernel_rfl) (by kernel_rfl) (by kernel_rfl) (fun _ _ _ h => h) (by rfl) (by go_simp; rfl) HS ?_
  refine HeldBy.skip (i := 4) rfl (by kernel_rfl) (by kernel_rfl) (by kernel_rfl) (fun _ _ _ h => h) (by rfl) (by go_simp; rfl) HS ?_
  refine HeldBy.skip (i := 5) rfl (by kernel_rfl) (by kernel_rfl) (by kernel_rfl) (fun _ _ _ h => h) (by rfl) (by go_simp; rfl) HS ?_
  refine HeldBy.skip (i := 6) rfl (by kernel_rfl) (by kernel_rfl) (by kernel_rfl) (fun _ _ _ h => h) (by rfl) (by go_simp; rfl) HS ?_
  refine HeldBy.skip (i := 7) rfl (by kernel_rfl) (by kernel_rfl) (by kernel_rfl) (fun _ _ _ h => h) (by rfl) (by go_simp; rfl) HS ?_
  refine HeldBy.skip (i := 8) rfl (by kernel_rfl) (by kernel_rfl) (by kernel_rfl) (fun _ _ _ h => h) (by rfl) (by go_simp; rfl) HS ?_
  refine HeldBy.skip (i := 9) rfl (by kernel_rfl) (by kernel_rfl) (by kernel_rfl) (fun _ _ _ h => h) (by rfl) (by go_simp; rfl) HS ?_
  refine HeldBy.skip (i := 10) rfl (by kernel_rfl) (by kernel_rfl) (by kernel_rfl) (fun _ _ _ h => h) (by rfl) (by go_simp; rfl) HS ?_
  refine HeldBy.skip (i := 11) rfl (by kernel_rfl) (by kernel_rfl) (by kernel_rfl) (fun _ _ _ h => h) (by rfl) (by go_simp; rfl) HS ?_
  refine HeldBy.skip (i := 12) rfl (by kernel_rfl) (by kernel_rfl) (by kernel_rfl) (fun _ _ _ h => h) (by rfl) (by go_simp; rfl) HS ?_
  refine HeldBy.skip (i := 13) rfl (by kernel_rfl) (by kernel_rfl) (by kernel_rfl) (fun _ _ _ h => h) (by rfl) (by go_simp; rfl) HS ?_
  refine HeldBy.skip (i := 14) rfl (by kernel_rfl) (by kernel_rfl) (by kernel_rfl) (fun _ _ _ h => h) (by rfl) (by go_simp; rfl) HS ?_
  refine HeldBy.tn (i := 15) rfl HS ?_
  refine HeldBy.tn (i := 16) rfl HS ?_
  refine HeldBy.skip (i := 17) rfl (by kernel_rfl) (by kernel_rfl) (by kernel_rfl) (fun _ _ _ h => h) (by rfl) (by go_simp; rfl) HS ?_
  refine HeldBy.skip (i := 18) rfl (by kernel_rfl) (by kernel_rfl) (by kernel_rfl) (fun _ _ _ h => h) (by rfl) (by go_simp; rfl) HS ?_
  refine HeldBy.skip (i := 19) rfl (by kernel_rfl) (by kernel_rfl) (by kernel_rfl) (fun _ _ _ h => h) (by rfl) (by go_simp; rfl) HS ?_
  refine HeldBy.skip (i := 20) rfl (by kernel_rfl) (by kernel_rfl) (by kernel_rfl) (fun _ _ _ h => h) (by rfl) (by go_simp; rfl) HS ?_
  refine HeldBy.skip (i := 21) rfl (by kernel_rfl) (by kernel_rfl) (by kernel_rfl) (fun _ _ _ h => h) (by rfl) (by go_simp; rfl) HS ?_
  refine HeldBy.skip (i := 22) rfl (by kernel_rfl) (by kernel_rfl) (by kernel_rfl) (fun _ _ _ h => h) (by rfl) (by go_simp; rfl) HS ?_
  refine HeldBy.skip (i := 23) rfl (by kernel_rfl) (by kernel_rfl) (by kernel_rfl) (fun _ _ _ h => h) (by rfl) (by go_simp; rfl) HS ?_
  refine HeldBy.skip (i := 24) rfl (by kernel_rfl) (by kernel_rfl) (by kernel_rfl) (fun _ _ _ h => h) (by rfl) (by go_simp; rfl) HS ?_
  refine HeldBy.skip (i := 25) rfl (by kernel_rfl) (by kernel_rfl) (by kernel_rfl) (fun _ _ _ h => h) (by rfl) (by go_simp; rfl) HS ?_
  refine HeldBy.skip (i := 26) rfl (by kernel_rfl) (by kernel_rfl) (by kernel_rfl) (fun _ _ _ h => h) (by rfl) (by go_simp; rfl) HS ?_
  refine HeldBy.tn (i := 27) rfl HS ?_
  refine HeldBy.tn (i := 28) rfl HS ?_
  refine wpAnyH_done (by kernel_rfl) ?_ _
  replace HB := Lib.hid HB
  replace HC := Lib.hid HC
  replace HR := Lib.hid HR
  replace HA := Lib.hid HA
  have HW := Lib.hid HS
  clear HS
  go_upto_region 10 with (fail)
  refine wp_region_held_drew (S := fun V => Below w.heap.size w V) (by kernel_rfl) HW.out.drew (fun _ => ?_)
  refine HeldBy.gen (fun V => (Below w.heap.size w V) ∧ (BoxQ V q rd) ∧ (BoxC V w.heap.size c) ∧ (BoxR V (w.heap.size + 1) zeroR) ∧ (RAt R V q S rd L)) ⟨HW.out.drew, HB.out, HC.out, HR.out, HA.out.drew⟩ ?_
  clear HW HB HC HR HA
  rintro U0 ⟨HS, HB, HC, HR, HA⟩
  refine HeldBy.tn (i := 0) rfl HS ?_
  refine HeldBy.tn (i := 1) rfl HS ?_
  refine HeldBy.tn (i := 2) rfl HS ?_
  refine HeldBy.skip (i := 3) rfl (by kernel_rfl) (by kernel_rfl) (by kernel_rfl) (fun _ _ _ h => h) (by rfl) (by go_simp; rfl) HS ?_
  refine HeldBy.skip (i := 4) rfl (by kernel_rfl) (by kernel_rfl) (by kernel_rfl) (fun _ _ _ h => h) (by rfl) (by go_simp; rfl) HS ?_
  refine HeldBy.skip (i := 5) rfl (by kernel_rfl) (by kernel_rfl) (by kernel_rfl) (fun _ _ _ h => h) (by rfl) (by go_simp; rfl) HS ?_
  refine HeldBy.skip (i := 6) rfl (by kernel_rfl) (by kernel_rfl) (by kernel_rfl) (fun _ _ _ h => h) (by rfl) (by go_simp; rfl) HS ?_
  refine HeldBy.skip (i := 7) rfl (by kernel_rfl) (by kernel_rfl) (by kernel_rfl) (fun _ _ _ h => h) (by rfl) (by go_simp; rfl) HS ?_
  refine HeldBy.skip (i := 8) rfl (by kernel_rfl) (by kernel_rfl) (by kernel_rfl) (fun _ _ _ h => h) (by rfl) (by go_simp; rfl) HS ?_
  refine HeldBy.skip (i := 9) rfl (by kernel_rfl) (by kernel_rfl) (by kernel_rfl) (fun _ _ _ h => h) (by rfl) (by go_simp; rfl) HS ?_
  refine HeldBy.skip (i := 10) rfl (by kernel_rfl) (by kernel_rfl) (by kernel_rfl) (fun _ _ _ h => h) (by rfl) (by go_simp; rfl) HS ?_
  refine HeldBy.skip (i := 11) rfl (by kernel_rfl) (by kernel_rfl) (by kernel_rfl) (fun _ _ _ h => h) (by rfl) (by go_simp; rfl) HS ?_
  refine HeldBy.skip (i := 12) rfl (by kernel_rfl) (by kernel_rfl) (by kernel_rfl) (fun _ _ _ h => h) (by rfl) (by go_simp; rfl) HS ?_
  refine HeldBy.skip (i := 13) rfl (by kernel_rfl) (by kernel_rfl) (by kernel_rfl) (fun _ _ _ h => h) (by rfl) (by go_simp; rfl) HS ?_
  refine HeldBy.skip (i := 14) rfl (by kernel_rfl) (by kernel_rfl) (by kernel_rfl) (fun _ _ _ h => h) (by rfl) (by go_simp; rfl) HS ?_
  refine HeldBy.tn (i := 15) rfl HS ?_
  refine HeldBy.tn (i := 16) rfl HS ?_
  refine wpAnyH_done (by kernel_rfl) ?_ _
  replace HB := Lib.hid HB
  replace HC := Lib.hid HC
  replace HR := Lib.hid HR
  replace HA := Lib.hid HA
  have HW := Lib.hid HS
  clear HS
  have c3 := HB.out.c3
  rw [(own_view HA.out.seen).1] at c3
  have hcl := HC.out
  go_upto_region 14 with (fail)
  clear c3
  have hRU : R ≤ U0.heap.size := by
    have := HRR.out
    have := HW.out.size
    omega
  have HK := Lib.hid (HDO.out U0 HA.out hRU)
  clear HDO hRU
  go_wp2_with (refine wpList_got rfl (loadC hcl rfl rfl) ?_)
  clear hcl
  refine HK.out.mono ?_
  rintro e V6 ⟨rfl, ⟨rd', L', hA6⟩, hD6⟩
  have hC6 := HC.out.doc hD6
  have hR6 := HR.out.doc hD6
  have hDD := (DocStay.of_below HW.out HRR.out).trans hD6
  obtain ⟨V7, sb, bb, lb⟩ := boxR V6 zeroR rfl res.1
  have hP : w.heap.size + 1 < V6.heap.size := hR6.lt
  have HP : Hid (w.heap.size + 1 < V6.heap.size) := hP
  clear HC HR HA HW HB
  have HC := Lib.hid (hC6.after lb)
  have HR := Lib.hid (hR6.after lb)
  have HA := Lib.hid (hA6.after lb)
  have HD7 : Hid (DocStay R w V7) := hDD.after lb HRR.out
  have HX7 := Lib.hid bb
  have HP7 : Hid (w.heap.size ≤ V7.heap.size) := by have := lb.size; show _ ≤ _; omega
  have HSE : Hid (S.seen.length ≤ 256) := hA6.few.2.2.2
  clear hC6 hR6 hA6 hD6 hDD hP bb lb HK
  go_upto_region 15 with (refine wpList_skip rfl (sb rfl rfl rfl) ?_)
  clear sb
  go_wp2
  go_loopw [7, 8] (fun lv iv wr => ∃ (j : Nat) (o : List (Cl × Rs)) (ov : Value), iv = .int .i64 (j : Int) ∧ ov = lv ∧ j ≤ S.seen.length ∧ S.seen.take j = o ∧ wr.ownsRow V7.heap.size 121 11 ov o.length (catE o) ∧ Below V7.heap.size V7 wr) (fun _ iv _ => S.seen.length - (RowKit.intOf iv).toNat)
  case atStart => exact ⟨0, [], _, rfl, rfl, Nat.zero_le _, rfl, own_none _ _ _ _, Below.refl _ _⟩
  case round =>
    obtain ⟨j, o, ov, rfl, rfl, hj, hq, hown, hlow⟩ := hrel
    have HO := Lib.hid hown
    have HLW := Lib.hid hlow
    have HQ := Lib.hid hq
    have HAW := Lib.hid (HA.out.after hlow)
    have hse := HSE.out
    have HLN : Hid (o.length ≤ 256) := by
      show o.length ≤ 256
      have h1 : o.length ≤ j := by
        rw [← hq]
        rw [List.length_take]; omega
      omega
    have c3 := HAW.out.box.c3
    have hsn : rd'.d.n = S.seen.length := (own_view HAW.out.seen).1
    rw [hsn] at c3
    have HSN := Lib.hid hsn
    clear hown hlow hq hsn
    by_cases hlj : j < S.seen.length
    · have hlj' : (j : Int) < (S.seen.length : Int) := by omega
      obtain ⟨t, ht⟩ : ∃ t, S.seen[j]? = some t := ⟨_, List.getElem?_eq_getElem hlj⟩
      have HT := Lib.hid ht
      obtain ⟨gs, cur2, k1, -, k3, hzr, -⟩ := HAW.out.seen_at ht
      rw [k1] at c3
      obtain ⟨v', W', hrun, hown2, hb2⟩ := add_done V7.heap.size wr ov o t HO.out HLW.out.size (by have := HLN.out; omega)
      have HRUN := Lib.hid hrun
      have HSL2 := Lib.hid (run_e1 wr t)
      have HN : Hid (∃ (j' : Nat) (o : List (Cl × Rs)) (ov : Value), (Value.int .i64 ((j : Int) + 1)) = .int .i64 (j' : Int) ∧ ov = v' ∧ j' ≤ S.seen.length ∧ S.seen.take j' = o ∧ W'.ownsRow V7.heap.size 121 11 ov o.length (catE o) ∧ Below V7.heap.size V7 W') := ⟨j + 1, o ++ [t], v', by go_num, rfl, by omega, by rw [take_next ht, HQ.out], hown2, HLW.out.trans hb2⟩
      clear k1 k3 ht hrun hown2 hb2 HO HLW
      go_wp2_with (first | (refine wpList_got rfl (loadE_at hzr rfl rfl) ?_) | (refine wpList_got rfl (exec_slice0 HSL2.out rfl rfl) ?_) | ((with_reducible refine wpList_app rfl rfl HRUN.out ?_ ?_ ?_); rfl; rfl))
      go_roundw
      case rel => exact HN.out
      case measure => simp [RowKit.intOf]; omega
    · have hlj' : ¬ (j : Int) < (S.seen.length : Int) := by omega
      have hE : j = S.seen.length := by omega
      rw [hE, List.take_length] at HQ
      have HQ2 : Hid (S.seen = o) := HQ.out
      clear HQ
      obtain ⟨v', W', hrun, hown2, hb2⟩ := add_done V7.heap.size wr ov o (c, res.1) HO.out HLW.out.size (by have := HLN.out; omega)
      obtain ⟨sl, hsl, -⟩ := own_sl hown2
      rw [hsl] at hrun hown2
      change (Builtin.append_ _ _ _).run Try.prog _ = .ok (.slice sl.o sl.n sl.c) W' at hrun
      have hlw2 := HLW.out.trans hb2
      have hA2 := HA.out.after hlw2
      have hown3 : W'.ownsRow R 121 11 (encSl sl) (o ++ [(c, res.1)]).length (catE (o ++ [(c, res.1)])) := ⟨hown2.1, by
        rcases hown2.2 with h4 | ⟨g', cap, cu, h4, h5, h6⟩
        · exact .inl h4
        · exact .inr ⟨g', cap, cu, h4, by have := HRR.out; have := HP7.out; omega, h6⟩⟩
      have hA3 := hA2.seen_new hown3 (by
        rw [List.length_append, ← HQ2.out, List.length_singleton]
        omega)
      rw [← HQ2.out] at hA3
      have y3 := hA2.box.c3
      have f3 := hA2.box.free 3
      have hr4 : BoxR (W'.setCell ⟨q, 3, none⟩ (.slice sl.o sl.n sl.c)) (w.heap.size + 1) zeroR := (heap_setCell_other _ ⟨q, 3, none⟩ _ _ (kind_neF (HR.out.after hlw2) hA2.box (by decide))).trans (HR.out.after hlw2)
      have hx4 : BoxR (W'.setCell ⟨q, 3, none⟩ (.slice sl.o sl.n sl.c)) V6.heap.size res.1 := (heap_setCell_other _ ⟨q, 3, none⟩ _ _ (kind_neF (HX7.out.after hlw2) hA2.box (by decide))).trans (HX7.out.after hlw2)
      have hD4 : DocStay R w (W'.setCell ⟨q, 3, none⟩ (.slice sl.o sl.n sl.c)) := (HD7.out.after hlw2 HRR.out).set hA2.low hA2.box.soft
      obtain ⟨V8, hV8⟩ : ∃ V8, W'.setCell ⟨q, 3, none⟩ (.slice sl.o sl.n sl.c) = V8 := ⟨_, rfl⟩
      have hA4 : RAt R V8 q _ _ _ := hV8 ▸ hA3
      rw [hV8] at hr4 hx4 hD4
      have HV8 := Lib.hid hV8
      obtain ⟨V9, sr, br, hq9⟩ := RDQ.done (r := res.1) hA4 hD4 hr4 HRR.out
      have HBR := Lib.hid br
      have HX := Lib.hid hq9
      have hcw := HC.out.after HLW.out
      have hxw := HX7.out.after HLW.out
      have HRUN := Lib.hid hrun
      have HSL2 := Lib.hid (run_e1 wr (c, res.1))
      clear hsl hrun hown2 hb2 hlw2 hA2 hown3 hA3 hr4 hD4 br hq9 HO HAW hA4 hV8
      go_upto_region 21 with (fail)
      go_upto_region 22 with (first | ((with_reducible refine wpList_appE rfl rfl HRUN.out ?_ ?_ (by first | (go_simp; rfl) | (go_simp; done)) ?_); rfl; rfl) | ((with_reducible refine wpList_buildE rfl 121 _ rfl (cellsE (c, res.1)) ?_ (by first | (go_simp; rfl) | (go_simp; done)) ?_); exact built_e _ _) | ((with_reducible refine wpList_gotE ?_ (exec_slice0 HSL2.out rfl ?_) (by first | (go_simp; rfl) | (go_simp; done)) ?_); rfl; rfl) | ((with_reducible refine wpList_gotE ?_ (loadC hcw rfl ?_) (by first | (go_simp; rfl) | (go_simp; done)) ?_); rfl; rfl) | ((with_reducible refine wpList_gotE ?_ (loadR hxw rfl ?_) (by first | (go_simp; rfl) | (go_simp; done)) ?_); rfl; rfl))
      rw [HV8.out]
      clear y3 f3 HV8 hcw hxw HRUN HSL2
      go_wp2_with (first | ((with_reducible refine wpList_got ?_ (loadR hx4 rfl ?_) ?_); rfl; rfl) | (refine wpList_skip rfl (sr rfl rfl rfl) ?_))
      refine bodyPost_ret (v := encR res.1) (results_cell_row rfl _ _ (w.heap.size + 1) 50 (cellsR res.1) (0, 0) _ rfl HBR.out undR rfl sizeR) rfl ?_
      exact HX.out
end
end Go.Proofs.Ytbgfccanbgpjiaa.O.I
