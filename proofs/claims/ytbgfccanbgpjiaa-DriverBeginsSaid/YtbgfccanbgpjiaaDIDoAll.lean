/- Own work. -/
import Derived.Test.YtbgfccanbgpjiaaDJ05
namespace Go.Proofs.Ytbgfccanbgpjiaa.O.I
open Go Go.RowKit Go.Lib KM
attribute [local go_sem] Oper.semAt_some
theorem loadP_callB {W : World} {b : Nat} {lc : Cl} {x : Rs} (h : BoxP W b ⟨lc, x⟩) {oi : Oper} {a : Act} {p : Operand} (ho : oi.op = .load 27 p) (hx : a.eval p = .pointer (some ⟨b, 0, none⟩)) :
    (execOp a.eval oi).run Try.prog W = .ok (.value (encC lc)) W := loadP_call h ho hx
section
variable (B d r v s n : Nat) (Ro Vo So : List (ByteArray × Value)) (No : List (Tg × Value)) (c : Cl) (sn : Bool) (w : World)
set_option maxRecDepth 100000 in
set_option maxHeartbeats 8000000 in
theorem d_bad (hri : rightB c = false) :
    Calls Try.prog 24 #[.pointer (some ⟨d, 0, none⟩), encC c] w fun e w' => e = .returned (encR (errR 2)) ∧ Below w.heap.size w w' := by
  have HRI := Lib.hid hri
  clear hri
  rw [show encC c = .agg (cellsC c) from rfl]
  go_enter Try.func24, Try.ntmps24
  go_upto_region 1 with (fail)
  refine wp_gen (fun V => BoxC V w.heap.size c ∧ BoxR V (w.heap.size + 1) zeroR ∧ Below w.heap.size w V) ⟨(heap2 w _ _).1, (heap2 w _ _).2, below2 w _ _⟩ ?_
  rintro V1 ⟨hc1, hr1, hw1⟩
  have HR := Lib.hid hr1
  have HW := Lib.hid hw1
  clear hr1 hw1
  go_wp2_with (refine wpList_got rfl (loadC hc1 rfl rfl) ?_)
  clear hc1
  refine (right_is HRI.out _).mono ?_
  rintro e W2 ⟨rfl, hb⟩
  replace HR := Lib.hid (HR.out.after hb)
  replace HW := Lib.hid (HW.out.trans (hb.mono HW.out.size))
  clear hb
  go_wp2_with (fail)
  refine (failed_any 2 _).mono ?_
  rintro e W6 ⟨rfl, hb6⟩
  obtain ⟨V7, hs7, hb7, -, hl7⟩ := stoR (HR.out.after hb6) (errR 2)
  have HV7 := Lib.hid hb7
  have HW7 := Lib.hid (hl7 _ _ (HW.out.trans (hb6.mono HW.out.size)) (Nat.le_succ _))
  clear hb6 hb7 hl7
  go_wp2_with (refine wpList_skip rfl (hs7 rfl rfl rfl) ?_)
  refine bodyPost_ret (v := encR (errR 2)) (results_cell_row rfl _ _ (w.heap.size + 1) 50 (cellsR (errR 2)) (0, 0) _ rfl HV7.out undR rfl sizeR) rfl ?_
  exact ⟨rfl, HW7.out⟩
set_option maxRecDepth 100000 in
set_option maxHeartbeats 8000000 in
theorem d_stale (lc : Cl) (x : Rs) (hd : DrAt w d r v s n Ro Vo So No) (h1 : snapV c.verb = sn) (hN : KM.get ⟨sn, c.target⟩ No = some (encP ⟨lc, x⟩)) (hri : rightB c = true) (hlt : c.num < lc.num) :
    Calls Try.prog 24 #[.pointer (some ⟨d, 0, none⟩), encC c] w fun e w' => e = .returned (encR (errR 9)) ∧ Below w.heap.size w w' := by
  have HD0 := Lib.hid hd
  have HV := Lib.hid h1
  have HN := Lib.hid hN
  have HRI := Lib.hid hri
  clear hd h1 hN hri
  rw [show encC c = .agg (cellsC c) from rfl]
  go_enter Try.func24, Try.ntmps24
  go_upto_region 1 with (fail)
  refine wp_gen (fun V => DrAt V d r v s n Ro Vo So No ∧ BoxC V w.heap.size c ∧ BoxR V (w.heap.size + 1) zeroR ∧ Below w.heap.size w V) ⟨HD0.out.after (below2 w _ _), (heap2 w _ _).1, (heap2 w _ _).2, below2 w _ _⟩ ?_
  rintro V1 ⟨hd1, hc1, hr1, hw1⟩
  have HD := Lib.hid hd1
  have HC := Lib.hid hc1
  have HR := Lib.hid hr1
  have HW := Lib.hid hw1
  clear hd1 hr1 hw1 HD0
  go_wp2_with (refine wpList_got rfl (loadC hc1 rfl rfl) ?_)
  clear hc1
  refine (right_is HRI.out _).mono ?_
  rintro e W2 ⟨rfl, hb⟩
  replace HD := Lib.hid (HD.out.after hb)
  replace HC := Lib.hid (HC.out.after hb)
  replace HR := Lib.hid (HR.out.after hb)
  replace HW := Lib.hid (HW.out.trans (hb.mono HW.out.size))
  clear hb
  have c0 := HC.out.c0
  have c1 := HC.out.c1
  have HTG := Lib.hid (targetOf_any c.verb c.target W2)
  rw [HV.out] at HTG
  go_wp2_with (fail)
  clear c0 c1
  refine HTG.out.mono ?_
  rintro e W3 ⟨rfl, hb⟩
  obtain ⟨V4, hs4, hb4, hl4⟩ := boxT W3 zeroT rfl ⟨sn, c.target⟩
  have hw3 := HW.out.trans (hb.mono HW.out.size)
  have hr3 := HR.out.after hb
  have HMT : Hid (w.heap.size + 1 < W3.heap.size) := hr3.lt
  clear hr3
  replace HD := Lib.hid ((HD.out.after hb).after hl4)
  replace HC := Lib.hid ((HC.out.after hb).after hl4)
  replace HR := Lib.hid ((HR.out.after hb).after hl4)
  replace HW := Lib.hid (hw3.trans (hl4.mono hw3.size))
  have HT := Lib.hid hb4
  clear hb hb4 hl4 hw3 HTG
  go_upto_region 6 with (refine wpList_skip rfl (hs4 rfl rfl rfl) ?_)
  clear hs4
  refine wp_region_held_drew (S := fun V => DrAt V d r v s n Ro Vo So No ∧ BoxC V w.heap.size c ∧ BoxR V (w.heap.size + 1) zeroR ∧ BoxT V W3.heap.size ⟨sn, c.target⟩ ∧ Below w.heap.size w V) (by kernel_rfl) ⟨HD.out, HC.out, HR.out, HT.out, HW.out.drew⟩ (fun _ => ?_)
  refine HeldBy.gen (fun V => DrAt V d r v s n Ro Vo So No ∧ BoxC V w.heap.size c ∧ BoxR V (w.heap.size + 1) zeroR ∧ BoxT V W3.heap.size ⟨sn, c.target⟩ ∧ Below w.heap.size w V) ⟨HD.out, HC.out, HR.out, HT.out, HW.out.drew⟩ ?_
  clear HD HC HR HT HW
  rintro U0 HS
  refine HeldBy.tn (i := 0) rfl HS ?_
  refine HeldBy.tn (i := 1) rfl HS ?_
  refine HeldBy.tn (i := 2) rfl HS ?_
  refine HeldBy.tk (i := 3) (v := .map (some n)) rfl (fun V hV => by have hc := hV.1.box.c3; first | (go_simp; rfl) | (go_simp; done)) HS ?_
  refine HeldBy.tk (i := 4) (v := encT ⟨sn, c.target⟩) rfl (fun V hV => loadT hV.2.2.2.1 rfl rfl) HS ?_
  refine HeldBy.tk (i := 5) (v := .tuple #[encP ⟨lc, x⟩, .bool true]) rfl (fun V hV => exec_lookD hV.1.done (some _) HN.out rfl rfl rfl) HS ?_
  refine HeldBy.tn (i := 6) rfl HS ?_
  refine HeldBy.tn (i := 7) rfl HS ?_
  refine HeldBy.tn (i := 8) rfl HS ?_
  have HSS : ∀ w', Below U0.heap.size U0 w' → (DrAt w' d r v s n Ro Vo So No ∧ BoxC w' w.heap.size c ∧ BoxR w' (w.heap.size + 1) zeroR ∧ BoxT w' W3.heap.size ⟨sn, c.target⟩ ∧ Below w.heap.size w w') := fun w' hb => ⟨HS.1.after hb, HS.2.1.after hb, HS.2.2.1.after hb, HS.2.2.2.1.after hb, HS.2.2.2.2.trans (hb.mono HS.2.2.2.2.size)⟩
  refine HeldBy.Goes.without (w0 := U0) (k := 9) (dk := some 6) (x := .cells (cellsP zeroP) 109 (0, 0)) ?_ U0 (Below.refl _ _)
  refine HeldBy.Goes.nil rfl rfl (by kernel_rfl) rfl (makes_p rfl) HSS rfl (fun p => by unfold HeldBy.ptr; go_simp; rfl) ?_
  intro p U1 hp hb hn
  obtain ⟨V5, hs5, hb5, -, hl5⟩ := stoP (show BoxP U1 p zeroP from hn) ⟨lc, x⟩
  have hS5 := HSS V5 (hl5 _ _ hb hp)
  refine HeldBy.store (i := 10) (w' := V5) rfl (by kernel_rfl) (by rfl) (hs5 rfl rfl rfl) (by first | (go_simp; rfl) | (go_simp; done)) hS5 ?_
  refine HeldBy.tn (i := 11) rfl hS5 ?_
  refine wpAnyH_done (by kernel_rfl) ?_ _
  have hc5 := hS5.2.1
  have n2 := hc5.c2
  have p2 : V5.cell? ⟨p, 2, none⟩ = some (.int .u64 lc.num) := hb5.c2
  have HR5 := Lib.hid hS5.2.2.1
  have HW5 := Lib.hid hS5.2.2.2.2
  clear hs5 hl5 hS5 HSS HS hp hb hn hb5
  go_wp2_with (fail)
  refine (failed_any 9 _).mono ?_
  rintro e W6 ⟨rfl, hb6⟩
  obtain ⟨V7, hs7, hb7, -, hl7⟩ := stoR (HR5.out.after hb6) (errR 9)
  have HV7 := Lib.hid hb7
  have HW7 := Lib.hid (hl7 _ _ (HW5.out.trans (hb6.mono HW5.out.size)) (Nat.le_succ _))
  clear hb6 hb7 hl7
  go_wp2_with (refine wpList_skip rfl (hs7 rfl rfl rfl) ?_)
  refine bodyPost_ret (v := encR (errR 9)) (results_cell_row rfl _ _ (w.heap.size + 1) 50 (cellsR (errR 9)) (0, 0) _ rfl HV7.out undR rfl sizeR) rfl ?_
  exact ⟨rfl, HW7.out⟩
set_option maxRecDepth 100000 in
set_option maxHeartbeats 8000000 in
theorem d_same (x : Rs) (hd : DrAt w d r v s n Ro Vo So No) (h1 : snapV c.verb = sn) (hN : KM.get ⟨sn, c.target⟩ No = some (encP ⟨c, x⟩)) (hri : rightB c = true) :
    Calls Try.prog 24 #[.pointer (some ⟨d, 0, none⟩), encC c] w fun e w' => e = .returned (encR x) ∧ Below w.heap.size w w' := by
  have HD0 := Lib.hid hd
  have HV := Lib.hid h1
  have HN := Lib.hid hN
  have HRI := Lib.hid hri
  clear hd h1 hN hri
  rw [show encC c = .agg (cellsC c) from rfl]
  go_enter Try.func24, Try.ntmps24
  go_upto_region 1 with (fail)
  refine wp_gen (fun V => DrAt V d r v s n Ro Vo So No ∧ BoxC V w.heap.size c ∧ BoxR V (w.heap.size + 1) zeroR ∧ Below w.heap.size w V) ⟨HD0.out.after (below2 w _ _), (heap2 w _ _).1, (heap2 w _ _).2, below2 w _ _⟩ ?_
  rintro V1 ⟨hd1, hc1, hr1, hw1⟩
  have HD := Lib.hid hd1
  have HC := Lib.hid hc1
  have HR := Lib.hid hr1
  have HW := Lib.hid hw1
  clear hd1 hr1 hw1 HD0
  go_wp2_with (refine wpList_got rfl (loadC hc1 rfl rfl) ?_)
  clear hc1
  refine (right_is HRI.out _).mono ?_
  rintro e W2 ⟨rfl, hb⟩
  replace HD := Lib.hid (HD.out.after hb)
  replace HC := Lib.hid (HC.out.after hb)
  replace HR := Lib.hid (HR.out.after hb)
  replace HW := Lib.hid (HW.out.trans (hb.mono HW.out.size))
  clear hb
  have c0 := HC.out.c0
  have c1 := HC.out.c1
  have HTG := Lib.hid (targetOf_any c.verb c.target W2)
  rw [HV.out] at HTG
  go_wp2_with (fail)
  clear c0 c1
  refine HTG.out.mono ?_
  rintro e W3 ⟨rfl, hb⟩
  obtain ⟨V4, hs4, hb4, hl4⟩ := boxT W3 zeroT rfl ⟨sn, c.target⟩
  have hw3 := HW.out.trans (hb.mono HW.out.size)
  have hr3 := HR.out.after hb
  have HMT : Hid (w.heap.size + 1 < W3.heap.size) := hr3.lt
  clear hr3
  replace HD := Lib.hid ((HD.out.after hb).after hl4)
  replace HC := Lib.hid ((HC.out.after hb).after hl4)
  replace HR := Lib.hid ((HR.out.after hb).after hl4)
  replace HW := Lib.hid (hw3.trans (hl4.mono hw3.size))
  have HT := Lib.hid hb4
  clear hb hb4 hl4 hw3 HTG
  go_upto_region 6 with (refine wpList_skip rfl (hs4 rfl rfl rfl) ?_)
  clear hs4
  refine wp_region_held_drew (S := fun V => DrAt V d r v s n Ro Vo So No ∧ BoxC V w.heap.size c ∧ BoxR V (w.heap.size + 1) zeroR ∧ BoxT V W3.heap.size ⟨sn, c.target⟩ ∧ Below w.heap.size w V) (by kernel_rfl) ⟨HD.out, HC.out, HR.out, HT.out, HW.out.drew⟩ (fun _ => ?_)
  refine HeldBy.gen (fun V => DrAt V d r v s n Ro Vo So No ∧ BoxC V w.heap.size c ∧ BoxR V (w.heap.size + 1) zeroR ∧ BoxT V W3.heap.size ⟨sn, c.target⟩ ∧ Below w.heap.size w V) ⟨HD.out, HC.out, HR.out, HT.out, HW.out.drew⟩ ?_
  clear HD HC HR HT HW
  rintro U0 HS
  refine HeldBy.tn (i := 0) rfl HS ?_
  refine HeldBy.tn (i := 1) rfl HS ?_
  refine HeldBy.tn (i := 2) rfl HS ?_
  refine HeldBy.tk (i := 3) (v := .map (some n)) rfl (fun V hV => by have hc := hV.1.box.c3; first | (go_simp; rfl) | (go_simp; done)) HS ?_
  refine HeldBy.tk (i := 4) (v := encT ⟨sn, c.target⟩) rfl (fun V hV => loadT hV.2.2.2.1 rfl rfl) HS ?_
  refine HeldBy.tk (i := 5) (v := .tuple #[encP ⟨c, x⟩, .bool true]) rfl (fun V hV => exec_lookD hV.1.done (some _) HN.out rfl rfl rfl) HS ?_
  refine HeldBy.tn (i := 6) rfl HS ?_
  refine HeldBy.tn (i := 7) rfl HS ?_
  refine HeldBy.tn (i := 8) rfl HS ?_
  have HSS : ∀ w', Below U0.heap.size U0 w' → (DrAt w' d r v s n Ro Vo So No ∧ BoxC w' w.heap.size c ∧ BoxR w' (w.heap.size + 1) zeroR ∧ BoxT w' W3.heap.size ⟨sn, c.target⟩ ∧ Below w.heap.size w w') := fun w' hb => ⟨HS.1.after hb, HS.2.1.after hb, HS.2.2.1.after hb, HS.2.2.2.1.after hb, HS.2.2.2.2.trans (hb.mono HS.2.2.2.2.size)⟩
  refine HeldBy.Goes.without (w0 := U0) (k := 9) (dk := some 6) (x := .cells (cellsP zeroP) 109 (0, 0)) ?_ U0 (Below.refl _ _)
  refine HeldBy.Goes.nil rfl rfl (by kernel_rfl) rfl (makes_p rfl) HSS rfl (fun p => by unfold HeldBy.ptr; go_simp; rfl) ?_
  intro p U1 hp hb hn
  obtain ⟨V5, hs5, hb5, -, hl5⟩ := stoP (show BoxP U1 p zeroP from hn) ⟨c, x⟩
  have hS5 := HSS V5 (hl5 _ _ hb hp)
  refine HeldBy.store (i := 10) (w' := V5) rfl (by kernel_rfl) (by rfl) (hs5 rfl rfl rfl) (by first | (go_simp; rfl) | (go_simp; done)) hS5 ?_
  refine HeldBy.tn (i := 11) rfl hS5 ?_
  refine wpAnyH_done (by kernel_rfl) ?_ _
  have hc5 := hS5.2.1
  have n2 := hc5.c2
  have p2 : V5.cell? ⟨p, 2, none⟩ = some (.int .u64 c.num) := hb5.c2
  obtain ⟨V6, hs6, hb6, -, hl6⟩ := stoR hS5.2.2.1 x
  have HV6 := Lib.hid hb6
  have HW6 := Lib.hid (hl6 _ _ hS5.2.2.2.2 (Nat.le_succ _))
  clear hs5 hl5 hS5 HSS HS hp hb hn hb6 hl6
  go_wp2_with (first | (refine wpList_got rfl (loadC hc5 rfl rfl) ?_) | (refine wpList_got rfl (loadP_call hb5 rfl rfl) ?_) | (refine wpList_got rfl (exec_eqC (v := true) rfl rfl rfl (decide_eq_true rfl)) ?_) | (refine wpList_got rfl (loadP_res hb5 rfl rfl) ?_) | (refine wpList_skip rfl (hs6 rfl rfl rfl) ?_))
  refine bodyPost_ret (v := encR x) (results_cell_row rfl _ _ (w.heap.size + 1) 50 (cellsR x) (0, 0) _ rfl HV6.out undR rfl sizeR) rfl ?_
  exact ⟨rfl, HW6.out⟩
set_option maxRecDepth 100000 in
set_option maxHeartbeats 8000000 in
theorem d_conflict (lc : Cl) (x : Rs) (hd : DrAt w d r v s n Ro Vo So No) (h1 : snapV c.verb = sn) (hN : KM.get ⟨sn, c.target⟩ No = some (encP ⟨lc, x⟩)) (hri : rightB c = true) (hnum : c.num = lc.num) (hne : ¬ c = lc) :
    Calls Try.prog 24 #[.pointer (some ⟨d, 0, none⟩), encC c] w fun e w' => e = .returned (encR (errR 6)) ∧ Below w.heap.size w w' := by
  have HDC : Hid (decide (c = lc) = false) := decide_eq_false hne
  obtain ⟨lv, lt, ln, ls, lz, lo, lq⟩ := lc
  obtain rfl : c.num = ln := hnum
  clear hne
  have HD0 := Lib.hid hd
  have HV := Lib.hid h1
  have HN := Lib.hid hN
  have HRI := Lib.hid hri
  clear hd h1 hN hri
  rw [show encC c = .agg (cellsC c) from rfl]
  go_enter Try.func24, Try.ntmps24
  go_upto_region 1 with (fail)
  refine wp_gen (fun V => DrAt V d r v s n Ro Vo So No ∧ BoxC V w.heap.size c ∧ BoxR V (w.heap.size + 1) zeroR ∧ Below w.heap.size w V) ⟨HD0.out.after (below2 w _ _), (heap2 w _ _).1, (heap2 w _ _).2, below2 w _ _⟩ ?_
  rintro V1 ⟨hd1, hc1, hr1, hw1⟩
  have HD := Lib.hid hd1
  have HC := Lib.hid hc1
  have HR := Lib.hid hr1
  have HW := Lib.hid hw1
  clear hd1 hr1 hw1 HD0
  go_wp2_with (refine wpList_got rfl (loadC hc1 rfl rfl) ?_)
  clear hc1
  refine (right_is HRI.out _).mono ?_
  rintro e W2 ⟨rfl, hb⟩
  replace HD := Lib.hid (HD.out.after hb)
  replace HC := Lib.hid (HC.out.after hb)
  replace HR := Lib.hid (HR.out.after hb)
  replace HW := Lib.hid (HW.out.trans (hb.mono HW.out.size))
  clear hb
  have c0 := HC.out.c0
  have c1 := HC.out.c1
  have HTG := Lib.hid (targetOf_any c.verb c.target W2)
  rw [HV.out] at HTG
  go_wp2_with (fail)
  clear c0 c1
  refine HTG.out.mono ?_
  rintro e W3 ⟨rfl, hb⟩
  obtain ⟨V4, hs4, hb4, hl4⟩ := boxT W3 zeroT rfl ⟨sn, c.target⟩
  have hw3 := HW.out.trans (hb.mono HW.out.size)
  have hr3 := HR.out.after hb
  have HMT : Hid (w.heap.size + 1 < W3.heap.size) := hr3.lt
  clear hr3
  replace HD := Lib.hid ((HD.out.after hb).after hl4)
  replace HC := Lib.hid ((HC.out.after hb).after hl4)
  replace HR := Lib.hid ((HR.out.after hb).after hl4)
  replace HW := Lib.hid (hw3.trans (hl4.mono hw3.size))
  have HT := Lib.hid hb4
  clear hb hb4 hl4 hw3 HTG
  go_upto_region 6 with (refine wpList_skip rfl (hs4 rfl rfl rfl) ?_)
  clear hs4
  refine wp_region_held_drew (S := fun V => DrAt V d r v s n Ro Vo So No ∧ BoxC V w.heap.size c ∧ BoxR V (w.heap.size + 1) zeroR ∧ BoxT V W3.heap.size ⟨sn, c.target⟩ ∧ Below w.heap.size w V) (by kernel_rfl) ⟨HD.out, HC.out, HR.out, HT.out, HW.out.drew⟩ (fun _ => ?_)
  refine HeldBy.gen (fun V => DrAt V d r v s n Ro Vo So No ∧ BoxC V w.heap.size c ∧ BoxR V (w.heap.size + 1) zeroR ∧ BoxT V W3.heap.size ⟨sn, c.target⟩ ∧ Below w.heap.size w V) ⟨HD.out, HC.out, HR.out, HT.out, HW.out.drew⟩ ?_
  clear HD HC HR HT HW
  rintro U0 HS
  refine HeldBy.tn (i := 0) rfl HS ?_
  refine HeldBy.tn (i := 1) rfl HS ?_
  refine HeldBy.tn (i := 2) rfl HS ?_
  refine HeldBy.tk (i := 3) (v := .map (some n)) rfl (fun V hV => by have hc := hV.1.box.c3; first | (go_simp; rfl) | (go_simp; done)) HS ?_
  refine HeldBy.tk (i := 4) (v := encT ⟨sn, c.target⟩) rfl (fun V hV => loadT hV.2.2.2.1 rfl rfl) HS ?_
  refine HeldBy.tk (i := 5) (v := .tuple #[encP ⟨⟨lv, lt, c.num, ls, lz, lo, lq⟩, x⟩, .bool true]) rfl (fun V hV => exec_lookD hV.1.done (some _) HN.out rfl rfl rfl) HS ?_
  refine HeldBy.tn (i := 6) rfl HS ?_
  refine HeldBy.tn (i := 7) rfl HS ?_
  refine HeldBy.tn (i := 8) rfl HS ?_
  have HSS : ∀ w', Below U0.heap.size U0 w' → (DrAt w' d r v s n Ro Vo So No ∧ BoxC w' w.heap.size c ∧ BoxR w' (w.heap.size + 1) zeroR ∧ BoxT w' W3.heap.size ⟨sn, c.target⟩ ∧ Below w.heap.size w w') := fun w' hb => ⟨HS.1.after hb, HS.2.1.after hb, HS.2.2.1.after hb, HS.2.2.2.1.after hb, HS.2.2.2.2.trans (hb.mono HS.2.2.2.2.size)⟩
  refine HeldBy.Goes.without (w0 := U0) (k := 9) (dk := some 6) (x := .cells (cellsP zeroP) 109 (0, 0)) ?_ U0 (Below.refl _ _)
  refine HeldBy.Goes.nil rfl rfl (by kernel_rfl) rfl (makes_p rfl) HSS rfl (fun p => by unfold HeldBy.ptr; go_simp; rfl) ?_
  intro p U1 hp hb hn
  obtain ⟨V5, hs5, hb5, -, hl5⟩ := stoP (show BoxP U1 p zeroP from hn) ⟨⟨lv, lt, c.num, ls, lz, lo, lq⟩, x⟩
  have hS5 := HSS V5 (hl5 _ _ hb hp)
  refine HeldBy.store (i := 10) (w' := V5) rfl (by kernel_rfl) (by rfl) (hs5 rfl rfl rfl) (by first | (go_simp; rfl) | (go_simp; done)) hS5 ?_
  refine HeldBy.tn (i := 11) rfl hS5 ?_
  refine wpAnyH_done (by kernel_rfl) ?_ _
  have hc5 := hS5.2.1
  have n2 := hc5.c2
  have p2 : V5.cell? ⟨p, 2, none⟩ = some (.int .u64 c.num) := hb5.c2
  have HR5 := Lib.hid hS5.2.2.1
  have HW5 := Lib.hid hS5.2.2.2.2
  have hdn := Lib.hid hS5.1.done
  have g3 := hS5.1.box.c3
  have hbp := hb5
  clear hs5 hl5 hS5 HSS HS hp hb hn hb5
  go_wp2_with (first | (refine wpList_got rfl (loadC hc5 rfl rfl) ?_) | (refine wpList_got rfl (loadP_callB hbp rfl rfl) ?_) | (refine wpList_got rfl (exec_eqC (v := false) rfl rfl rfl HDC.out) ?_))
  refine (failed_any 6 _).mono ?_
  rintro e W6 ⟨rfl, hb6⟩
  obtain ⟨V7, hs7, hb7, -, hl7⟩ := stoR (HR5.out.after hb6) (errR 6)
  have HV7 := Lib.hid hb7
  have HW7 := Lib.hid (hl7 _ _ (HW5.out.trans (hb6.mono HW5.out.size)) (Nat.le_succ _))
  clear hb6 hb7 hl7
  go_wp2_with (refine wpList_skip rfl (hs7 rfl rfl rfl) ?_)
  refine bodyPost_ret (v := encR (errR 6)) (results_cell_row rfl _ _ (w.heap.size + 1) 50 (cellsR (errR 6)) (0, 0) _ rfl HV7.out undR rfl sizeR) rfl ?_
  exact ⟨rfl, HW7.out⟩
set_option maxRecDepth 100000 in
set_option maxHeartbeats 8000000 in
theorem d_full (hd : DrAt w d r v s n Ro Vo So No) (h1 : snapV c.verb = sn) (hN : KM.get ⟨sn, c.target⟩ No = none) (hri : rightB c = true) (hfull : (256 : Int) ≤ (No.length : Int)) :
    Calls Try.prog 24 #[.pointer (some ⟨d, 0, none⟩), encC c] w fun e w' => e = .returned (encR (errR 7)) ∧ Below w.heap.size w w' := by
  have HD0 := Lib.hid hd
  have HV := Lib.hid h1
  have HN := Lib.hid hN
  have HRI := Lib.hid hri
  clear hd h1 hN hri
  rw [show encC c = .agg (cellsC c) from rfl]
  go_enter Try.func24, Try.ntmps24
  go_upto_region 1 with (fail)
  refine wp_gen (fun V => DrAt V d r v s n Ro Vo So No ∧ BoxC V w.heap.size c ∧ BoxR V (w.heap.size + 1) zeroR ∧ Below w.heap.size w V) ⟨HD0.out.after (below2 w _ _), (heap2 w _ _).1, (heap2 w _ _).2, below2 w _ _⟩ ?_
  rintro V1 ⟨hd1, hc1, hr1, hw1⟩
  have HD := Lib.hid hd1
  have HC := Lib.hid hc1
  have HR := Lib.hid hr1
  have HW := Lib.hid hw1
  clear hd1 hr1 hw1 HD0
  go_wp2_with (refine wpList_got rfl (loadC hc1 rfl rfl) ?_)
  clear hc1
  refine (right_is HRI.out _).mono ?_
  rintro e W2 ⟨rfl, hb⟩
  replace HD := Lib.hid (HD.out.after hb)
  replace HC := Lib.hid (HC.out.after hb)
  replace HR := Lib.hid (HR.out.after hb)
  replace HW := Lib.hid (HW.out.trans (hb.mono HW.out.size))
  clear hb
  have c0 := HC.out.c0
  have c1 := HC.out.c1
  have HTG := Lib.hid (targetOf_any c.verb c.target W2)
  rw [HV.out] at HTG
  go_wp2_with (fail)
  clear c0 c1
  refine HTG.out.mono ?_
  rintro e W3 ⟨rfl, hb⟩
  obtain ⟨V4, hs4, hb4, hl4⟩ := boxT W3 zeroT rfl ⟨sn, c.target⟩
  have hw3 := HW.out.trans (hb.mono HW.out.size)
  have hr3 := HR.out.after hb
  have HMT : Hid (w.heap.size + 1 < W3.heap.size) := hr3.lt
  clear hr3
  replace HD := Lib.hid ((HD.out.after hb).after hl4)
  replace HC := Lib.hid ((HC.out.after hb).after hl4)
  replace HR := Lib.hid ((HR.out.after hb).after hl4)
  replace HW := Lib.hid (hw3.trans (hl4.mono hw3.size))
  have HT := Lib.hid hb4
  clear hb hb4 hl4 hw3 HTG
  go_upto_region 6 with (refine wpList_skip rfl (hs4 rfl rfl rfl) ?_)
  clear hs4
  refine wp_region_held_drew (S := fun V => DrAt V d r v s n Ro Vo So No ∧ BoxC V w.heap.size c ∧ BoxR V (w.heap.size + 1) zeroR ∧ BoxT V W3.heap.size ⟨sn, c.target⟩ ∧ Below w.heap.size w V) (by kernel_rfl) ⟨HD.out, HC.out, HR.out, HT.out, HW.out.drew⟩ (fun _ => ?_)
  refine HeldBy.gen (fun V => DrAt V d r v s n Ro Vo So No ∧ BoxC V w.heap.size c ∧ BoxR V (w.heap.size + 1) zeroR ∧ BoxT V W3.heap.size ⟨sn, c.target⟩ ∧ Below w.heap.size w V) ⟨HD.out, HC.out, HR.out, HT.out, HW.out.drew⟩ ?_
  clear HD HC HR HT HW
  rintro U0 HS
  refine HeldBy.tn (i := 0) rfl HS ?_
  refine HeldBy.tn (i := 1) rfl HS ?_
  refine HeldBy.tn (i := 2) rfl HS ?_
  refine HeldBy.tk (i := 3) (v := .map (some n)) rfl (fun V hV => by have hc := hV.1.box.c3; first | (go_simp; rfl) | (go_simp; done)) HS ?_
  refine HeldBy.tk (i := 4) (v := encT ⟨sn, c.target⟩) rfl (fun V hV => loadT hV.2.2.2.1 rfl rfl) HS ?_
  refine HeldBy.tk (i := 5) (v := .tuple #[encP zeroP, .bool false]) rfl (fun V hV => exec_lookD hV.1.done none HN.out rfl rfl rfl) HS ?_
  refine HeldBy.tn (i := 6) rfl HS ?_
  refine HeldBy.tn (i := 7) rfl HS ?_
  refine HeldBy.tn (i := 8) rfl HS ?_
  have HSS : ∀ w', Below U0.heap.size U0 w' → (DrAt w' d r v s n Ro Vo So No ∧ BoxC w' w.heap.size c ∧ BoxR w' (w.heap.size + 1) zeroR ∧ BoxT w' W3.heap.size ⟨sn, c.target⟩ ∧ Below w.heap.size w w') := fun w' hb => ⟨HS.1.after hb, HS.2.1.after hb, HS.2.2.1.after hb, HS.2.2.2.1.after hb, HS.2.2.2.2.trans (hb.mono HS.2.2.2.2.size)⟩
  refine HeldBy.Goes.without (w0 := U0) (k := 9) (dk := some 6) (x := .cells (cellsP zeroP) 109 (0, 0)) ?_ U0 (Below.refl _ _)
  refine HeldBy.Goes.nil rfl rfl (by kernel_rfl) rfl (makes_p rfl) HSS rfl (fun p => by unfold HeldBy.ptr; go_simp; rfl) ?_
  intro p U1 hp hb hn
  obtain ⟨V5, hs5, hb5, -, hl5⟩ := stoP (show BoxP U1 p zeroP from hn) zeroP
  have hS5 := HSS V5 (hl5 _ _ hb hp)
  refine HeldBy.store (i := 10) (w' := V5) rfl (by kernel_rfl) (by rfl) (hs5 rfl rfl rfl) (by first | (go_simp; rfl) | (go_simp; done)) hS5 ?_
  refine HeldBy.tn (i := 11) rfl hS5 ?_
  refine wpAnyH_done (by kernel_rfl) ?_ _
  have hc5 := hS5.2.1
  have HR5 := Lib.hid hS5.2.2.1
  have HW5 := Lib.hid hS5.2.2.2.2
  have hdn := Lib.hid hS5.1.done
  have g3 := hS5.1.box.c3
  have hbp := hb5
  clear hs5 hl5 hS5 HSS HS hp hb hn hb5
  go_wp2_with (first | (refine wpList_got rfl (exec_maplen hdn.out und_D rfl rfl) ?_))
  refine (failed_any 7 _).mono ?_
  rintro e W6 ⟨rfl, hb6⟩
  obtain ⟨V7, hs7, hb7, -, hl7⟩ := stoR (HR5.out.after hb6) (errR 7)
  have HV7 := Lib.hid hb7
  have HW7 := Lib.hid (hl7 _ _ (HW5.out.trans (hb6.mono HW5.out.size)) (Nat.le_succ _))
  clear hb6 hb7 hl7
  go_wp2_with (refine wpList_skip rfl (hs7 rfl rfl rfl) ?_)
  refine bodyPost_ret (v := encR (errR 7)) (results_cell_row rfl _ _ (w.heap.size + 1) 50 (cellsR (errR 7)) (0, 0) _ rfl HV7.out undR rfl sizeR) rfl ?_
  exact ⟨rfl, HW7.out⟩
set_option maxRecDepth 100000 in
set_option maxHeartbeats 8000000 in
theorem d_newer (lc : Cl) (x : Rs) (T T2 : Rs → World → Prop) (D : Nat → Prop) (hop : ∀ V1, Below w.heap.size w V1 → w.heap.size + 1 < V1.heap.size → Calls Try.prog 50 #[.pointer (some ⟨d, 0, none⟩), encC c] V1 fun e V => ∃ r, e = .returned (encR r) ∧ T r V ∧ Fr D B V1 V)
    (hD : ∀ g, D g → g < w.heap.size ∧ g ≠ d ∧ g ≠ n) (hdn : d ≠ n) (hB : B ≤ n ∧ B ≤ w.heap.size) (hT : ∀ r V V', T r V → (∀ g, g < V.heap.size → g ≠ w.heap.size + 1 → g ≠ n → V'.heap[g]? = V.heap[g]?) → IsMap encT V' n (KM.put ⟨sn, c.target⟩ (encP ⟨c, r⟩) No) → T2 r V') (hd : DrAt w d r v s n Ro Vo So No) (h1 : snapV c.verb = sn) (hN : KM.get ⟨sn, c.target⟩ No = some (encP ⟨lc, x⟩)) (hri : rightB c = true) (hgt : lc.num < c.num) :
    Calls Try.prog 24 #[.pointer (some ⟨d, 0, none⟩), encC c] w fun e w' => ∃ r, e = .returned (encR r) ∧ T2 r w' ∧ Fr (fun g => D g ∨ g = n) B w w' := by
  have HOP := Lib.hid hop
  have HDD := Lib.hid hD
  have HDN := Lib.hid hdn
  have HT2 := Lib.hid hT
  have HBB := Lib.hid hB
  have HLT := Lib.hid hd.lt
  clear hop hD hdn hT hB
  have HDC : Hid (decide (c = lc) = false) := decide_eq_false (fun e => absurd hgt (by rw [e]; exact Int.lt_irrefl _))
  have HG : Hid (lc.num < c.num) := hgt
  clear hgt
  have HD0 := Lib.hid hd
  have HV := Lib.hid h1
  have HN := Lib.hid hN
  have HRI := Lib.hid hri
  clear hd h1 hN hri
  rw [show encC c = .agg (cellsC c) from rfl]
  go_enter Try.func24, Try.ntmps24
  go_upto_region 1 with (fail)
  refine wp_gen (fun V => DrAt V d r v s n Ro Vo So No ∧ BoxC V w.heap.size c ∧ BoxR V (w.heap.size + 1) zeroR ∧ Below w.heap.size w V) ⟨HD0.out.after (below2 w _ _), (heap2 w _ _).1, (heap2 w _ _).2, below2 w _ _⟩ ?_
  rintro V1 ⟨hd1, hc1, hr1, hw1⟩
  have HD := Lib.hid hd1
  have HC := Lib.hid hc1
  have HR := Lib.hid hr1
  have HW := Lib.hid hw1
  clear hd1 hr1 hw1 HD0
  go_wp2_with (refine wpList_got rfl (loadC hc1 rfl rfl) ?_)
  clear hc1
  refine (right_is HRI.out _).mono ?_
  rintro e W2 ⟨rfl, hb⟩
  replace HD := Lib.hid (HD.out.after hb)
  replace HC := Lib.hid (HC.out.after hb)
  replace HR := Lib.hid (HR.out.after hb)
  replace HW := Lib.hid (HW.out.trans (hb.mono HW.out.size))
  clear hb
  have c0 := HC.out.c0
  have c1 := HC.out.c1
  have HTG := Lib.hid (targetOf_any c.verb c.target W2)
  rw [HV.out] at HTG
  go_wp2_with (fail)
  clear c0 c1
  refine HTG.out.mono ?_
  rintro e W3 ⟨rfl, hb⟩
  obtain ⟨V4, hs4, hb4, hl4⟩ := boxT W3 zeroT rfl ⟨sn, c.target⟩
  have hw3 := HW.out.trans (hb.mono HW.out.size)
  have hr3 := HR.out.after hb
  have HMT : Hid (w.heap.size + 1 < W3.heap.size) := hr3.lt
  clear hr3
  replace HD := Lib.hid ((HD.out.after hb).after hl4)
  replace HC := Lib.hid ((HC.out.after hb).after hl4)
  replace HR := Lib.hid ((HR.out.after hb).after hl4)
  replace HW := Lib.hid (hw3.trans (hl4.mono hw3.size))
  have HT := Lib.hid hb4
  clear hb hb4 hl4 hw3 HTG
  go_upto_region 6 with (refine wpList_skip rfl (hs4 rfl rfl rfl) ?_)
  clear hs4
  refine wp_region_held_drew (S := fun V => DrAt V d r v s n Ro Vo So No ∧ BoxC V w.heap.size c ∧ BoxR V (w.heap.size + 1) zeroR ∧ BoxT V W3.heap.size ⟨sn, c.target⟩ ∧ Below w.heap.size w V) (by kernel_rfl) ⟨HD.out, HC.out, HR.out, HT.out, HW.out.drew⟩ (fun _ => ?_)
  refine HeldBy.gen (fun V => DrAt V d r v s n Ro Vo So No ∧ BoxC V w.heap.size c ∧ BoxR V (w.heap.size + 1) zeroR ∧ BoxT V W3.heap.size ⟨sn, c.target⟩ ∧ Below w.heap.size w V) ⟨HD.out, HC.out, HR.out, HT.out, HW.out.drew⟩ ?_
  clear HD HC HR HT HW
  rintro U0 HS
  refine HeldBy.tn (i := 0) rfl HS ?_
  refine HeldBy.tn (i := 1) rfl HS ?_
  refine HeldBy.tn (i := 2) rfl HS ?_
  refine HeldBy.tk (i := 3) (v := .map (some n)) rfl (fun V hV => by have hc := hV.1.box.c3; first | (go_simp; rfl) | (go_simp; done)) HS ?_
  refine HeldBy.tk (i := 4) (v := encT ⟨sn, c.target⟩) rfl (fun V hV => loadT hV.2.2.2.1 rfl rfl) HS ?_
  refine HeldBy.tk (i := 5) (v := .tuple #[encP ⟨lc, x⟩, .bool true]) rfl (fun V hV => exec_lookD hV.1.done (some _) HN.out rfl rfl rfl) HS ?_
  refine HeldBy.tn (i := 6) rfl HS ?_
  refine HeldBy.tn (i := 7) rfl HS ?_
  refine HeldBy.tn (i := 8) rfl HS ?_
  have HSS : ∀ w', Below U0.heap.size U0 w' → (DrAt w' d r v s n Ro Vo So No ∧ BoxC w' w.heap.size c ∧ BoxR w' (w.heap.size + 1) zeroR ∧ BoxT w' W3.heap.size ⟨sn, c.target⟩ ∧ Below w.heap.size w w') := fun w' hb => ⟨HS.1.after hb, HS.2.1.after hb, HS.2.2.1.after hb, HS.2.2.2.1.after hb, HS.2.2.2.2.trans (hb.mono HS.2.2.2.2.size)⟩
  refine HeldBy.Goes.without (w0 := U0) (k := 9) (dk := some 6) (x := .cells (cellsP zeroP) 109 (0, 0)) ?_ U0 (Below.refl _ _)
  refine HeldBy.Goes.nil rfl rfl (by kernel_rfl) rfl (makes_p rfl) HSS rfl (fun p => by unfold HeldBy.ptr; go_simp; rfl) ?_
  intro p U1 hp hb hn
  obtain ⟨V5, hs5, hb5, -, hl5⟩ := stoP (show BoxP U1 p zeroP from hn) ⟨lc, x⟩
  have hS5 := HSS V5 (hl5 _ _ hb hp)
  refine HeldBy.store (i := 10) (w' := V5) rfl (by kernel_rfl) (by rfl) (hs5 rfl rfl rfl) (by first | (go_simp; rfl) | (go_simp; done)) hS5 ?_
  refine HeldBy.tn (i := 11) rfl hS5 ?_
  refine wpAnyH_done (by kernel_rfl) ?_ _
  have hc5 := hS5.2.1
  have n2 := hc5.c2
  have p2 : V5.cell? ⟨p, 2, none⟩ = some (.int .u64 lc.num) := hb5.c2
  have HC5 := Lib.hid hS5.2.1
  have HR5 := Lib.hid hS5.2.2.1
  have HT5 := Lib.hid hS5.2.2.2.1
  have HW5 := Lib.hid hS5.2.2.2.2
  have HD5 := Lib.hid hS5.1
  have HPC := Lib.hid (HOP.out V5 hS5.2.2.2.2 hS5.2.2.1.lt)
  have hbp := hb5
  have hdn := Lib.hid hS5.1.done
  have g3 := hS5.1.box.c3
  have hg1 : ¬ c.num < lc.num := by have := HG.out; omega
  have hg2 : ¬ c.num = lc.num := by have := HG.out; omega
  clear hs5 hl5 hS5 HSS HS hp hb hn hb5 HOP
  go_wp2_with (first | (refine wpList_got rfl (loadC hc5 rfl rfl) ?_) | (refine wpList_got rfl (loadP_callB hbp rfl rfl) ?_) | (refine wpList_got rfl (exec_eqC (v := false) rfl rfl rfl HDC.out) ?_))
  clear hc5 hbp hdn g3 n2 p2 hg1 hg2 HDC HG
  refine HPC.out.mono ?_
  rintro e W6 ⟨rs, rfl, ht6, hf6⟩
  have hlt := HLT.out
  have hmt := HMT.out
  have hcl := HC5.out.lt
  have hrl := HR5.out.lt
  have htl := HT5.out.lt
  have hno : ∀ g, w.heap.size ≤ g → ¬ D g := fun g hg hd => by
    have := (HDD.out g hd).1
    omega
  have hc6 : BoxC W6 w.heap.size c := (hf6.1 _ hcl (hno _ (Nat.le_refl _))).trans HC5.out
  have hr6 : BoxR W6 (w.heap.size + 1) zeroR := (hf6.1 _ hrl (hno _ (Nat.le_succ _))).trans HR5.out
  have hT6 : BoxT W6 W3.heap.size ⟨sn, c.target⟩ := (hf6.1 _ htl (hno _ (by omega))).trans HT5.out
  have hbd6 : BoxD W6 d ⟨some r, some v, some s, some n⟩ := (hf6.1 _ HD5.out.lt.1 (fun hd => (HDD.out _ hd).2.1 rfl)).trans HD5.out.box
  have hN6 : IsMap encT W6 n No := HD5.out.done.of_heap (hf6.1 _ HD5.out.lt.2.2.2.2 (fun hd => (HDD.out _ hd).2.2 rfl))
  have hsz5 := HW5.out.size
  have hsz6 : V5.heap.size ≤ W6.heap.size := hf6.2.size
  obtain ⟨V7, hs7, hb7, hl7⟩ := boxR W6 zeroR rfl rs
  have HM := Lib.hid (hN6.after hl7)
  have HB := Lib.hid (hbd6.after hl7)
  have HCC := Lib.hid (hc6.after hl7)
  have HRR := Lib.hid (hr6.after hl7)
  have HTT := Lib.hid (hT6.after hl7)
  have HX := Lib.hid hb7
  have HTW := Lib.hid ht6
  have HF6 : Hid (Fr D B w W6) := (Fr.of_below HW5.out HBB.out.2).trans hf6
  have HK : Hid (∀ g, g < W6.heap.size → V7.heap[g]? = W6.heap[g]?) := fun g hg => hl7.block g hg
  have HB7 : Hid (Below W6.heap.size W6 V7) := hl7
  have HNN : Hid (w.heap.size + 1 < W6.heap.size ∧ W3.heap.size < W6.heap.size ∧ w.heap.size ≤ W6.heap.size) := by
    show _ ∧ _
    omega
  clear hlt hmt hcl hrl htl hno hc6 hr6 hT6 hbd6 hN6 hsz5 hsz6 hb7 hl7 ht6 hf6 HC5 HR5 HT5 HW5 HD5 HPC HDD
  go_upto_region 16 with (refine wpList_skip rfl (hs7 rfl rfl rfl) ?_)
  clear hs7
  refine wp_region_held_drew (S := fun V => BoxD V d ⟨some r, some v, some s, some n⟩ ∧ BoxC V w.heap.size c ∧ BoxT V W3.heap.size ⟨sn, c.target⟩ ∧ BoxR V W6.heap.size rs) (by kernel_rfl) ⟨HB.out, HCC.out, HTT.out, HX.out⟩ (fun _ => ?_)
  refine HeldBy.gen (fun V => (BoxD V d ⟨some r, some v, some s, some n⟩ ∧ BoxC V w.heap.size c ∧ BoxT V W3.heap.size ⟨sn, c.target⟩ ∧ BoxR V W6.heap.size rs) ∧ (BoxR V (w.heap.size + 1) zeroR) ∧ (IsMap encT V n No) ∧ (∀ g, g < W6.heap.size → V.heap[g]? = W6.heap[g]?) ∧ (Below W6.heap.size W6 V)) ⟨⟨HB.out, HCC.out, HTT.out, HX.out⟩, HRR.out, HM.out, HK.out, HB7.out.drew⟩ ?_
  clear HB HCC HTT HX HRR HM HK HB7
  rintro U0 ⟨HS, HRR, HM, HK, HB7⟩
  refine HeldBy.tn (i := 0) rfl HS ?_
  refine HeldBy.tn (i := 1) rfl HS ?_
  refine HeldBy.tn (i := 2) rfl HS ?_
  refine HeldBy.tk (i := 3) (v := .map (some n)) rfl (fun V hV => by have hc := hV.1.c3; first | (go_simp; rfl) | (go_simp; done)) HS ?_
  refine HeldBy.tk (i := 4) (v := encT ⟨sn, c.target⟩) rfl (fun V hV => loadT hV.2.2.1 rfl rfl) HS ?_
  refine HeldBy.tk (i := 5) (v := encC c) rfl (fun V hV => loadC hV.2.1 rfl rfl) HS ?_
  refine HeldBy.tk (i := 6) (v := encR rs) rfl (fun V hV => loadR hV.2.2.2 rfl rfl) HS ?_
  refine HeldBy.tk (i := 7) (v := encP ⟨c, rs⟩) rfl (fun _ _ => exec_build 109 _ rfl _ (by exact built_p _ _)) HS ?_
  obtain ⟨V8, hs8, hm8, ht8⟩ := exec_updD HM ⟨sn, c.target⟩ (encP ⟨c, rs⟩)
  have hlt := HLT.out
  have hmt := HMT.out
  have hnn := HNN.out
  have hdn := HDN.out
  have hS8 : BoxD V8 d ⟨some r, some v, some s, some n⟩ ∧ BoxC V8 w.heap.size c ∧ BoxT V8 W3.heap.size ⟨sn, c.target⟩ ∧ BoxR V8 W6.heap.size rs :=
    ⟨HS.1.turned ht8 hdn, Turned.other ht8 (by omega) HS.2.1, Turned.other ht8 (by omega) HS.2.2.1, Turned.other ht8 (by omega) HS.2.2.2⟩
  refine HeldBy.store (i := 8) (w' := V8) rfl (by kernel_rfl) (by rfl) (hs8 rfl rfl rfl rfl) (by first | (go_simp; rfl) | (go_simp; done)) hS8 ?_
  refine wpAnyH_done (by kernel_rfl) ?_ _
  have hr8 : BoxR V8 (w.heap.size + 1) zeroR := Turned.other ht8 (by omega) HRR
  have hx8 := hS8.2.2.2
  obtain ⟨V9, hs9, hb9, hk9, hl9⟩ := stoR hr8 rs
  have HV9 := Lib.hid hb9
  have HY : Hid (T2 rs V9 ∧ Fr (fun g => D g ∨ g = n) B w V9) := by
    show _ ∧ _
    have hBB := HBB.out
    refine ⟨HT2.out rs W6 V9 HTW.out (fun g hg h1 h2 => ?_) (hm8.of_heap (hk9 _ (by omega))), fun g hg hn => ?_, ?_⟩
    · rw [hk9 g h1, ht8.block g h2, HK g hg]
    · rw [hk9 g (by omega), ht8.block g (fun e => hn (.inr e)), HK g (by omega), HF6.out.1 g hg (fun e => hn (.inl e))]
    · exact hl9 _ _ ((HF6.out.2.trans (HB7.mono (by omega))).trans (ht8.below hBB.1)) (by omega)
  clear hs8 hm8 ht8 hlt hmt hnn hdn hS8 hr8 HS HRR HM HK HB7 HTW HF6 hb9 hk9 hl9 HT2
  go_wp2_with (first | (refine wpList_got rfl (loadR hx8 rfl rfl) ?_) | (refine wpList_skip rfl (hs9 rfl rfl rfl) ?_))
  refine bodyPost_ret (v := encR rs) (results_cell_row rfl _ _ (w.heap.size + 1) 50 (cellsR rs) (0, 0) _ rfl HV9.out undR rfl sizeR) rfl ?_
  exact ⟨rs, rfl, HY.out.1, HY.out.2⟩
set_option maxRecDepth 100000 in
set_option maxHeartbeats 8000000 in
theorem d_first (T T2 : Rs → World → Prop) (D : Nat → Prop) (hop : ∀ V1, Below w.heap.size w V1 → w.heap.size + 1 < V1.heap.size → Calls Try.prog 50 #[.pointer (some ⟨d, 0, none⟩), encC c] V1 fun e V => ∃ r, e = .returned (encR r) ∧ T r V ∧ Fr D B V1 V)
    (hD : ∀ g, D g → g < w.heap.size ∧ g ≠ d ∧ g ≠ n) (hdn : d ≠ n) (hB : B ≤ n ∧ B ≤ w.heap.size) (hT : ∀ r V V', T r V → (∀ g, g < V.heap.size → g ≠ w.heap.size + 1 → g ≠ n → V'.heap[g]? = V.heap[g]?) → IsMap encT V' n (KM.put ⟨sn, c.target⟩ (encP ⟨c, r⟩) No) → T2 r V') (hd : DrAt w d r v s n Ro Vo So No) (h1 : snapV c.verb = sn) (hN : KM.get ⟨sn, c.target⟩ No = none) (hri : rightB c = true) (hln : (No.length : Int) < 256) :
    Calls Try.prog 24 #[.pointer (some ⟨d, 0, none⟩), encC c] w fun e w' => ∃ r, e = .returned (encR r) ∧ T2 r w' ∧ Fr (fun g => D g ∨ g = n) B w w' := by
  have HOP := Lib.hid hop
  have HDD := Lib.hid hD
  have HDN := Lib.hid hdn
  have HT2 := Lib.hid hT
  have HBB := Lib.hid hB
  have HLT := Lib.hid hd.lt
  clear hop hD hdn hT hB
  have HD0 := Lib.hid hd
  have HV := Lib.hid h1
  have HN := Lib.hid hN
  have HRI := Lib.hid hri
  clear hd h1 hN hri
  rw [show encC c = .agg (cellsC c) from rfl]
  go_enter Try.func24, Try.ntmps24
  go_upto_region 1 with (fail)
  refine wp_gen (fun V => DrAt V d r v s n Ro Vo So No ∧ BoxC V w.heap.size c ∧ BoxR V (w.heap.size + 1) zeroR ∧ Below w.heap.size w V) ⟨HD0.out.after (below2 w _ _), (heap2 w _ _).1, (heap2 w _ _).2, below2 w _ _⟩ ?_
  rintro V1 ⟨hd1, hc1, hr1, hw1⟩
  have HD := Lib.hid hd1
  have HC := Lib.hid hc1
  have HR := Lib.hid hr1
  have HW := Lib.hid hw1
  clear hd1 hr1 hw1 HD0
  go_wp2_with (refine wpList_got rfl (loadC hc1 rfl rfl) ?_)
  clear hc1
  refine (right_is HRI.out _).mono ?_
  rintro e W2 ⟨rfl, hb⟩
  replace HD := Lib.hid (HD.out.after hb)
  replace HC := Lib.hid (HC.out.after hb)
  replace HR := Lib.hid (HR.out.after hb)
  replace HW := Lib.hid (HW.out.trans (hb.mono HW.out.size))
  clear hb
  have c0 := HC.out.c0
  have c1 := HC.out.c1
  have HTG := Lib.hid (targetOf_any c.verb c.target W2)
  rw [HV.out] at HTG
  go_wp2_with (fail)
  clear c0 c1
  refine HTG.out.mono ?_
  rintro e W3 ⟨rfl, hb⟩
  obtain ⟨V4, hs4, hb4, hl4⟩ := boxT W3 zeroT rfl ⟨sn, c.target⟩
  have hw3 := HW.out.trans (hb.mono HW.out.size)
  have hr3 := HR.out.after hb
  have HMT : Hid (w.heap.size + 1 < W3.heap.size) := hr3.lt
  clear hr3
  replace HD := Lib.hid ((HD.out.after hb).after hl4)
  replace HC := Lib.hid ((HC.out.after hb).after hl4)
  replace HR := Lib.hid ((HR.out.after hb).after hl4)
  replace HW := Lib.hid (hw3.trans (hl4.mono hw3.size))
  have HT := Lib.hid hb4
  clear hb hb4 hl4 hw3 HTG
  go_upto_region 6 with (refine wpList_skip rfl (hs4 rfl rfl rfl) ?_)
  clear hs4
  refine wp_region_held_drew (S := fun V => DrAt V d r v s n Ro Vo So No ∧ BoxC V w.heap.size c ∧ BoxR V (w.heap.size + 1) zeroR ∧ BoxT V W3.heap.size ⟨sn, c.target⟩ ∧ Below w.heap.size w V) (by kernel_rfl) ⟨HD.out, HC.out, HR.out, HT.out, HW.out.drew⟩ (fun _ => ?_)
  refine HeldBy.gen (fun V => DrAt V d r v s n Ro Vo So No ∧ BoxC V w.heap.size c ∧ BoxR V (w.heap.size + 1) zeroR ∧ BoxT V W3.heap.size ⟨sn, c.target⟩ ∧ Below w.heap.size w V) ⟨HD.out, HC.out, HR.out, HT.out, HW.out.drew⟩ ?_
  clear HD HC HR HT HW
  rintro U0 HS
  refine HeldBy.tn (i := 0) rfl HS ?_
  refine HeldBy.tn (i := 1) rfl HS ?_
  refine HeldBy.tn (i := 2) rfl HS ?_
  refine HeldBy.tk (i := 3) (v := .map (some n)) rfl (fun V hV => by have hc := hV.1.box.c3; first | (go_simp; rfl) | (go_simp; done)) HS ?_
  refine HeldBy.tk (i := 4) (v := encT ⟨sn, c.target⟩) rfl (fun V hV => loadT hV.2.2.2.1 rfl rfl) HS ?_
  refine HeldBy.tk (i := 5) (v := .tuple #[encP zeroP, .bool false]) rfl (fun V hV => exec_lookD hV.1.done none HN.out rfl rfl rfl) HS ?_
  refine HeldBy.tn (i := 6) rfl HS ?_
  refine HeldBy.tn (i := 7) rfl HS ?_
  refine HeldBy.tn (i := 8) rfl HS ?_
  have HSS : ∀ w', Below U0.heap.size U0 w' → (DrAt w' d r v s n Ro Vo So No ∧ BoxC w' w.heap.size c ∧ BoxR w' (w.heap.size + 1) zeroR ∧ BoxT w' W3.heap.size ⟨sn, c.target⟩ ∧ Below w.heap.size w w') := fun w' hb => ⟨HS.1.after hb, HS.2.1.after hb, HS.2.2.1.after hb, HS.2.2.2.1.after hb, HS.2.2.2.2.trans (hb.mono HS.2.2.2.2.size)⟩
  refine HeldBy.Goes.without (w0 := U0) (k := 9) (dk := some 6) (x := .cells (cellsP zeroP) 109 (0, 0)) ?_ U0 (Below.refl _ _)
  refine HeldBy.Goes.nil rfl rfl (by kernel_rfl) rfl (makes_p rfl) HSS rfl (fun p => by unfold HeldBy.ptr; go_simp; rfl) ?_
  intro p U1 hp hb hn
  obtain ⟨V5, hs5, hb5, -, hl5⟩ := stoP (show BoxP U1 p zeroP from hn) zeroP
  have hS5 := HSS V5 (hl5 _ _ hb hp)
  refine HeldBy.store (i := 10) (w' := V5) rfl (by kernel_rfl) (by rfl) (hs5 rfl rfl rfl) (by first | (go_simp; rfl) | (go_simp; done)) hS5 ?_
  refine HeldBy.tn (i := 11) rfl hS5 ?_
  refine wpAnyH_done (by kernel_rfl) ?_ _
  have hc5 := hS5.2.1
  have HC5 := Lib.hid hS5.2.1
  have HR5 := Lib.hid hS5.2.2.1
  have HT5 := Lib.hid hS5.2.2.2.1
  have HW5 := Lib.hid hS5.2.2.2.2
  have HD5 := Lib.hid hS5.1
  have HPC := Lib.hid (HOP.out V5 hS5.2.2.2.2 hS5.2.2.1.lt)
  have hbp := hb5
  have hdn := Lib.hid hS5.1.done
  have g3 := hS5.1.box.c3
  clear hs5 hl5 hS5 HSS HS hp hb hn hb5 HOP
  go_wp2_with (first | (refine wpList_got rfl (exec_maplen hdn.out und_D rfl rfl) ?_) | (refine wpList_got rfl (loadC hc5 rfl rfl) ?_))
  clear hc5 hbp hdn g3
  refine HPC.out.mono ?_
  rintro e W6 ⟨rs, rfl, ht6, hf6⟩
  have hlt := HLT.out
  have hmt := HMT.out
  have hcl := HC5.out.lt
  have hrl := HR5.out.lt
  have htl := HT5.out.lt
  have hno : ∀ g, w.heap.size ≤ g → ¬ D g := fun g hg hd => by
    have := (HDD.out g hd).1
    omega
  have hc6 : BoxC W6 w.heap.size c := (hf6.1 _ hcl (hno _ (Nat.le_refl _))).trans HC5.out
  have hr6 : BoxR W6 (w.heap.size + 1) zeroR := (hf6.1 _ hrl (hno _ (Nat.le_succ _))).trans HR5.out
  have hT6 : BoxT W6 W3.heap.size ⟨sn, c.target⟩ := (hf6.1 _ htl (hno _ (by omega))).trans HT5.out
  have hbd6 : BoxD W6 d ⟨some r, some v, some s, some n⟩ := (hf6.1 _ HD5.out.lt.1 (fun hd => (HDD.out _ hd).2.1 rfl)).trans HD5.out.box
  have hN6 : IsMap encT W6 n No := HD5.out.done.of_heap (hf6.1 _ HD5.out.lt.2.2.2.2 (fun hd => (HDD.out _ hd).2.2 rfl))
  have hsz5 := HW5.out.size
  have hsz6 : V5.heap.size ≤ W6.heap.size := hf6.2.size
  obtain ⟨V7, hs7, hb7, hl7⟩ := boxR W6 zeroR rfl rs
  have HM := Lib.hid (hN6.after hl7)
  have HB := Lib.hid (hbd6.after hl7)
  have HCC := Lib.hid (hc6.after hl7)
  have HRR := Lib.hid (hr6.after hl7)
  have HTT := Lib.hid (hT6.after hl7)
  have HX := Lib.hid hb7
  have HTW := Lib.hid ht6
  have HF6 : Hid (Fr D B w W6) := (Fr.of_below HW5.out HBB.out.2).trans hf6
  have HK : Hid (∀ g, g < W6.heap.size → V7.heap[g]? = W6.heap[g]?) := fun g hg => hl7.block g hg
  have HB7 : Hid (Below W6.heap.size W6 V7) := hl7
  have HNN : Hid (w.heap.size + 1 < W6.heap.size ∧ W3.heap.size < W6.heap.size ∧ w.heap.size ≤ W6.heap.size) := by
    show _ ∧ _
    omega
  clear hlt hmt hcl hrl htl hno hc6 hr6 hT6 hbd6 hN6 hsz5 hsz6 hb7 hl7 ht6 hf6 HC5 HR5 HT5 HW5 HD5 HPC HDD
  go_upto_region 16 with (refine wpList_skip rfl (hs7 rfl rfl rfl) ?_)
  clear hs7
  refine wp_region_held_drew (S := fun V => BoxD V d ⟨some r, some v, some s, some n⟩ ∧ BoxC V w.heap.size c ∧ BoxT V W3.heap.size ⟨sn, c.target⟩ ∧ BoxR V W6.heap.size rs) (by kernel_rfl) ⟨HB.out, HCC.out, HTT.out, HX.out⟩ (fun _ => ?_)
  refine HeldBy.gen (fun V => (BoxD V d ⟨some r, some v, some s, some n⟩ ∧ BoxC V w.heap.size c ∧ BoxT V W3.heap.size ⟨sn, c.target⟩ ∧ BoxR V W6.heap.size rs) ∧ (BoxR V (w.heap.size + 1) zeroR) ∧ (IsMap encT V n No) ∧ (∀ g, g < W6.heap.size → V.heap[g]? = W6.heap[g]?) ∧ (Below W6.heap.size W6 V)) ⟨⟨HB.out, HCC.out, HTT.out, HX.out⟩, HRR.out, HM.out, HK.out, HB7.out.drew⟩ ?_
  clear HB HCC HTT HX HRR HM HK HB7
  rintro U0 ⟨HS, HRR, HM, HK, HB7⟩
  refine HeldBy.tn (i := 0) rfl HS ?_
  refine HeldBy.tn (i := 1) rfl HS ?_
  refine HeldBy.tn (i := 2) rfl HS ?_
  refine HeldBy.tk (i := 3) (v := .map (some n)) rfl (fun V hV => by have hc := hV.1.c3; first | (go_simp; rfl) | (go_simp; done)) HS ?_
  refine HeldBy.tk (i := 4) (v := encT ⟨sn, c.target⟩) rfl (fun V hV => loadT hV.2.2.1 rfl rfl) HS ?_
  refine HeldBy.tk (i := 5) (v := encC c) rfl (fun V hV => loadC hV.2.1 rfl rfl) HS ?_
  refine HeldBy.tk (i := 6) (v := encR rs) rfl (fun V hV => loadR hV.2.2.2 rfl rfl) HS ?_
  refine HeldBy.tk (i := 7) (v := encP ⟨c, rs⟩) rfl (fun _ _ => exec_build 109 _ rfl _ (by exact built_p _ _)) HS ?_
  obtain ⟨V8, hs8, hm8, ht8⟩ := exec_updD HM ⟨sn, c.target⟩ (encP ⟨c, rs⟩)
  have hlt := HLT.out
  have hmt := HMT.out
  have hnn := HNN.out
  have hdn := HDN.out
  have hS8 : BoxD V8 d ⟨some r, some v, some s, some n⟩ ∧ BoxC V8 w.heap.size c ∧ BoxT V8 W3.heap.size ⟨sn, c.target⟩ ∧ BoxR V8 W6.heap.size rs :=
    ⟨HS.1.turned ht8 hdn, Turned.other ht8 (by omega) HS.2.1, Turned.other ht8 (by omega) HS.2.2.1, Turned.other ht8 (by omega) HS.2.2.2⟩
  refine HeldBy.store (i := 8) (w' := V8) rfl (by kernel_rfl) (by rfl) (hs8 rfl rfl rfl rfl) (by first | (go_simp; rfl) | (go_simp; done)) hS8 ?_
  refine wpAnyH_done (by kernel_rfl) ?_ _
  have hr8 : BoxR V8 (w.heap.size + 1) zeroR := Turned.other ht8 (by omega) HRR
  have hx8 := hS8.2.2.2
  obtain ⟨V9, hs9, hb9, hk9, hl9⟩ := stoR hr8 rs
  have HV9 := Lib.hid hb9
  have HY : Hid (T2 rs V9 ∧ Fr (fun g => D g ∨ g = n) B w V9) := by
    show _ ∧ _
    have hBB := HBB.out
    refine ⟨HT2.out rs W6 V9 HTW.out (fun g hg h1 h2 => ?_) (hm8.of_heap (hk9 _ (by omega))), fun g hg hn => ?_, ?_⟩
    · rw [hk9 g h1, ht8.block g h2, HK g hg]
    · rw [hk9 g (by omega), ht8.block g (fun e => hn (.inr e)), HK g (by omega), HF6.out.1 g hg (fun e => hn (.inl e))]
    · exact hl9 _ _ ((HF6.out.2.trans (HB7.mono (by omega))).trans (ht8.below hBB.1)) (by omega)
  clear hs8 hm8 ht8 hlt hmt hnn hdn hS8 hr8 HS HRR HM HK HB7 HTW HF6 hb9 hk9 hl9 HT2
  go_wp2_with (first | (refine wpList_got rfl (loadR hx8 rfl rfl) ?_) | (refine wpList_skip rfl (hs9 rfl rfl rfl) ?_))
  refine bodyPost_ret (v := encR rs) (results_cell_row rfl _ _ (w.heap.size + 1) 50 (cellsR rs) (0, 0) _ rfl HV9.out undR rfl sizeR) rfl ?_
  exact ⟨rs, rfl, HY.out.1, HY.out.2⟩
end
end Go.Proofs.Ytbgfccanbgpjiaa.O.I
