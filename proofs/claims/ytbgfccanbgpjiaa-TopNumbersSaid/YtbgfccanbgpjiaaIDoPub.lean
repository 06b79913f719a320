/- A call whose target was called before: one that is older, the same one; one of publishing that is newer. -/
import Derived.Test.YtbgfccanbgpjiaaIPerf
namespace Go.Proofs.Ytbgfccanbgpjiaa.O.I
open Go Go.RowKit Go.Lib KM
attribute [local go_sem] Oper.semAt_some

section
variable (B d r v s n : Nat) (Ro Vo So : List (ByteArray × Value)) (No : List (Tg × Value)) (c : Cl) (w : World)
set_option maxRecDepth 100000 in
set_option maxHeartbeats 8000000 in
theorem do_stale (lc : Cl) (x : Rs) (hd : DrAt w d r v s n Ro Vo So No) (h1 : snapV c.verb = false) (hN : KM.get ⟨false, c.target⟩ No = some (encP ⟨lc, x⟩)) (hri : rightB c = true) (hlt : c.num < lc.num) :
    Calls Try.prog 24 #[.pointer (some ⟨d, 0, none⟩), encC c] w fun e w' => e = .returned (encR (errR 9)) ∧ Below w.heap.size w w' := by
  have HD0 := Lib.hid hd
  have HV := Lib.hid h1
  have HN := Lib.hid hN
  have HRI := Lib.hid hri
  clear hd h1 hN hri
  rw [show encC c = .agg (cellsC c) from rfl]
  go_enter Try.func24, Try.ntmps24
  go_upto_region 1 with (fail)
  refine wp_gen (fun V => DrAt V d r v s n Ro Vo So No ∧ BoxC V w.heap.size c ∧ BoxR V (w.heap.size + 1) zeroR ∧ Below w.heap.size w V) ⟨HD0.out.after (below2 w _ _), (heap2 w _ _).1, (heap2 w _ _).2, below2 w _ _⟩ ?_
  rintro V1 ⟨hd1, hc1, hr1, hw1⟩
  have HD := Lib.hid hd1
  have HC := Lib.hid hc1
  have HR := Lib.hid hr1
  have HW := Lib.hid hw1
  clear hd1 hr1 hw1 HD0
  go_wp2_with (refine wpList_got rfl (loadC hc1 rfl rfl) ?_)
  clear hc1
  refine (right_is HRI.out _).mono ?_
  rintro e W2 ⟨rfl, hb⟩
  replace HD := Lib.hid (HD.out.after hb)
  replace HC := Lib.hid (HC.out.after hb)
  replace HR := Lib.hid (HR.out.after hb)
  replace HW := Lib.hid (HW.out.trans (hb.mono HW.out.size))
  clear hb
  have c0 := HC.out.c0
  have c1 := HC.out.c1
  have HTG := Lib.hid (targetOf_any c.verb c.target W2)
  rw [HV.out] at HTG
  go_wp2_with (fail)
  clear c0 c1
  refine HTG.out.mono ?_
  rintro e W3 ⟨rfl, hb⟩
  obtain ⟨V4, hs4, hb4, hl4⟩ := boxT W3 zeroT rfl ⟨false, c.target⟩
  have hw3 := HW.out.trans (hb.mono HW.out.size)
  have hr3 := HR.out.after hb
  have HMT : Hid (w.heap.size + 1 < W3.heap.size) := hr3.lt
  clear hr3
  replace HD := Lib.hid ((HD.out.after hb).after hl4)
  replace HC := Lib.hid ((HC.out.after hb).after hl4)
  replace HR := Lib.hid ((HR.out.after hb).after hl4)
  replace HW := Lib.hid (hw3.trans (hl4.mono hw3.size))
  have HT := Lib.hid hb4
  clear hb hb4 hl4 hw3 HTG
  go_upto_region 6 with (refine wpList_skip rfl (hs4 rfl rfl rfl) ?_)
  clear hs4
  refine wp_region_held_drew (S := fun V => DrAt V d r v s n Ro Vo So No ∧ BoxC V w.heap.size c ∧ BoxR V (w.heap.size + 1) zeroR ∧ BoxT V W3.heap.size ⟨false, c.target⟩ ∧ Below w.heap.size w V) (by kernel_rfl) ⟨HD.out, HC.out, HR.out, HT.out, HW.out.drew⟩ (fun _ => ?_)
  refine HeldBy.gen (fun V => DrAt V d r v s n Ro Vo So No ∧ BoxC V w.heap.size c ∧ BoxR V (w.heap.size + 1) zeroR ∧ BoxT V W3.heap.size ⟨false, c.target⟩ ∧ Below w.heap.size w V) ⟨HD.out, HC.out, HR.out, HT.out, HW.out.drew⟩ ?_
  clear HD HC HR HT HW
  rintro U0 HS
  refine HeldBy.take (i := 0) rfl (by kernel_rfl) (by kernel_rfl) (by kernel_rfl) (fun _ _ _ h => h) (by rfl) (fun _ _ => by first | (go_simp; rfl) | (go_simp; done)) (by go_simp; rfl) HS ?_
  refine HeldBy.take (i := 1) rfl (by kernel_rfl) (by kernel_rfl) (by kernel_rfl) (fun _ _ _ h => h) (by rfl) (fun _ _ => by first | (go_simp; rfl) | (go_simp; done)) (by go_simp; rfl) HS ?_
  refine HeldBy.take (i := 2) rfl (by kernel_rfl) (by kernel_rfl) (by kernel_rfl) (fun _ _ _ h => h) (by rfl) (fun _ _ => by first | (go_simp; rfl) | (go_simp; done)) (by go_simp; rfl) HS ?_
  refine HeldBy.take (i := 3) (v := .map (some n)) rfl (by kernel_rfl) (by kernel_rfl) (by kernel_rfl) (fun _ _ _ h => h) (by rfl) (fun V hV => by have hc := hV.1.box.c3; first | (go_simp; rfl) | (go_simp; done)) (by go_simp; rfl) HS ?_
  refine HeldBy.take (i := 4) (v := encT ⟨false, c.target⟩) rfl (by kernel_rfl) (by kernel_rfl) (by kernel_rfl) (fun _ _ _ h => h) (by rfl) (fun V hV => loadT hV.2.2.2.1 rfl rfl) (by go_simp; rfl) HS ?_
  refine HeldBy.take (i := 5) (v := .tuple #[encP ⟨lc, x⟩, .bool true]) rfl (by kernel_rfl) (by kernel_rfl) (by kernel_rfl) (fun _ _ _ h => h) (by rfl) (fun V hV => exec_lookD hV.1.done (some _) HN.out rfl rfl rfl) (by go_simp; rfl) HS ?_
  refine HeldBy.take (i := 6) rfl (by kernel_rfl) (by kernel_rfl) (by kernel_rfl) (fun _ _ _ h => h) (by rfl) (fun _ _ => by first | (go_simp; rfl) | (go_simp; done)) (by go_simp; rfl) HS ?_
  refine HeldBy.take (i := 7) rfl (by kernel_rfl) (by kernel_rfl) (by kernel_rfl) (fun _ _ _ h => h) (by rfl) (fun _ _ => by first | (go_simp; rfl) | (go_simp; done)) (by go_simp; rfl) HS ?_
  refine HeldBy.take (i := 8) rfl (by kernel_rfl) (by kernel_rfl) (by kernel_rfl) (fun _ _ _ h => h) (by rfl) (fun _ _ => by first | (go_simp; rfl) | (go_simp; done)) (by go_simp; rfl) HS ?_
  have HSS : ∀ w', Below U0.heap.size U0 w' → (DrAt w' d r v s n Ro Vo So No ∧ BoxC w' w.heap.size c ∧ BoxR w' (w.heap.size + 1) zeroR ∧ BoxT w' W3.heap.size ⟨false, c.target⟩ ∧ Below w.heap.size w w') := fun w' hb => ⟨HS.1.after hb, HS.2.1.after hb, HS.2.2.1.after hb, HS.2.2.2.1.after hb, HS.2.2.2.2.trans (hb.mono HS.2.2.2.2.size)⟩
  refine HeldBy.Goes.without (w0 := U0) (k := 9) (dk := some 6) (x := .cells (cellsP zeroP) 109 (0, 0)) ?_ U0 (Below.refl _ _)
  refine HeldBy.Goes.nil rfl rfl (by kernel_rfl) rfl (makes_p rfl) HSS rfl (fun p => by unfold HeldBy.ptr; go_simp; rfl) ?_
  intro p U1 hp hb hn
  obtain ⟨V5, hs5, hb5, -, hl5⟩ := stoP (show BoxP U1 p zeroP from hn) ⟨lc, x⟩
  have hS5 := HSS V5 (hl5 _ _ hb hp)
  refine HeldBy.store (i := 10) (w' := V5) rfl (by kernel_rfl) (by rfl) (hs5 rfl rfl rfl) (by first | (go_simp; rfl) | (go_simp; done)) hS5 ?_
  refine HeldBy.take (i := 11) rfl (by kernel_rfl) (by kernel_rfl) (by kernel_rfl) (fun _ _ _ h => h) (by rfl) (fun _ _ => by first | (go_simp; rfl) | (go_simp; done)) (by first | (go_simp; rfl) | (go_simp; done)) hS5 ?_
  refine wpAnyH_done (by kernel_rfl) ?_ _
  have hc5 := hS5.2.1
  have n2 := hc5.c2
  have p2 : V5.cell? ⟨p, 2, none⟩ = some (.int .u64 lc.num) := hb5.c2
  have HR5 := Lib.hid hS5.2.2.1
  have HW5 := Lib.hid hS5.2.2.2.2
  have HFA := Lib.hid (failed_any 9 V5)
  clear hs5 hl5 hS5 HSS HS hp hb hn hc5 hb5
  go_wp2_with (fail)
  refine HFA.out.mono ?_
  rintro e W6 ⟨rfl, hb6⟩
  obtain ⟨V7, hs7, hb7, -, hl7⟩ := stoR (HR5.out.after hb6) (errR 9)
  have HV7 := Lib.hid hb7
  have HW7 := Lib.hid (hl7 _ _ (HW5.out.trans (hb6.mono HW5.out.size)) (Nat.le_succ _))
  clear hb6 hb7 hl7 HFA
  go_wp2_with (refine wpList_skip rfl (hs7 rfl rfl rfl) ?_)
  refine bodyPost_ret (v := encR (errR 9)) (results_cell_row rfl _ _ (w.heap.size + 1) 50 (cellsR (errR 9)) (0, 0) _ rfl HV7.out undR rfl sizeR) rfl ?_
  exact ⟨rfl, HW7.out⟩
set_option maxRecDepth 100000 in
set_option maxHeartbeats 8000000 in
theorem do_same (x : Rs) (hd : DrAt w d r v s n Ro Vo So No) (h1 : snapV c.verb = false) (hN : KM.get ⟨false, c.target⟩ No = some (encP ⟨c, x⟩)) (hri : rightB c = true) :
    Calls Try.prog 24 #[.pointer (some ⟨d, 0, none⟩), encC c] w fun e w' => e = .returned (encR x) ∧ Below w.heap.size w w' := by
  have HD0 := Lib.hid hd
  have HV := Lib.hid h1
  have HN := Lib.hid hN
  have HRI := Lib.hid hri
  clear hd h1 hN hri
  rw [show encC c = .agg (cellsC c) from rfl]
  go_enter Try.func24, Try.ntmps24
  go_upto_region 1 with (fail)
  refine wp_gen (fun V => DrAt V d r v s n Ro Vo So No ∧ BoxC V w.heap.size c ∧ BoxR V (w.heap.size + 1) zeroR ∧ Below w.heap.size w V) ⟨HD0.out.after (below2 w _ _), (heap2 w _ _).1, (heap2 w _ _).2, below2 w _ _⟩ ?_
  rintro V1 ⟨hd1, hc1, hr1, hw1⟩
  have HD := Lib.hid hd1
  have HC := Lib.hid hc1
  have HR := Lib.hid hr1
  have HW := Lib.hid hw1
  clear hd1 hr1 hw1 HD0
  go_wp2_with (refine wpList_got rfl (loadC hc1 rfl rfl) ?_)
  clear hc1
  refine (right_is HRI.out _).mono ?_
  rintro e W2 ⟨rfl, hb⟩
  replace HD := Lib.hid (HD.out.after hb)
  replace HC := Lib.hid (HC.out.after hb)
  replace HR := Lib.hid (HR.out.after hb)
  replace HW := Lib.hid (HW.out.trans (hb.mono HW.out.size))
  clear hb
  have c0 := HC.out.c0
  have c1 := HC.out.c1
  have HTG := Lib.hid (targetOf_any c.verb c.target W2)
  rw [HV.out] at HTG
  go_wp2_with (fail)
  clear c0 c1
  refine HTG.out.mono ?_
  rintro e W3 ⟨rfl, hb⟩
  obtain ⟨V4, hs4, hb4, hl4⟩ := boxT W3 zeroT rfl ⟨false, c.target⟩
  have hw3 := HW.out.trans (hb.mono HW.out.size)
  have hr3 := HR.out.after hb
  have HMT : Hid (w.heap.size + 1 < W3.heap.size) := hr3.lt
  clear hr3
  replace HD := Lib.hid ((HD.out.after hb).after hl4)
  replace HC := Lib.hid ((HC.out.after hb).after hl4)
  replace HR := Lib.hid ((HR.out.after hb).after hl4)
  replace HW := Lib.hid (hw3.trans (hl4.mono hw3.size))
  have HT := Lib.hid hb4
  clear hb hb4 hl4 hw3 HTG
  go_upto_region 6 with (refine wpList_skip rfl (hs4 rfl rfl rfl) ?_)
  clear hs4
  refine wp_region_held_drew (S := fun V => DrAt V d r v s n Ro Vo So No ∧ BoxC V w.heap.size c ∧ BoxR V (w.heap.size + 1) zeroR ∧ BoxT V W3.heap.size ⟨false, c.target⟩ ∧ Below w.heap.size w V) (by kernel_rfl) ⟨HD.out, HC.out, HR.out, HT.out, HW.out.drew⟩ (fun _ => ?_)
  refine HeldBy.gen (fun V => DrAt V d r v s n Ro Vo So No ∧ BoxC V w.heap.size c ∧ BoxR V (w.heap.size + 1) zeroR ∧ BoxT V W3.heap.size ⟨false, c.target⟩ ∧ Below w.heap.size w V) ⟨HD.out, HC.out, HR.out, HT.out, HW.out.drew⟩ ?_
  clear HD HC HR HT HW
  rintro U0 HS
  refine HeldBy.take (i := 0) rfl (by kernel_rfl) (by kernel_rfl) (by kernel_rfl) (fun _ _ _ h => h) (by rfl) (fun _ _ => by first | (go_simp; rfl) | (go_simp; done)) (by go_simp; rfl) HS ?_
  refine HeldBy.take (i := 1) rfl (by kernel_rfl) (by kernel_rfl) (by kernel_rfl) (fun _ _ _ h => h) (by rfl) (fun _ _ => by first | (go_simp; rfl) | (go_simp; done)) (by go_simp; rfl) HS ?_
  refine HeldBy.take (i := 2) rfl (by kernel_rfl) (by kernel_rfl) (by kernel_rfl) (fun _ _ _ h => h) (by rfl) (fun _ _ => by first | (go_simp; rfl) | (go_simp; done)) (by go_simp; rfl) HS ?_
  refine HeldBy.take (i := 3) (v := .map (some n)) rfl (by kernel_rfl) (by kernel_rfl) (by kernel_rfl) (fun _ _ _ h => h) (by rfl) (fun V hV => by have hc := hV.1.box.c3; first | (go_simp; rfl) | (go_simp; done)) (by go_simp; rfl) HS ?_
  refine HeldBy.take (i := 4) (v := encT ⟨false, c.target⟩) rfl (by kernel_rfl) (by kernel_rfl) (by kernel_rfl) (fun _ _ _ h => h) (by rfl) (fun V hV => loadT hV.2.2.2.1 rfl rfl) (by go_simp; rfl) HS ?_
  refine HeldBy.take (i := 5) (v := .tuple #[encP ⟨c, x⟩, .bool true]) rfl (by kernel_rfl) (by kernel_rfl) (by kernel_rfl) (fun _ _ _ h => h) (by rfl) (fun V hV => exec_lookD hV.1.done (some _) HN.out rfl rfl rfl) (by go_simp; rfl) HS ?_
  refine HeldBy.take (i := 6) rfl (by kernel_rfl) (by kernel_rfl) (by kernel_rfl) (fun _ _ _ h => h) (by rfl) (fun _ _ => by first | (go_simp; rfl) | (go_simp; done)) (by go_simp; rfl) HS ?_
  refine HeldBy.take (i := 7) rfl (by kernel_rfl) (by kernel_rfl) (by kernel_rfl) (fun _ _ _ h => h) (by rfl) (fun _ _ => by first | (go_simp; rfl) | (go_simp; done)) (by go_simp; rfl) HS ?_
  refine HeldBy.take (i := 8) rfl (by kernel_rfl) (by kernel_rfl) (by kernel_rfl) (fun _ _ _ h => h) (by rfl) (fun _ _ => by first | (go_simp; rfl) | (go_simp; done)) (by go_simp; rfl) HS ?_
  have HSS : ∀ w', Below U0.heap.size U0 w' → (DrAt w' d r v s n Ro Vo So No ∧ BoxC w' w.heap.size c ∧ BoxR w' (w.heap.size + 1) zeroR ∧ BoxT w' W3.heap.size ⟨false, c.target⟩ ∧ Below w.heap.size w w') := fun w' hb => ⟨HS.1.after hb, HS.2.1.after hb, HS.2.2.1.after hb, HS.2.2.2.1.after hb, HS.2.2.2.2.trans (hb.mono HS.2.2.2.2.size)⟩
  refine HeldBy.Goes.without (w0 := U0) (k := 9) (dk := some 6) (x := .cells (cellsP zeroP) 109 (0, 0)) ?_ U0 (Below.refl _ _)
  refine HeldBy.Goes.nil rfl rfl (by kernel_rfl) rfl (makes_p rfl) HSS rfl (fun p => by unfold HeldBy.ptr; go_simp; rfl) ?_
  intro p U1 hp hb hn
  obtain ⟨V5, hs5, hb5, -, hl5⟩ := stoP (show BoxP U1 p zeroP from hn) ⟨c, x⟩
  have hS5 := HSS V5 (hl5 _ _ hb hp)
  refine HeldBy.store (i := 10) (w' := V5) rfl (by kernel_rfl) (by rfl) (hs5 rfl rfl rfl) (by first | (go_simp; rfl) | (go_simp; done)) hS5 ?_
  refine HeldBy.take (i := 11) rfl (by kernel_rfl) (by kernel_rfl) (by kernel_rfl) (fun _ _ _ h => h) (by rfl) (fun _ _ => by first | (go_simp; rfl) | (go_simp; done)) (by first | (go_simp; rfl) | (go_simp; done)) hS5 ?_
  refine wpAnyH_done (by kernel_rfl) ?_ _
  have hc5 := hS5.2.1
  have n2 := hc5.c2
  have p2 : V5.cell? ⟨p, 2, none⟩ = some (.int .u64 c.num) := hb5.c2
  obtain ⟨V6, hs6, hb6, -, hl6⟩ := stoR hS5.2.2.1 x
  have HV6 := Lib.hid hb6
  have HW6 := Lib.hid (hl6 _ _ hS5.2.2.2.2 (Nat.le_succ _))
  clear hs5 hl5 hS5 HSS HS hp hb hn hb6 hl6
  go_wp2_with (first | (refine wpList_got rfl (loadC hc5 rfl rfl) ?_) | (refine wpList_got rfl (loadP_call hb5 rfl rfl) ?_) | (refine wpList_got rfl (exec_eqC (v := true) rfl rfl rfl (decide_eq_true rfl)) ?_) | (refine wpList_got rfl (loadP_res hb5 rfl rfl) ?_) | (refine wpList_skip rfl (hs6 rfl rfl rfl) ?_))
  refine bodyPost_ret (v := encR x) (results_cell_row rfl _ _ (w.heap.size + 1) 50 (cellsR x) (0, 0) _ rfl HV6.out undR rfl sizeR) rfl ?_
  exact ⟨rfl, HW6.out⟩
end
end Go.Proofs.Ytbgfccanbgpjiaa.O.I
