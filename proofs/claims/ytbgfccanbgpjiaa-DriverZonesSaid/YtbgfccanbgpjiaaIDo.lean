/- A call that makes a volume of nothing: done for the first time, and again. -/
import Derived.Test.YtbgfccanbgpjiaaICreate
namespace Go.Proofs.Ytbgfccanbgpjiaa.O.I
open Go Go.RowKit Go.Lib KM
attribute [local go_sem] Oper.semAt_some

theorem exec_build {o : Oper} {a : Act} {w : World} (t : TypeId) (parts : Array (Nat × Operand)) (ho : o.op = .build t parts) (cs : Array Value)
    (hf : Try.prog.built t (parts.toList.map fun (i, x) => (i, a.eval x)) = some cs) : (execOp a.eval o).run Try.prog w = .ok (.value (.agg cs)) w := by
  have h : Try.prog.built t (parts.map fun (i, x) => (i, a.eval x)).toList = some cs := by rw [Array.toList_map]; exact hf
  unfold execOp
  simp only [ho, Sem.run_bind, run_build w t _ cs h, Result.andThen_ok]
  rfl
theorem built_p (c : Cl) (x : Rs) : Try.prog.built 109 [(0, encC c), (1, encR x)] = some (cellsP ⟨c, x⟩) := by kernel_rfl
theorem BoxP.callAt {W : World} {b : Nat} {x : Pc} (h : BoxP W b x) : W.rangeAt b 0 (cellsC x.call).toList := by
  have he : ((cellsP x).extract 0 (0 + 7)).toList = (cellsC x.call).toList := by kernel_rfl
  rw [← he]
  exact World.rangeAt_of_block h 0 7
theorem BoxP.resAt {W : World} {b : Nat} {x : Pc} (h : BoxP W b x) : W.rangeAt b 7 (cellsR x.res).toList := by
  have he : ((cellsP x).extract 7 (7 + 4)).toList = (cellsR x.res).toList := by kernel_rfl
  rw [← he]
  exact World.rangeAt_of_block h 7 4
theorem loadP_call {W : World} {b : Nat} {x : Pc} (h : BoxP W b x) {oi : Oper} {a : Act} {p : Operand} (ho : oi.op = .load 27 p) (hx : a.eval p = .pointer (some ⟨b, 0, none⟩)) :
    (execOp a.eval oi).run Try.prog W = .ok (.value (encC x.call)) W := by
  have h1 := run_loadAt_mid (P := Try.prog) W b 0 27 (cellsC x.call).toList _ h.callAt undC rfl sizeC
  unfold execOp
  simp only [ho, hx, Sem.run_bind, h1, Result.andThen_ok, Sem.run_pure]
  rfl
theorem loadP_res {W : World} {b : Nat} {x : Pc} (h : BoxP W b x) {oi : Oper} {a : Act} {p : Operand} (ho : oi.op = .load 50 p) (hx : a.eval p = .pointer (some ⟨b, 7, none⟩)) :
    (execOp a.eval oi).run Try.prog W = .ok (.value (encR x.res)) W := by
  have h1 := run_loadAt_mid (P := Try.prog) W b 7 50 (cellsR x.res).toList _ h.resAt undR rfl sizeR
  unfold execOp
  simp only [ho, hx, Sem.run_bind, h1, Result.andThen_ok, Sem.run_pure]
  rfl
theorem target_1 (s : ByteArray) (w : World) : Calls Try.prog 49 #[.int .u8 1, .string s] w fun e w' => e = .returned (encT ⟨false, s⟩) ∧ Below w.heap.size w w' := targetOf_any 1 s w
section
variable (B d r v s n : Nat) (Ro Vo So : List (ByteArray × Value)) (No : List (Tg × Value)) (c : Cl) (room left : Int) (w : World)
set_option maxRecDepth 100000 in
set_option maxHeartbeats 4000000 in
theorem perform_ok (hd : DrAt w d r v s n Ro Vo So No) (hf : Five d r v s n) (h1 : c.verb = 1) (hV : KM.get c.target Vo = none) (hR : KM.get c.zone Ro = some (.int .i64 room)) (hs : c.source = E0)
    (h0 : ¬ c.size < 0) (hl : ¬ (64 : Int) ≤ Vo.length) (hrm : ¬ room < c.size) (hleft : IntKind.i64.wrap (room - c.size) = left) (hB : B ≤ r ∧ B ≤ v) :
    Calls Try.prog 50 #[.pointer (some ⟨d, 0, none⟩), encC c] w fun e w' => CreateA B d r v s n Ro Vo So No c left w e w' := by
  have HC := Lib.hid (fun V (hV1 : DrAt V d r v s n Ro Vo So No) => create_ok B d r v s n Ro Vo So No c room left V hV1 hf hV hR hs h0 hl hrm hleft hB)
  have HD0 := Lib.hid hd
  have HV := Lib.hid h1
  have HBB := Lib.hid hB
  have HLT := Lib.hid hd.lt
  clear hd hf hV hR hs hleft hB h0 hl hrm h1
  rw [show encC c = .agg (cellsC c) from rfl]
  go_enter Try.func50, Try.ntmps50
  go_upto_region 1 with (fail)
  refine wp_gen (fun V => DrAt V d r v s n Ro Vo So No ∧ BoxC V w.heap.size c ∧ BoxR V (w.heap.size + 1) zeroR ∧ Below w.heap.size w V) ⟨HD0.out.after (below2 w _ _), (heap2 w _ _).1, (heap2 w _ _).2, below2 w _ _⟩ ?_
  rintro V1 ⟨hd1, hc1, hr1, hw1⟩
  have c0 := hc1.c0
  rw [HV.out] at c0
  replace HC := Lib.hid (HC.out V1 hd1)
  have HR := Lib.hid hr1
  have HW := Lib.hid hw1
  clear hd1 hr1 hw1 HD0 HV
  go_wp2_with (refine wpList_got rfl (loadC hc1 rfl rfl) ?_)
  clear hc1 c0
  refine HC.out.mono ?_
  rintro e W2 ⟨m, rfl, hd2, hm2, hle, hb2, hk2⟩
  have hlt := HLT.out
  have hn1 := HR.out.lt
  have hBw := HBB.out.1
  obtain ⟨V3, hs3, hb3, hk3, hl3⟩ := stoR (show BoxR W2 (w.heap.size + 1) zeroR from (hk2 _ hn1 (by omega) (by omega) (by omega)).trans HR.out) ⟨0, c.size, c.zone, 0⟩
  have HV := Lib.hid hb3
  have HY : Hid (DrAt V3 d r v s n (KM.put c.zone (.int .i64 left) Ro) (KM.put c.target (encV ⟨c.size, 0, c.zone, some m⟩) Vo) So No ∧ IsMap encS V3 m [] ∧ w.heap.size ≤ m ∧ Below B w V3 ∧ Keeps r v n w V3) := by
    show _ ∧ _
    have hsz := HW.out.size
    refine ⟨hd2.keep hk3 (by omega), hm2.of_heap (hk3 _ (by omega)), by omega, hl3 _ _ ((HW.out.mono (by omega)).trans hb2) (by omega), fun g hg k1 k2 k3 => ?_⟩
    rw [hk3 g (by omega), hk2 g (by omega) k1 k2 k3, HW.out.block g hg]
  clear hd2 hm2 hle hb2 hk2 hlt hn1 hBw hb3 hk3 hl3 HC HR HW
  go_wp2_with (refine wpList_skip rfl (hs3 rfl rfl rfl) ?_)
  refine bodyPost_ret (v := encR ⟨0, c.size, c.zone, 0⟩) (results_cell_row rfl _ _ (w.heap.size + 1) 50 (cellsR ⟨0, c.size, c.zone, 0⟩) (0, 0) _ rfl HV.out undR rfl sizeR) rfl ?_
  exact ⟨_, rfl, HY.out.1, HY.out.2.1, HY.out.2.2.1, HY.out.2.2.2.1, HY.out.2.2.2.2⟩
def resOf (c : Cl) : Rs := ⟨0, c.size, c.zone, 0⟩
def DoA (e : Ending) (w' : World) : Prop :=
  ∃ m, e = .returned (encR (resOf c)) ∧ DrAt w' d r v s n (KM.put c.zone (.int .i64 left) Ro) (KM.put c.target (encV ⟨c.size, 0, c.zone, some m⟩) Vo) So (KM.put ⟨false, c.target⟩ (encP ⟨c, resOf c⟩) No) ∧ IsMap encS w' m [] ∧ w.heap.size ≤ m ∧ Below B w w' ∧ Keeps r v n w w'
set_option maxRecDepth 100000 in
set_option maxHeartbeats 8000000 in
theorem do_first (hd : DrAt w d r v s n Ro Vo So No) (hf : Five d r v s n) (h1 : c.verb = 1) (hV : KM.get c.target Vo = none) (hR : KM.get c.zone Ro = some (.int .i64 room)) (hs : c.source = E0)
    (h0 : ¬ c.size < 0) (hl : ¬ (64 : Int) ≤ Vo.length) (hrm : ¬ room < c.size) (hleft : IntKind.i64.wrap (room - c.size) = left) (hN : KM.get ⟨false, c.target⟩ No = none) (hln : (No.length : Int) < 256) (hri : rightB c = true) (hB : B ≤ r ∧ B ≤ v ∧ B ≤ n) :
    Calls Try.prog 24 #[.pointer (some ⟨d, 0, none⟩), encC c] w fun e w' => DoA B d r v s n Ro Vo So No c left w e w' := by
  have HC0 := Lib.hid (fun V (hV1 : DrAt V d r v s n Ro Vo So No) => perform_ok B d r v s n Ro Vo So No c room left V hV1 hf h1 hV hR hs h0 hl hrm hleft ⟨hB.1, hB.2.1⟩)
  have HD0 := Lib.hid hd
  have HF := Lib.hid hf
  have HV := Lib.hid h1
  have HN := Lib.hid hN
  have HLN := Lib.hid hln
  have HRI := Lib.hid hri
  have HBB := Lib.hid hB
  have HLT := Lib.hid hd.lt
  clear hd hf hV hR hs hleft hB h0 hl hrm h1 hN hln hri
  rw [show encC c = .agg (cellsC c) from rfl]
  go_enter Try.func24, Try.ntmps24
  go_upto_region 1 with (fail)
  refine wp_gen (fun V => DrAt V d r v s n Ro Vo So No ∧ BoxC V w.heap.size c ∧ BoxR V (w.heap.size + 1) zeroR ∧ Below w.heap.size w V) ⟨HD0.out.after (below2 w _ _), (heap2 w _ _).1, (heap2 w _ _).2, below2 w _ _⟩ ?_
  rintro V1 ⟨hd1, hc1, hr1, hw1⟩
  have HD := Lib.hid hd1
  have HC := Lib.hid hc1
  have HR := Lib.hid hr1
  have HW := Lib.hid hw1
  clear hd1 hr1 hw1 HD0
  go_wp2_with (refine wpList_got rfl (loadC hc1 rfl rfl) ?_)
  clear hc1
  refine (right_is HRI.out _).mono ?_
  rintro e W2 ⟨rfl, hb⟩
  replace HD := Lib.hid (HD.out.after hb)
  replace HC := Lib.hid (HC.out.after hb)
  replace HR := Lib.hid (HR.out.after hb)
  replace HW := Lib.hid (HW.out.trans (hb.mono HW.out.size))
  clear hb
  have c0 := HC.out.c0
  rw [HV.out] at c0
  have c1 := HC.out.c1
  go_wp2_with (fail)
  clear c0 c1
  refine (target_1 _ _).mono ?_
  rintro e W3 ⟨rfl, hb⟩
  obtain ⟨V4, hs4, hb4, hl4⟩ := boxT W3 zeroT rfl ⟨false, c.target⟩
  have hw3 := HW.out.trans (hb.mono HW.out.size)
  have hr3 := HR.out.after hb
  have HMT : Hid (w.heap.size + 1 < W3.heap.size) := hr3.lt
  clear hr3
  replace HD := Lib.hid ((HD.out.after hb).after hl4)
  replace HC := Lib.hid ((HC.out.after hb).after hl4)
  replace HR := Lib.hid ((HR.out.after hb).after hl4)
  replace HW := Lib.hid (hw3.trans (hl4.mono hw3.size))
  have HT := Lib.hid hb4
  clear hb hb4 hl4 hw3
  go_upto_region 6 with (refine wpList_skip rfl (hs4 rfl rfl rfl) ?_)
  clear hs4
  refine wp_region_held_drew (S := fun V => DrAt V d r v s n Ro Vo So No ∧ BoxC V w.heap.size c ∧ BoxR V (w.heap.size + 1) zeroR ∧ BoxT V W3.heap.size ⟨false, c.target⟩ ∧ Below w.heap.size w V) (by kernel_rfl) ⟨HD.out, HC.out, HR.out, HT.out, HW.out.drew⟩ (fun _ => ?_)
  refine HeldBy.gen (fun V => DrAt V d r v s n Ro Vo So No ∧ BoxC V w.heap.size c ∧ BoxR V (w.heap.size + 1) zeroR ∧ BoxT V W3.heap.size ⟨false, c.target⟩ ∧ Below w.heap.size w V) ⟨HD.out, HC.out, HR.out, HT.out, HW.out.drew⟩ ?_
  clear HD HC HR HT HW
  rintro U0 HS
  refine HeldBy.take (i := 0) rfl (by kernel_rfl) (by kernel_rfl) (by kernel_rfl) (fun _ _ _ h => h) (by rfl) (fun _ _ => by first | (go_simp; rfl) | (go_simp; done)) (by go_simp; rfl) HS ?_
  refine HeldBy.take (i := 1) rfl (by kernel_rfl) (by kernel_rfl) (by kernel_rfl) (fun _ _ _ h => h) (by rfl) (fun _ _ => by first | (go_simp; rfl) | (go_simp; done)) (by go_simp; rfl) HS ?_
  refine HeldBy.take (i := 2) rfl (by kernel_rfl) (by kernel_rfl) (by kernel_rfl) (fun _ _ _ h => h) (by rfl) (fun _ _ => by first | (go_simp; rfl) | (go_simp; done)) (by go_simp; rfl) HS ?_
  refine HeldBy.take (i := 3) (v := .map (some n)) rfl (by kernel_rfl) (by kernel_rfl) (by kernel_rfl) (fun _ _ _ h => h) (by rfl) (fun V hV => by have hc := hV.1.box.c3; first | (go_simp; rfl) | (go_simp; done)) (by go_simp; rfl) HS ?_
  refine HeldBy.take (i := 4) (v := encT ⟨false, c.target⟩) rfl (by kernel_rfl) (by kernel_rfl) (by kernel_rfl) (fun _ _ _ h => h) (by rfl) (fun V hV => loadT hV.2.2.2.1 rfl rfl) (by go_simp; rfl) HS ?_
  refine HeldBy.take (i := 5) (v := .tuple #[encP zeroP, .bool false]) rfl (by kernel_rfl) (by kernel_rfl) (by kernel_rfl) (fun _ _ _ h => h) (by rfl) (fun V hV => exec_lookD hV.1.done none HN.out rfl rfl rfl) (by go_simp; rfl) HS ?_
  refine HeldBy.take (i := 6) rfl (by kernel_rfl) (by kernel_rfl) (by kernel_rfl) (fun _ _ _ h => h) (by rfl) (fun _ _ => by first | (go_simp; rfl) | (go_simp; done)) (by go_simp; rfl) HS ?_
  refine HeldBy.take (i := 7) rfl (by kernel_rfl) (by kernel_rfl) (by kernel_rfl) (fun _ _ _ h => h) (by rfl) (fun _ _ => by first | (go_simp; rfl) | (go_simp; done)) (by go_simp; rfl) HS ?_
  refine HeldBy.take (i := 8) rfl (by kernel_rfl) (by kernel_rfl) (by kernel_rfl) (fun _ _ _ h => h) (by rfl) (fun _ _ => by first | (go_simp; rfl) | (go_simp; done)) (by go_simp; rfl) HS ?_
  have HSS : ∀ w', Below U0.heap.size U0 w' → (DrAt w' d r v s n Ro Vo So No ∧ BoxC w' w.heap.size c ∧ BoxR w' (w.heap.size + 1) zeroR ∧ BoxT w' W3.heap.size ⟨false, c.target⟩ ∧ Below w.heap.size w w') := fun w' hb => ⟨HS.1.after hb, HS.2.1.after hb, HS.2.2.1.after hb, HS.2.2.2.1.after hb, HS.2.2.2.2.trans (hb.mono HS.2.2.2.2.size)⟩
  refine HeldBy.Goes.without (w0 := U0) (k := 9) (dk := some 6) (x := .cells (cellsP zeroP) 109 (0, 0)) ?_ U0 (Below.refl _ _)
  refine HeldBy.Goes.nil rfl rfl (by kernel_rfl) rfl (makes_p rfl) HSS rfl (fun p => by unfold HeldBy.ptr; go_simp; rfl) ?_
  intro p U1 hp hb hn
  obtain ⟨V5, hs5, hb5, -, hl5⟩ := stoP (show BoxP U1 p zeroP from hn) zeroP
  have hS5 := HSS V5 (hl5 _ _ hb hp)
  refine HeldBy.store (i := 10) (w' := V5) rfl (by kernel_rfl) (by rfl) (hs5 rfl rfl rfl) (by first | (go_simp; rfl) | (go_simp; done)) hS5 ?_
  refine HeldBy.take (i := 11) rfl (by kernel_rfl) (by kernel_rfl) (by kernel_rfl) (fun _ _ _ h => h) (by rfl) (fun _ _ => by first | (go_simp; rfl) | (go_simp; done)) (by first | (go_simp; rfl) | (go_simp; done)) hS5 ?_
  refine wpAnyH_done (by kernel_rfl) ?_ _
  have hdone := hS5.1.done
  have g3 := hS5.1.box.c3
  have hc5 := hS5.2.1
  have HC := Lib.hid hS5.2.1
  have HR := Lib.hid hS5.2.2.1
  have HT := Lib.hid hS5.2.2.2.1
  have HW := Lib.hid hS5.2.2.2.2
  have HP := Lib.hid (HC0.out V5 hS5.1)
  have hln := HLN.out
  clear hs5 hb5 hl5 hS5 HSS HS hp hb hn HC0
  go_wp2_with (first | (refine wpList_got rfl (exec_maplen hdone und_D rfl rfl) ?_) | (refine wpList_got rfl (loadC hc5 rfl rfl) ?_))
  clear hdone g3 hc5 hln
  refine HP.out.mono ?_
  rintro e W6 ⟨m, rfl, hd6, hm6, hle, hb6, hk6⟩
  have hlt := HLT.out
  have hmt := HMT.out
  have hcl := HC.out.lt
  have hrl := HR.out.lt
  have htl := HT.out.lt
  have hc6 : BoxC W6 w.heap.size c := (hk6 _ hcl (by omega) (by omega) (by omega)).trans HC.out
  have hr6 : BoxR W6 (w.heap.size + 1) zeroR := (hk6 _ hrl (by omega) (by omega) (by omega)).trans HR.out
  have ht6 : BoxT W6 W3.heap.size ⟨false, c.target⟩ := (hk6 _ htl (by omega) (by omega) (by omega)).trans HT.out
  have hm6l := hm6.lt
  have hsz5 := HW.out.size
  have hsz6 := hb6.size
  obtain ⟨V7, hs7, hb7, hl7⟩ := boxR W6 zeroR rfl (resOf c)
  have HM := Lib.hid (hm6.after hl7)
  have HD := Lib.hid (hd6.after hl7)
  have HB := Lib.hid (hd6.after hl7).box
  have HCC := Lib.hid (hc6.after hl7)
  have HRR := Lib.hid (hr6.after hl7)
  have HTT := Lib.hid (ht6.after hl7)
  have HX := Lib.hid hb7
  have HK : Hid (Keeps r v n w V7 ∧ Below B w V7 ∧ w.heap.size ≤ m ∧ m < W6.heap.size) := by
    show _ ∧ _
    refine ⟨fun g hg k1 k2 k3 => ?_, ((HW.out.mono (by have := HBB.out.1; omega)).trans hb6).trans (hl7.mono (by have := HBB.out.1; omega)), by omega, hm6l⟩
    rw [hl7.block g (by omega), hk6 g (by omega) k1 k2 k3, HW.out.block g hg]
  have HMN : Hid (m ≠ w.heap.size + 1) := by show _ ≠ _; omega
  have HB7 : Hid (Below B w V7) := HK.out.2.1
  have HQ7 : Hid (w.heap.size ≤ m ∧ m < W6.heap.size) := HK.out.2.2
  replace HK : Hid (Keeps r v n w V7) := HK.out.1
  have HNE : Hid (w.heap.size + 1 < W6.heap.size ∧ W3.heap.size < W6.heap.size) := by
    show _ ∧ _
    omega
  clear hd6 hm6 hle hb6 hk6 hlt hmt hcl hrl htl hc6 hr6 ht6 hm6l hsz5 hsz6 hb7 hl7 HC HR HT HW HP
  go_upto_region 16 with (refine wpList_skip rfl (hs7 rfl rfl rfl) ?_)
  clear hs7
  refine wp_region_held_drew (S := fun V => BoxD V d ⟨some r, some v, some s, some n⟩ ∧ BoxC V w.heap.size c ∧ BoxT V W3.heap.size ⟨false, c.target⟩ ∧ BoxR V W6.heap.size (resOf c)) (by kernel_rfl) ⟨HB.out, HCC.out, HTT.out, HX.out⟩ (fun _ => ?_)
  refine HeldBy.gen (fun V => (BoxD V d ⟨some r, some v, some s, some n⟩ ∧ BoxC V w.heap.size c ∧ BoxT V W3.heap.size ⟨false, c.target⟩ ∧ BoxR V W6.heap.size (resOf c)) ∧ (DrAt V d r v s n (KM.put c.zone (.int .i64 left) Ro) (KM.put c.target (encV ⟨c.size, 0, c.zone, some m⟩) Vo) So No) ∧ (BoxR V (w.heap.size + 1) zeroR) ∧ (IsMap encS V m []) ∧ (Keeps r v n w V) ∧ (Below B w V)) ⟨⟨HB.out, HCC.out, HTT.out, HX.out⟩, HD.out, HRR.out, HM.out, HK.out, HB7.out.drew⟩ ?_
  clear HB HCC HTT HX HD HRR HM HK HB7
  rintro U0 ⟨HS, HD, HRR, HM, HK, HB7⟩
  refine HeldBy.take (i := 0) rfl (by kernel_rfl) (by kernel_rfl) (by kernel_rfl) (fun _ _ _ h => h) (by rfl) (fun _ _ => by first | (go_simp; rfl) | (go_simp; done)) (by first | (go_simp; rfl) | (go_simp; done)) HS ?_
  refine HeldBy.take (i := 1) rfl (by kernel_rfl) (by kernel_rfl) (by kernel_rfl) (fun _ _ _ h => h) (by rfl) (fun _ _ => by first | (go_simp; rfl) | (go_simp; done)) (by first | (go_simp; rfl) | (go_simp; done)) HS ?_
  refine HeldBy.take (i := 2) rfl (by kernel_rfl) (by kernel_rfl) (by kernel_rfl) (fun _ _ _ h => h) (by rfl) (fun _ _ => by first | (go_simp; rfl) | (go_simp; done)) (by first | (go_simp; rfl) | (go_simp; done)) HS ?_
  refine HeldBy.take (i := 3) (v := .map (some n)) rfl (by kernel_rfl) (by kernel_rfl) (by kernel_rfl) (fun _ _ _ h => h) (by rfl) (fun V hV => by have hc := hV.1.c3; first | (go_simp; rfl) | (go_simp; done)) (by first | (go_simp; rfl) | (go_simp; done)) HS ?_
  refine HeldBy.take (i := 4) (v := encT ⟨false, c.target⟩) rfl (by kernel_rfl) (by kernel_rfl) (by kernel_rfl) (fun _ _ _ h => h) (by rfl) (fun V hV => loadT hV.2.2.1 rfl rfl) (by first | (go_simp; rfl) | (go_simp; done)) HS ?_
  refine HeldBy.take (i := 5) (v := encC c) rfl (by kernel_rfl) (by kernel_rfl) (by kernel_rfl) (fun _ _ _ h => h) (by rfl) (fun V hV => loadC hV.2.1 rfl rfl) (by first | (go_simp; rfl) | (go_simp; done)) HS ?_
  refine HeldBy.take (i := 6) (v := encR (resOf c)) rfl (by kernel_rfl) (by kernel_rfl) (by kernel_rfl) (fun _ _ _ h => h) (by rfl) (fun V hV => loadR hV.2.2.2 rfl rfl) (by first | (go_simp; rfl) | (go_simp; done)) HS ?_
  refine HeldBy.take (i := 7) (v := encP ⟨c, resOf c⟩) rfl (by kernel_rfl) (by kernel_rfl) (by kernel_rfl) (fun _ _ _ h => h) (by rfl) (fun _ _ => exec_build 109 _ rfl _ (by exact built_p _ _)) (by first | (go_simp; rfl) | (go_simp; done)) HS ?_
  obtain ⟨V8, hs8, hm8, ht8⟩ := exec_updD HD.done ⟨false, c.target⟩ (encP ⟨c, resOf c⟩)
  have hlt := HLT.out
  have hmt := HMT.out
  have hne := HNE.out
  obtain ⟨f1, f2, f3, f4, f5, f6, f7, f8, f9, f10⟩ := HF.out
  have hS8 : BoxD V8 d ⟨some r, some v, some s, some n⟩ ∧ BoxC V8 w.heap.size c ∧ BoxT V8 W3.heap.size ⟨false, c.target⟩ ∧ BoxR V8 W6.heap.size (resOf c) :=
    ⟨HS.1.turned ht8 f4, Turned.other ht8 (by omega) HS.2.1, Turned.other ht8 (by omega) HS.2.2.1, Turned.other ht8 (by omega) HS.2.2.2⟩
  refine HeldBy.store (i := 8) (w' := V8) rfl (by kernel_rfl) (by rfl) (hs8 rfl rfl rfl rfl) (by first | (go_simp; rfl) | (go_simp; done)) hS8 ?_
  refine wpAnyH_done (by kernel_rfl) ?_ _
  have hd8 := HD.putDone HF.out ht8 hm8
  have hr8 : BoxR V8 (w.heap.size + 1) zeroR := Turned.other ht8 (by omega) HRR
  have hm8' : IsMap encS V8 m [] := isMap_turned HM ht8 (by have := HQ7.out.1; omega)
  have hx8 := hS8.2.2.2
  obtain ⟨V9, hs9, hb9, hk9, hl9⟩ := stoR hr8 (resOf c)
  have HV9 := Lib.hid hb9
  have HY : Hid (DrAt V9 d r v s n (KM.put c.zone (.int .i64 left) Ro) (KM.put c.target (encV ⟨c.size, 0, c.zone, some m⟩) Vo) So (KM.put ⟨false, c.target⟩ (encP ⟨c, resOf c⟩) No) ∧ IsMap encS V9 m [] ∧ w.heap.size ≤ m ∧ Below B w V9 ∧ Keeps r v n w V9) := by
    show _ ∧ _
    have hml := hm8'.lt
    refine ⟨hd8.keep hk9 (by omega), hm8'.of_heap (hk9 _ HMN.out), HQ7.out.1, hl9 _ _ (HB7.trans (ht8.below HBB.out.2.2)) (by have := HBB.out.1; omega), fun g hg k1 k2 k3 => ?_⟩
    rw [hk9 g (by omega), ht8.block g k3, HK g hg k1 k2 k3]
  clear hs8 hm8 ht8 hlt hmt hne f1 f2 f3 f4 f5 f6 f7 f8 f9 f10 hS8 hd8 hr8 hm8' HS HD HRR HM HK HB7 hb9 hk9 hl9
  go_wp2_with (first | (refine wpList_got rfl (loadR hx8 rfl rfl) ?_) | (refine wpList_skip rfl (hs9 rfl rfl rfl) ?_))
  refine bodyPost_ret (v := encR (resOf c)) (results_cell_row rfl _ _ (w.heap.size + 1) 50 (cellsR (resOf c)) (0, 0) _ rfl HV9.out undR rfl sizeR) rfl ?_
  exact ⟨_, rfl, HY.out.1, HY.out.2.1, HY.out.2.2.1, HY.out.2.2.2.1, HY.out.2.2.2.2⟩
set_option maxRecDepth 100000 in
set_option maxHeartbeats 8000000 in
theorem do_again (x : Rs) (hd : DrAt w d r v s n Ro Vo So No) (h1 : c.verb = 1) (hN : KM.get ⟨false, c.target⟩ No = some (encP ⟨c, x⟩)) (hri : rightB c = true) :
    Calls Try.prog 24 #[.pointer (some ⟨d, 0, none⟩), encC c] w fun e w' => e = .returned (encR x) ∧ Below w.heap.size w w' := by
  have HD0 := Lib.hid hd
  have HV := Lib.hid h1
  have HN := Lib.hid hN
  have HRI := Lib.hid hri
  clear hd h1 hN hri
  rw [show encC c = .agg (cellsC c) from rfl]
  go_enter Try.func24, Try.ntmps24
  go_upto_region 1 with (fail)
  refine wp_gen (fun V => DrAt V d r v s n Ro Vo So No ∧ BoxC V w.heap.size c ∧ BoxR V (w.heap.size + 1) zeroR ∧ Below w.heap.size w V) ⟨HD0.out.after (below2 w _ _), (heap2 w _ _).1, (heap2 w _ _).2, below2 w _ _⟩ ?_
  rintro V1 ⟨hd1, hc1, hr1, hw1⟩
  have HD := Lib.hid hd1
  have HC := Lib.hid hc1
  have HR := Lib.hid hr1
  have HW := Lib.hid hw1
  clear hd1 hr1 hw1 HD0
  go_wp2_with (refine wpList_got rfl (loadC hc1 rfl rfl) ?_)
  clear hc1
  refine (right_is HRI.out _).mono ?_
  rintro e W2 ⟨rfl, hb⟩
  replace HD := Lib.hid (HD.out.after hb)
  replace HC := Lib.hid (HC.out.after hb)
  replace HR := Lib.hid (HR.out.after hb)
  replace HW := Lib.hid (HW.out.trans (hb.mono HW.out.size))
  clear hb
  have c0 := HC.out.c0
  rw [HV.out] at c0
  have c1 := HC.out.c1
  go_wp2_with (fail)
  clear c0 c1
  refine (target_1 _ _).mono ?_
  rintro e W3 ⟨rfl, hb⟩
  obtain ⟨V4, hs4, hb4, hl4⟩ := boxT W3 zeroT rfl ⟨false, c.target⟩
  have hw3 := HW.out.trans (hb.mono HW.out.size)
  have hr3 := HR.out.after hb
  have HMT : Hid (w.heap.size + 1 < W3.heap.size) := hr3.lt
  clear hr3
  replace HD := Lib.hid ((HD.out.after hb).after hl4)
  replace HC := Lib.hid ((HC.out.after hb).after hl4)
  replace HR := Lib.hid ((HR.out.after hb).after hl4)
  replace HW := Lib.hid (hw3.trans (hl4.mono hw3.size))
  have HT := Lib.hid hb4
  clear hb hb4 hl4 hw3
  go_upto_region 6 with (refine wpList_skip rfl (hs4 rfl rfl rfl) ?_)
  clear hs4
  refine wp_region_held_drew (S := fun V => DrAt V d r v s n Ro Vo So No ∧ BoxC V w.heap.size c ∧ BoxR V (w.heap.size + 1) zeroR ∧ BoxT V W3.heap.size ⟨false, c.target⟩ ∧ Below w.heap.size w V) (by kernel_rfl) ⟨HD.out, HC.out, HR.out, HT.out, HW.out.drew⟩ (fun _ => ?_)
  refine HeldBy.gen (fun V => DrAt V d r v s n Ro Vo So No ∧ BoxC V w.heap.size c ∧ BoxR V (w.heap.size + 1) zeroR ∧ BoxT V W3.heap.size ⟨false, c.target⟩ ∧ Below w.heap.size w V) ⟨HD.out, HC.out, HR.out, HT.out, HW.out.drew⟩ ?_
  clear HD HC HR HT HW
  rintro U0 HS
  refine HeldBy.take (i := 0) rfl (by kernel_rfl) (by kernel_rfl) (by kernel_rfl) (fun _ _ _ h => h) (by rfl) (fun _ _ => by first | (go_simp; rfl) | (go_simp; done)) (by go_simp; rfl) HS ?_
  refine HeldBy.take (i := 1) rfl (by kernel_rfl) (by kernel_rfl) (by kernel_rfl) (fun _ _ _ h => h) (by rfl) (fun _ _ => by first | (go_simp; rfl) | (go_simp; done)) (by go_simp; rfl) HS ?_
  refine HeldBy.take (i := 2) rfl (by kernel_rfl) (by kernel_rfl) (by kernel_rfl) (fun _ _ _ h => h) (by rfl) (fun _ _ => by first | (go_simp; rfl) | (go_simp; done)) (by go_simp; rfl) HS ?_
  refine HeldBy.take (i := 3) (v := .map (some n)) rfl (by kernel_rfl) (by kernel_rfl) (by kernel_rfl) (fun _ _ _ h => h) (by rfl) (fun V hV => by have hc := hV.1.box.c3; first | (go_simp; rfl) | (go_simp; done)) (by go_simp; rfl) HS ?_
  refine HeldBy.take (i := 4) (v := encT ⟨false, c.target⟩) rfl (by kernel_rfl) (by kernel_rfl) (by kernel_rfl) (fun _ _ _ h => h) (by rfl) (fun V hV => loadT hV.2.2.2.1 rfl rfl) (by go_simp; rfl) HS ?_
  refine HeldBy.take (i := 5) (v := .tuple #[encP ⟨c, x⟩, .bool true]) rfl (by kernel_rfl) (by kernel_rfl) (by kernel_rfl) (fun _ _ _ h => h) (by rfl) (fun V hV => exec_lookD hV.1.done (some _) HN.out rfl rfl rfl) (by go_simp; rfl) HS ?_
  refine HeldBy.take (i := 6) rfl (by kernel_rfl) (by kernel_rfl) (by kernel_rfl) (fun _ _ _ h => h) (by rfl) (fun _ _ => by first | (go_simp; rfl) | (go_simp; done)) (by go_simp; rfl) HS ?_
  refine HeldBy.take (i := 7) rfl (by kernel_rfl) (by kernel_rfl) (by kernel_rfl) (fun _ _ _ h => h) (by rfl) (fun _ _ => by first | (go_simp; rfl) | (go_simp; done)) (by go_simp; rfl) HS ?_
  refine HeldBy.take (i := 8) rfl (by kernel_rfl) (by kernel_rfl) (by kernel_rfl) (fun _ _ _ h => h) (by rfl) (fun _ _ => by first | (go_simp; rfl) | (go_simp; done)) (by go_simp; rfl) HS ?_
  have HSS : ∀ w', Below U0.heap.size U0 w' → (DrAt w' d r v s n Ro Vo So No ∧ BoxC w' w.heap.size c ∧ BoxR w' (w.heap.size + 1) zeroR ∧ BoxT w' W3.heap.size ⟨false, c.target⟩ ∧ Below w.heap.size w w') := fun w' hb => ⟨HS.1.after hb, HS.2.1.after hb, HS.2.2.1.after hb, HS.2.2.2.1.after hb, HS.2.2.2.2.trans (hb.mono HS.2.2.2.2.size)⟩
  refine HeldBy.Goes.without (w0 := U0) (k := 9) (dk := some 6) (x := .cells (cellsP zeroP) 109 (0, 0)) ?_ U0 (Below.refl _ _)
  refine HeldBy.Goes.nil rfl rfl (by kernel_rfl) rfl (makes_p rfl) HSS rfl (fun p => by unfold HeldBy.ptr; go_simp; rfl) ?_
  intro p U1 hp hb hn
  obtain ⟨V5, hs5, hb5, -, hl5⟩ := stoP (show BoxP U1 p zeroP from hn) ⟨c, x⟩
  have hS5 := HSS V5 (hl5 _ _ hb hp)
  refine HeldBy.store (i := 10) (w' := V5) rfl (by kernel_rfl) (by rfl) (hs5 rfl rfl rfl) (by first | (go_simp; rfl) | (go_simp; done)) hS5 ?_
  refine HeldBy.take (i := 11) rfl (by kernel_rfl) (by kernel_rfl) (by kernel_rfl) (fun _ _ _ h => h) (by rfl) (fun _ _ => by first | (go_simp; rfl) | (go_simp; done)) (by first | (go_simp; rfl) | (go_simp; done)) hS5 ?_
  refine wpAnyH_done (by kernel_rfl) ?_ _
  have hc5 := hS5.2.1
  have n2 := hc5.c2
  have p2 : V5.cell? ⟨p, 2, none⟩ = some (.int .u64 c.num) := hb5.c2
  obtain ⟨V6, hs6, hb6, -, hl6⟩ := stoR hS5.2.2.1 x
  have HV6 := Lib.hid hb6
  have HW6 := Lib.hid (hl6 _ _ hS5.2.2.2.2 (Nat.le_succ _))
  clear hs5 hl5 hS5 HSS HS hp hb hn hb6 hl6
  go_wp2_with (first | (refine wpList_got rfl (loadC hc5 rfl rfl) ?_) | (refine wpList_got rfl (loadP_call hb5 rfl rfl) ?_) | (refine wpList_got rfl (exec_eqC (v := true) rfl rfl rfl (decide_eq_true rfl)) ?_) | (refine wpList_got rfl (loadP_res hb5 rfl rfl) ?_) | (refine wpList_skip rfl (hs6 rfl rfl rfl) ?_))
  refine bodyPost_ret (v := encR x) (results_cell_row rfl _ _ (w.heap.size + 1) 50 (cellsR x) (0, 0) _ rfl HV6.out undR rfl sizeR) rfl ?_
  exact ⟨rfl, HW6.out⟩
end
end Go.Proofs.Ytbgfccanbgpjiaa.O.I
