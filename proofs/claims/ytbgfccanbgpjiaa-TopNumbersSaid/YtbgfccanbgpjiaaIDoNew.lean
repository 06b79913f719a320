/- A newer call of publishing, of a volume that was called before. -/
import Derived.Test.YtbgfccanbgpjiaaIDoPub
namespace Go.Proofs.Ytbgfccanbgpjiaa.O.I
open Go Go.RowKit Go.Lib KM
attribute [local go_sem] Oper.semAt_some

theorem loadP_callA {W : World} {b : Nat} {lc : Cl} {x : Rs} (h : BoxP W b ⟨lc, x⟩) {oi : Oper} {a : Act} {p : Operand} (ho : oi.op = .load 27 p) (hx : a.eval p = .pointer (some ⟨b, 0, none⟩)) :
    (execOp a.eval oi).run Try.prog W = .ok (.value (encC lc)) W := loadP_call h ho hx
theorem DrAt.only {W W' : World} {d r v s n m : Nat} {R V S : List (ByteArray × Value)} {N : List (Tg × Value)} (h : DrAt W d r v s n R V S N) (ho : Only m W W') (hne : m ≠ d ∧ m ≠ r ∧ m ≠ v ∧ m ≠ s ∧ m ≠ n) : DrAt W' d r v s n R V S N := by
  obtain ⟨l1, l2, l3, l4, l5⟩ := h.lt
  obtain ⟨n1, n2, n3, n4, n5⟩ := hne
  exact ⟨(ho.1 d l1 n1.symm).trans h.box, h.rooms.of_heap (ho.1 r l2 n2.symm), h.vols.of_heap (ho.1 v l3 n3.symm), h.snaps.of_heap (ho.1 s l4 n4.symm), h.done.of_heap (ho.1 n l5 n5.symm), h.stamp.of_heap (ho.1 v l3 n3.symm)⟩
theorem Stamp.turned {W W' : World} {b g : Nat} (h : Stamp W g) (ht : Turned W W' b) (hne : g ≠ b) : Stamp W' g := h.of_heap (ht.block g hne)
section
variable (B d r v s n : Nat) (Ro Vo So : List (ByteArray × Value)) (No : List (Tg × Value)) (c : Cl) (w : World)
/-- What a call of publishing leaves. -/
def DoPA (m : Nat) (M : List (ByteArray × Value)) (e : Ending) (w' : World) : Prop :=
  e = .returned (encR zeroR) ∧ DrAt w' d r v s n Ro Vo So (KM.put ⟨false, c.target⟩ (encP ⟨c, zeroR⟩) No) ∧ IsMap encS w' m (nodesM c M) ∧ Stamp w' m ∧ Below B w w' ∧ ∀ g, g < w.heap.size → g ≠ m → g ≠ n → w'.heap[g]? = w.heap[g]?
set_option maxRecDepth 100000 in
set_option maxHeartbeats 8000000 in
theorem do_newer (m : Nat) (M : List (ByteArray × Value)) (lc : Cl) (x : Rs) (y : Vl) (hd : DrAt w d r v s n Ro Vo So No) (hf : Five d r v s n) (hv : c.verb = 3 ∨ c.verb = 4) (hV : KM.get c.target Vo = some (encV y)) (hy : y.nodes = some m) (hm : IsMap encS w m M) (hst : Stamp w m)
    (hne : m ≠ d ∧ m ≠ r ∧ m ≠ v ∧ m ≠ s ∧ m ≠ n) (hN : KM.get ⟨false, c.target⟩ No = some (encP ⟨lc, x⟩)) (hri : rightB c = true) (hgt : lc.num < c.num) (hB : B ≤ m ∧ B ≤ n) :
    Calls Try.prog 24 #[.pointer (some ⟨d, 0, none⟩), encC c] w fun e w' => DoPA B d r v s n Ro Vo So No c w m M e w' := by
  have HP0 := Lib.hid (fun V (h1 : DrAt V d r v s n Ro Vo So No) (h2 : IsMap encS V m M) (h3 : Stamp V m) => perform_pub d r v s n m Ro Vo So No c y M V h1 hv hV hy h2 h3)
  have h1 : snapV c.verb = false := by
    rcases hv with h | h <;> rw [h] <;> rfl
  have HF := Lib.hid hf
  have HM := Lib.hid hm
  have HST := Lib.hid hst
  have HML := Lib.hid hm.lt
  have HLT := Lib.hid hd.lt
  have HNE := Lib.hid hne
  have HBB := Lib.hid hB
  have HDC : Hid (decide (c = lc) = false) := decide_eq_false (fun e => absurd hgt (by rw [e]; exact Int.lt_irrefl _))
  have HG : Hid (lc.num < c.num) := hgt
  clear hf hv hV hy hm hst hne hgt hB
  have HD0 := Lib.hid hd
  have HV := Lib.hid h1
  have HN := Lib.hid hN
  have HRI := Lib.hid hri
  clear hd h1 hN hri
  rw [show encC c = .agg (cellsC c) from rfl]
  go_enter Try.func24, Try.ntmps24
  go_upto_region 1 with (fail)
  refine wp_gen (fun V => DrAt V d r v s n Ro Vo So No ∧ BoxC V w.heap.size c ∧ BoxR V (w.heap.size + 1) zeroR ∧ Below w.heap.size w V) ⟨HD0.out.after (below2 w _ _), (heap2 w _ _).1, (heap2 w _ _).2, below2 w _ _⟩ ?_
  rintro V1 ⟨hd1, hc1, hr1, hw1⟩
  have HD := Lib.hid hd1
  have HC := Lib.hid hc1
  have HR := Lib.hid hr1
  have HW := Lib.hid hw1
  clear hd1 hr1 hw1 HD0
  go_wp2_with (refine wpList_got rfl (loadC hc1 rfl rfl) ?_)
  clear hc1
  refine (right_is HRI.out _).mono ?_
  rintro e W2 ⟨rfl, hb⟩
  replace HD := Lib.hid (HD.out.after hb)
  replace HC := Lib.hid (HC.out.after hb)
  replace HR := Lib.hid (HR.out.after hb)
  replace HW := Lib.hid (HW.out.trans (hb.mono HW.out.size))
  clear hb
  have c0 := HC.out.c0
  have c1 := HC.out.c1
  have HTG := Lib.hid (targetOf_any c.verb c.target W2)
  rw [HV.out] at HTG
  go_wp2_with (fail)
  clear c0 c1
  refine HTG.out.mono ?_
  rintro e W3 ⟨rfl, hb⟩
  obtain ⟨V4, hs4, hb4, hl4⟩ := boxT W3 zeroT rfl ⟨false, c.target⟩
  have hw3 := HW.out.trans (hb.mono HW.out.size)
  have hr3 := HR.out.after hb
  have HMT : Hid (w.heap.size + 1 < W3.heap.size) := hr3.lt
  clear hr3
  replace HD := Lib.hid ((HD.out.after hb).after hl4)
  replace HC := Lib.hid ((HC.out.after hb).after hl4)
  replace HR := Lib.hid ((HR.out.after hb).after hl4)
  replace HW := Lib.hid (hw3.trans (hl4.mono hw3.size))
  have HT := Lib.hid hb4
  clear hb hb4 hl4 hw3 HTG
  go_upto_region 6 with (refine wpList_skip rfl (hs4 rfl rfl rfl) ?_)
  clear hs4
  refine wp_region_held_drew (S := fun V => DrAt V d r v s n Ro Vo So No ∧ BoxC V w.heap.size c ∧ BoxR V (w.heap.size + 1) zeroR ∧ BoxT V W3.heap.size ⟨false, c.target⟩ ∧ Below w.heap.size w V) (by kernel_rfl) ⟨HD.out, HC.out, HR.out, HT.out, HW.out.drew⟩ (fun _ => ?_)
  refine HeldBy.gen (fun V => DrAt V d r v s n Ro Vo So No ∧ BoxC V w.heap.size c ∧ BoxR V (w.heap.size + 1) zeroR ∧ BoxT V W3.heap.size ⟨false, c.target⟩ ∧ Below w.heap.size w V) ⟨HD.out, HC.out, HR.out, HT.out, HW.out.drew⟩ ?_
  clear HD HC HR HT HW
  rintro U0 HS
  refine HeldBy.take (i := 0) rfl (by kernel_rfl) (by kernel_rfl) (by kernel_rfl) (fun _ _ _ h => h) (by rfl) (fun _ _ => by first | (go_simp; rfl) | (go_simp; done)) (by go_simp; rfl) HS ?_
  refine HeldBy.take (i := 1) rfl (by kernel_rfl) (by kernel_rfl) (by kernel_rfl) (fun _ _ _ h => h) (by rfl) (fun _ _ => by first | (go_simp; rfl) | (go_simp; done)) (by go_simp; rfl) HS ?_
  refine HeldBy.take (i := 2) rfl (by kernel_rfl) (by kernel_rfl) (by kernel_rfl) (fun _ _ _ h => h) (by rfl) (fun _ _ => by first | (go_simp; rfl) | (go_simp; done)) (by go_simp; rfl) HS ?_
  refine HeldBy.take (i := 3) (v := .map (some n)) rfl (by kernel_rfl) (by kernel_rfl) (by kernel_rfl) (fun _ _ _ h => h) (by rfl) (fun V hV => by have hc := hV.1.box.c3; first | (go_simp; rfl) | (go_simp; done)) (by go_simp; rfl) HS ?_
  refine HeldBy.take (i := 4) (v := encT ⟨false, c.target⟩) rfl (by kernel_rfl) (by kernel_rfl) (by kernel_rfl) (fun _ _ _ h => h) (by rfl) (fun V hV => loadT hV.2.2.2.1 rfl rfl) (by go_simp; rfl) HS ?_
  refine HeldBy.take (i := 5) (v := .tuple #[encP ⟨lc, x⟩, .bool true]) rfl (by kernel_rfl) (by kernel_rfl) (by kernel_rfl) (fun _ _ _ h => h) (by rfl) (fun V hV => exec_lookD hV.1.done (some _) HN.out rfl rfl rfl) (by go_simp; rfl) HS ?_
  refine HeldBy.take (i := 6) rfl (by kernel_rfl) (by kernel_rfl) (by kernel_rfl) (fun _ _ _ h => h) (by rfl) (fun _ _ => by first | (go_simp; rfl) | (go_simp; done)) (by go_simp; rfl) HS ?_
  refine HeldBy.take (i := 7) rfl (by kernel_rfl) (by kernel_rfl) (by kernel_rfl) (fun _ _ _ h => h) (by rfl) (fun _ _ => by first | (go_simp; rfl) | (go_simp; done)) (by go_simp; rfl) HS ?_
  refine HeldBy.take (i := 8) rfl (by kernel_rfl) (by kernel_rfl) (by kernel_rfl) (fun _ _ _ h => h) (by rfl) (fun _ _ => by first | (go_simp; rfl) | (go_simp; done)) (by go_simp; rfl) HS ?_
  have HSS : ∀ w', Below U0.heap.size U0 w' → (DrAt w' d r v s n Ro Vo So No ∧ BoxC w' w.heap.size c ∧ BoxR w' (w.heap.size + 1) zeroR ∧ BoxT w' W3.heap.size ⟨false, c.target⟩ ∧ Below w.heap.size w w') := fun w' hb => ⟨HS.1.after hb, HS.2.1.after hb, HS.2.2.1.after hb, HS.2.2.2.1.after hb, HS.2.2.2.2.trans (hb.mono HS.2.2.2.2.size)⟩
  refine HeldBy.Goes.without (w0 := U0) (k := 9) (dk := some 6) (x := .cells (cellsP zeroP) 109 (0, 0)) ?_ U0 (Below.refl _ _)
  refine HeldBy.Goes.nil rfl rfl (by kernel_rfl) rfl (makes_p rfl) HSS rfl (fun p => by unfold HeldBy.ptr; go_simp; rfl) ?_
  intro p U1 hp hb hn
  obtain ⟨V5, hs5, hb5, -, hl5⟩ := stoP (show BoxP U1 p zeroP from hn) ⟨lc, x⟩
  have hS5 := HSS V5 (hl5 _ _ hb hp)
  refine HeldBy.store (i := 10) (w' := V5) rfl (by kernel_rfl) (by rfl) (hs5 rfl rfl rfl) (by first | (go_simp; rfl) | (go_simp; done)) hS5 ?_
  refine HeldBy.take (i := 11) rfl (by kernel_rfl) (by kernel_rfl) (by kernel_rfl) (fun _ _ _ h => h) (by rfl) (fun _ _ => by first | (go_simp; rfl) | (go_simp; done)) (by first | (go_simp; rfl) | (go_simp; done)) hS5 ?_
  refine wpAnyH_done (by kernel_rfl) ?_ _
  have hc5 := hS5.2.1
  have n2 := hc5.c2
  have p2 : V5.cell? ⟨p, 2, none⟩ = some (.int .u64 lc.num) := hb5.c2
  have HC5 := Lib.hid hS5.2.1
  have HR5 := Lib.hid hS5.2.2.1
  have HT5 := Lib.hid hS5.2.2.2.1
  have HW5 := Lib.hid hS5.2.2.2.2
  have HD5 := Lib.hid hS5.1
  have HPC := Lib.hid (HP0.out V5 hS5.1 (HM.out.after hS5.2.2.2.2) (HST.out.of_heap (hS5.2.2.2.2.block m HML.out)))
  have hbp := hb5
  have hg1 : ¬ c.num < lc.num := by have := HG.out; omega
  have hg2 : ¬ c.num = lc.num := by have := HG.out; omega
  clear hs5 hl5 hS5 HSS HS hp hb hn hb5 HP0
  go_wp2_with (first | (refine wpList_got rfl (loadC hc5 rfl rfl) ?_) | (refine wpList_got rfl (loadP_callA hbp rfl rfl) ?_) | (refine wpList_got rfl (exec_eqC (v := false) rfl rfl rfl HDC.out) ?_))
  clear hc5 hbp n2 p2 hg1 hg2
  refine HPC.out.mono ?_
  rintro e W6 ⟨rfl, hm6, hs6, ho6⟩
  have hlt := HLT.out
  have hml := HML.out
  have hmt := HMT.out
  have hcl := HC5.out.lt
  have hrl := HR5.out.lt
  have htl := HT5.out.lt
  have hc6 : BoxC W6 w.heap.size c := (ho6.1 _ hcl (by omega)).trans HC5.out
  have hr6 : BoxR W6 (w.heap.size + 1) zeroR := (ho6.1 _ hrl (by omega)).trans HR5.out
  have ht6 : BoxT W6 W3.heap.size ⟨false, c.target⟩ := (ho6.1 _ htl (by omega)).trans HT5.out
  have hd6 := HD5.out.only ho6 HNE.out
  have hm6l := hm6.lt
  have hsz5 := HW5.out.size
  have hsz6 : V5.heap.size ≤ W6.heap.size := (ho6.2 0 (Nat.zero_le _) (Nat.zero_le _)).size
  obtain ⟨V7, hs7, hb7, hl7⟩ := boxR W6 zeroR rfl zeroR
  have HM := Lib.hid (hm6.after hl7)
  have HST := Lib.hid (hs6.of_heap (hl7.block m hm6l))
  have HD := Lib.hid (hd6.after hl7)
  have HB := Lib.hid (hd6.after hl7).box
  have HCC := Lib.hid (hc6.after hl7)
  have HRR := Lib.hid (hr6.after hl7)
  have HTT := Lib.hid (ht6.after hl7)
  have HX := Lib.hid hb7
  have HB7 : Hid (Below B w V7) := by
    have b1 := HBB.out.1
    exact ((HW5.out.mono (by omega)).trans (ho6.2 B b1 (by omega))).trans (hl7.mono (by omega))
  have HK : Hid (∀ g, g < w.heap.size → g ≠ m → V7.heap[g]? = w.heap[g]?) := fun g hg hgm => by
    rw [hl7.block g (by omega), ho6.1 g (by omega) hgm, HW5.out.block g hg]
  have HNN : Hid (w.heap.size + 1 < W6.heap.size ∧ W3.heap.size < W6.heap.size) := by
    show _ ∧ _
    omega
  clear hd6 hm6 hs6 ho6 hlt hml hmt hcl hrl htl hc6 hr6 ht6 hm6l hsz5 hsz6 hb7 hl7 HC5 HR5 HT5 HW5 HD5 HPC HDC HG
  go_upto_region 16 with (refine wpList_skip rfl (hs7 rfl rfl rfl) ?_)
  clear hs7
  refine wp_region_held_drew (S := fun V => BoxD V d ⟨some r, some v, some s, some n⟩ ∧ BoxC V w.heap.size c ∧ BoxT V W3.heap.size ⟨false, c.target⟩ ∧ BoxR V W6.heap.size zeroR) (by kernel_rfl) ⟨HB.out, HCC.out, HTT.out, HX.out⟩ (fun _ => ?_)
  refine HeldBy.gen (fun V => (BoxD V d ⟨some r, some v, some s, some n⟩ ∧ BoxC V w.heap.size c ∧ BoxT V W3.heap.size ⟨false, c.target⟩ ∧ BoxR V W6.heap.size zeroR) ∧ (DrAt V d r v s n Ro Vo So No) ∧ (BoxR V (w.heap.size + 1) zeroR) ∧ (IsMap encS V m (nodesM c M)) ∧ (Stamp V m) ∧ (∀ g, g < w.heap.size → g ≠ m → V.heap[g]? = w.heap[g]?) ∧ (Below B w V)) ⟨⟨HB.out, HCC.out, HTT.out, HX.out⟩, HD.out, HRR.out, HM.out, HST.out, HK.out, HB7.out.drew⟩ ?_
  clear HB HCC HTT HX HD HRR HM HST HK HB7
  rintro U0 ⟨HS, HD, HRR, HM, HST, HK, HB7⟩
  refine HeldBy.take (i := 0) rfl (by kernel_rfl) (by kernel_rfl) (by kernel_rfl) (fun _ _ _ h => h) (by rfl) (fun _ _ => by first | (go_simp; rfl) | (go_simp; done)) (by first | (go_simp; rfl) | (go_simp; done)) HS ?_
  refine HeldBy.take (i := 1) rfl (by kernel_rfl) (by kernel_rfl) (by kernel_rfl) (fun _ _ _ h => h) (by rfl) (fun _ _ => by first | (go_simp; rfl) | (go_simp; done)) (by first | (go_simp; rfl) | (go_simp; done)) HS ?_
  refine HeldBy.take (i := 2) rfl (by kernel_rfl) (by kernel_rfl) (by kernel_rfl) (fun _ _ _ h => h) (by rfl) (fun _ _ => by first | (go_simp; rfl) | (go_simp; done)) (by first | (go_simp; rfl) | (go_simp; done)) HS ?_
  refine HeldBy.take (i := 3) (v := .map (some n)) rfl (by kernel_rfl) (by kernel_rfl) (by kernel_rfl) (fun _ _ _ h => h) (by rfl) (fun V hV => by have hc := hV.1.c3; first | (go_simp; rfl) | (go_simp; done)) (by first | (go_simp; rfl) | (go_simp; done)) HS ?_
  refine HeldBy.take (i := 4) (v := encT ⟨false, c.target⟩) rfl (by kernel_rfl) (by kernel_rfl) (by kernel_rfl) (fun _ _ _ h => h) (by rfl) (fun V hV => loadT hV.2.2.1 rfl rfl) (by first | (go_simp; rfl) | (go_simp; done)) HS ?_
  refine HeldBy.take (i := 5) (v := encC c) rfl (by kernel_rfl) (by kernel_rfl) (by kernel_rfl) (fun _ _ _ h => h) (by rfl) (fun V hV => loadC hV.2.1 rfl rfl) (by first | (go_simp; rfl) | (go_simp; done)) HS ?_
  refine HeldBy.take (i := 6) (v := encR zeroR) rfl (by kernel_rfl) (by kernel_rfl) (by kernel_rfl) (fun _ _ _ h => h) (by rfl) (fun V hV => loadR hV.2.2.2 rfl rfl) (by first | (go_simp; rfl) | (go_simp; done)) HS ?_
  refine HeldBy.take (i := 7) (v := encP ⟨c, zeroR⟩) rfl (by kernel_rfl) (by kernel_rfl) (by kernel_rfl) (fun _ _ _ h => h) (by rfl) (fun _ _ => exec_build 109 _ rfl _ (by exact built_p _ _)) (by first | (go_simp; rfl) | (go_simp; done)) HS ?_
  obtain ⟨V8, hs8, hm8, ht8⟩ := exec_updD HD.done ⟨false, c.target⟩ (encP ⟨c, zeroR⟩)
  have hlt := HLT.out
  have hml := HML.out
  have hmt := HMT.out
  have hnn := HNN.out
  obtain ⟨f1, f2, f3, f4, f5, f6, f7, f8, f9, f10⟩ := HF.out
  obtain ⟨q1, q2, q3, q4, q5⟩ := HNE.out
  have hS8 : BoxD V8 d ⟨some r, some v, some s, some n⟩ ∧ BoxC V8 w.heap.size c ∧ BoxT V8 W3.heap.size ⟨false, c.target⟩ ∧ BoxR V8 W6.heap.size zeroR :=
    ⟨HS.1.turned ht8 f4, Turned.other ht8 (by omega) HS.2.1, Turned.other ht8 (by omega) HS.2.2.1, Turned.other ht8 (by omega) HS.2.2.2⟩
  refine HeldBy.store (i := 8) (w' := V8) rfl (by kernel_rfl) (by rfl) (hs8 rfl rfl rfl rfl) (by first | (go_simp; rfl) | (go_simp; done)) hS8 ?_
  refine wpAnyH_done (by kernel_rfl) ?_ _
  have hd8 := HD.putDone HF.out ht8 hm8
  have hr8 : BoxR V8 (w.heap.size + 1) zeroR := Turned.other ht8 (by omega) HRR
  have hmm8 : IsMap encS V8 m (nodesM c M) := isMap_turned HM ht8 q5
  have hst8 : Stamp V8 m := HST.turned ht8 q5
  have hx8 := hS8.2.2.2
  obtain ⟨V9, hs9, hb9, hk9, hl9⟩ := stoR hr8 zeroR
  have HV9 := Lib.hid hb9
  have HY : Hid (DrAt V9 d r v s n Ro Vo So (KM.put ⟨false, c.target⟩ (encP ⟨c, zeroR⟩) No) ∧ IsMap encS V9 m (nodesM c M) ∧ Stamp V9 m ∧ Below B w V9 ∧ ∀ g, g < w.heap.size → g ≠ m → g ≠ n → V9.heap[g]? = w.heap[g]?) := by
    show _ ∧ _
    refine ⟨hd8.keep hk9 (by omega), hmm8.of_heap (hk9 _ (by omega)), hst8.of_heap (hk9 _ (by omega)), hl9 _ _ (HB7.trans (ht8.below HBB.out.2)) (by have := HBB.out.1; omega), fun g hg k1 k2 => ?_⟩
    rw [hk9 g (by omega), ht8.block g k2, HK g hg k1]
  clear hs8 hm8 ht8 hlt hml hmt hnn f1 f2 f3 f4 f5 f6 f7 f8 f9 f10 q1 q2 q3 q4 q5 hS8 hd8 hr8 hmm8 hst8 HS HD HRR HM HST HK HB7 hb9 hk9 hl9
  go_wp2_with (first | (refine wpList_got rfl (loadR hx8 rfl rfl) ?_) | (refine wpList_skip rfl (hs9 rfl rfl rfl) ?_))
  refine bodyPost_ret (v := encR zeroR) (results_cell_row rfl _ _ (w.heap.size + 1) 50 (cellsR zeroR) (0, 0) _ rfl HV9.out undR rfl sizeR) rfl ?_
  exact ⟨rfl, HY.out.1, HY.out.2.1, HY.out.2.2.1, HY.out.2.2.2.1, HY.out.2.2.2.2⟩
end
end Go.Proofs.Ytbgfccanbgpjiaa.O.I
