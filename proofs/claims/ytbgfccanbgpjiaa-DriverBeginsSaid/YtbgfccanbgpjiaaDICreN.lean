/- Own work. -/
import Derived.Test.YtbgfccanbgpjiaaDICut
namespace Go.Proofs.Ytbgfccanbgpjiaa.O.I
open Go Go.RowKit Go.Lib KM
attribute [local go_sem] Oper.semAt_some
section
variable (B d r v s n : Nat) (Ro Vo So : List (ByteArray × Value)) (No : List (Tg × Value)) (c : Cl) (w : World)
def Kp (r v : Nat) (w w' : World) : Prop := ∀ g, g < w.heap.size → g ≠ r → g ≠ v → w'.heap[g]? = w.heap[g]?
set_option maxRecDepth 100000 in
set_option maxHeartbeats 8000000 in
theorem create_low (hd : DrAt w d r v s n Ro Vo So No) (x : Vl) (hV : KM.get c.target Vo = some (encV x)) (hlt : x.size < c.size) :
    Calls Try.prog 68 #[.pointer (some ⟨d, 0, none⟩), encC c] w fun e w' => e = .returned (encR (errR 12)) ∧ Below w.heap.size w w' := by
  have HD0 := Lib.hid hd
  have HKV := Lib.hid hV
  clear hd hV
  rw [show encC c = .agg (cellsC c) from rfl]
  go_enter Try.func68, Try.ntmps68
  go_upto_region 1 with (fail)
  refine wp_gen (fun V => DrAt V d r v s n Ro Vo So No ∧ BoxC V w.heap.size c ∧ BoxR V (w.heap.size + 1) zeroR ∧ Below w.heap.size w V) ⟨HD0.out.after (below2 w _ _), (heap2 w _ _).1, (heap2 w _ _).2, below2 w _ _⟩ ?_
  rintro V1 ⟨hd1, hc1, hr1, hw1⟩
  have HD := Lib.hid hd1
  have HC := Lib.hid hc1
  have HR := Lib.hid hr1
  have HW := Lib.hid hw1
  clear hd1 hc1 hr1 hw1 HD0
  refine wp_region_held_drew (S := fun V => DrAt V d r v s n Ro Vo So No ∧ BoxC V w.heap.size c ∧ BoxR V (w.heap.size + 1) zeroR ∧ Below w.heap.size w V) (by kernel_rfl) ⟨HD.out, HC.out, HR.out, HW.out.drew⟩ (fun _ => ?_)
  refine HeldBy.gen (fun V => DrAt V d r v s n Ro Vo So No ∧ BoxC V w.heap.size c ∧ BoxR V (w.heap.size + 1) zeroR ∧ Below w.heap.size w V) ⟨HD.out, HC.out, HR.out, HW.out.drew⟩ ?_
  clear HD HC HR HW
  rintro U0 HS
  refine HeldBy.tn (i := 0) rfl HS ?_
  refine HeldBy.tn (i := 1) rfl HS ?_
  refine HeldBy.tn (i := 2) rfl HS ?_
  refine HeldBy.tk (i := 3) (v := .map (some v)) rfl (fun V hV => by have hc := hV.1.box.c1; first | (go_simp; rfl) | (go_simp; done)) HS ?_
  refine HeldBy.tn (i := 4) rfl HS ?_
  refine HeldBy.tk (i := 5) rfl (fun V hV => by have hc := hV.2.1.c1; first | (go_simp; rfl) | (go_simp; done)) HS ?_
  refine HeldBy.tk (i := 6) (v := .tuple #[encV x, .bool true]) rfl (fun V hV => exec_look2 und_V (zero_V _) hV.1.vols (some (encV x)) HKV.out rfl rfl rfl) HS ?_
  refine HeldBy.tn (i := 7) rfl HS ?_
  refine HeldBy.tn (i := 8) rfl HS ?_
  refine HeldBy.tn (i := 9) rfl HS ?_
  have HSS : ∀ w', Below U0.heap.size U0 w' → (DrAt w' d r v s n Ro Vo So No ∧ BoxC w' w.heap.size c ∧ BoxR w' (w.heap.size + 1) zeroR ∧ Below w.heap.size w w') := fun w' hb => ⟨HS.1.after hb, HS.2.1.after hb, HS.2.2.1.after hb, HS.2.2.2.trans (hb.mono HS.2.2.2.size)⟩
  refine HeldBy.Goes.without (w0 := U0) (k := 10) (dk := some 5) (x := .cells (cellsV zeroV) 95 (0, 0)) ?_ U0 (Below.refl _ _)
  refine HeldBy.Goes.nil rfl rfl (by kernel_rfl) rfl (makes_v rfl) HSS rfl (fun p => by unfold HeldBy.ptr; go_simp; rfl) ?_
  intro p U1 hp hb hn
  obtain ⟨V3, hs3, hb3, -, hl3⟩ := stoV (show BoxV U1 p zeroV from hn) x
  have hS3 := HSS V3 (hl3 _ _ hb hp)
  refine HeldBy.store (i := 11) (w' := V3) rfl (by kernel_rfl) (by rfl) (hs3 rfl rfl rfl) (by first | (go_simp; rfl) | (go_simp; done)) hS3 ?_
  refine HeldBy.tn (i := 12) rfl hS3 ?_
  refine wpAnyH_done (by kernel_rfl) ?_ _
  have HVB := Lib.hid hb3
  have HD := Lib.hid hS3.1
  have HC := Lib.hid hS3.2.1
  have HR := Lib.hid hS3.2.2.1
  have HW := Lib.hid hS3.2.2.2
  clear hs3 hb3 hl3 hS3 HSS HS hp hb hn
  have s0 := HVB.out.c0
  have c3 := HC.out.c3
  go_wp2_with (fail)
  refine (failed_any 12 _).mono ?_
  rintro e W8 ⟨rfl, hb8⟩
  obtain ⟨V9, hs9, hb9, -, hl9⟩ := stoR (HR.out.after hb8) (errR 12)
  have HV := Lib.hid hb9
  have HY := Lib.hid (hl9 _ _ (HW.out.trans (hb8.mono HW.out.size)) (Nat.le_succ _))
  clear hb8 hb9 hl9
  go_wp2_with (refine wpList_skip rfl (hs9 rfl rfl rfl) ?_)
  refine bodyPost_ret (v := encR (errR 12)) (results_cell_row rfl _ _ (w.heap.size + 1) 50 (cellsR (errR 12)) (0, 0) _ rfl HV.out undR rfl sizeR) rfl ?_
  exact ⟨rfl, HY.out⟩
set_option maxRecDepth 100000 in
set_option maxHeartbeats 8000000 in
theorem create_there (hd : DrAt w d r v s n Ro Vo So No) (x : Vl) (hV : KM.get c.target Vo = some (encV x)) (hlt : ¬ x.size < c.size) :
    Calls Try.prog 68 #[.pointer (some ⟨d, 0, none⟩), encC c] w fun e w' => e = .returned (encR ⟨0, x.size, x.zone, x.tag⟩) ∧ Below w.heap.size w w' := by
  have HD0 := Lib.hid hd
  have HKV := Lib.hid hV
  clear hd hV
  rw [show encC c = .agg (cellsC c) from rfl]
  go_enter Try.func68, Try.ntmps68
  go_upto_region 1 with (fail)
  refine wp_gen (fun V => DrAt V d r v s n Ro Vo So No ∧ BoxC V w.heap.size c ∧ BoxR V (w.heap.size + 1) zeroR ∧ Below w.heap.size w V) ⟨HD0.out.after (below2 w _ _), (heap2 w _ _).1, (heap2 w _ _).2, below2 w _ _⟩ ?_
  rintro V1 ⟨hd1, hc1, hr1, hw1⟩
  have HD := Lib.hid hd1
  have HC := Lib.hid hc1
  have HR := Lib.hid hr1
  have HW := Lib.hid hw1
  clear hd1 hc1 hr1 hw1 HD0
  refine wp_region_held_drew (S := fun V => DrAt V d r v s n Ro Vo So No ∧ BoxC V w.heap.size c ∧ BoxR V (w.heap.size + 1) zeroR ∧ Below w.heap.size w V) (by kernel_rfl) ⟨HD.out, HC.out, HR.out, HW.out.drew⟩ (fun _ => ?_)
  refine HeldBy.gen (fun V => DrAt V d r v s n Ro Vo So No ∧ BoxC V w.heap.size c ∧ BoxR V (w.heap.size + 1) zeroR ∧ Below w.heap.size w V) ⟨HD.out, HC.out, HR.out, HW.out.drew⟩ ?_
  clear HD HC HR HW
  rintro U0 HS
  refine HeldBy.tn (i := 0) rfl HS ?_
  refine HeldBy.tn (i := 1) rfl HS ?_
  refine HeldBy.tn (i := 2) rfl HS ?_
  refine HeldBy.tk (i := 3) (v := .map (some v)) rfl (fun V hV => by have hc := hV.1.box.c1; first | (go_simp; rfl) | (go_simp; done)) HS ?_
  refine HeldBy.tn (i := 4) rfl HS ?_
  refine HeldBy.tk (i := 5) rfl (fun V hV => by have hc := hV.2.1.c1; first | (go_simp; rfl) | (go_simp; done)) HS ?_
  refine HeldBy.tk (i := 6) (v := .tuple #[encV x, .bool true]) rfl (fun V hV => exec_look2 und_V (zero_V _) hV.1.vols (some (encV x)) HKV.out rfl rfl rfl) HS ?_
  refine HeldBy.tn (i := 7) rfl HS ?_
  refine HeldBy.tn (i := 8) rfl HS ?_
  refine HeldBy.tn (i := 9) rfl HS ?_
  have HSS : ∀ w', Below U0.heap.size U0 w' → (DrAt w' d r v s n Ro Vo So No ∧ BoxC w' w.heap.size c ∧ BoxR w' (w.heap.size + 1) zeroR ∧ Below w.heap.size w w') := fun w' hb => ⟨HS.1.after hb, HS.2.1.after hb, HS.2.2.1.after hb, HS.2.2.2.trans (hb.mono HS.2.2.2.size)⟩
  refine HeldBy.Goes.without (w0 := U0) (k := 10) (dk := some 5) (x := .cells (cellsV zeroV) 95 (0, 0)) ?_ U0 (Below.refl _ _)
  refine HeldBy.Goes.nil rfl rfl (by kernel_rfl) rfl (makes_v rfl) HSS rfl (fun p => by unfold HeldBy.ptr; go_simp; rfl) ?_
  intro p U1 hp hb hn
  obtain ⟨V3, hs3, hb3, -, hl3⟩ := stoV (show BoxV U1 p zeroV from hn) x
  have hS3 := HSS V3 (hl3 _ _ hb hp)
  refine HeldBy.store (i := 11) (w' := V3) rfl (by kernel_rfl) (by rfl) (hs3 rfl rfl rfl) (by first | (go_simp; rfl) | (go_simp; done)) hS3 ?_
  refine HeldBy.tn (i := 12) rfl hS3 ?_
  refine wpAnyH_done (by kernel_rfl) ?_ _
  have HVB := Lib.hid hb3
  have HD := Lib.hid hS3.1
  have HC := Lib.hid hS3.2.1
  have HR := Lib.hid hS3.2.2.1
  have HW := Lib.hid hS3.2.2.2
  clear hs3 hb3 hl3 hS3 HSS HS hp hb hn
  have s0 := HVB.out.c0
  have c3 := HC.out.c3
  have hvb := HVB.out
  go_wp2_with (refine wpList_got rfl (loadV hvb rfl rfl) ?_)
  clear s0 c3 hvb
  refine (made_any _ _).mono ?_
  rintro e W8 ⟨rfl, hb8⟩
  obtain ⟨V9, hs9, hb9, -, hl9⟩ := stoR (HR.out.after hb8) ⟨0, x.size, x.zone, x.tag⟩
  have HV := Lib.hid hb9
  have HY := Lib.hid (hl9 _ _ (HW.out.trans (hb8.mono HW.out.size)) (Nat.le_succ _))
  clear hb8 hb9 hl9
  go_wp2_with (refine wpList_skip rfl (hs9 rfl rfl rfl) ?_)
  refine bodyPost_ret (v := encR ⟨0, x.size, x.zone, x.tag⟩) (results_cell_row rfl _ _ (w.heap.size + 1) 50 (cellsR ⟨0, x.size, x.zone, x.tag⟩) (0, 0) _ rfl HV.out undR rfl sizeR) rfl ?_
  exact ⟨rfl, HY.out⟩
set_option maxRecDepth 100000 in
set_option maxHeartbeats 8000000 in
theorem create_nozone (hd : DrAt w d r v s n Ro Vo So No) (hV : KM.get c.target Vo = none) (hR : KM.get c.zone Ro = none) :
    Calls Try.prog 68 #[.pointer (some ⟨d, 0, none⟩), encC c] w fun e w' => e = .returned (encR (errR 5)) ∧ Below w.heap.size w w' := by
  have HD0 := Lib.hid hd
  have HKV := Lib.hid hV
  have HKR := Lib.hid hR
  clear hd hV hR
  rw [show encC c = .agg (cellsC c) from rfl]
  go_enter Try.func68, Try.ntmps68
  go_upto_region 1 with (fail)
  refine wp_gen (fun V => DrAt V d r v s n Ro Vo So No ∧ BoxC V w.heap.size c ∧ BoxR V (w.heap.size + 1) zeroR ∧ Below w.heap.size w V) ⟨HD0.out.after (below2 w _ _), (heap2 w _ _).1, (heap2 w _ _).2, below2 w _ _⟩ ?_
  rintro V1 ⟨hd1, hc1, hr1, hw1⟩
  have HD := Lib.hid hd1
  have HC := Lib.hid hc1
  have HR := Lib.hid hr1
  have HW := Lib.hid hw1
  clear hd1 hc1 hr1 hw1 HD0
  refine wp_region_held_drew (S := fun V => DrAt V d r v s n Ro Vo So No ∧ BoxC V w.heap.size c ∧ BoxR V (w.heap.size + 1) zeroR ∧ Below w.heap.size w V) (by kernel_rfl) ⟨HD.out, HC.out, HR.out, HW.out.drew⟩ (fun _ => ?_)
  refine HeldBy.gen (fun V => DrAt V d r v s n Ro Vo So No ∧ BoxC V w.heap.size c ∧ BoxR V (w.heap.size + 1) zeroR ∧ Below w.heap.size w V) ⟨HD.out, HC.out, HR.out, HW.out.drew⟩ ?_
  clear HD HC HR HW
  rintro U0 HS
  refine HeldBy.tn (i := 0) rfl HS ?_
  refine HeldBy.tn (i := 1) rfl HS ?_
  refine HeldBy.tn (i := 2) rfl HS ?_
  refine HeldBy.tk (i := 3) (v := .map (some v)) rfl (fun V hV => by have hc := hV.1.box.c1; first | (go_simp; rfl) | (go_simp; done)) HS ?_
  refine HeldBy.tn (i := 4) rfl HS ?_
  refine HeldBy.tk (i := 5) rfl (fun V hV => by have hc := hV.2.1.c1; first | (go_simp; rfl) | (go_simp; done)) HS ?_
  refine HeldBy.tk (i := 6) (v := .tuple #[encV zeroV, .bool false]) rfl (fun V hV => exec_look2 und_V (zero_V _) hV.1.vols none HKV.out rfl rfl rfl) HS ?_
  refine HeldBy.tn (i := 7) rfl HS ?_
  refine HeldBy.tn (i := 8) rfl HS ?_
  refine HeldBy.tn (i := 9) rfl HS ?_
  have HSS : ∀ w', Below U0.heap.size U0 w' → (DrAt w' d r v s n Ro Vo So No ∧ BoxC w' w.heap.size c ∧ BoxR w' (w.heap.size + 1) zeroR ∧ Below w.heap.size w w') := fun w' hb => ⟨HS.1.after hb, HS.2.1.after hb, HS.2.2.1.after hb, HS.2.2.2.trans (hb.mono HS.2.2.2.size)⟩
  refine HeldBy.Goes.without (w0 := U0) (k := 10) (dk := some 5) (x := .cells (cellsV zeroV) 95 (0, 0)) ?_ U0 (Below.refl _ _)
  refine HeldBy.Goes.nil rfl rfl (by kernel_rfl) rfl (makes_v rfl) HSS rfl (fun p => by unfold HeldBy.ptr; go_simp; rfl) ?_
  intro p U1 hp hb hn
  obtain ⟨V3, hs3, hb3, -, hl3⟩ := stoV (show BoxV U1 p zeroV from hn) zeroV
  have hS3 := HSS V3 (hl3 _ _ hb hp)
  refine HeldBy.store (i := 11) (w' := V3) rfl (by kernel_rfl) (by rfl) (hs3 rfl rfl rfl) (by first | (go_simp; rfl) | (go_simp; done)) hS3 ?_
  refine HeldBy.tn (i := 12) rfl hS3 ?_
  refine wpAnyH_done (by kernel_rfl) ?_ _
  have HD := Lib.hid hS3.1
  have HC := Lib.hid hS3.2.1
  have HR := Lib.hid hS3.2.2.1
  have HW := Lib.hid hS3.2.2.2
  clear hs3 hb3 hl3 hS3 HSS HS hp hb hn
  go_upto_region 6 with (fail)
  refine wp_region_held_drew (S := fun V => DrAt V d r v s n Ro Vo So No ∧ BoxC V w.heap.size c ∧ BoxR V (w.heap.size + 1) zeroR ∧ Below w.heap.size w V) (by kernel_rfl) ⟨HD.out, HC.out, HR.out, HW.out.drew⟩ (fun _ => ?_)
  refine HeldBy.gen (fun V => DrAt V d r v s n Ro Vo So No ∧ BoxC V w.heap.size c ∧ BoxR V (w.heap.size + 1) zeroR ∧ Below w.heap.size w V) ⟨HD.out, HC.out, HR.out, HW.out.drew⟩ ?_
  clear HD HC HR HW
  rintro U0 HS
  refine HeldBy.tn (i := 0) rfl HS ?_
  refine HeldBy.tn (i := 1) rfl HS ?_
  refine HeldBy.tn (i := 2) rfl HS ?_
  refine HeldBy.tk (i := 3) (v := .map (some r)) rfl (fun V hV => by have hc := hV.1.box.c0; first | (go_simp; rfl) | (go_simp; done)) HS ?_
  refine HeldBy.tn (i := 4) rfl HS ?_
  refine HeldBy.tk (i := 5) rfl (fun V hV => by have hc := hV.2.1.c4; first | (go_simp; rfl) | (go_simp; done)) HS ?_
  refine HeldBy.tk (i := 6) (v := .tuple #[.int .i64 0, .bool false]) rfl (fun V hV => exec_look2 und_R (zero_R _) hV.1.rooms none HKR.out rfl rfl rfl) HS ?_
  refine HeldBy.tn (i := 7) rfl HS ?_
  refine HeldBy.tn (i := 8) rfl HS ?_
  refine HeldBy.tn (i := 9) rfl HS ?_
  refine HeldBy.tn (i := 10) rfl HS ?_
  refine HeldBy.tn (i := 11) rfl HS ?_
  refine wpAnyH_done (by kernel_rfl) ?_ _
  have HD := Lib.hid HS.1
  have HC := Lib.hid HS.2.1
  have HR := Lib.hid HS.2.2.1
  have HW := Lib.hid HS.2.2.2
  clear HS
  go_wp2_with (fail)
  refine (failed_any 5 _).mono ?_
  rintro e W8 ⟨rfl, hb8⟩
  obtain ⟨V9, hs9, hb9, -, hl9⟩ := stoR (HR.out.after hb8) (errR 5)
  have HV := Lib.hid hb9
  have HY := Lib.hid (hl9 _ _ (HW.out.trans (hb8.mono HW.out.size)) (Nat.le_succ _))
  clear hb8 hb9 hl9
  go_wp2_with (refine wpList_skip rfl (hs9 rfl rfl rfl) ?_)
  refine bodyPost_ret (v := encR (errR 5)) (results_cell_row rfl _ _ (w.heap.size + 1) 50 (cellsR (errR 5)) (0, 0) _ rfl HV.out undR rfl sizeR) rfl ?_
  exact ⟨rfl, HY.out⟩
set_option maxRecDepth 100000 in
set_option maxHeartbeats 8000000 in
theorem create_nosrc (hd : DrAt w d r v s n Ro Vo So No) (k : Ct) (b : Bool) (room : Int) (hV : KM.get c.target Vo = none) (hR : KM.get c.zone Ro = some (.int .i64 room)) (hsrc : ∀ V, DrAt V d r v s n Ro Vo So No → Calls Try.prog 86 #[.pointer (some ⟨d, 0, none⟩), .string c.source] V fun e w' => e = .returned (.tuple #[encK k, .bool b]) ∧ Below V.heap.size V w') (hb : b = false) :
    Calls Try.prog 68 #[.pointer (some ⟨d, 0, none⟩), encC c] w fun e w' => e = .returned (encR (errR 5)) ∧ Below w.heap.size w w' := by
  subst hb
  have HD0 := Lib.hid hd
  have HKV := Lib.hid hV
  have HKR := Lib.hid hR
  have HSRC := Lib.hid hsrc
  clear hd hV hR hsrc
  rw [show encC c = .agg (cellsC c) from rfl]
  go_enter Try.func68, Try.ntmps68
  go_upto_region 1 with (fail)
  refine wp_gen (fun V => DrAt V d r v s n Ro Vo So No ∧ BoxC V w.heap.size c ∧ BoxR V (w.heap.size + 1) zeroR ∧ Below w.heap.size w V) ⟨HD0.out.after (below2 w _ _), (heap2 w _ _).1, (heap2 w _ _).2, below2 w _ _⟩ ?_
  rintro V1 ⟨hd1, hc1, hr1, hw1⟩
  have HD := Lib.hid hd1
  have HC := Lib.hid hc1
  have HR := Lib.hid hr1
  have HW := Lib.hid hw1
  clear hd1 hc1 hr1 hw1 HD0
  refine wp_region_held_drew (S := fun V => DrAt V d r v s n Ro Vo So No ∧ BoxC V w.heap.size c ∧ BoxR V (w.heap.size + 1) zeroR ∧ Below w.heap.size w V) (by kernel_rfl) ⟨HD.out, HC.out, HR.out, HW.out.drew⟩ (fun _ => ?_)
  refine HeldBy.gen (fun V => DrAt V d r v s n Ro Vo So No ∧ BoxC V w.heap.size c ∧ BoxR V (w.heap.size + 1) zeroR ∧ Below w.heap.size w V) ⟨HD.out, HC.out, HR.out, HW.out.drew⟩ ?_
  clear HD HC HR HW
  rintro U0 HS
  refine HeldBy.tn (i := 0) rfl HS ?_
  refine HeldBy.tn (i := 1) rfl HS ?_
  refine HeldBy.tn (i := 2) rfl HS ?_
  refine HeldBy.tk (i := 3) (v := .map (some v)) rfl (fun V hV => by have hc := hV.1.box.c1; first | (go_simp; rfl) | (go_simp; done)) HS ?_
  refine HeldBy.tn (i := 4) rfl HS ?_
  refine HeldBy.tk (i := 5) rfl (fun V hV => by have hc := hV.2.1.c1; first | (go_simp; rfl) | (go_simp; done)) HS ?_
  refine HeldBy.tk (i := 6) (v := .tuple #[encV zeroV, .bool false]) rfl (fun V hV => exec_look2 und_V (zero_V _) hV.1.vols none HKV.out rfl rfl rfl) HS ?_
  refine HeldBy.tn (i := 7) rfl HS ?_
  refine HeldBy.tn (i := 8) rfl HS ?_
  refine HeldBy.tn (i := 9) rfl HS ?_
  have HSS : ∀ w', Below U0.heap.size U0 w' → (DrAt w' d r v s n Ro Vo So No ∧ BoxC w' w.heap.size c ∧ BoxR w' (w.heap.size + 1) zeroR ∧ Below w.heap.size w w') := fun w' hb => ⟨HS.1.after hb, HS.2.1.after hb, HS.2.2.1.after hb, HS.2.2.2.trans (hb.mono HS.2.2.2.size)⟩
  refine HeldBy.Goes.without (w0 := U0) (k := 10) (dk := some 5) (x := .cells (cellsV zeroV) 95 (0, 0)) ?_ U0 (Below.refl _ _)
  refine HeldBy.Goes.nil rfl rfl (by kernel_rfl) rfl (makes_v rfl) HSS rfl (fun p => by unfold HeldBy.ptr; go_simp; rfl) ?_
  intro p U1 hp hb hn
  obtain ⟨V3, hs3, hb3, -, hl3⟩ := stoV (show BoxV U1 p zeroV from hn) zeroV
  have hS3 := HSS V3 (hl3 _ _ hb hp)
  refine HeldBy.store (i := 11) (w' := V3) rfl (by kernel_rfl) (by rfl) (hs3 rfl rfl rfl) (by first | (go_simp; rfl) | (go_simp; done)) hS3 ?_
  refine HeldBy.tn (i := 12) rfl hS3 ?_
  refine wpAnyH_done (by kernel_rfl) ?_ _
  have HD := Lib.hid hS3.1
  have HC := Lib.hid hS3.2.1
  have HR := Lib.hid hS3.2.2.1
  have HW := Lib.hid hS3.2.2.2
  clear hs3 hb3 hl3 hS3 HSS HS hp hb hn
  go_upto_region 6 with (fail)
  refine wp_region_held_drew (S := fun V => DrAt V d r v s n Ro Vo So No ∧ BoxC V w.heap.size c ∧ BoxR V (w.heap.size + 1) zeroR ∧ Below w.heap.size w V) (by kernel_rfl) ⟨HD.out, HC.out, HR.out, HW.out.drew⟩ (fun _ => ?_)
  refine HeldBy.gen (fun V => DrAt V d r v s n Ro Vo So No ∧ BoxC V w.heap.size c ∧ BoxR V (w.heap.size + 1) zeroR ∧ Below w.heap.size w V) ⟨HD.out, HC.out, HR.out, HW.out.drew⟩ ?_
  clear HD HC HR HW
  rintro U0 HS
  refine HeldBy.tn (i := 0) rfl HS ?_
  refine HeldBy.tn (i := 1) rfl HS ?_
  refine HeldBy.tn (i := 2) rfl HS ?_
  refine HeldBy.tk (i := 3) (v := .map (some r)) rfl (fun V hV => by have hc := hV.1.box.c0; first | (go_simp; rfl) | (go_simp; done)) HS ?_
  refine HeldBy.tn (i := 4) rfl HS ?_
  refine HeldBy.tk (i := 5) rfl (fun V hV => by have hc := hV.2.1.c4; first | (go_simp; rfl) | (go_simp; done)) HS ?_
  refine HeldBy.tk (i := 6) (v := .tuple #[.int .i64 room, .bool true]) rfl (fun V hV => exec_look2 und_R (zero_R _) hV.1.rooms (some _) HKR.out rfl rfl rfl) HS ?_
  refine HeldBy.tn (i := 7) rfl HS ?_
  refine HeldBy.tn (i := 8) rfl HS ?_
  refine HeldBy.tn (i := 9) rfl HS ?_
  refine HeldBy.tn (i := 10) rfl HS ?_
  refine HeldBy.tn (i := 11) rfl HS ?_
  refine wpAnyH_done (by kernel_rfl) ?_ _
  have HD := Lib.hid HS.1
  have HC := Lib.hid HS.2.1
  have HR := Lib.hid HS.2.2.1
  have HW := Lib.hid HS.2.2.2
  clear HS
  have c6 := HC.out.c6
  go_wp2_with (fail)
  clear c6
  refine (HSRC.out _ HD.out).mono ?_
  rintro e W2 ⟨rfl, hb2⟩
  obtain ⟨V4, hs4, hb4, hl4⟩ := boxK W2 zeroK rfl k
  have hw2 := HW.out.trans (hb2.mono HW.out.size)
  replace HW := Lib.hid (hw2.trans (hl4.mono hw2.size))
  have hd4 := (HD.out.after hb2).after hl4
  have hc4 := (HC.out.after hb2).after hl4
  replace HR := Lib.hid ((HR.out.after hb2).after hl4)
  have k0 : V4.cell? ⟨W2.heap.size, 0, none⟩ = some (.int .i64 k.size) := hb4.c0
  have c3 := hc4.c3
  have g1 := hd4.box.c1
  have hvols := Lib.hid hd4.vols
  clear hb2 hb4 hl4 hw2 hd4 hc4
  go_wp2_with (first | (refine wpList_skip rfl (hs4 rfl rfl rfl) ?_) | (refine wpList_got rfl (exec_maplen hvols.out und_V rfl rfl) ?_))
  refine (failed_any 5 _).mono ?_
  rintro e W8 ⟨rfl, hb8⟩
  obtain ⟨V9, hs9, hb9, -, hl9⟩ := stoR (HR.out.after hb8) (errR 5)
  have HV := Lib.hid hb9
  have HY := Lib.hid (hl9 _ _ (HW.out.trans (hb8.mono HW.out.size)) (Nat.le_succ _))
  clear hb8 hb9 hl9
  go_wp2_with (refine wpList_skip rfl (hs9 rfl rfl rfl) ?_)
  refine bodyPost_ret (v := encR (errR 5)) (results_cell_row rfl _ _ (w.heap.size + 1) 50 (cellsR (errR 5)) (0, 0) _ rfl HV.out undR rfl sizeR) rfl ?_
  exact ⟨rfl, HY.out⟩
set_option maxRecDepth 100000 in
set_option maxHeartbeats 8000000 in
theorem create_small (hd : DrAt w d r v s n Ro Vo So No) (k : Ct) (b : Bool) (room : Int) (hV : KM.get c.target Vo = none) (hR : KM.get c.zone Ro = some (.int .i64 room)) (hsrc : ∀ V, DrAt V d r v s n Ro Vo So No → Calls Try.prog 86 #[.pointer (some ⟨d, 0, none⟩), .string c.source] V fun e w' => e = .returned (.tuple #[encK k, .bool b]) ∧ Below V.heap.size V w') (hb : b = true) (hsm : c.size < k.size) :
    Calls Try.prog 68 #[.pointer (some ⟨d, 0, none⟩), encC c] w fun e w' => e = .returned (encR (errR 12)) ∧ Below w.heap.size w w' := by
  subst hb
  have HD0 := Lib.hid hd
  have HKV := Lib.hid hV
  have HKR := Lib.hid hR
  have HSRC := Lib.hid hsrc
  clear hd hV hR hsrc
  rw [show encC c = .agg (cellsC c) from rfl]
  go_enter Try.func68, Try.ntmps68
  go_upto_region 1 with (fail)
  refine wp_gen (fun V => DrAt V d r v s n Ro Vo So No ∧ BoxC V w.heap.size c ∧ BoxR V (w.heap.size + 1) zeroR ∧ Below w.heap.size w V) ⟨HD0.out.after (below2 w _ _), (heap2 w _ _).1, (heap2 w _ _).2, below2 w _ _⟩ ?_
  rintro V1 ⟨hd1, hc1, hr1, hw1⟩
  have HD := Lib.hid hd1
  have HC := Lib.hid hc1
  have HR := Lib.hid hr1
  have HW := Lib.hid hw1
  clear hd1 hc1 hr1 hw1 HD0
  refine wp_region_held_drew (S := fun V => DrAt V d r v s n Ro Vo So No ∧ BoxC V w.heap.size c ∧ BoxR V (w.heap.size + 1) zeroR ∧ Below w.heap.size w V) (by kernel_rfl) ⟨HD.out, HC.out, HR.out, HW.out.drew⟩ (fun _ => ?_)
  refine HeldBy.gen (fun V => DrAt V d r v s n Ro Vo So No ∧ BoxC V w.heap.size c ∧ BoxR V (w.heap.size + 1) zeroR ∧ Below w.heap.size w V) ⟨HD.out, HC.out, HR.out, HW.out.drew⟩ ?_
  clear HD HC HR HW
  rintro U0 HS
  refine HeldBy.tn (i := 0) rfl HS ?_
  refine HeldBy.tn (i := 1) rfl HS ?_
  refine HeldBy.tn (i := 2) rfl HS ?_
  refine HeldBy.tk (i := 3) (v := .map (some v)) rfl (fun V hV => by have hc := hV.1.box.c1; first | (go_simp; rfl) | (go_simp; done)) HS ?_
  refine HeldBy.tn (i := 4) rfl HS ?_
  refine HeldBy.tk (i := 5) rfl (fun V hV => by have hc := hV.2.1.c1; first | (go_simp; rfl) | (go_simp; done)) HS ?_
  refine HeldBy.tk (i := 6) (v := .tuple #[encV zeroV, .bool false]) rfl (fun V hV => exec_look2 und_V (zero_V _) hV.1.vols none HKV.out rfl rfl rfl) HS ?_
  refine HeldBy.tn (i := 7) rfl HS ?_
  refine HeldBy.tn (i := 8) rfl HS ?_
  refine HeldBy.tn (i := 9) rfl HS ?_
  have HSS : ∀ w', Below U0.heap.size U0 w' → (DrAt w' d r v s n Ro Vo So No ∧ BoxC w' w.heap.size c ∧ BoxR w' (w.heap.size + 1) zeroR ∧ Below w.heap.size w w') := fun w' hb => ⟨HS.1.after hb, HS.2.1.after hb, HS.2.2.1.after hb, HS.2.2.2.trans (hb.mono HS.2.2.2.size)⟩
  refine HeldBy.Goes.without (w0 := U0) (k := 10) (dk := some 5) (x := .cells (cellsV zeroV) 95 (0, 0)) ?_ U0 (Below.refl _ _)
  refine HeldBy.Goes.nil rfl rfl (by kernel_rfl) rfl (makes_v rfl) HSS rfl (fun p => by unfold HeldBy.ptr; go_simp; rfl) ?_
  intro p U1 hp hb hn
  obtain ⟨V3, hs3, hb3, -, hl3⟩ := stoV (show BoxV U1 p zeroV from hn) zeroV
  have hS3 := HSS V3 (hl3 _ _ hb hp)
  refine HeldBy.store (i := 11) (w' := V3) rfl (by kernel_rfl) (by rfl) (hs3 rfl rfl rfl) (by first | (go_simp; rfl) | (go_simp; done)) hS3 ?_
  refine HeldBy.tn (i := 12) rfl hS3 ?_
  refine wpAnyH_done (by kernel_rfl) ?_ _
  have HD := Lib.hid hS3.1
  have HC := Lib.hid hS3.2.1
  have HR := Lib.hid hS3.2.2.1
  have HW := Lib.hid hS3.2.2.2
  clear hs3 hb3 hl3 hS3 HSS HS hp hb hn
  go_upto_region 6 with (fail)
  refine wp_region_held_drew (S := fun V => DrAt V d r v s n Ro Vo So No ∧ BoxC V w.heap.size c ∧ BoxR V (w.heap.size + 1) zeroR ∧ Below w.heap.size w V) (by kernel_rfl) ⟨HD.out, HC.out, HR.out, HW.out.drew⟩ (fun _ => ?_)
  refine HeldBy.gen (fun V => DrAt V d r v s n Ro Vo So No ∧ BoxC V w.heap.size c ∧ BoxR V (w.heap.size + 1) zeroR ∧ Below w.heap.size w V) ⟨HD.out, HC.out, HR.out, HW.out.drew⟩ ?_
  clear HD HC HR HW
  rintro U0 HS
  refine HeldBy.tn (i := 0) rfl HS ?_
  refine HeldBy.tn (i := 1) rfl HS ?_
  refine HeldBy.tn (i := 2) rfl HS ?_
  refine HeldBy.tk (i := 3) (v := .map (some r)) rfl (fun V hV => by have hc := hV.1.box.c0; first | (go_simp; rfl) | (go_simp; done)) HS ?_
  refine HeldBy.tn (i := 4) rfl HS ?_
  refine HeldBy.tk (i := 5) rfl (fun V hV => by have hc := hV.2.1.c4; first | (go_simp; rfl) | (go_simp; done)) HS ?_
  refine HeldBy.tk (i := 6) (v := .tuple #[.int .i64 room, .bool true]) rfl (fun V hV => exec_look2 und_R (zero_R _) hV.1.rooms (some _) HKR.out rfl rfl rfl) HS ?_
  refine HeldBy.tn (i := 7) rfl HS ?_
  refine HeldBy.tn (i := 8) rfl HS ?_
  refine HeldBy.tn (i := 9) rfl HS ?_
  refine HeldBy.tn (i := 10) rfl HS ?_
  refine HeldBy.tn (i := 11) rfl HS ?_
  refine wpAnyH_done (by kernel_rfl) ?_ _
  have HD := Lib.hid HS.1
  have HC := Lib.hid HS.2.1
  have HR := Lib.hid HS.2.2.1
  have HW := Lib.hid HS.2.2.2
  clear HS
  have c6 := HC.out.c6
  go_wp2_with (fail)
  clear c6
  refine (HSRC.out _ HD.out).mono ?_
  rintro e W2 ⟨rfl, hb2⟩
  obtain ⟨V4, hs4, hb4, hl4⟩ := boxK W2 zeroK rfl k
  have hw2 := HW.out.trans (hb2.mono HW.out.size)
  replace HW := Lib.hid (hw2.trans (hl4.mono hw2.size))
  have hd4 := (HD.out.after hb2).after hl4
  have hc4 := (HC.out.after hb2).after hl4
  replace HR := Lib.hid ((HR.out.after hb2).after hl4)
  have k0 : V4.cell? ⟨W2.heap.size, 0, none⟩ = some (.int .i64 k.size) := hb4.c0
  have c3 := hc4.c3
  have g1 := hd4.box.c1
  have hvols := Lib.hid hd4.vols
  clear hb2 hb4 hl4 hw2 hd4 hc4
  go_wp2_with (first | (refine wpList_skip rfl (hs4 rfl rfl rfl) ?_) | (refine wpList_got rfl (exec_maplen hvols.out und_V rfl rfl) ?_))
  refine (failed_any 12 _).mono ?_
  rintro e W8 ⟨rfl, hb8⟩
  obtain ⟨V9, hs9, hb9, -, hl9⟩ := stoR (HR.out.after hb8) (errR 12)
  have HV := Lib.hid hb9
  have HY := Lib.hid (hl9 _ _ (HW.out.trans (hb8.mono HW.out.size)) (Nat.le_succ _))
  clear hb8 hb9 hl9
  go_wp2_with (refine wpList_skip rfl (hs9 rfl rfl rfl) ?_)
  refine bodyPost_ret (v := encR (errR 12)) (results_cell_row rfl _ _ (w.heap.size + 1) 50 (cellsR (errR 12)) (0, 0) _ rfl HV.out undR rfl sizeR) rfl ?_
  exact ⟨rfl, HY.out⟩
set_option maxRecDepth 100000 in
set_option maxHeartbeats 8000000 in
theorem create_full (hd : DrAt w d r v s n Ro Vo So No) (k : Ct) (b : Bool) (room : Int) (hV : KM.get c.target Vo = none) (hR : KM.get c.zone Ro = some (.int .i64 room)) (hsrc : ∀ V, DrAt V d r v s n Ro Vo So No → Calls Try.prog 86 #[.pointer (some ⟨d, 0, none⟩), .string c.source] V fun e w' => e = .returned (.tuple #[encK k, .bool b]) ∧ Below V.heap.size V w') (hb : b = true) (hsm : ¬ c.size < k.size) (hl : (64 : Int) ≤ Vo.length) :
    Calls Try.prog 68 #[.pointer (some ⟨d, 0, none⟩), encC c] w fun e w' => e = .returned (encR (errR 7)) ∧ Below w.heap.size w w' := by
  subst hb
  have HD0 := Lib.hid hd
  have HKV := Lib.hid hV
  have HKR := Lib.hid hR
  have HSRC := Lib.hid hsrc
  clear hd hV hR hsrc
  rw [show encC c = .agg (cellsC c) from rfl]
  go_enter Try.func68, Try.ntmps68
  go_upto_region 1 with (fail)
  refine wp_gen (fun V => DrAt V d r v s n Ro Vo So No ∧ BoxC V w.heap.size c ∧ BoxR V (w.heap.size + 1) zeroR ∧ Below w.heap.size w V) ⟨HD0.out.after (below2 w _ _), (heap2 w _ _).1, (heap2 w _ _).2, below2 w _ _⟩ ?_
  rintro V1 ⟨hd1, hc1, hr1, hw1⟩
  have HD := Lib.hid hd1
  have HC := Lib.hid hc1
  have HR := Lib.hid hr1
  have HW := Lib.hid hw1
  clear hd1 hc1 hr1 hw1 HD0
  refine wp_region_held_drew (S := fun V => DrAt V d r v s n Ro Vo So No ∧ BoxC V w.heap.size c ∧ BoxR V (w.heap.size + 1) zeroR ∧ Below w.heap.size w V) (by kernel_rfl) ⟨HD.out, HC.out, HR.out, HW.out.drew⟩ (fun _ => ?_)
  refine HeldBy.gen (fun V => DrAt V d r v s n Ro Vo So No ∧ BoxC V w.heap.size c ∧ BoxR V (w.heap.size + 1) zeroR ∧ Below w.heap.size w V) ⟨HD.out, HC.out, HR.out, HW.out.drew⟩ ?_
  clear HD HC HR HW
  rintro U0 HS
  refine HeldBy.tn (i := 0) rfl HS ?_
  refine HeldBy.tn (i := 1) rfl HS ?_
  refine HeldBy.tn (i := 2) rfl HS ?_
  refine HeldBy.tk (i := 3) (v := .map (some v)) rfl (fun V hV => by have hc := hV.1.box.c1; first | (go_simp; rfl) | (go_simp; done)) HS ?_
  refine HeldBy.tn (i := 4) rfl HS ?_
  refine HeldBy.tk (i := 5) rfl (fun V hV => by have hc := hV.2.1.c1; first | (go_simp; rfl) | (go_simp; done)) HS ?_
  refine HeldBy.tk (i := 6) (v := .tuple #[encV zeroV, .bool false]) rfl (fun V hV => exec_look2 und_V (zero_V _) hV.1.vols none HKV.out rfl rfl rfl) HS ?_
  refine HeldBy.tn (i := 7) rfl HS ?_
  refine HeldBy.tn (i := 8) rfl HS ?_
  refine HeldBy.tn (i := 9) rfl HS ?_
  have HSS : ∀ w', Below U0.heap.size U0 w' → (DrAt w' d r v s n Ro Vo So No ∧ BoxC w' w.heap.size c ∧ BoxR w' (w.heap.size + 1) zeroR ∧ Below w.heap.size w w') := fun w' hb => ⟨HS.1.after hb, HS.2.1.after hb, HS.2.2.1.after hb, HS.2.2.2.trans (hb.mono HS.2.2.2.size)⟩
  refine HeldBy.Goes.without (w0 := U0) (k := 10) (dk := some 5) (x := .cells (cellsV zeroV) 95 (0, 0)) ?_ U0 (Below.refl _ _)
  refine HeldBy.Goes.nil rfl rfl (by kernel_rfl) rfl (makes_v rfl) HSS rfl (fun p => by unfold HeldBy.ptr; go_simp; rfl) ?_
  intro p U1 hp hb hn
  obtain ⟨V3, hs3, hb3, -, hl3⟩ := stoV (show BoxV U1 p zeroV from hn) zeroV
  have hS3 := HSS V3 (hl3 _ _ hb hp)
  refine HeldBy.store (i := 11) (w' := V3) rfl (by kernel_rfl) (by rfl) (hs3 rfl rfl rfl) (by first | (go_simp; rfl) | (go_simp; done)) hS3 ?_
  refine HeldBy.tn (i := 12) rfl hS3 ?_
  refine wpAnyH_done (by kernel_rfl) ?_ _
  have HD := Lib.hid hS3.1
  have HC := Lib.hid hS3.2.1
  have HR := Lib.hid hS3.2.2.1
  have HW := Lib.hid hS3.2.2.2
  clear hs3 hb3 hl3 hS3 HSS HS hp hb hn
  go_upto_region 6 with (fail)
  refine wp_region_held_drew (S := fun V => DrAt V d r v s n Ro Vo So No ∧ BoxC V w.heap.size c ∧ BoxR V (w.heap.size + 1) zeroR ∧ Below w.heap.size w V) (by kernel_rfl) ⟨HD.out, HC.out, HR.out, HW.out.drew⟩ (fun _ => ?_)
  refine HeldBy.gen (fun V => DrAt V d r v s n Ro Vo So No ∧ BoxC V w.heap.size c ∧ BoxR V (w.heap.size + 1) zeroR ∧ Below w.heap.size w V) ⟨HD.out, HC.out, HR.out, HW.out.drew⟩ ?_
  clear HD HC HR HW
  rintro U0 HS
  refine HeldBy.tn (i := 0) rfl HS ?_
  refine HeldBy.tn (i := 1) rfl HS ?_
  refine HeldBy.tn (i := 2) rfl HS ?_
  refine HeldBy.tk (i := 3) (v := .map (some r)) rfl (fun V hV => by have hc := hV.1.box.c0; first | (go_simp; rfl) | (go_simp; done)) HS ?_
  refine HeldBy.tn (i := 4) rfl HS ?_
  refine HeldBy.tk (i := 5) rfl (fun V hV => by have hc := hV.2.1.c4; first | (go_simp; rfl) | (go_simp; done)) HS ?_
  refine HeldBy.tk (i := 6) (v := .tuple #[.int .i64 room, .bool true]) rfl (fun V hV => exec_look2 und_R (zero_R _) hV.1.rooms (some _) HKR.out rfl rfl rfl) HS ?_
  refine HeldBy.tn (i := 7) rfl HS ?_
  refine HeldBy.tn (i := 8) rfl HS ?_
  refine HeldBy.tn (i := 9) rfl HS ?_
  refine HeldBy.tn (i := 10) rfl HS ?_
  refine HeldBy.tn (i := 11) rfl HS ?_
  refine wpAnyH_done (by kernel_rfl) ?_ _
  have HD := Lib.hid HS.1
  have HC := Lib.hid HS.2.1
  have HR := Lib.hid HS.2.2.1
  have HW := Lib.hid HS.2.2.2
  clear HS
  have c6 := HC.out.c6
  go_wp2_with (fail)
  clear c6
  refine (HSRC.out _ HD.out).mono ?_
  rintro e W2 ⟨rfl, hb2⟩
  obtain ⟨V4, hs4, hb4, hl4⟩ := boxK W2 zeroK rfl k
  have hw2 := HW.out.trans (hb2.mono HW.out.size)
  replace HW := Lib.hid (hw2.trans (hl4.mono hw2.size))
  have hd4 := (HD.out.after hb2).after hl4
  have hc4 := (HC.out.after hb2).after hl4
  replace HR := Lib.hid ((HR.out.after hb2).after hl4)
  have k0 : V4.cell? ⟨W2.heap.size, 0, none⟩ = some (.int .i64 k.size) := hb4.c0
  have c3 := hc4.c3
  have g1 := hd4.box.c1
  have hvols := Lib.hid hd4.vols
  clear hb2 hb4 hl4 hw2 hd4 hc4
  have n1 : k.size ≤ c.size := by omega
  go_wp2_with (first | (refine wpList_skip rfl (hs4 rfl rfl rfl) ?_) | (refine wpList_got rfl (exec_maplen hvols.out und_V rfl rfl) ?_))
  refine (failed_any 7 _).mono ?_
  rintro e W8 ⟨rfl, hb8⟩
  obtain ⟨V9, hs9, hb9, -, hl9⟩ := stoR (HR.out.after hb8) (errR 7)
  have HV := Lib.hid hb9
  have HY := Lib.hid (hl9 _ _ (HW.out.trans (hb8.mono HW.out.size)) (Nat.le_succ _))
  clear hb8 hb9 hl9
  go_wp2_with (refine wpList_skip rfl (hs9 rfl rfl rfl) ?_)
  refine bodyPost_ret (v := encR (errR 7)) (results_cell_row rfl _ _ (w.heap.size + 1) 50 (cellsR (errR 7)) (0, 0) _ rfl HV.out undR rfl sizeR) rfl ?_
  exact ⟨rfl, HY.out⟩
set_option maxRecDepth 100000 in
set_option maxHeartbeats 8000000 in
theorem create_space (hd : DrAt w d r v s n Ro Vo So No) (k : Ct) (b : Bool) (room : Int) (hV : KM.get c.target Vo = none) (hR : KM.get c.zone Ro = some (.int .i64 room)) (hsrc : ∀ V, DrAt V d r v s n Ro Vo So No → Calls Try.prog 86 #[.pointer (some ⟨d, 0, none⟩), .string c.source] V fun e w' => e = .returned (.tuple #[encK k, .bool b]) ∧ Below V.heap.size V w') (hb : b = true) (hsm : ¬ c.size < k.size) (hl : ¬ (64 : Int) ≤ Vo.length) (hrm : room < c.size) :
    Calls Try.prog 68 #[.pointer (some ⟨d, 0, none⟩), encC c] w fun e w' => e = .returned (encR (errR 11)) ∧ Below w.heap.size w w' := by
  subst hb
  have HD0 := Lib.hid hd
  have HKV := Lib.hid hV
  have HKR := Lib.hid hR
  have HSRC := Lib.hid hsrc
  clear hd hV hR hsrc
  rw [show encC c = .agg (cellsC c) from rfl]
  go_enter Try.func68, Try.ntmps68
  go_upto_region 1 with (fail)
  refine wp_gen (fun V => DrAt V d r v s n Ro Vo So No ∧ BoxC V w.heap.size c ∧ BoxR V (w.heap.size + 1) zeroR ∧ Below w.heap.size w V) ⟨HD0.out.after (below2 w _ _), (heap2 w _ _).1, (heap2 w _ _).2, below2 w _ _⟩ ?_
  rintro V1 ⟨hd1, hc1, hr1, hw1⟩
  have HD := Lib.hid hd1
  have HC := Lib.hid hc1
  have HR := Lib.hid hr1
  have HW := Lib.hid hw1
  clear hd1 hc1 hr1 hw1 HD0
  refine wp_region_held_drew (S := fun V => DrAt V d r v s n Ro Vo So No ∧ BoxC V w.heap.size c ∧ BoxR V (w.heap.size + 1) zeroR ∧ Below w.heap.size w V) (by kernel_rfl) ⟨HD.out, HC.out, HR.out, HW.out.drew⟩ (fun _ => ?_)
  refine HeldBy.gen (fun V => DrAt V d r v s n Ro Vo So No ∧ BoxC V w.heap.size c ∧ BoxR V (w.heap.size + 1) zeroR ∧ Below w.heap.size w V) ⟨HD.out, HC.out, HR.out, HW.out.drew⟩ ?_
  clear HD HC HR HW
  rintro U0 HS
  refine HeldBy.tn (i := 0) rfl HS ?_
  refine HeldBy.tn (i := 1) rfl HS ?_
  refine HeldBy.tn (i := 2) rfl HS ?_
  refine HeldBy.tk (i := 3) (v := .map (some v)) rfl (fun V hV => by have hc := hV.1.box.c1; first | (go_simp; rfl) | (go_simp; done)) HS ?_
  refine HeldBy.tn (i := 4) rfl HS ?_
  refine HeldBy.tk (i := 5) rfl (fun V hV => by have hc := hV.2.1.c1; first | (go_simp; rfl) | (go_simp; done)) HS ?_
  refine HeldBy.tk (i := 6) (v := .tuple #[encV zeroV, .bool false]) rfl (fun V hV => exec_look2 und_V (zero_V _) hV.1.vols none HKV.out rfl rfl rfl) HS ?_
  refine HeldBy.tn (i := 7) rfl HS ?_
  refine HeldBy.tn (i := 8) rfl HS ?_
  refine HeldBy.tn (i := 9) rfl HS ?_
  have HSS : ∀ w', Below U0.heap.size U0 w' → (DrAt w' d r v s n Ro Vo So No ∧ BoxC w' w.heap.size c ∧ BoxR w' (w.heap.size + 1) zeroR ∧ Below w.heap.size w w') := fun w' hb => ⟨HS.1.after hb, HS.2.1.after hb, HS.2.2.1.after hb, HS.2.2.2.trans (hb.mono HS.2.2.2.size)⟩
  refine HeldBy.Goes.without (w0 := U0) (k := 10) (dk := some 5) (x := .cells (cellsV zeroV) 95 (0, 0)) ?_ U0 (Below.refl _ _)
  refine HeldBy.Goes.nil rfl rfl (by kernel_rfl) rfl (makes_v rfl) HSS rfl (fun p => by unfold HeldBy.ptr; go_simp; rfl) ?_
  intro p U1 hp hb hn
  obtain ⟨V3, hs3, hb3, -, hl3⟩ := stoV (show BoxV U1 p zeroV from hn) zeroV
  have hS3 := HSS V3 (hl3 _ _ hb hp)
  refine HeldBy.store (i := 11) (w' := V3) rfl (by kernel_rfl) (by rfl) (hs3 rfl rfl rfl) (by first | (go_simp; rfl) | (go_simp; done)) hS3 ?_
  refine HeldBy.tn (i := 12) rfl hS3 ?_
  refine wpAnyH_done (by kernel_rfl) ?_ _
  have HD := Lib.hid hS3.1
  have HC := Lib.hid hS3.2.1
  have HR := Lib.hid hS3.2.2.1
  have HW := Lib.hid hS3.2.2.2
  clear hs3 hb3 hl3 hS3 HSS HS hp hb hn
  go_upto_region 6 with (fail)
  refine wp_region_held_drew (S := fun V => DrAt V d r v s n Ro Vo So No ∧ BoxC V w.heap.size c ∧ BoxR V (w.heap.size + 1) zeroR ∧ Below w.heap.size w V) (by kernel_rfl) ⟨HD.out, HC.out, HR.out, HW.out.drew⟩ (fun _ => ?_)
  refine HeldBy.gen (fun V => DrAt V d r v s n Ro Vo So No ∧ BoxC V w.heap.size c ∧ BoxR V (w.heap.size + 1) zeroR ∧ Below w.heap.size w V) ⟨HD.out, HC.out, HR.out, HW.out.drew⟩ ?_
  clear HD HC HR HW
  rintro U0 HS
  refine HeldBy.tn (i := 0) rfl HS ?_
  refine HeldBy.tn (i := 1) rfl HS ?_
  refine HeldBy.tn (i := 2) rfl HS ?_
  refine HeldBy.tk (i := 3) (v := .map (some r)) rfl (fun V hV => by have hc := hV.1.box.c0; first | (go_simp; rfl) | (go_simp; done)) HS ?_
  refine HeldBy.tn (i := 4) rfl HS ?_
  refine HeldBy.tk (i := 5) rfl (fun V hV => by have hc := hV.2.1.c4; first | (go_simp; rfl) | (go_simp; done)) HS ?_
  refine HeldBy.tk (i := 6) (v := .tuple #[.int .i64 room, .bool true]) rfl (fun V hV => exec_look2 und_R (zero_R _) hV.1.rooms (some _) HKR.out rfl rfl rfl) HS ?_
  refine HeldBy.tn (i := 7) rfl HS ?_
  refine HeldBy.tn (i := 8) rfl HS ?_
  refine HeldBy.tn (i := 9) rfl HS ?_
  refine HeldBy.tn (i := 10) rfl HS ?_
  refine HeldBy.tn (i := 11) rfl HS ?_
  refine wpAnyH_done (by kernel_rfl) ?_ _
  have HD := Lib.hid HS.1
  have HC := Lib.hid HS.2.1
  have HR := Lib.hid HS.2.2.1
  have HW := Lib.hid HS.2.2.2
  clear HS
  have c6 := HC.out.c6
  go_wp2_with (fail)
  clear c6
  refine (HSRC.out _ HD.out).mono ?_
  rintro e W2 ⟨rfl, hb2⟩
  obtain ⟨V4, hs4, hb4, hl4⟩ := boxK W2 zeroK rfl k
  have hw2 := HW.out.trans (hb2.mono HW.out.size)
  replace HW := Lib.hid (hw2.trans (hl4.mono hw2.size))
  have hd4 := (HD.out.after hb2).after hl4
  have hc4 := (HC.out.after hb2).after hl4
  replace HR := Lib.hid ((HR.out.after hb2).after hl4)
  have k0 : V4.cell? ⟨W2.heap.size, 0, none⟩ = some (.int .i64 k.size) := hb4.c0
  have c3 := hc4.c3
  have g1 := hd4.box.c1
  have hvols := Lib.hid hd4.vols
  clear hb2 hb4 hl4 hw2 hd4 hc4
  have n2 : (Vo.length : Int) < 64 := by omega
  have n1 : k.size ≤ c.size := by omega
  go_wp2_with (first | (refine wpList_skip rfl (hs4 rfl rfl rfl) ?_) | (refine wpList_got rfl (exec_maplen hvols.out und_V rfl rfl) ?_))
  refine (failed_any 11 _).mono ?_
  rintro e W8 ⟨rfl, hb8⟩
  obtain ⟨V9, hs9, hb9, -, hl9⟩ := stoR (HR.out.after hb8) (errR 11)
  have HV := Lib.hid hb9
  have HY := Lib.hid (hl9 _ _ (HW.out.trans (hb8.mono HW.out.size)) (Nat.le_succ _))
  clear hb8 hb9 hl9
  go_wp2_with (refine wpList_skip rfl (hs9 rfl rfl rfl) ?_)
  refine bodyPost_ret (v := encR (errR 11)) (results_cell_row rfl _ _ (w.heap.size + 1) 50 (cellsR (errR 11)) (0, 0) _ rfl HV.out undR rfl sizeR) rfl ?_
  exact ⟨rfl, HY.out⟩
set_option maxRecDepth 100000 in
set_option maxHeartbeats 8000000 in
theorem create_made (k : Ct) (room left : Int) (hd : DrAt w d r v s n Ro Vo So No) (hf : Five d r v s n) (hV : KM.get c.target Vo = none) (hR : KM.get c.zone Ro = some (.int .i64 room)) (hsrc : ∀ V, DrAt V d r v s n Ro Vo So No → Calls Try.prog 86 #[.pointer (some ⟨d, 0, none⟩), .string c.source] V fun e w' => e = .returned (.tuple #[encK k, .bool true]) ∧ Below V.heap.size V w')
    (hsm : ¬ c.size < k.size) (hl : ¬ (64 : Int) ≤ Vo.length) (hrm : ¬ room < c.size) (hleft : IntKind.i64.wrap (room - c.size) = left) (hB : B ≤ r ∧ B ≤ v) :
    Calls Try.prog 68 #[.pointer (some ⟨d, 0, none⟩), encC c] w fun e w' => ∃ m, e = .returned (encR ⟨0, c.size, c.zone, k.tag⟩) ∧ DrAt w' d r v s n (KM.put c.zone (.int .i64 left) Ro) (KM.put c.target (encV ⟨c.size, k.tag, c.zone, some m⟩) Vo) So No ∧ IsMap encS w' m [] ∧ w.heap.size ≤ m ∧ Fr (fun g => g = r ∨ g = v) B w w' := by
  have HD0 := Lib.hid hd
  have HF := Lib.hid hf
  have HKV := Lib.hid hV
  have HKR := Lib.hid hR
  have HSRC := Lib.hid hsrc
  have HKL := Lib.hid hleft
  have HBB := Lib.hid hB
  have HLT := Lib.hid hd.lt
  have H3 := Lib.hid (And.intro hsm (And.intro hl hrm))
  clear hd hf hV hR hsrc hleft hB hsm hl hrm
  rw [show encC c = .agg (cellsC c) from rfl]
  go_enter Try.func68, Try.ntmps68
  go_upto_region 1 with (fail)
  refine wp_gen (fun V => DrAt V d r v s n Ro Vo So No ∧ BoxC V w.heap.size c ∧ BoxR V (w.heap.size + 1) zeroR ∧ Below w.heap.size w V) ⟨HD0.out.after (below2 w _ _), (heap2 w _ _).1, (heap2 w _ _).2, below2 w _ _⟩ ?_
  rintro V1 ⟨hd1, hc1, hr1, hw1⟩
  have HD := Lib.hid hd1
  have HC := Lib.hid hc1
  have HR := Lib.hid hr1
  have HW := Lib.hid hw1
  clear hd1 hc1 hr1 hw1 HD0
  refine wp_region_held_drew (S := fun V => DrAt V d r v s n Ro Vo So No ∧ BoxC V w.heap.size c ∧ BoxR V (w.heap.size + 1) zeroR ∧ Below w.heap.size w V) (by kernel_rfl) ⟨HD.out, HC.out, HR.out, HW.out.drew⟩ (fun _ => ?_)
  refine HeldBy.gen (fun V => DrAt V d r v s n Ro Vo So No ∧ BoxC V w.heap.size c ∧ BoxR V (w.heap.size + 1) zeroR ∧ Below w.heap.size w V) ⟨HD.out, HC.out, HR.out, HW.out.drew⟩ ?_
  clear HD HC HR HW
  rintro U0 HS
  refine HeldBy.tn (i := 0) rfl HS ?_
  refine HeldBy.tn (i := 1) rfl HS ?_
  refine HeldBy.tn (i := 2) rfl HS ?_
  refine HeldBy.tk (i := 3) (v := .map (some v)) rfl (fun V hV => by have hc := hV.1.box.c1; first | (go_simp; rfl) | (go_simp; done)) HS ?_
  refine HeldBy.tn (i := 4) rfl HS ?_
  refine HeldBy.tk (i := 5) rfl (fun V hV => by have hc := hV.2.1.c1; first | (go_simp; rfl) | (go_simp; done)) HS ?_
  refine HeldBy.tk (i := 6) (v := .tuple #[encV zeroV, .bool false]) rfl (fun V hV => exec_look2 und_V (zero_V _) hV.1.vols none HKV.out rfl rfl rfl) HS ?_
  refine HeldBy.tn (i := 7) rfl HS ?_
  refine HeldBy.tn (i := 8) rfl HS ?_
  refine HeldBy.tn (i := 9) rfl HS ?_
  have HSS : ∀ w', Below U0.heap.size U0 w' → (DrAt w' d r v s n Ro Vo So No ∧ BoxC w' w.heap.size c ∧ BoxR w' (w.heap.size + 1) zeroR ∧ Below w.heap.size w w') := fun w' hb => ⟨HS.1.after hb, HS.2.1.after hb, HS.2.2.1.after hb, HS.2.2.2.trans (hb.mono HS.2.2.2.size)⟩
  refine HeldBy.Goes.without (w0 := U0) (k := 10) (dk := some 5) (x := .cells (cellsV zeroV) 95 (0, 0)) ?_ U0 (Below.refl _ _)
  refine HeldBy.Goes.nil rfl rfl (by kernel_rfl) rfl (makes_v rfl) HSS rfl (fun p => by unfold HeldBy.ptr; go_simp; rfl) ?_
  intro p U1 hp hb hn
  obtain ⟨V3, hs3, hb3, -, hl3⟩ := stoV (show BoxV U1 p zeroV from hn) zeroV
  have hS3 := HSS V3 (hl3 _ _ hb hp)
  refine HeldBy.store (i := 11) (w' := V3) rfl (by kernel_rfl) (by rfl) (hs3 rfl rfl rfl) (by first | (go_simp; rfl) | (go_simp; done)) hS3 ?_
  refine HeldBy.tn (i := 12) rfl hS3 ?_
  refine wpAnyH_done (by kernel_rfl) ?_ _
  have HD := Lib.hid hS3.1
  have HC := Lib.hid hS3.2.1
  have HR := Lib.hid hS3.2.2.1
  have HW := Lib.hid hS3.2.2.2
  clear hs3 hb3 hl3 hS3 HSS HS hp hb hn
  go_upto_region 6 with (fail)
  refine wp_region_held_drew (S := fun V => DrAt V d r v s n Ro Vo So No ∧ BoxC V w.heap.size c ∧ BoxR V (w.heap.size + 1) zeroR ∧ Below w.heap.size w V) (by kernel_rfl) ⟨HD.out, HC.out, HR.out, HW.out.drew⟩ (fun _ => ?_)
  refine HeldBy.gen (fun V => DrAt V d r v s n Ro Vo So No ∧ BoxC V w.heap.size c ∧ BoxR V (w.heap.size + 1) zeroR ∧ Below w.heap.size w V) ⟨HD.out, HC.out, HR.out, HW.out.drew⟩ ?_
  clear HD HC HR HW
  rintro U0 HS
  refine HeldBy.tn (i := 0) rfl HS ?_
  refine HeldBy.tn (i := 1) rfl HS ?_
  refine HeldBy.tn (i := 2) rfl HS ?_
  refine HeldBy.tk (i := 3) (v := .map (some r)) rfl (fun V hV => by have hc := hV.1.box.c0; first | (go_simp; rfl) | (go_simp; done)) HS ?_
  refine HeldBy.tn (i := 4) rfl HS ?_
  refine HeldBy.tk (i := 5) rfl (fun V hV => by have hc := hV.2.1.c4; first | (go_simp; rfl) | (go_simp; done)) HS ?_
  refine HeldBy.tk (i := 6) (v := .tuple #[.int .i64 room, .bool true]) rfl (fun V hV => exec_look2 und_R (zero_R _) hV.1.rooms (some _) HKR.out rfl rfl rfl) HS ?_
  refine HeldBy.tn (i := 7) rfl HS ?_
  refine HeldBy.tn (i := 8) rfl HS ?_
  refine HeldBy.tn (i := 9) rfl HS ?_
  refine HeldBy.tn (i := 10) rfl HS ?_
  refine HeldBy.tn (i := 11) rfl HS ?_
  refine wpAnyH_done (by kernel_rfl) ?_ _
  have c6 := HS.2.1.c6
  have HD := Lib.hid HS.1
  have HC := Lib.hid HS.2.1
  have HR := Lib.hid HS.2.2.1
  have HW := Lib.hid HS.2.2.2
  clear HS
  go_wp2_with (fail)
  clear c6
  refine (HSRC.out _ HD.out).mono ?_
  rintro e W2 ⟨rfl, hb2⟩
  obtain ⟨V4, hs4, hb4, hl4⟩ := boxK W2 zeroK rfl k
  have hw2 := HW.out.trans (hb2.mono HW.out.size)
  replace HW := Lib.hid (hw2.trans (hl4.mono hw2.size))
  have hd4 := (HD.out.after hb2).after hl4
  have hc4 := (HC.out.after hb2).after hl4
  have hr4 := (HR.out.after hb2).after hl4
  have k0 : V4.cell? ⟨W2.heap.size, 0, none⟩ = some (.int .i64 k.size) := hb4.c0
  have k1 : V4.cell? ⟨W2.heap.size, 1, none⟩ = some (.int .u64 k.tag) := hb4.c1
  have c3 := hc4.c3
  have c4 := hc4.c4
  have g1 := hd4.box.c1
  have hvols := hd4.vols
  obtain ⟨V5, hs5, hb5, hl5⟩ := boxV (V4.alloc (.map #[] 0)) zeroV rfl ⟨c.size, k.tag, c.zone, some V4.heap.size⟩
  simp only [World.size_alloc] at hs5 hb5
  have hl45 : Below V4.heap.size V4 V5 := ((Below.refl _ _).alloc (Nat.le_refl _) _).trans (hl5.mono (by simp))
  have hm5 : IsMap encS V5 V4.heap.size [] := (isMap_new V4).of_heap (hl5.block _ (by simp))
  have HM := Lib.hid hm5
  have HX := Lib.hid hb5
  have HD := Lib.hid (hd4.after hl45)
  have HC := Lib.hid (hc4.after hl45)
  have HR := Lib.hid (hr4.after hl45)
  have HMW : Hid (w.heap.size + 1 < V4.heap.size) := hr4.lt
  replace HW := Lib.hid (HW.out.trans (hl45.mono HW.out.size))
  obtain ⟨hsm, hl, hrm⟩ := H3.out
  have n1 : k.size ≤ c.size := by omega
  have n2 : (Vo.length : Int) < 64 := by omega
  have n3 : c.size ≤ room := by omega
  have mk : ∀ w, (Instr.makeMap tN none).run Try.prog w = .ok (.map (some w.heap.size)) (w.alloc (.map #[] 0)) := fun _ => rfl
  clear hb2 hb4 hl4 hw2 hd4 hc4 hr4 hb5 hl5 hl45 hm5
  go_upto_region 19 with (first | ((with_reducible refine wpList_build_to rfl 92 _ rfl (cellsK ⟨c.size, k.tag⟩) ?_ ?_); exact built_k _ _) | ((with_reducible refine wpList_build_to rfl 95 _ rfl (cellsV ⟨c.size, k.tag, c.zone, some V4.heap.size⟩) ?_ ?_); exact built_v _ _ _ _) | (refine wpList_skip rfl (hs4 rfl rfl rfl) ?_) | (refine wpList_skip rfl (hs5 rfl rfl rfl) ?_) | (refine wpList_got rfl (exec_maplen hvols und_V rfl rfl) ?_))
  clear hs4 hs5 k0 k1 c3 c4 g1 hvols hsm hl hrm mk n1 n2 n3
  have HB := Lib.hid HD.out.box
  refine wp_region_held_drew (S := fun V => BoxD V d ⟨some r, some v, some s, some n⟩ ∧ BoxC V w.heap.size c ∧ BoxV V (V4.heap.size + 1) ⟨c.size, k.tag, c.zone, some V4.heap.size⟩) (by kernel_rfl) ⟨HB.out, HC.out, HX.out⟩ (fun _ => ?_)
  refine HeldBy.gen (fun V => (BoxD V d ⟨some r, some v, some s, some n⟩ ∧ BoxC V w.heap.size c ∧ BoxV V (V4.heap.size + 1) ⟨c.size, k.tag, c.zone, some V4.heap.size⟩) ∧ (DrAt V d r v s n Ro Vo So No) ∧ (BoxR V (w.heap.size + 1) zeroR) ∧ (IsMap encS V V4.heap.size []) ∧ (Below w.heap.size w V)) ⟨⟨HB.out, HC.out, HX.out⟩, HD.out, HR.out, HM.out, HW.out.drew⟩ ?_
  clear HB HC HX HD HR HM HW
  rintro U0 ⟨HS, HD, HR, HM, HW⟩
  refine HeldBy.tn (i := 0) rfl HS ?_
  refine HeldBy.tn (i := 1) rfl HS ?_
  refine HeldBy.tn (i := 2) rfl HS ?_
  refine HeldBy.tk (i := 3) (v := .map (some v)) rfl (fun V hV => by have hc := hV.1.c1; first | (go_simp; rfl) | (go_simp; done)) HS ?_
  refine HeldBy.tn (i := 4) rfl HS ?_
  refine HeldBy.tk (i := 5) rfl (fun V hV => by have hc := hV.2.1.c1; first | (go_simp; rfl) | (go_simp; done)) HS ?_
  refine HeldBy.tk (i := 6) (v := encV ⟨c.size, k.tag, c.zone, some V4.heap.size⟩) rfl (fun V hV => loadV hV.2.2 rfl rfl) HS ?_
  obtain ⟨V6, hs6, hm6, ht6, hst6⟩ := exec_upds und_V HD.vols HD.stamp c.target (encV ⟨c.size, k.tag, c.zone, some V4.heap.size⟩)
  have hlt := HLT.out
  have hmw := HMW.out
  obtain ⟨f1, f2, f3, f4, f5, f6, f7, f8, f9, f10⟩ := HF.out
  have hS6 : BoxD V6 d ⟨some r, some v, some s, some n⟩ ∧ BoxC V6 w.heap.size c ∧ BoxV V6 (V4.heap.size + 1) ⟨c.size, k.tag, c.zone, some V4.heap.size⟩ :=
    ⟨HS.1.turned ht6 f2, Turned.other ht6 (by omega) HS.2.1, Turned.other ht6 (by omega) HS.2.2⟩
  refine HeldBy.store (i := 7) (w' := V6) rfl (by kernel_rfl) (by rfl) (hs6 rfl rfl rfl rfl) (by first | (go_simp; rfl) | (go_simp; done)) hS6 ?_
  refine wpAnyH_done (by kernel_rfl) ?_ _
  have HB := Lib.hid hS6.1
  have HC := Lib.hid hS6.2.1
  have HX := Lib.hid hS6.2.2
  have hd6 := HD.putVols HF.out ht6 hm6 hst6
  have hr6 : BoxR V6 (w.heap.size + 1) zeroR := Turned.other ht6 (by omega) HR
  have hm6' : IsMap encS V6 V4.heap.size [] := isMap_turned HM ht6 (by omega)
  have HK6 : Hid (Kp r v w V6 ∧ Below B w V6 ∧ V4.heap.size < V6.heap.size) := by
    show _ ∧ _
    refine ⟨fun g hg h1 h2 => (ht6.block g h2).trans (HW.block g hg), (HW.mono (by have := HBB.out.1; omega)).trans (ht6.below HBB.out.2), hm6'.lt⟩
  have HB6 : Hid (Below B w V6) := HK6.out.2.1
  have HQ6 : Hid (V4.heap.size < V6.heap.size) := HK6.out.2.2
  replace HK6 : Hid (Kp r v w V6) := HK6.out.1
  have HD6 := Lib.hid hd6
  have HR6 := Lib.hid hr6
  have HM6 := Lib.hid hm6'
  clear hs6 hm6 ht6 hst6 hlt hmw f1 f2 f3 f4 f5 f6 f7 f8 f9 f10 hS6 hd6 hr6 hm6' HS HD HR HM HW
  go_upto_region 20 with (fail)
  refine wp_region_held_drew (S := fun V => BoxD V d ⟨some r, some v, some s, some n⟩ ∧ BoxC V w.heap.size c ∧ BoxV V (V4.heap.size + 1) ⟨c.size, k.tag, c.zone, some V4.heap.size⟩) (by kernel_rfl) ⟨HB.out, HC.out, HX.out⟩ (fun _ => ?_)
  refine HeldBy.gen (fun V => (BoxD V d ⟨some r, some v, some s, some n⟩ ∧ BoxC V w.heap.size c ∧ BoxV V (V4.heap.size + 1) ⟨c.size, k.tag, c.zone, some V4.heap.size⟩) ∧ (DrAt V d r v s n Ro (KM.put c.target (encV ⟨c.size, k.tag, c.zone, some V4.heap.size⟩) Vo) So No) ∧ (BoxR V (w.heap.size + 1) zeroR) ∧ (IsMap encS V V4.heap.size []) ∧ (Kp r v w V) ∧ (Below B w V) ∧ (V4.heap.size < V.heap.size)) ⟨⟨HB.out, HC.out, HX.out⟩, HD6.out, HR6.out, HM6.out, HK6.out, HB6.out.drew, HQ6.out⟩ ?_
  clear HB HC HX HD6 HR6 HM6 HK6 HB6 HQ6
  rintro U0 ⟨HS, HD6, HR6, HM6, HK6, HB6, HQ6⟩
  refine HeldBy.tn (i := 0) rfl HS ?_
  refine HeldBy.tn (i := 1) rfl HS ?_
  refine HeldBy.tn (i := 2) rfl HS ?_
  refine HeldBy.tk (i := 3) (v := .map (some r)) rfl (fun V hV => by have hc := hV.1.c0; first | (go_simp; rfl) | (go_simp; done)) HS ?_
  refine HeldBy.tn (i := 4) rfl HS ?_
  refine HeldBy.tk (i := 5) rfl (fun V hV => by have hc := hV.2.1.c4; first | (go_simp; rfl) | (go_simp; done)) HS ?_
  refine HeldBy.tn (i := 7) rfl HS ?_
  refine HeldBy.tk (i := 8) rfl (fun V hV => by have hc := hV.2.1.c3; first | (go_simp; rfl) | (go_simp; done)) HS ?_
  refine HeldBy.value (i := 6) (v := .int .i64 room) rfl (by kernel_rfl) (by rfl) (exec_look1 und_R (zero_R _) HD6.rooms (some _) HKR.out rfl rfl rfl) (by first | (go_simp; rfl) | (go_simp; done)) HS ?_
  refine HeldBy.tk (i := 9) (v := .int .i64 (IntKind.i64.wrap (room - c.size))) rfl (fun _ _ => by first | (go_simp; rfl) | (go_simp; done)) HS ?_
  obtain ⟨V7, hs7, hm7, ht7⟩ := exec_upd und_R HD6.rooms c.zone (.int .i64 (IntKind.i64.wrap (room - c.size)))
  have hlt := HLT.out
  have hmw := HMW.out
  obtain ⟨f1, f2, f3, f4, f5, f6, f7, f8, f9, f10⟩ := HF.out
  have hS7 : BoxD V7 d ⟨some r, some v, some s, some n⟩ ∧ BoxC V7 w.heap.size c ∧ BoxV V7 (V4.heap.size + 1) ⟨c.size, k.tag, c.zone, some V4.heap.size⟩ :=
    ⟨HS.1.turned ht7 f1, Turned.other ht7 (by omega) HS.2.1, Turned.other ht7 (by omega) HS.2.2⟩
  refine HeldBy.store (i := 10) (w' := V7) rfl (by kernel_rfl) (by rfl) (hs7 rfl rfl rfl rfl) (by first | (go_simp; rfl) | (go_simp; done)) hS7 ?_
  refine wpAnyH_done (by kernel_rfl) ?_ _
  rw [HKL.out] at hm7
  have hd7 := HD6.putRooms HF.out ht7 hm7
  have hr7 : BoxR V7 (w.heap.size + 1) zeroR := Turned.other ht7 (by omega) HR6
  have hm7' : IsMap encS V7 V4.heap.size [] := isMap_turned HM6 ht7 (by omega)
  have HK7 : Hid (Kp r v w V7 ∧ Below B w V7 ∧ V4.heap.size < V7.heap.size) := by
    show _ ∧ _
    refine ⟨fun g hg h1 h2 => (ht7.block g h1).trans (HK6 g hg h1 h2), HB6.trans (ht7.below HBB.out.1), hm7'.lt⟩
  have HD7 := Lib.hid hd7
  have HR7 := Lib.hid hr7
  have HM7 := Lib.hid hm7'
  have hx7 := hS7.2.2
  clear hs7 hm7 ht7 hlt hmw f1 f2 f3 f4 f5 f6 f7 f8 f9 f10 hS7 hd7 hr7 hm7' HS HD6 HR6 HM6 HK6 HB6 HQ6
  go_wp2_with (refine wpList_got rfl (loadV hx7 rfl rfl) ?_)
  clear hx7
  refine (made_any _ _).mono ?_
  rintro e W8 ⟨rfl, hb8⟩
  obtain ⟨V9, hs9, hb9, hk9, hl9⟩ := stoR (HR7.out.after hb8) ⟨0, c.size, c.zone, k.tag⟩
  have HV := Lib.hid hb9
  have HY : Hid (DrAt V9 d r v s n (KM.put c.zone (.int .i64 left) Ro) (KM.put c.target (encV ⟨c.size, k.tag, c.zone, some V4.heap.size⟩) Vo) So No ∧ IsMap encS V9 V4.heap.size [] ∧ w.heap.size ≤ V4.heap.size ∧ Fr (fun g => g = r ∨ g = v) B w V9) := by
    show _ ∧ _
    have hlt := HLT.out
    have hmw := HMW.out
    have hsz := HK7.out.2.1.size
    have hBw := HBB.out.1
    refine ⟨(HD7.out.after hb8).keep hk9 (by omega), (HM7.out.after hb8).of_heap (hk9 _ (by omega)), by omega, fun g hg hn => ?_, hl9 _ _ (HK7.out.2.1.trans (hb8.mono (by omega))) (by omega)⟩
    rw [hk9 g (by omega), hb8.block g (by omega), HK7.out.1 g hg (fun e => hn (.inl e)) (fun e => hn (.inr e))]
  clear hb8 hb9 hk9 hl9
  go_wp2_with (refine wpList_skip rfl (hs9 rfl rfl rfl) ?_)
  refine bodyPost_ret (v := encR ⟨0, c.size, c.zone, k.tag⟩) (results_cell_row rfl _ _ (w.heap.size + 1) 50 (cellsR ⟨0, c.size, c.zone, k.tag⟩) (0, 0) _ rfl HV.out undR rfl sizeR) rfl ?_
  exact ⟨_, rfl, HY.out.1, HY.out.2.1, HY.out.2.2.1, HY.out.2.2.2⟩
end
end Go.Proofs.Ytbgfccanbgpjiaa.O.I
