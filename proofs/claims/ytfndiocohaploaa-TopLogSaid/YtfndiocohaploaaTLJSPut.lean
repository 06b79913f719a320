/- Own work. -/
import Derived.Test.YtfndiocohaploaaTLJSZCCalls
import Derived.Test.YtfndiocohaploaaTLJSZRangeRow
namespace Go.Proofs.Ytfndiocohaploaa.S
open Go Go.RowKit Go.Lib KM
def PutD (c : Int) (e : C.Ev) (w : World) (x : Ending) (w' : World) : Prop := x = .returned (.tuple #[C.encE e, .int .i64 c]) ∧ Below w.heap.size w w'
theorem makes_o {oi : Oper} (ho : oi.op = .alloc 30) : HeldBy.Makes Try.prog oi (.cells (O.cellsO O.O0) 30 (0, 0)) := by
  intro a w
  unfold execOp
  simp only [ho]
  kernel_rfl
theorem store_o {W : World} {b : Nat} {x y : O.Obj} (h : O.BoxO W b x) {oi : Oper} {a : Act} {p q : Operand} (ho : oi.op = .store 30 p q) (hx : a.eval p = .pointer (some ⟨b, 0, none⟩)) (hy : a.eval q = O.encO y) :
    (execOp a.eval oi).run Try.prog W = .ok .skip (W.setRow b (O.cellsO y)) := by
  have hq := run_storeVar_row (P := Try.prog) W b 30 30 (O.cellsO x) (O.cellsO y) h O.sizeObj rfl (O.one_cells _)
  have hy' : a.eval q = .agg (O.cellsO y) := hy
  unfold execOp
  simp only [ho, hx, hy', Sem.run_bind, Instr.storeAt, Instr.sureAddr, Sem.run_pure, Result.andThen_ok]
  rw [hq]
  rfl
def gotO (x : Option O.Obj) : O.Obj := x.getD O.O0
theorem exec_look {W : World} {oi : Oper} {a : Act} {p r : Operand} {b : Nat} {s : St} {k : Ky} (h : IsMap encKy W b (encM s)) (ho : oi.op = .lookup tM p r true) (hm : a.eval p = .map (some b)) (hk : a.eval r = encKy k) :
    (execOp a.eval oi).run Try.prog W = .ok (.value (.tuple #[O.encO (gotO (s.get k)), .bool (s.get k).isSome])) W := by
  have hg := get_map O.encO k s.os
  unfold execOp
  cases hs : s.get k with
  | none =>
    have hv : KM.get k (encM s) = none := hg.trans (by rw [show KM.get k s.os = none from hs]; rfl)
    simp [ho, hm, hk, run_lookup_no keyT und_tM (zero_obj W) h k hv, Result.andThen, gotO]
  | some o =>
    have hv : KM.get k (encM s) = some (O.encO o) := hg.trans (by rw [show KM.get k s.os = some o from hs]; rfl)
    simp [ho, hm, hk, run_lookup_ok keyT und_tM h k hv, Result.andThen, gotO]
theorem putC_eq (s : St) (o : O.Obj) : putC s o = if O.rightB o = false then 2 else if o.version ≠ (gotO (s.get (keyO o))).version then 6 else if (s.get (keyO o)).isSome = false ∧ 200 ≤ s.os.length then 7 else 0 := by
  unfold putC gotO
  cases s.get (keyO o) with
  | none => simp [O.O0]
  | some x => simp
theorem putO_some {s : St} {o : O.Obj} (h : (s.get (keyO o)).isSome = true) : putO s o = { o with version := s.next, born := (gotO (s.get (keyO o))).born, deleting := (gotO (s.get (keyO o))).deleting } := by
  unfold putO gotO
  cases hs : s.get (keyO o) with
  | none => rw [hs] at h; cases h
  | some x => rfl
theorem putO_none {s : St} {o : O.Obj} (h : (s.get (keyO o)).isSome = false) : putO s o = { o with version := s.next, born := s.next, deleting := (gotO (s.get (keyO o))).deleting } := by
  unfold putO gotO
  cases hs : s.get (keyO o) with
  | none => rfl
  | some x => rw [hs] at h; cases h
def BoolD (b : Bool) (w : World) (e : Ending) (w' : World) : Prop := e = .returned (.bool b) ∧ Below w.heap.size w w'
set_option maxRecDepth 100000 in
set_option maxHeartbeats 2000000 in
theorem put_any {B : Nat} {q bm : Nat} {sl : Value} {ql : Nat} {og : Option Nat} {s : St} {w : World} (h : StAt B w q bm sl ql og s) (o : O.Obj) :
    Calls Try.prog 19 #[.pointer (some ⟨q, 0, none⟩), O.encO o] w (PutD (putC s o) (if putC s o = 0 then putE s o else C.Ev0) w) := by
  have HST := Lib.hid h
  have HRT : Hid (∀ W, Calls Try.prog 37 #[O.encO o] W (BoolD (O.rightB o) W)) := fun W => O.right_any o W
  have HK : Hid (∀ W, Calls Try.prog 38 #[O.encO o] W fun e w' => e = .returned (encKy (keyO o)) ∧ Below W.heap.size W w') := fun W => O.key_any o W
  have hpc := putC_eq s o
  obtain ⟨pc, hpc0⟩ : ∃ c, putC s o = c := ⟨_, rfl⟩
  obtain ⟨g, hg⟩ : ∃ g, gotO (s.get (keyO o)) = g := ⟨_, rfl⟩
  obtain ⟨ok, hok⟩ : ∃ b, (s.get (keyO o)).isSome = b := ⟨_, rfl⟩
  have hps : ok = true → putO s o = { o with version := s.next, born := g.born, deleting := g.deleting } := fun e => by rw [← hg]; exact putO_some (hok.trans e)
  have hpn : ok = false → putO s o = { o with version := s.next, born := s.next, deleting := g.deleting } := fun e => by rw [← hg]; exact putO_none (hok.trans e)
  rw [hpc0, hg, hok] at hpc
  rw [hpc0]
  obtain ⟨pe, hpe⟩ : ∃ z, (if pc = 0 then putE s o else C.Ev0) = z := ⟨_, rfl⟩
  rw [hpe]
  have HPV := Lib.hid hpe
  have HPC := Lib.hid hpc
  have HPS := Lib.hid hps
  have HPN := Lib.hid hpn
  have HG := Lib.hid hg
  have HOK := Lib.hid hok
  have HPE : Hid (putE s o = ⟨s.next, false, putO s o⟩) := rfl
  have hb0 : Below w.heap.size w ((w.alloc (.cells (O.cellsO o) 30 (0, 0))).alloc (C.objE C.Ev0)) := ((Below.refl _ _).alloc (Nat.le_refl _) _).alloc (by simp) _
  have HB0 := Lib.hid hb0
  clear h hpc hpc0 hg hok hps hpn hb0 hpe
  unfold O.encO
  go_enter Try.func19, Try.ntmps19
  go_upto_region 1 with (fail)
  refine O.wp_gen (fun W => O.BoxO W w.heap.size o ∧ C.BoxE W (w.heap.size + 1) C.Ev0 ∧ Below w.heap.size w W) ⟨(O.BoxO.new w o).alloc _, heap_alloc2_new w _ _, HB0.out⟩ ?_
  rintro W1 ⟨hbo, hn, hlow⟩
  clear HB0
  go_wp2_with (first | ((with_reducible refine O.wpList_load_obj ?_ rfl ?_ hbo ?_); rfl; rfl) | (go_at_call 37; refine (HRT.out _).mono ?_))
  rintro e W2 hw
  obtain ⟨rfl, hb2⟩ := hw
  replace hbo := hbo.after hb2
  replace hn := hn.after hb2
  replace hlow := hlow.trans (hb2.mono hlow.size)
  clear hb2 HRT
  cases hr : O.rightB o with
  | false =>
    obtain rfl : pc = 2 := HPC.out.trans (if_pos hr)
    obtain rfl : pe = C.Ev0 := HPV.out.symm.trans (if_neg (by decide))
    go_wp2_with (first | ((with_reducible refine O.wpList_build_to rfl 45 #[] rfl (C.cellsE C.Ev0) ?_ ?_); (focus kernel_rfl)) | ((with_reducible refine wpList_store_rowTo rfl 45 _ _ rfl rfl (w.heap.size + 1) (C.cellsE C.Ev0) ?_ ?_ 45 (C.cellsE C.Ev0) ?_ ?_ ?_ ?_ ?_); rfl; rfl; exact hn; exact C.sizeEv; exact rfl; exact C.one_cellsE _))
    refine bodyPost_ret (v := .tuple #[C.encE C.Ev0, .int .i64 2]) (C.results_ct rfl rfl rfl (C.load_evV (hn.setRow C.Ev0))) rfl ⟨rfl, below_setRow hlow (by omega) _⟩
  | true =>
    have HR := Lib.hid hr
    have HO := Lib.hid hbo
    have HE := Lib.hid hn
    have HW := Lib.hid hlow
    clear hr hbo hn hlow
    go_upto_region 3 with (fail)
    refine wp_region_held_drew (S := fun V => O.BoxO V w.heap.size o ∧ C.BoxE V (w.heap.size + 1) C.Ev0 ∧ Below w.heap.size w V) (by kernel_rfl) ⟨HO.out, HE.out, HW.out.drew⟩ (fun _ => ?_)
    refine HeldBy.gen (fun V => O.BoxO V w.heap.size o ∧ C.BoxE V (w.heap.size + 1) C.Ev0 ∧ Below w.heap.size w V) ⟨HO.out, HE.out, HW.out.drew⟩ ?_
    clear HO HE HW
    rintro U0 HS
    refine HeldBy.take (i := 0) rfl (by kernel_rfl) (by kernel_rfl) (by kernel_rfl) (fun _ _ _ h => h) (by rfl) (fun _ _ => by first | (go_simp; rfl) | (go_simp; done)) (by go_simp; rfl) HS ?_
    refine HeldBy.take (i := 1) rfl (by kernel_rfl) (by kernel_rfl) (by kernel_rfl) (fun _ _ _ h => h) (by rfl) (fun _ _ => by first | (go_simp; rfl) | (go_simp; done)) (by go_simp; rfl) HS ?_
    refine HeldBy.take (i := 2) rfl (by kernel_rfl) (by kernel_rfl) (by kernel_rfl) (fun _ _ _ h => h) (by rfl) (fun _ _ => by first | (go_simp; rfl) | (go_simp; done)) (by go_simp; rfl) HS ?_
    refine HeldBy.take (i := 3) (v := .map (some bm)) rfl (by kernel_rfl) (by kernel_rfl) (by kernel_rfl) (fun _ _ _ h => h) (by rfl) (fun V hV => by have hc := (HST.out.after hV.2.2).box.c0; first | (go_simp; rfl) | (go_simp; done)) (by go_simp; rfl) HS ?_
    refine HeldBy.take (i := 4) (v := O.encO o) rfl (by kernel_rfl) (by kernel_rfl) (by kernel_rfl) (fun _ _ _ h => h) (by rfl) (fun V hV => O.load_obj hV.1 rfl rfl) (by go_simp; rfl) HS ?_
    have HSS : ∀ w', Below U0.heap.size U0 w' → (O.BoxO w' w.heap.size o ∧ C.BoxE w' (w.heap.size + 1) C.Ev0 ∧ Below w.heap.size w w') := fun w' hb => ⟨HS.1.after hb, HS.2.1.after hb, HS.2.2.trans (hb.mono HS.2.2.size)⟩
    refine HeldBy.Goes.without (w0 := U0) (k := 10) (dk := some 6) (x := .cells (O.cellsO O.O0) 30 (0, 0)) ?_ U0 (Below.refl _ _)
    refine HeldBy.Goes.call (i := 5) (v := encKy (keyO o)) rfl rfl rfl rfl (makes_o rfl) rfl (by kernel_rfl) (by kernel_rfl) rfl (by decide) (by kernel_rfl) (by intro w; first | (go_simp; done) | (go_simp; first | exact ⟨rfl, rfl⟩ | rfl)) (by first | (go_simp; rfl) | (go_simp; done)) HSS (fun _ => HK.out _) ?_
    refine HeldBy.Goes.take (i := 6) (v := .tuple #[O.encO g, .bool ok]) rfl (by kernel_rfl) rfl (by kernel_rfl) (by kernel_rfl) (by kernel_rfl) (by kernel_rfl) (fun _ _ _ h => h) rfl (by decide) (by kernel_rfl) (fun V hV => by rw [← HG.out, ← HOK.out]; exact exec_look (HST.out.after hV.2.2).map rfl rfl rfl) (by first | (go_simp; rfl) | (go_simp; done)) HSS ?_
    refine HeldBy.Goes.take (i := 7) rfl (by kernel_rfl) rfl (by kernel_rfl) (by kernel_rfl) (by kernel_rfl) (by kernel_rfl) (fun _ _ _ h => h) rfl (by decide) (by kernel_rfl) (fun _ _ => by first | (go_simp; rfl) | (go_simp; done)) (by first | (go_simp; rfl) | (go_simp; done)) HSS ?_
    refine HeldBy.Goes.take (i := 8) rfl (by kernel_rfl) rfl (by kernel_rfl) (by kernel_rfl) (by kernel_rfl) (by kernel_rfl) (fun _ _ _ h => h) rfl (by decide) (by kernel_rfl) (fun _ _ => by first | (go_simp; rfl) | (go_simp; done)) (by first | (go_simp; rfl) | (go_simp; done)) HSS ?_
    refine HeldBy.Goes.take (i := 9) rfl (by kernel_rfl) rfl (by kernel_rfl) (by kernel_rfl) (by kernel_rfl) (by kernel_rfl) (fun _ _ _ h => h) rfl (by decide) (by kernel_rfl) (fun _ _ => by first | (go_simp; rfl) | (go_simp; done)) (by first | (go_simp; rfl) | (go_simp; done)) HSS ?_
    refine HeldBy.Goes.nil rfl rfl (by kernel_rfl) rfl (makes_o rfl) HSS rfl (fun p => by unfold HeldBy.ptr; go_simp; rfl) ?_
    intro p U1 hp hb hnew
    have hS := HSS U1 hb
    have hpo : O.BoxO U1 p O.O0 := hnew
    have hsz := HS.2.2.size
    have hlo := HS.1.lt
    have hle := HS.2.1.lt
    have hS2 : O.BoxO (U1.setRow p (O.cellsO g)) w.heap.size o ∧ C.BoxE (U1.setRow p (O.cellsO g)) (w.heap.size + 1) C.Ev0 ∧ Below w.heap.size w (U1.setRow p (O.cellsO g)) := ⟨hS.1.row (by omega) _, (setRow_other U1 p (w.heap.size + 1) _ (by omega)).trans hS.2.1, below_setRow hS.2.2 (by omega) _⟩
    refine HeldBy.store (i := 11) (w' := U1.setRow p (O.cellsO g)) rfl (by kernel_rfl) (by rfl) (store_o hpo rfl rfl rfl) (by first | (go_simp; rfl) | (go_simp; done)) hS2 ?_
    refine HeldBy.take (i := 12) rfl (by kernel_rfl) (by kernel_rfl) (by kernel_rfl) (fun _ _ _ h => h) (by rfl) (fun _ _ => by first | (go_simp; rfl) | (go_simp; done)) (by first | (go_simp; rfl) | (go_simp; done)) hS2 ?_
    refine wpAnyH_done (by kernel_rfl) ?_ _
    refine L.then_gen (fun V => O.BoxO V w.heap.size o ∧ C.BoxE V (w.heap.size + 1) C.Ev0 ∧ Below w.heap.size w V ∧ O.BoxO V p g) ⟨hS2.1, hS2.2.1, hS2.2.2, hpo.setRow g⟩ ?_
    have HPB : Hid (w.heap.size + 1 < p) := by show _ < _; omega
    clear hS hpo hsz hlo hle hS2 HSS HS hnew hb hp
    rintro W3 ⟨hbo, hn, hlow, hbp⟩
    have HPL : Hid (p < W3.heap.size) := hbp.lt
    go_upto_region 4 with (fail)
    by_cases hv : o.version = g.version
    · have a2 := hbo.c2
      have b2 := hbp.c2
      rw [← hv] at b2
      have hvb : (o.version == o.version) = true := by simp
      go_upto_region 6 with (fail)
      clear a2 b2 hvb
      have HFL : Hid (Calls Try.prog 39 #[.pointer (some ⟨q, 0, none⟩)] W3 fun e w' => e = .returned (.bool (decide (200 ≤ s.os.length))) ∧ w' = W3) := full_any (HST.out.after hlow)
      have HNX : Hid (∀ V, Below w.heap.size w V → Calls Try.prog 40 #[.pointer (some ⟨q, 0, none⟩)] V fun e w' => e = .returned (.int .u64 s.next) ∧ w' = V) := fun V hV => next_any (HST.out.after hV)
      obtain ⟨fl, hfl⟩ : ∃ b, decide (200 ≤ s.os.length) = b := ⟨_, rfl⟩
      rw [hfl] at HFL
      have HFB := Lib.hid hfl
      clear hfl
      have HPC2 : Hid (pc = if ok = false ∧ fl = true then 7 else 0) := by
        show pc = _
        rw [HPC.out, if_neg (by rw [HR.out]; decide), if_neg (by rw [hv]; simp)]
        congr 1
        rw [← HFB.out, decide_eq_true_eq]
      have HV := Lib.hid hv
      clear hv
      cases ok with
      | false =>
        cases fl with
        | true =>
          obtain rfl : pc = 7 := HPC2.out.trans (if_pos ⟨rfl, rfl⟩)
          obtain rfl : pe = C.Ev0 := HPV.out.symm.trans (if_neg (by decide))
          go_wp2_with (first | (go_at_call 39; refine HFL.out.mono ?_; rintro e _ ⟨rfl, rfl⟩) | ((with_reducible refine O.wpList_build_to rfl 45 #[] rfl (C.cellsE C.Ev0) ?_ ?_); (focus kernel_rfl)) | ((with_reducible refine wpList_store_rowTo rfl 45 _ _ rfl rfl (w.heap.size + 1) (C.cellsE C.Ev0) ?_ ?_ 45 (C.cellsE C.Ev0) ?_ ?_ ?_ ?_ ?_); rfl; rfl; exact hn; exact C.sizeEv; exact rfl; exact C.one_cellsE _))
          refine bodyPost_ret (v := .tuple #[C.encE C.Ev0, .int .i64 7]) (C.results_ct rfl rfl rfl (C.load_evV (hn.setRow C.Ev0))) rfl ⟨rfl, below_setRow hlow (by omega) _⟩
        | false =>
          obtain rfl : pc = 0 := HPC2.out.trans (if_neg (by decide))
          have hpe : pe = putE s o := HPV.out.symm.trans (if_pos rfl)
          have hpo : putO s o = { o with version := s.next, born := s.next, deleting := g.deleting } := HPN.out rfl
          have hpf : pe = ⟨s.next, false, { o with version := s.next, born := s.next, deleting := g.deleting }⟩ := by rw [hpe, HPE.out, hpo]
          obtain ⟨nx, hnx⟩ : ∃ n, s.next = n := ⟨_, rfl⟩
          rw [hnx] at HNX hpf
          have HPF := Lib.hid hpf
          clear hpe hpo hpf hnx HPC2 HPV HPS HPN
          go_upto_region 8 with (go_at_call 39; refine HFL.out.mono ?_; rintro e _ ⟨rfl, rfl⟩)
          have a2 := hbo.c2
          have f2 := hbo.free 2
          go_upto_region 9 with (go_at_call 40; refine (HNX.out _ hlow).mono ?_; rintro e _ ⟨rfl, rfl⟩)
          refine O.wp_gen (fun V => O.BoxO V w.heap.size { o with version := nx } ∧ C.BoxE V (w.heap.size + 1) C.Ev0 ∧ Below w.heap.size w V ∧ O.BoxO V p g) ⟨hbo.s2 nx, (heap_setCell_other _ ⟨w.heap.size, 2, none⟩ _ _ (by simp)).trans hn, hlow.setCell (p := ⟨w.heap.size, 2, none⟩) (Nat.le_refl _) _, hbp.other (by have := HPB.out; show p ≠ w.heap.size; omega) _⟩ ?_
          clear hbo hn hlow hbp a2 f2
          rintro W4 ⟨hbo, hn, hlow, hbp⟩
          have a2 := hbo.c2
          have a3 := hbo.c3
          have f3 := hbo.free 3
          go_upto_region 10 with (fail)
          refine O.wp_gen (fun V => O.BoxO V w.heap.size { o with version := nx, born := nx } ∧ C.BoxE V (w.heap.size + 1) C.Ev0 ∧ Below w.heap.size w V ∧ O.BoxO V p g) ⟨hbo.s3 nx, (heap_setCell_other _ ⟨w.heap.size, 3, none⟩ _ _ (by simp)).trans hn, hlow.setCell (p := ⟨w.heap.size, 3, none⟩) (Nat.le_refl _) _, hbp.other (by have := HPB.out; show p ≠ w.heap.size; omega) _⟩ ?_
          clear hbo hn hlow hbp a2 a3 f3
          rintro W5 ⟨hbo, hn, hlow, hbp⟩
          go_upto_region 12 with (fail)
          have a4 := hbo.c4
          have f4 := hbo.free 4
          have b4 := hbp.c4
          go_upto_region 13 with (fail)
          obtain ⟨po, hpo⟩ : ∃ x, ({ o with version := nx, born := nx, deleting := g.deleting } : O.Obj) = x := ⟨_, rfl⟩
          have hpv : po.version = nx := by rw [← hpo]
          refine O.wp_gen (fun V => O.BoxO V w.heap.size po ∧ C.BoxE V (w.heap.size + 1) C.Ev0 ∧ Below w.heap.size w V) ⟨by rw [← hpo]; exact hbo.s4 g.deleting, (heap_setCell_other _ ⟨w.heap.size, 4, none⟩ _ _ (by simp)).trans hn, hlow.setCell (p := ⟨w.heap.size, 4, none⟩) (Nat.le_refl _) _⟩ ?_
          clear hbo hn hlow hbp a4 f4 b4
          rintro W7 ⟨hbo, hn, hlow⟩
          have a2 := hbo.c2
          rw [hpv] at a2
          have HPF2 : Hid (pe = ⟨nx, false, po⟩) := by show pe = _; rw [← hpo]; exact HPF.out
          clear hpo hpv HPF
          go_wp2_with (first | ((with_reducible refine O.wpList_load_obj ?_ rfl ?_ hbo ?_); rfl; rfl) | ((with_reducible refine O.wpList_build_to rfl 45 #[(0, .tmp 49), (2, .tmp 50)] rfl (C.cellsE ⟨nx, false, po⟩) ?_ ?_); (focus kernel_rfl)) | ((with_reducible refine wpList_store_rowTo rfl 45 _ _ rfl rfl (w.heap.size + 1) (C.cellsE ⟨nx, false, po⟩) ?_ ?_ 45 (C.cellsE C.Ev0) ?_ ?_ ?_ ?_ ?_); rfl; rfl; exact hn; exact C.sizeEv; exact rfl; exact C.one_cellsE _))
          rw [HPF2.out]
          refine bodyPost_ret (v := .tuple #[C.encE ⟨nx, false, po⟩, .int .i64 0]) (C.results_ct rfl rfl rfl (C.load_evV (hn.setRow ⟨nx, false, po⟩))) rfl ⟨rfl, below_setRow hlow (by omega) _⟩
      | true =>
        obtain rfl : pc = 0 := HPC2.out.trans (if_neg (by simp))
        have hpe : pe = putE s o := HPV.out.symm.trans (if_pos rfl)
        have hpo : putO s o = { o with version := s.next, born := g.born, deleting := g.deleting } := HPS.out rfl
        have hpf : pe = ⟨s.next, false, { o with version := s.next, born := g.born, deleting := g.deleting }⟩ := by rw [hpe, HPE.out, hpo]
        obtain ⟨nx, hnx⟩ : ∃ n, s.next = n := ⟨_, rfl⟩
        rw [hnx] at HNX hpf
        have HPF := Lib.hid hpf
        clear hpe hpo hpf hnx HPC2 HPV HPS HPN
        go_upto_region 8 with (go_at_call 39; refine HFL.out.mono ?_; rintro e _ ⟨rfl, rfl⟩)
        have a2 := hbo.c2
        have f2 := hbo.free 2
        go_upto_region 9 with (go_at_call 40; refine (HNX.out _ hlow).mono ?_; rintro e _ ⟨rfl, rfl⟩)
        refine O.wp_gen (fun V => O.BoxO V w.heap.size { o with version := nx } ∧ C.BoxE V (w.heap.size + 1) C.Ev0 ∧ Below w.heap.size w V ∧ O.BoxO V p g) ⟨hbo.s2 nx, (heap_setCell_other _ ⟨w.heap.size, 2, none⟩ _ _ (by simp)).trans hn, hlow.setCell (p := ⟨w.heap.size, 2, none⟩) (Nat.le_refl _) _, hbp.other (by have := HPB.out; show p ≠ w.heap.size; omega) _⟩ ?_
        clear hbo hn hlow hbp a2 f2
        rintro W4 ⟨hbo, hn, hlow, hbp⟩
        have a2 := hbo.c2
        have a3 := hbo.c3
        have f3 := hbo.free 3
        go_upto_region 10 with (fail)
        refine O.wp_gen (fun V => O.BoxO V w.heap.size { o with version := nx, born := nx } ∧ C.BoxE V (w.heap.size + 1) C.Ev0 ∧ Below w.heap.size w V ∧ O.BoxO V p g) ⟨hbo.s3 nx, (heap_setCell_other _ ⟨w.heap.size, 3, none⟩ _ _ (by simp)).trans hn, hlow.setCell (p := ⟨w.heap.size, 3, none⟩) (Nat.le_refl _) _, hbp.other (by have := HPB.out; show p ≠ w.heap.size; omega) _⟩ ?_
        clear hbo hn hlow hbp a2 a3 f3
        rintro W5 ⟨hbo, hn, hlow, hbp⟩
        have a3 := hbo.c3
        have f3 := hbo.free 3
        have b3 := hbp.c3
        go_upto_region 12 with (fail)
        refine O.wp_gen (fun V => O.BoxO V w.heap.size { o with version := nx, born := g.born } ∧ C.BoxE V (w.heap.size + 1) C.Ev0 ∧ Below w.heap.size w V ∧ O.BoxO V p g) ⟨hbo.s3 g.born, (heap_setCell_other _ ⟨w.heap.size, 3, none⟩ _ _ (by simp)).trans hn, hlow.setCell (p := ⟨w.heap.size, 3, none⟩) (Nat.le_refl _) _, hbp.other (by have := HPB.out; show p ≠ w.heap.size; omega) _⟩ ?_
        clear hbo hn hlow hbp a3 f3 b3
        rintro W6 ⟨hbo, hn, hlow, hbp⟩
        have a4 := hbo.c4
        have f4 := hbo.free 4
        have b4 := hbp.c4
        go_upto_region 13 with (fail)
        obtain ⟨po, hpo⟩ : ∃ x, ({ o with version := nx, born := g.born, deleting := g.deleting } : O.Obj) = x := ⟨_, rfl⟩
        have hpv : po.version = nx := by rw [← hpo]
        refine O.wp_gen (fun V => O.BoxO V w.heap.size po ∧ C.BoxE V (w.heap.size + 1) C.Ev0 ∧ Below w.heap.size w V) ⟨by rw [← hpo]; exact hbo.s4 g.deleting, (heap_setCell_other _ ⟨w.heap.size, 4, none⟩ _ _ (by simp)).trans hn, hlow.setCell (p := ⟨w.heap.size, 4, none⟩) (Nat.le_refl _) _⟩ ?_
        clear hbo hn hlow hbp a4 f4 b4
        rintro W7 ⟨hbo, hn, hlow⟩
        have a2 := hbo.c2
        rw [hpv] at a2
        have HPF2 : Hid (pe = ⟨nx, false, po⟩) := by show pe = _; rw [← hpo]; exact HPF.out
        clear hpo hpv HPF
        go_wp2_with (first | ((with_reducible refine O.wpList_load_obj ?_ rfl ?_ hbo ?_); rfl; rfl) | ((with_reducible refine O.wpList_build_to rfl 45 #[(0, .tmp 49), (2, .tmp 50)] rfl (C.cellsE ⟨nx, false, po⟩) ?_ ?_); (focus kernel_rfl)) | ((with_reducible refine wpList_store_rowTo rfl 45 _ _ rfl rfl (w.heap.size + 1) (C.cellsE ⟨nx, false, po⟩) ?_ ?_ 45 (C.cellsE C.Ev0) ?_ ?_ ?_ ?_ ?_); rfl; rfl; exact hn; exact C.sizeEv; exact rfl; exact C.one_cellsE _))
        rw [HPF2.out]
        refine bodyPost_ret (v := .tuple #[C.encE ⟨nx, false, po⟩, .int .i64 0]) (C.results_ct rfl rfl rfl (C.load_evV (hn.setRow ⟨nx, false, po⟩))) rfl ⟨rfl, below_setRow hlow (by omega) _⟩
    · have a2 := hbo.c2
      have b2 := hbp.c2
      have hvb : (o.version == g.version) = false := by simpa using hv
      obtain rfl : pc = 6 := HPC.out.trans (by rw [if_neg (by rw [HR.out]; decide), if_pos hv])
      obtain rfl : pe = C.Ev0 := HPV.out.symm.trans (if_neg (by decide))
      go_wp2_with (first | ((with_reducible refine O.wpList_build_to rfl 45 #[] rfl (C.cellsE C.Ev0) ?_ ?_); (focus kernel_rfl)) | ((with_reducible refine wpList_store_rowTo rfl 45 _ _ rfl rfl (w.heap.size + 1) (C.cellsE C.Ev0) ?_ ?_ 45 (C.cellsE C.Ev0) ?_ ?_ ?_ ?_ ?_); rfl; rfl; exact hn; exact C.sizeEv; exact rfl; exact C.one_cellsE _))
      refine bodyPost_ret (v := .tuple #[C.encE C.Ev0, .int .i64 6]) (C.results_ct rfl rfl rfl (C.load_evV (hn.setRow C.Ev0))) rfl ⟨rfl, below_setRow hlow (by omega) _⟩
end Go.Proofs.Ytfndiocohaploaa.S
namespace Go.Proofs.Ytfndiocohaploaa.S
open Go Go.RowKit Go.Lib KM
theorem next_u64 {s : St} (h : s.evs.length ≤ 4096) : C.U64 s.next := by
  unfold C.U64 St.next
  omega
theorem put_fits {s : St} (g : Good s) (h : s.evs.length ≤ 4096) {o : O.Obj} (hf : C.Fits o) : C.Fits (putO s o) := by
  have hn := next_u64 h
  refine ⟨hf.name, hf.cls, hf.zone, hf.node, hf.claim, hf.volume, hf.source, hn, ?_, hf.num, hf.tag⟩
  show C.U64 (((s.get (keyO o)).map (·.born)).getD s.next)
  cases hs : s.get (keyO o) with
  | none => exact hn
  | some x => exact (g.of hs).2.born
def PutA (B : Nat) (q bm : Nat) (sl : Value) (ql : Nat) (og : Option Nat) (r : Int × O.Obj × St) (w : World) (x : Ending) (w' : World) : Prop :=
  x = .returned (.tuple #[O.encO r.2.1, .int .i64 r.1]) ∧ ∃ sl' og', StAt B w' q bm sl' ql og' r.2.2 ∧ STurn B w w' q bm sl sl' ql og og'
theorem store_rowTo_o {B : Nat} {W : World} {q bm : Nat} {sl : Value} {ql : Nat} {og : Option Nat} {s : St} (h : StAt B W q bm sl ql og s) {g : Nat} (hg : g ≠ q ∧ g ≠ bm ∧ sl.ownBlock ≠ some g ∧ g ≠ ql ∧ some g ≠ og) (cs : Array Value) : StAt B (W.setRow g cs) q bm sl ql og s :=
  ⟨h.box.of_heap (setRow_other W g q cs (fun e => hg.1 e.symm)), h.map.of_heap (setRow_other W g bm cs (fun e => hg.2.1 e.symm)), h.evs.of_heap fun k hk => setRow_other W g k cs (fun e => hg.2.2.1 (by rw [← e]; exact hk)), h.log.of_heap (setRow_other W g ql cs (fun e => hg.2.2.2.1 e.symm)) fun k hk => setRow_other W g k cs (fun e => hg.2.2.2.2 (by rw [← e, hk])), h.low, h.lowm, h.good⟩
theorem StAt.far {B : Nat} {W : World} {q bm : Nat} {sl : Value} {ql : Nat} {og : Option Nat} {s : St} (h : StAt B W q bm sl ql og s) {g : Nat} (hg : W.heap.size ≤ g) : g ≠ q ∧ g ≠ bm ∧ sl.ownBlock ≠ some g ∧ g ≠ ql ∧ some g ≠ og :=
  ⟨by have := h.box.lt; omega, by have := h.map.lt; omega, fun e => by have := h.evs.lt e; omega, by have := h.log.lt; omega, fun e => by have := (h.log.own e.symm).1; omega⟩
theorem STurn.row {B : Nat} {w w' : World} {q bm : Nat} {sl sl' : Value} {ql : Nat} {og og' : Option Nat} (h : STurn B w w' q bm sl sl' ql og og') (hB : B ≤ w.heap.size) {g : Nat} (hg : w.heap.size ≤ g) (cs : Array Value) : STurn B w (w'.setRow g cs) q bm sl sl' ql og og' :=
  ⟨below_setRow h.below (by omega) cs, fun k hk h1 h2 h3 h4 h5 => (setRow_other w' g k cs (by omega)).trans (h.keep k hk h1 h2 h3 h4 h5), h.sl_, h.og_⟩
theorem wrote_same {s : St} {e : C.Ev} (h : (wrote s e).1 ≠ 0) : (wrote s e).2 = s := by
  by_cases h0 : (recC s.log e).1 = 0
  · rw [(wrote_ok h0).1] at h; exact absurd rfl h
  · rw [(wrote_no h0).1]
set_option maxRecDepth 100000 in
set_option maxHeartbeats 2000000 in
theorem putA_any {B : Nat} {q bm : Nat} {sl : Value} {ql : Nat} {og : Option Nat} {s : St} {w : World} (h : StAt B w q bm sl ql og s) (hB : B ≤ w.heap.size) (o : O.Obj) (hf : C.Fits o) :
    Calls Try.prog 6 #[.pointer (some ⟨q, 0, none⟩), O.encO o] w (PutA B q bm sl ql og (putS s o) w) := by
  have HST := Lib.hid h
  have HBW := Lib.hid hB
  obtain ⟨c, hc⟩ : ∃ c, putC s o = c := ⟨_, rfl⟩
  obtain ⟨pe, hpe⟩ : ∃ e, (if putC s o = 0 then putE s o else C.Ev0) = e := ⟨_, rfl⟩
  have HPU : Hid (∀ V, Below w.heap.size w V → Calls Try.prog 19 #[.pointer (some ⟨q, 0, none⟩), O.encO o] V (PutD c pe V)) := fun V hV => by
    have := put_any (h.after hV) o
    rwa [hpe, hc] at this
  have HWR : Hid (c = 0 → pe = putE s o ∧ ∀ V, Below w.heap.size w V → Calls Try.prog 20 #[.pointer (some ⟨q, 0, none⟩), C.encE pe] V (WrD B q bm sl ql og (wrote s pe) V)) := fun e => by
    have h1 : pe = putE s o := hpe.symm.trans (if_pos (hc.trans e))
    refine ⟨h1, fun V hV => ?_⟩
    rw [h1]
    exact write_any (h.after hV) (Nat.le_trans hB hV.size) (putE s o) (next_u64 h.few) (put_fits h.good h.few hf)
  obtain ⟨r, hr⟩ : ∃ r, putS s o = r := ⟨_, rfl⟩
  rw [hr]
  have hrn : c ≠ 0 → r = (c, O.O0, s) := fun e => by rw [← hr]; unfold putS; rw [if_neg (by rw [hc]; exact e), hc]
  have hry : c = 0 → pe = putE s o → r = if (wrote s pe).1 = 0 then (0, pe.object, (wrote s pe).2) else ((wrote s pe).1, O.O0, s) := fun e1 e2 => by
    rw [← hr, e2]; unfold putS; rw [if_pos (hc.trans e1)]; rfl
  have HRN := Lib.hid hrn
  have HRY := Lib.hid hry
  have hb0 : Below w.heap.size w ((w.alloc (.cells (O.cellsO o) 30 (0, 0))).alloc (.cells (O.cellsO O.O0) 30 (0, 0))) := ((Below.refl _ _).alloc (Nat.le_refl _) _).alloc (by simp) _
  have HB0 := Lib.hid hb0
  clear h hB hc hpe hr hrn hry hb0 hf
  unfold O.encO
  go_enter Try.func6, Try.ntmps6
  go_upto_region 1 with (fail)
  refine O.wp_gen (fun W => O.BoxO W w.heap.size o ∧ O.BoxO W (w.heap.size + 1) O.O0 ∧ Below w.heap.size w W) ⟨(O.BoxO.new w o).alloc _, heap_alloc2_new w _ _, HB0.out⟩ ?_
  rintro W1 ⟨hbo, hn, hlow⟩
  clear HB0
  go_upto_region 3 with (fail)
  go_wp2_with (first | ((with_reducible refine O.wpList_load_obj ?_ rfl ?_ hbo ?_); rfl; rfl) | (go_at_call 19; refine (HPU.out _ hlow).mono ?_))
  rintro e W2 hw
  obtain ⟨rfl, hb2⟩ := hw
  replace hn := hn.after hb2
  replace hlow := hlow.trans (hb2.mono hlow.size)
  clear hb2 hbo HPU
  go_upto_region 4 with ((with_reducible refine wpList_store_rowTo rfl 45 _ _ rfl rfl W2.heap.size (C.cellsE pe) ?_ ?_ 45 (C.cellsE C.Ev0) ?_ ?_ ?_ ?_ ?_); rfl; rfl; exact C.BoxE.new W2 C.Ev0; exact C.sizeEv; exact rfl; exact C.one_cellsE _)
  have HPB : Hid (w.heap.size + 1 < W2.heap.size) := hn.lt
  obtain ⟨p, hp⟩ : ∃ p, W2.heap.size = p := ⟨_, rfl⟩
  refine O.wp_gen (fun V => C.BoxE V p pe ∧ O.BoxO V (w.heap.size + 1) O.O0 ∧ Below w.heap.size w V) ⟨by rw [← hp]; exact (C.BoxE.new W2 C.Ev0).setRow pe, (hn.alloc _).row (by have := HPB.out; omega) _, below_setRow (hlow.trans (((Below.refl _ _).alloc (Nat.le_refl _) _).mono hlow.size)) hlow.size _⟩ ?_
  rw [hp] at HPB ⊢
  clear hn hlow hp
  rintro W3 ⟨hbe, hn, hlow⟩
  by_cases hc : c = 0
  · subst hc
    obtain ⟨h1, h2⟩ := HWR.out rfl
    have HRY2 := Lib.hid (HRY.out rfl h1)
    have hwsame : (wrote s pe).1 ≠ 0 → (wrote s pe).2 = s := wrote_same
    have HW4 := Lib.hid (h2 W3 hlow)
    obtain ⟨wr, hwr⟩ : ∃ z, wrote s pe = z := ⟨_, rfl⟩
    rw [hwr] at HW4 HRY2 hwsame
    obtain ⟨wc, ws⟩ := wr
    have HWS : Hid (wc ≠ 0 → ws = s) := hwsame
    have HHB := Lib.hid hbe
    have HHN := Lib.hid hn
    have HHL := Lib.hid hlow
    clear h1 h2 hwsame hwr HWR HRY HRN hn hlow
    go_wp2_with (first | ((with_reducible refine C.wpList_load_ev ?_ rfl ?_ hbe ?_); rfl; rfl) | (go_at_call 20; refine HW4.out.mono ?_))
    rintro x W4 hw
    obtain ⟨rfl, sl4, og4, hs4, ht4⟩ := hw
    clear hbe
    have far0 := fun (g : Nat) (hg : w.heap.size ≤ g) => HST.out.far hg
    have far4 : ∀ g, w.heap.size ≤ g → g < W3.heap.size → (g ≠ q ∧ g ≠ bm ∧ sl4.ownBlock ≠ some g ∧ g ≠ ql ∧ some g ≠ og4) := fun g h1 h2 => by
      have f := far0 g h1
      refine ⟨f.1, f.2.1, fun e => ?_, f.2.2.2.1, fun e => ?_⟩
      · rcases ht4.sl_ g e with h3 | h3
        · exact f.2.2.1 h3
        · omega
      · rcases ht4.og_ g e.symm with h3 | h3
        · exact f.2.2.2.2 h3.symm
        · omega
    have keep4 : ∀ g, w.heap.size ≤ g → g < W3.heap.size → W4.heap[g]? = W3.heap[g]? := fun g h1 h2 => by
      have f := far0 g h1
      exact ht4.keep g h2 f.1 f.2.1 f.2.2.1 f.2.2.2.1 f.2.2.2.2
    have hbe : C.BoxE W4 p pe := (keep4 p (by have := HPB.out; omega) HHB.out.lt).trans HHB.out
    have hn : O.BoxO W4 (w.heap.size + 1) O.O0 := (keep4 _ (by omega) HHN.out.lt).trans HHN.out
    have HT4 : Hid (STurn B w W4 q bm sl sl4 ql og og4) := (STurn.of_below HHL.out HBW.out).trans ht4
    have HFA := Lib.hid (far4 (w.heap.size + 1) (by omega) HHN.out.lt)
    have HS4 : Hid (StAt B W4 q bm sl4 ql og4 ws) := hs4
    clear far0 far4 keep4 hs4 ht4 HHB HHN HHL HW4
    by_cases hwc : wc = 0
    · subst hwc
      obtain rfl : r = (0, pe.object, ws) := HRY2.out.trans (if_pos rfl)
      go_wp2_with (first | ((with_reducible refine C.wpList_load_evo ?_ rfl ?_ hbe ?_); rfl; rfl) | ((with_reducible refine wpList_store_rowTo rfl 30 _ _ rfl rfl (w.heap.size + 1) (O.cellsO pe.object) ?_ ?_ 30 (O.cellsO O.O0) ?_ ?_ ?_ ?_ ?_); rfl; rfl; exact hn; exact O.sizeObj; exact O.sz_cells _ _; exact O.one_cells _))
      refine bodyPost_ret (v := .tuple #[O.encO pe.object, .int .i64 0]) (C.results_ct rfl rfl rfl (C.load_objV (hn.setRow pe.object))) rfl ⟨rfl, sl4, og4, store_rowTo_o HS4.out HFA.out _, HT4.out.row HBW.out (by omega) _⟩
    · obtain rfl : r = (wc, O.O0, s) := HRY2.out.trans (if_neg hwc)
      have hws := HWS.out hwc
      subst hws
      have hwb : (wc == 0) = false := by simpa using hwc
      go_wp2_with (first | ((with_reducible refine O.wpList_build_to rfl 30 #[] rfl (O.cellsO O.O0) ?_ ?_); (focus kernel_rfl)) | ((with_reducible refine wpList_store_rowTo rfl 30 _ _ rfl rfl (w.heap.size + 1) (O.cellsO O.O0) ?_ ?_ 30 (O.cellsO O.O0) ?_ ?_ ?_ ?_ ?_); rfl; rfl; exact hn; exact O.sizeObj; exact O.sz_cells _ _; exact O.one_cells _))
      refine bodyPost_ret (v := .tuple #[O.encO O.O0, .int .i64 wc]) (C.results_ct rfl rfl rfl (C.load_objV (hn.setRow O.O0))) rfl ⟨rfl, sl4, og4, store_rowTo_o HS4.out HFA.out _, HT4.out.row HBW.out (by omega) _⟩
  · obtain rfl : r = (c, O.O0, s) := HRN.out hc
    have hcb : (c == 0) = false := by simpa using hc
    clear hbe
    go_wp2_with (first | ((with_reducible refine O.wpList_build_to rfl 30 #[] rfl (O.cellsO O.O0) ?_ ?_); (focus kernel_rfl)) | ((with_reducible refine wpList_store_rowTo rfl 30 _ _ rfl rfl (w.heap.size + 1) (O.cellsO O.O0) ?_ ?_ 30 (O.cellsO O.O0) ?_ ?_ ?_ ?_ ?_); rfl; rfl; exact hn; exact O.sizeObj; exact O.sz_cells _ _; exact O.one_cells _))
    refine bodyPost_ret (v := .tuple #[O.encO O.O0, .int .i64 c]) (C.results_ct rfl rfl rfl (C.load_objV (hn.setRow O.O0))) rfl ⟨rfl, sl, og, HST.out.after (below_setRow hlow (by omega) _), STurn.of_below (below_setRow hlow (by omega) _) HBW.out⟩
end Go.Proofs.Ytfndiocohaploaa.S
namespace Go.Proofs.Ytfndiocohaploaa.S
open Go Go.RowKit Go.Lib KM
def ForkD (s : L.Lg) (w : World) (e : Ending) (w' : World) : Prop := ∃ og', e = .returned (.pointer (some ⟨w.heap.size, 0, none⟩)) ∧ L.IsLog w.heap.size w' w.heap.size og' s ∧ Below w.heap.size w w'
def NewS (s : St) (w : World) (e : Ending) (w' : World) : Prop := ∃ q bm sl ql og, e = .returned (.pointer (some ⟨q, 0, none⟩)) ∧ StAt w.heap.size w' q bm sl ql og s ∧ Below w.heap.size w w'
theorem StAt.rebase {B C : Nat} {W : World} {q bm : Nat} {sl : Value} {ql : Nat} {og : Option Nat} {s : St} (h : StAt B W q bm sl ql og s) (hC : C ≤ B) : StAt C W q bm sl ql og s := by
  refine ⟨h.box, h.map, ⟨h.evs.1, ?_⟩, ⟨?_, h.log.most, by have := h.log.low; omega⟩, by have := h.low; omega, by have := h.lowm; omega, h.good⟩
  · rcases h.evs.2 with h1 | ⟨g, cap, cur, h1, h2, h3⟩
    · exact .inl h1
    · exact .inr ⟨g, cap, cur, h1, by omega, h3⟩
  · obtain ⟨v, k, h1, h2, h3⟩ := h.log.at_
    refine ⟨v, k, h1, ⟨h2.1, ?_⟩, h3⟩
    rcases h2.2 with h4 | ⟨g, cap, cur, h4, h5, h6⟩
    · exact .inl h4
    · exact .inr ⟨g, cap, cur, h4, by omega, h6⟩
theorem clean_nil {l : L.Lg} (h : L.recs l.b = []) : L.cleanS l = ⟨l.most, 0, []⟩ := by
  unfold L.cleanS
  rw [h]
  simp [L.blks]
set_option maxRecDepth 100000 in
set_option maxHeartbeats 1000000 in
theorem open0_any {B : Nat} {ql : Nat} {og : Option Nat} {l : L.Lg} {w : World} (h : L.IsLog B w ql og l) (hr : L.recs l.b = []) :
    Calls Try.prog 18 #[.pointer (some ⟨ql, 0, none⟩)] w (NewS ⟨[], [], ⟨l.most, 0, []⟩⟩ w) := by
  have hb0 : Below w.heap.size w (w.alloc (.map #[] 0)) := (Below.refl _ _).alloc (Nat.le_refl _) _
  have HFK : Hid (Calls Try.prog 23 #[.pointer (some ⟨ql, 0, none⟩)] (w.alloc (.map #[] 0)) (ForkD l (w.alloc (.map #[] 0)))) := L.fork_any B ql og l _ (h.after hb0)
  have HM0 : Hid ((w.alloc (.map #[] 0)).heap[w.heap.size]? = some (.map #[] 0)) := heap_alloc_new w _
  have HB0 := Lib.hid hb0
  have HCN : Hid (L.cleanS l = ⟨l.most, 0, []⟩) := clean_nil hr
  have HSZ : Hid ((w.alloc (.map #[] 0)).heap.size = w.heap.size + 1) := by show _ = _; simp
  have hmk : (Instr.makeMap tM none).run Try.prog w = .ok (.map (some w.heap.size)) (w.alloc (.map #[] 0)) := by kernel_rfl
  clear h hr hb0
  go_enter Try.func18, Try.ntmps18
  go_wp2_with (go_at_call 23; refine HFK.out.mono ?_)
  rintro e W1 hfk
  obtain ⟨og1, rfl, hl1, hb1⟩ := hfk
  rw [HSZ.out] at hl1 hb1 ⊢
  obtain ⟨B0, hB0⟩ : ∃ b, w.heap.size = b := ⟨_, rfl⟩
  rw [hB0] at hl1 hb1 HM0 HSZ HB0 ⊢
  have HQB := Lib.hid hB0
  obtain ⟨q, hq⟩ : ∃ q, W1.heap.size = q := ⟨_, rfl⟩
  have hlow1 : Below B0 w W1 := HB0.out.trans (hb1.mono (by omega))
  have hmap1 : W1.heap[B0]? = some (.map #[] 0) := (hb1.block B0 (by omega)).trans HM0.out
  have hlog1 : L.IsLog B0 W1 (B0 + 1) og1 l := ⟨by
    obtain ⟨v, k, h1, h2, h3⟩ := hl1.at_
    refine ⟨v, k, h1, ⟨h2.1, ?_⟩, h3⟩
    rcases h2.2 with h | ⟨g, cap, cur, h4, h5, h6⟩
    · exact .inl h
    · exact .inr ⟨g, cap, cur, h4, by omega, h6⟩, hl1.most, by omega⟩
  have hal : Below W1.heap.size W1 (W1.alloc (.cells (cellsS B0 (.slice none 0 0) (B0 + 1)) tSt (0, 0))) := (Below.refl _ _).alloc (Nat.le_refl _) _
  have hst : StAt B0 (W1.alloc (.cells (cellsS B0 (.slice none 0 0) (B0 + 1)) tSt (0, 0))) q B0 (.slice none 0 0) (B0 + 1) og1 ⟨[], [], l⟩ :=
    ⟨by rw [← hq]; exact heap_alloc_new W1 _, ⟨#[], 0, (hal.block B0 (Array.getElem?_eq_some_iff.1 hmap1).1).trans hmap1, rfl⟩, EvsAt.nil _ _, hlog1.after hal, by rw [← hq]; have := hlow1.size; omega, Nat.le_refl _, ⟨List.nodup_nil, fun p hp => absurd hp (by simp), Nat.zero_le _⟩⟩
  have HST := Lib.hid hst
  have HLW : Hid (Below B0 w (W1.alloc (.cells (cellsS B0 (.slice none 0 0) (B0 + 1)) tSt (0, 0)))) := hlow1.trans (hal.mono (by have := hlow1.size; omega))
  clear hl1 hb1 hlow1 hmap1 hlog1 hal hst HM0 HB0 HSZ HFK hB0
  go_upto_region 4 with (fail)
  refine O.wp_gen (fun V => StAt B0 V q B0 (.slice none 0 0) (B0 + 1) og1 ⟨[], [], l⟩ ∧ Below B0 w V) ⟨HST.out, HLW.out⟩ ?_
  clear HST HLW hq
  rintro W2 ⟨hs, hb⟩
  have HST := Lib.hid hs
  have HLW := Lib.hid hb
  have HCL := Lib.hid (L.clean_any B0 (B0 + 1) og1 l W2 hs.log)
  have c2 := hs.box.c2
  clear hs hb
  go_wp2_with (go_at_call 35; refine HCL.out.mono ?_)
  rintro e W3 ⟨rfl, og3, hl3, ht3⟩
  rw [show ((0, L.cleanS l) : Int × L.Lg).2 = ⟨l.most, 0, []⟩ from HCN.out] at hl3
  have hs3 := HST.out.turn hl3 ht3 ⟨List.nodup_nil, fun p hp => absurd hp (by simp), Nat.zero_le _⟩
  have HS3 := Lib.hid hs3
  have HL3 : Hid (Below B0 w W3) := HLW.out.trans ht3.below
  have HRC : Hid (Calls Try.prog 9 #[.pointer (some ⟨B0 + 1, 0, none⟩)] W3 (L.RecsD [] W3)) := L.recsD_any B0 (B0 + 1) og3 ⟨l.most, 0, []⟩ W3 hl3
  have c2 := hs3.box.c2
  clear hl3 ht3 hs3 HST HLW HCL
  go_wp2_with (go_at_call 9; refine HRC.out.mono ?_)
  rintro e W4 hrc
  obtain ⟨v4, rfl, hr4, hb4⟩ := hrc
  obtain ⟨a4, c4, rfl⟩ := hr4.shape
  have HS4 := Lib.hid (HS3.out.after hb4)
  have HL4 : Hid (Below B0 w W4) := HL3.out.trans (hb4.mono (by have := HL3.out.size; have := HS3.out.map.lt; omega))
  clear hr4 hb4 HRC HS3 HL3 c2
  go_wp2
  go_loopw [24] (fun iv wr => iv = .int .i64 0 ∧ wr = W4) (fun _ _ => 0)
  case atStart => exact ⟨rfl, rfl⟩
  case round =>
    obtain ⟨rfl, rfl⟩ := hrel
    go_wp2
    go_ret
    exact ⟨q, B0, _, B0 + 1, og3, rfl, by rw [HQB.out]; exact HS4.out, by rw [HQB.out]; exact HL4.out⟩
theorem new_s (n : Nat) (w : World) (h1 : 1 ≤ n) (h2 : n ≤ 4096) : Calls Try.prog 5 #[.int .i64 (n : Int)] w (NewS ⟨[], [], ⟨n, 0, []⟩⟩ w) := by
  have HNW := Lib.hid (L.new_any n w h1 h2)
  have HOP : Hid (∀ V, L.IsLog w.heap.size V w.heap.size none ⟨n, 0, []⟩ → Calls Try.prog 18 #[.pointer (some ⟨w.heap.size, 0, none⟩)] V (NewS ⟨[], [], ⟨n, 0, []⟩⟩ V)) := fun V h => open0_any h rfl
  go_enter Try.func5, Try.ntmps5
  go_wp2_with (go_at_call 15; refine HNW.out.mono ?_)
  rintro e W1 ⟨rfl, hl, hb⟩
  have HO := Lib.hid (HOP.out W1 hl)
  have HB := Lib.hid hb
  clear hl hb HOP HNW
  go_wp2_with (go_at_call 18; refine HO.out.mono ?_)
  rintro e W2 hn
  obtain ⟨q, bm, sl, ql, og, rfl, hs, hb2⟩ := hn
  have HS := Lib.hid hs
  have HB2 : Hid (Below w.heap.size w W2) := HB.out.trans (hb2.mono HB.out.size)
  have HSZ := Lib.hid HB.out.size
  clear hs hb2
  go_wp2
  go_ret
  exact ⟨q, bm, sl, ql, og, rfl, HS.out.rebase HSZ.out, HB2.out⟩
end Go.Proofs.Ytfndiocohaploaa.S
namespace Go.Proofs.Ytfndiocohaploaa.S
open Go Go.RowKit Go.Lib KM
theorem exec_build {o : Oper} {a : Act} {w : World} (t : TypeId) (parts : Array (Nat × Operand)) (ho : o.op = .build t parts) (cs : Array Value)
    (hf : Try.prog.built t (parts.toList.map fun (i, x) => (i, a.eval x)) = some cs) : (execOp a.eval o).run Try.prog w = .ok (.value (.agg cs)) w := by
  have h : Try.prog.built t (parts.map fun (i, x) => (i, a.eval x)).toList = some cs := by rw [Array.toList_map]; exact hf
  unfold execOp
  simp only [ho, Sem.run_bind, run_build w t _ cs h, Result.andThen_ok]
  rfl
theorem store_e {W : World} {b : Nat} {x y : C.Ev} (h : C.BoxE W b x) {oi : Oper} {a : Act} {p q : Operand} (ho : oi.op = .store 45 p q) (hx : a.eval p = .pointer (some ⟨b, 0, none⟩)) (hy : a.eval q = C.encE y) :
    (execOp a.eval oi).run Try.prog W = .ok .skip (W.setRow b (C.cellsE y)) := by
  have hq := run_storeVar_row (P := Try.prog) W b 45 45 (C.cellsE x) (C.cellsE y) h C.sizeEv rfl (C.one_cellsE _)
  have hy' : a.eval q = .agg (C.cellsE y) := hy
  unfold execOp
  simp only [ho, hx, hy', Sem.run_bind, Instr.storeAt, Instr.sureAddr, Sem.run_pure, Result.andThen_ok]
  rw [hq]
  rfl
def SomeE (W : World) (b : Nat) : Prop := ∃ x, C.BoxE W b x
theorem SomeE.after {W W' : World} {b : Nat} (h : SomeE W b) (hb : Below W.heap.size W W') : SomeE W' b := h.imp fun _ hx => hx.after hb
def EvD (e : C.Ev) (w : World) (x : Ending) (w' : World) : Prop := x = .returned (C.encE e) ∧ Below w.heap.size w w'
theorem results_c1 {P : Program} {fn : Func} {tmps : Array Value} {p : Nat} {ty : TypeId} {g : Nat} {x : Value} {w : World} (h : fn.results = #[.cell p ty]) (hp : tmps.getD p undef = .pointer (some ⟨g, 0, none⟩)) (h1 : (loadVar ty ⟨g, 0, none⟩).run P w = .ok x w) : (results fn tmps).run P w = .ok x w := by
  have hp' : tmps[p]?.getD undef = .pointer (some ⟨g, 0, none⟩) := by simpa using hp
  simp [results, h, hp', asAddr, h1]
set_option maxRecDepth 100000 in
set_option maxHeartbeats 1000000 in
theorem taken_any {B : Nat} {q bm : Nat} {sl : Value} {ql : Nat} {og : Option Nat} {s : St} {w : World} (h : StAt B w q bm sl ql og s) (o : O.Obj) :
    Calls Try.prog 21 #[.pointer (some ⟨q, 0, none⟩), O.encO o] w (EvD ⟨s.next, true, o⟩ w) := by
  have HNX : Hid (∀ V, Below w.heap.size w V → Calls Try.prog 40 #[.pointer (some ⟨q, 0, none⟩)] V fun e w' => e = .returned (.int .u64 s.next) ∧ Below V.heap.size V w') := fun V hV => (next_any (h.after hV)).mono fun e w' ⟨h1, h2⟩ => ⟨h1, h2 ▸ Below.refl _ _⟩
  obtain ⟨nx, hnx⟩ : ∃ n, s.next = n := ⟨_, rfl⟩
  rw [hnx] at HNX ⊢
  have HB0 : Hid (Below w.heap.size w ((w.alloc (.cells (O.cellsO o) 30 (0, 0))).alloc (C.objE C.Ev0))) := ((Below.refl _ _).alloc (Nat.le_refl _) _).alloc (by simp) _
  clear h hnx
  unfold O.encO
  go_enter Try.func21, Try.ntmps21
  go_upto_region 1 with (fail)
  refine O.wp_gen (fun W => O.BoxO W w.heap.size o ∧ C.BoxE W (w.heap.size + 1) C.Ev0 ∧ Below w.heap.size w W) ⟨(O.BoxO.new w o).alloc _, heap_alloc2_new w _ _, HB0.out⟩ ?_
  rintro W1 ⟨hbo, hn, hlow⟩
  have HO := Lib.hid hbo
  have HE : Hid (SomeE W1 (w.heap.size + 1)) := ⟨_, hn⟩
  have HW := Lib.hid hlow
  clear HB0 hbo hn hlow
  refine wp_region_held_drew (S := fun V => O.BoxO V w.heap.size o ∧ SomeE V (w.heap.size + 1) ∧ Below w.heap.size w V) (by kernel_rfl) ⟨HO.out, HE.out, HW.out.drew⟩ (fun _ => ?_)
  refine HeldBy.gen (fun V => O.BoxO V w.heap.size o ∧ SomeE V (w.heap.size + 1) ∧ Below w.heap.size w V) ⟨HO.out, HE.out, HW.out.drew⟩ ?_
  clear HO HE HW
  rintro U0 HS
  refine HeldBy.take (i := 0) rfl (by kernel_rfl) (by kernel_rfl) (by kernel_rfl) (fun _ _ _ h => h) (by rfl) (fun _ _ => by first | (go_simp; rfl) | (go_simp; done)) (by first | (go_simp; rfl) | (go_simp; done)) HS ?_
  refine HeldBy.take (i := 2) (v := O.encO o) rfl (by kernel_rfl) (by kernel_rfl) (by kernel_rfl) (fun _ _ _ h => h) (by rfl) (fun V hV => O.load_obj hV.1 rfl rfl) (by first | (go_simp; rfl) | (go_simp; done)) HS ?_
  refine HeldBy.call (i := 1) (v := .int .u64 nx) rfl (by kernel_rfl) (by rfl) (by first | (go_simp; done) | (go_simp; first | exact ⟨rfl, rfl⟩ | rfl)) (by first | (go_simp; rfl) | (go_simp; done)) ?_
  refine (HNX.out _ HS.2.2).mono ?_
  rintro e U1 ⟨rfl, hb⟩
  replace HS : O.BoxO U1 w.heap.size o ∧ SomeE U1 (w.heap.size + 1) ∧ Below w.heap.size w U1 := ⟨HS.1.after hb, HS.2.1.after hb, HS.2.2.trans (hb.mono HS.2.2.size)⟩
  refine ⟨rfl, HS, ?_⟩
  clear hb
  refine HeldBy.take (i := 3) (v := C.encE ⟨nx, true, o⟩) rfl (by kernel_rfl) (by kernel_rfl) (by kernel_rfl) (fun _ _ _ h => h) (by rfl) (fun V hV => exec_build 45 #[(0, .tmp 6), (1, .const (.bool true)), (2, .tmp 7)] rfl (C.cellsE ⟨nx, true, o⟩) (by kernel_rfl)) (by first | (go_simp; rfl) | (go_simp; done)) HS ?_
  obtain ⟨hso, ⟨x0, hse⟩, hsw⟩ := HS
  have hfin : Below w.heap.size w (U1.setRow (w.heap.size + 1) (C.cellsE ⟨nx, true, o⟩)) := below_setRow hsw (by omega) _
  have hbx : C.BoxE (U1.setRow (w.heap.size + 1) (C.cellsE ⟨nx, true, o⟩)) (w.heap.size + 1) ⟨nx, true, o⟩ := hse.setRow _
  refine HeldBy.store (i := 4) (w' := U1.setRow (w.heap.size + 1) (C.cellsE ⟨nx, true, o⟩)) rfl (by kernel_rfl) (by rfl) (store_e hse rfl rfl rfl) (by first | (go_simp; rfl) | (go_simp; done)) ⟨hso.row (by omega) _, ⟨_, hbx⟩, hfin⟩ ?_
  refine wpAnyH_done (by kernel_rfl) ?_ _
  have HFI := Lib.hid hfin
  have HBX := Lib.hid hbx
  clear hso hse hsw hfin hbx
  go_wp2
  refine bodyPost_ret (v := C.encE ⟨nx, true, o⟩) (results_c1 rfl rfl (C.load_evV HBX.out)) rfl ⟨rfl, HFI.out⟩
set_option maxRecDepth 100000 in
set_option maxHeartbeats 1000000 in
theorem marked_any {B : Nat} {q bm : Nat} {sl : Value} {ql : Nat} {og : Option Nat} {s : St} {w : World} (h : StAt B w q bm sl ql og s) (o : O.Obj) :
    Calls Try.prog 22 #[.pointer (some ⟨q, 0, none⟩), O.encO o] w (EvD ⟨s.next, false, markO s o⟩ w) := by
  have HNX : Hid (∀ V, Below w.heap.size w V → Calls Try.prog 40 #[.pointer (some ⟨q, 0, none⟩)] V fun e w' => e = .returned (.int .u64 s.next) ∧ w' = V) := fun V hV => next_any (h.after hV)
  have hmo : markO s o = { o with version := s.next, deleting := true } := rfl
  obtain ⟨nx, hnx⟩ : ∃ n, s.next = n := ⟨_, rfl⟩
  rw [hmo]
  rw [hnx] at HNX ⊢
  have HB0 : Hid (Below w.heap.size w ((w.alloc (.cells (O.cellsO o) 30 (0, 0))).alloc (C.objE C.Ev0))) := ((Below.refl _ _).alloc (Nat.le_refl _) _).alloc (by simp) _
  obtain ⟨po, hpo⟩ : ∃ x, ({ o with version := nx, deleting := true } : O.Obj) = x := ⟨_, rfl⟩
  rw [hpo]
  have HPO := Lib.hid hpo
  have HPV : Hid (po.version = nx) := by show po.version = nx; rw [← hpo]
  clear h hnx hmo hpo
  unfold O.encO
  go_enter Try.func22, Try.ntmps22
  go_upto_region 1 with (fail)
  refine O.wp_gen (fun W => O.BoxO W w.heap.size o ∧ C.BoxE W (w.heap.size + 1) C.Ev0 ∧ Below w.heap.size w W) ⟨(O.BoxO.new w o).alloc _, heap_alloc2_new w _ _, HB0.out⟩ ?_
  rintro W1 ⟨hbo, hn, hlow⟩
  clear HB0
  have a2 := hbo.c2
  have f2 := hbo.free 2
  go_upto_region 2 with (go_at_call 40; refine (HNX.out _ hlow).mono ?_; rintro e _ ⟨rfl, rfl⟩)
  refine O.wp_gen (fun V => O.BoxO V w.heap.size { o with version := nx } ∧ C.BoxE V (w.heap.size + 1) C.Ev0 ∧ Below w.heap.size w V) ⟨hbo.s2 nx, (heap_setCell_other _ ⟨w.heap.size, 2, none⟩ _ _ (by simp)).trans hn, hlow.setCell (p := ⟨w.heap.size, 2, none⟩) (Nat.le_refl _) _⟩ ?_
  clear hbo hn hlow a2 f2
  rintro W2 ⟨hbo, hn, hlow⟩
  have a4 := hbo.c4
  have f4 := hbo.free 4
  go_upto_region 3 with (fail)
  refine O.wp_gen (fun V => O.BoxO V w.heap.size po ∧ C.BoxE V (w.heap.size + 1) C.Ev0 ∧ Below w.heap.size w V) ⟨by rw [← HPO.out]; exact hbo.s4 true, (heap_setCell_other _ ⟨w.heap.size, 4, none⟩ _ _ (by simp)).trans hn, hlow.setCell (p := ⟨w.heap.size, 4, none⟩) (Nat.le_refl _) _⟩ ?_
  clear hbo hn hlow a4 f4
  rintro W3 ⟨hbo, hn, hlow⟩
  have a2 := hbo.c2
  rw [HPV.out] at a2
  go_wp2_with (first | ((with_reducible refine O.wpList_load_obj ?_ rfl ?_ hbo ?_); rfl; rfl) | ((with_reducible refine O.wpList_build_to rfl 45 #[(0, .tmp 10), (2, .tmp 11)] rfl (C.cellsE ⟨nx, false, po⟩) ?_ ?_); (focus kernel_rfl)) | ((with_reducible refine wpList_store_rowTo rfl 45 _ _ rfl rfl (w.heap.size + 1) (C.cellsE ⟨nx, false, po⟩) ?_ ?_ 45 (C.cellsE C.Ev0) ?_ ?_ ?_ ?_ ?_); rfl; rfl; exact hn; exact C.sizeEv; exact rfl; exact C.one_cellsE _))
  refine bodyPost_ret (v := C.encE ⟨nx, false, po⟩) (results_c1 rfl rfl (C.load_evV (hn.setRow ⟨nx, false, po⟩))) rfl ⟨rfl, below_setRow hlow (by omega) _⟩
end Go.Proofs.Ytfndiocohaploaa.S
namespace Go.Proofs.Ytfndiocohaploaa.S
open Go Go.RowKit Go.Lib KM
theorem mark_fits {s : St} (h : s.evs.length ≤ 4096) {o : O.Obj} (hf : C.Fits o) : C.Fits (markO s o) :=
  ⟨hf.name, hf.cls, hf.zone, hf.node, hf.claim, hf.volume, hf.source, next_u64 h, hf.born, hf.num, hf.tag⟩
set_option maxRecDepth 100000 in
set_option maxHeartbeats 1000000 in
theorem del_any {B : Nat} {q bm : Nat} {sl : Value} {ql : Nat} {og : Option Nat} {s : St} {w : World} (h : StAt B w q bm sl ql og s) (hB : B ≤ w.heap.size) (k : Ky) :
    Calls Try.prog 7 #[.pointer (some ⟨q, 0, none⟩), encKy k] w (WrD B q bm sl ql og (delS s k) w) := by
  have HST := Lib.hid h
  have HBW := Lib.hid hB
  have HWR : Hid (∀ e : C.Ev, C.U64 e.version → C.Fits e.object → ∀ V, Below w.heap.size w V → Calls Try.prog 20 #[.pointer (some ⟨q, 0, none⟩), C.encE e] V (WrD B q bm sl ql og (wrote s e) V)) := fun e h1 h2 V hV => write_any (h.after hV) (Nat.le_trans hB hV.size) e h1 h2
  have HTK : Hid (∀ o V, Below w.heap.size w V → Calls Try.prog 21 #[.pointer (some ⟨q, 0, none⟩), O.encO o] V (EvD ⟨s.next, true, o⟩ V)) := fun o V hV => taken_any (h.after hV) o
  have HMK : Hid (∀ o V, Below w.heap.size w V → Calls Try.prog 22 #[.pointer (some ⟨q, 0, none⟩), O.encO o] V (EvD ⟨s.next, false, markO s o⟩ V)) := fun o V hV => marked_any (h.after hV) o
  have HFE := Lib.hid h.few
  have HNU : Hid (C.U64 s.next) := next_u64 h.few
  have HGF : Hid (∀ o, s.get k = some o → C.Fits o) := fun o ho => (h.good.of ho).2
  obtain ⟨g, hg⟩ : ∃ g, gotO (s.get k) = g := ⟨_, rfl⟩
  obtain ⟨ok, hok⟩ : ∃ b, (s.get k).isSome = b := ⟨_, rfl⟩
  have HG := Lib.hid hg
  have HOK := Lib.hid hok
  have HNO : Hid (ok = false → delS s k = (5, s)) := fun e => by
    unfold delS
    cases hs : s.get k with
    | none => rfl
    | some o => rw [hs, e] at hok; cases hok
  have HYE : Hid (ok = true → s.get k = some g ∧ delS s k = if g.hold = false then wrote s ⟨s.next, true, g⟩ else if g.deleting then (0, s) else wrote s ⟨s.next, false, markO s g⟩) := fun e => by
    unfold delS
    cases hs : s.get k with
    | none => rw [hs, e] at hok; cases hok
    | some o =>
      rw [hs] at hg
      obtain rfl : o = g := hg
      exact ⟨rfl, rfl⟩
  obtain ⟨r, hr⟩ : ∃ r, delS s k = r := ⟨_, rfl⟩
  rw [hr] at HNO HYE ⊢
  have HB0 : Hid (Below w.heap.size w (w.alloc (.cells #[.int .u8 k.1, .string k.2] 36 (0, 0)))) := (Below.refl _ _).alloc (Nat.le_refl _) _
  clear h hB hg hok hr
  unfold encKy O.encK
  go_enter Try.func7, Try.ntmps7
  go_upto_region 1 with (fail)
  refine O.wp_gen (fun W => KAt W w.heap.size k ∧ Below w.heap.size w W) ⟨heap_alloc_new w _, HB0.out⟩ ?_
  rintro W1 ⟨hka, hlow⟩
  have HKA := Lib.hid hka
  have HW := Lib.hid hlow
  clear HB0 hka hlow
  go_upto_region 3 with (fail)
  refine wp_region_held_drew (S := fun V => KAt V w.heap.size k ∧ Below w.heap.size w V) (by kernel_rfl) ⟨HKA.out, HW.out.drew⟩ (fun _ => ?_)
  refine HeldBy.gen (fun V => KAt V w.heap.size k ∧ Below w.heap.size w V) ⟨HKA.out, HW.out.drew⟩ ?_
  clear HKA HW
  rintro U0 HS
  refine HeldBy.take (i := 0) rfl (by kernel_rfl) (by kernel_rfl) (by kernel_rfl) (fun _ _ _ h => h) (by rfl) (fun _ _ => by first | (go_simp; rfl) | (go_simp; done)) (by go_simp; rfl) HS ?_
  refine HeldBy.take (i := 1) rfl (by kernel_rfl) (by kernel_rfl) (by kernel_rfl) (fun _ _ _ h => h) (by rfl) (fun _ _ => by first | (go_simp; rfl) | (go_simp; done)) (by go_simp; rfl) HS ?_
  refine HeldBy.take (i := 2) rfl (by kernel_rfl) (by kernel_rfl) (by kernel_rfl) (fun _ _ _ h => h) (by rfl) (fun _ _ => by first | (go_simp; rfl) | (go_simp; done)) (by go_simp; rfl) HS ?_
  refine HeldBy.take (i := 3) (v := .map (some bm)) rfl (by kernel_rfl) (by kernel_rfl) (by kernel_rfl) (fun _ _ _ h => h) (by rfl) (fun V hV => by have hc := (HST.out.after hV.2).box.c0; first | (go_simp; rfl) | (go_simp; done)) (by go_simp; rfl) HS ?_
  refine HeldBy.take (i := 4) rfl (by kernel_rfl) (by kernel_rfl) (by kernel_rfl) (fun _ _ _ h => h) (by rfl) (fun V hV => by have h0 := hV.1.c0; have h1 := hV.1.c1; first | (go_simp; rfl) | (go_simp; done)) (by go_simp; rfl) HS ?_
  refine HeldBy.take (i := 5) (v := .tuple #[O.encO g, .bool ok]) rfl (by kernel_rfl) (by kernel_rfl) (by kernel_rfl) (fun _ _ _ h => h) (by rfl) (fun V hV => by rw [← HG.out, ← HOK.out]; exact exec_look (HST.out.after hV.2).map rfl rfl rfl) (by go_simp; rfl) HS ?_
  refine HeldBy.take (i := 6) rfl (by kernel_rfl) (by kernel_rfl) (by kernel_rfl) (fun _ _ _ h => h) (by rfl) (fun _ _ => by first | (go_simp; rfl) | (go_simp; done)) (by go_simp; rfl) HS ?_
  refine HeldBy.take (i := 7) rfl (by kernel_rfl) (by kernel_rfl) (by kernel_rfl) (fun _ _ _ h => h) (by rfl) (fun _ _ => by first | (go_simp; rfl) | (go_simp; done)) (by go_simp; rfl) HS ?_
  refine HeldBy.take (i := 8) rfl (by kernel_rfl) (by kernel_rfl) (by kernel_rfl) (fun _ _ _ h => h) (by rfl) (fun _ _ => by first | (go_simp; rfl) | (go_simp; done)) (by go_simp; rfl) HS ?_
  have HSS : ∀ w', Below U0.heap.size U0 w' → (KAt w' w.heap.size k ∧ Below w.heap.size w w') := fun w' hb => ⟨HS.1.after hb, HS.2.trans (hb.mono HS.2.size)⟩
  refine HeldBy.Goes.without (w0 := U0) (k := 9) (dk := some 5) (x := .cells (O.cellsO O.O0) 30 (0, 0)) ?_ U0 (Below.refl _ _)
  refine HeldBy.Goes.nil rfl rfl (by kernel_rfl) rfl (makes_o rfl) HSS rfl (fun p => by unfold HeldBy.ptr; go_simp; rfl) ?_
  intro p U1 hp hb hnew
  have hS := HSS U1 hb
  have hpo : O.BoxO U1 p O.O0 := hnew
  have hsz := HS.2.size
  have hlo := HS.1.lt
  have hS2 : KAt (U1.setRow p (O.cellsO g)) w.heap.size k ∧ Below w.heap.size w (U1.setRow p (O.cellsO g)) := ⟨(setRow_other U1 p w.heap.size _ (by omega)).trans hS.1, below_setRow hS.2 (by omega) _⟩
  refine HeldBy.store (i := 10) (w' := U1.setRow p (O.cellsO g)) rfl (by kernel_rfl) (by rfl) (store_o hpo rfl rfl rfl) (by first | (go_simp; rfl) | (go_simp; done)) hS2 ?_
  refine HeldBy.take (i := 11) rfl (by kernel_rfl) (by kernel_rfl) (by kernel_rfl) (fun _ _ _ h => h) (by rfl) (fun _ _ => by first | (go_simp; rfl) | (go_simp; done)) (by first | (go_simp; rfl) | (go_simp; done)) hS2 ?_
  refine wpAnyH_done (by kernel_rfl) ?_ _
  refine L.then_gen (fun V => Below w.heap.size w V ∧ O.BoxO V p g) ⟨hS2.2, hpo.setRow g⟩ ?_
  clear hS hpo hsz hlo hS2 HSS HS hnew hb hp
  rintro W3 ⟨hlow, hbp⟩
  cases ok with
  | false =>
    obtain rfl : r = (5, s) := HNO.out rfl
    go_wp2
    go_ret
    exact ⟨rfl, sl, og, HST.out.after hlow, STurn.of_below hlow HBW.out⟩
  | true =>
    obtain ⟨hgt, hre⟩ := HYE.out rfl
    have hft := HGF.out g hgt
    have c5 := hbp.c5
    have c4 := hbp.c4
    cases hh : g.hold with
    | false =>
      have hwr : wrote s ⟨s.next, true, g⟩ = r := (hre.trans (if_pos hh)).symm
      rw [hh] at c5
      have HT2 := Lib.hid (HTK.out g W3 hlow)
      have HW2 : Hid (∀ V, Below w.heap.size w V → Calls Try.prog 20 #[.pointer (some ⟨q, 0, none⟩), C.encE ⟨s.next, true, g⟩] V (WrD B q bm sl ql og (wrote s ⟨s.next, true, g⟩) V)) := HWR.out ⟨s.next, true, g⟩ HNU.out hft
      obtain ⟨e, he⟩ : ∃ e, (⟨s.next, true, g⟩ : C.Ev) = e := ⟨_, rfl⟩
      rw [hwr] at HW2
      rw [he] at HW2 HT2
      clear hgt hre hft hh he hwr c4
      go_wp2_with (first | ((with_reducible refine O.wpList_load_obj ?_ rfl ?_ hbp ?_); rfl; rfl) | (go_at_call 21; refine HT2.out.mono ?_))
      rintro x W4 hw
      obtain ⟨rfl, hb4⟩ := hw
      have HL4 : Hid (Below w.heap.size w W4) := hlow.trans (hb4.mono hlow.size)
      have HW4 := Lib.hid (HW2.out W4 HL4.out)
      clear hb4 hbp hlow
      go_wp2_with (go_at_call 20; refine HW4.out.mono ?_)
      rintro x W5 hw
      obtain ⟨rfl, sl5, og5, hs5, ht5⟩ := hw
      have HS5 := Lib.hid hs5
      have HT5 : Hid (STurn B w W5 q bm sl sl5 ql og og5) := (STurn.of_below HL4.out HBW.out).trans ht5
      clear hs5 ht5
      go_wp2
      go_ret
      exact ⟨rfl, sl5, og5, HS5.out, HT5.out⟩
    | true =>
      rw [hh] at c5
      rw [if_neg (by rw [hh]; decide)] at hre
      cases hd : g.deleting with
      | true =>
        obtain rfl : r = (0, s) := hre.trans (if_pos hd)
        rw [hd] at c4
        clear hgt hre hft hh hd
        go_wp2
        go_ret
        exact ⟨rfl, sl, og, HST.out.after hlow, STurn.of_below hlow HBW.out⟩
      | false =>
        have hwr : wrote s ⟨s.next, false, markO s g⟩ = r := (hre.trans (if_neg (by rw [hd]; decide))).symm
        rw [hd] at c4
        have HT2 := Lib.hid (HMK.out g W3 hlow)
        have HW2 : Hid (∀ V, Below w.heap.size w V → Calls Try.prog 20 #[.pointer (some ⟨q, 0, none⟩), C.encE ⟨s.next, false, markO s g⟩] V (WrD B q bm sl ql og (wrote s ⟨s.next, false, markO s g⟩) V)) := HWR.out ⟨s.next, false, markO s g⟩ HNU.out (mark_fits HFE.out hft)
        obtain ⟨e, he⟩ : ∃ e, (⟨s.next, false, markO s g⟩ : C.Ev) = e := ⟨_, rfl⟩
        rw [hwr] at HW2
        rw [he] at HW2 HT2
        clear hgt hre hft hh hd he hwr
        go_wp2_with (first | ((with_reducible refine O.wpList_load_obj ?_ rfl ?_ hbp ?_); rfl; rfl) | (go_at_call 22; refine HT2.out.mono ?_))
        rintro x W4 hw
        obtain ⟨rfl, hb4⟩ := hw
        have HL4 : Hid (Below w.heap.size w W4) := hlow.trans (hb4.mono hlow.size)
        have HW4 := Lib.hid (HW2.out W4 HL4.out)
        clear hb4 hbp hlow
        go_wp2_with (go_at_call 20; refine HW4.out.mono ?_)
        rintro x W5 hw
        obtain ⟨rfl, sl5, og5, hs5, ht5⟩ := hw
        have HS5 := Lib.hid hs5
        have HT5 : Hid (STurn B w W5 q bm sl sl5 ql og og5) := (STurn.of_below HL4.out HBW.out).trans ht5
        clear hs5 ht5
        go_wp2
        go_ret
        exact ⟨rfl, sl5, og5, HS5.out, HT5.out⟩
end Go.Proofs.Ytfndiocohaploaa.S
