/- Own work. -/
import Derived.Test.YtbgfccanbgpjiaaDJISnSeqN
namespace Go.Proofs.Ytbgfccanbgpjiaa.O.I
open Go Go.RowKit Go.Lib KM
attribute [local go_sem] Oper.semAt_some
set_option maxRecDepth 100000 in
set_option maxHeartbeats 4000000 in
theorem rr_5_no (tg : ByteArray) (nu si : Int) (zo no so : ByteArray) (w : World) (hft : FitT tg) (ht : nm tg = true) (h0 : ¬ nu = 0) (hs : 0 ≤ si) (hs2 : si ≤ 1125899906842624) (hd : eqC ⟨5, tg, nu, si, zo, no, so⟩ ⟨5, tg, nu, si, E0, E0, E0⟩ = false) : Calls Try.prog 18 #[encC ⟨5, tg, nu, si, zo, no, so⟩] w fun e w' => e = .returned (.bool false) ∧ Below w.heap.size w w' := by
  rw [show encC ⟨5, tg, nu, si, zo, no, so⟩ = .agg (cellsC ⟨5, tg, nu, si, zo, no, so⟩) from rfl]
  have HD := Lib.hid hd
  clear hd
  have HT : Hid (nm tg = true) := ht
  have HFT := Lib.hid hft
  clear ht hft
  go_enter Try.func18, Try.ntmps18
  go_upto_region 1 with (fail)
  refine wp_gen (fun V => BoxC V w.heap.size ⟨5, tg, nu, si, zo, no, so⟩ ∧ Below w.heap.size w V) ⟨heap_alloc_new _ _, (Below.refl _ _).alloc (Nat.le_refl _) _⟩ ?_
  rintro V ⟨hc, hlw⟩
  have c0 := hc.c0
  have c1 := hc.c1
  have c2 := hc.c2
  have c3 := hc.c3
  have HC := Lib.hid hc
  have HW := Lib.hid hlw
  have HB : Hid (w.heap.size < V.heap.size) := hc.lt
  clear hc hlw
  go_wp2_with (fail)
  refine (refname_is HT.out HFT.out _).mono ?_
  rintro e V2 ⟨rfl, rfl⟩
  have h0b : (nu == 0) = false := by simp [h0]
  have hs3 : ¬ si < 0 := by omega
  have hs4 : ¬ 1125899906842624 < si := by omega
  obtain ⟨V1, hs1, hb1, hl1⟩ := boxC V zeroC rfl ⟨5, tg, nu, 0, E0, E0, E0⟩
  have d0 := (HC.out.after hl1).c0
  replace HC := Lib.hid (HC.out.after hl1)
  have HN := Lib.hid hb1
  replace HW := Lib.hid (HW.out.trans (hl1.mono HW.out.size))
  clear hb1 hl1
  have y3 := HC.out.c3
  have x3 := HN.out.c3
  have f3 := HN.out.free 3
  obtain ⟨V8, hV8⟩ : ∃ V8, V1.setCell ⟨V.heap.size, 3, none⟩ (.int .i64 si) = V8 := ⟨_, rfl⟩
  have hst : ∀ {oi : Oper} {a : Act} {p r : Operand}, oi.op = .store 2 p r → a.eval p = .pointer (some ⟨V.heap.size, 3, none⟩) → a.eval r = (.int .i64 si) → (execOp a.eval oi).run Try.prog V1 = .ok .skip V8 := fun ho h1 h2 => by
    rw [← hV8]
    unfold execOp
    simp only [ho, h1, h2]
    first | (go_simp; rfl) | (go_simp; done)
  have hnl : BoxC V8 V.heap.size ⟨5, tg, nu, si, E0, E0, E0⟩ := hV8 ▸ HN.out.s3 si
  have hcl : BoxC V8 w.heap.size ⟨5, tg, nu, si, zo, no, so⟩ := hV8 ▸ HC.out.other (by have := HB.out; omega)
  have hwl : Below w.heap.size w V8 := hV8 ▸ HW.out.setCell (show w.heap.size ≤ V.heap.size from Nat.le_of_lt HB.out) _
  replace HW := Lib.hid hwl
  clear hwl HC HN hV8 x3 f3
  go_upto_region 17 with (first | ((with_reducible refine wpList_build_to rfl 27 _ rfl (cellsC ⟨5, tg, nu, 0, E0, E0, E0⟩) ?_ ?_); exact built_c3 _ _ _) | (refine wpList_skip rfl (hs1 rfl rfl rfl) ?_) | (refine wpList_skip rfl (hst rfl rfl rfl) ?_))
  clear hs1 hst y3 c0 c1 c2 c3 d0
  have y3 := hcl.c3
  go_wp2_with (first | ((with_reducible show wpList _ _ _ (Oper.mk _ (Op.load 27 _) _ _ _ none :: _) _ _); refine wpList_got rfl (loadC hcl rfl rfl) ?_) | ((with_reducible show wpList _ _ _ (Oper.mk _ (Op.load 27 _) _ _ _ none :: _) _ _); refine wpList_got rfl (loadC hnl rfl rfl) ?_) | ((with_reducible show wpList _ _ _ (Oper.mk _ (Op.binOp BinOp.eql 27 _ _ _) _ _ _ none :: _) _ _); refine wpList_got rfl (exec_eqN rfl rfl rfl HD.out) ?_))
  go_ret
  exact ⟨rfl, HW.out⟩
set_option maxRecDepth 100000 in
set_option maxHeartbeats 4000000 in
theorem rr_5_zero (tg : ByteArray) (nu si : Int) (zo no so : ByteArray) (w : World) (hft : FitT tg) (ht : nm tg = true) (h0 : ¬ nu = 0) (hs : 0 ≤ si) (hs2 : si ≤ 1125899906842624) (hd : eqC ⟨5, tg, nu, si, zo, no, so⟩ ⟨5, tg, nu, si, E0, E0, E0⟩ = true) (hz : si = 0) : Calls Try.prog 18 #[encC ⟨5, tg, nu, si, zo, no, so⟩] w fun e w' => e = .returned (.bool false) ∧ Below w.heap.size w w' := by
  rw [show encC ⟨5, tg, nu, si, zo, no, so⟩ = .agg (cellsC ⟨5, tg, nu, si, zo, no, so⟩) from rfl]
  have hz2 : ¬ 0 < si := by omega
  clear hz
  have HD := Lib.hid hd
  clear hd
  have HT : Hid (nm tg = true) := ht
  have HFT := Lib.hid hft
  clear ht hft
  go_enter Try.func18, Try.ntmps18
  go_upto_region 1 with (fail)
  refine wp_gen (fun V => BoxC V w.heap.size ⟨5, tg, nu, si, zo, no, so⟩ ∧ Below w.heap.size w V) ⟨heap_alloc_new _ _, (Below.refl _ _).alloc (Nat.le_refl _) _⟩ ?_
  rintro V ⟨hc, hlw⟩
  have c0 := hc.c0
  have c1 := hc.c1
  have c2 := hc.c2
  have c3 := hc.c3
  have HC := Lib.hid hc
  have HW := Lib.hid hlw
  have HB : Hid (w.heap.size < V.heap.size) := hc.lt
  clear hc hlw
  go_wp2_with (fail)
  refine (refname_is HT.out HFT.out _).mono ?_
  rintro e V2 ⟨rfl, rfl⟩
  have h0b : (nu == 0) = false := by simp [h0]
  have hs3 : ¬ si < 0 := by omega
  have hs4 : ¬ 1125899906842624 < si := by omega
  obtain ⟨V1, hs1, hb1, hl1⟩ := boxC V zeroC rfl ⟨5, tg, nu, 0, E0, E0, E0⟩
  have d0 := (HC.out.after hl1).c0
  replace HC := Lib.hid (HC.out.after hl1)
  have HN := Lib.hid hb1
  replace HW := Lib.hid (HW.out.trans (hl1.mono HW.out.size))
  clear hb1 hl1
  have y3 := HC.out.c3
  have x3 := HN.out.c3
  have f3 := HN.out.free 3
  obtain ⟨V8, hV8⟩ : ∃ V8, V1.setCell ⟨V.heap.size, 3, none⟩ (.int .i64 si) = V8 := ⟨_, rfl⟩
  have hst : ∀ {oi : Oper} {a : Act} {p r : Operand}, oi.op = .store 2 p r → a.eval p = .pointer (some ⟨V.heap.size, 3, none⟩) → a.eval r = (.int .i64 si) → (execOp a.eval oi).run Try.prog V1 = .ok .skip V8 := fun ho h1 h2 => by
    rw [← hV8]
    unfold execOp
    simp only [ho, h1, h2]
    first | (go_simp; rfl) | (go_simp; done)
  have hnl : BoxC V8 V.heap.size ⟨5, tg, nu, si, E0, E0, E0⟩ := hV8 ▸ HN.out.s3 si
  have hcl : BoxC V8 w.heap.size ⟨5, tg, nu, si, zo, no, so⟩ := hV8 ▸ HC.out.other (by have := HB.out; omega)
  have hwl : Below w.heap.size w V8 := hV8 ▸ HW.out.setCell (show w.heap.size ≤ V.heap.size from Nat.le_of_lt HB.out) _
  replace HW := Lib.hid hwl
  clear hwl HC HN hV8 x3 f3
  go_upto_region 17 with (first | ((with_reducible refine wpList_build_to rfl 27 _ rfl (cellsC ⟨5, tg, nu, 0, E0, E0, E0⟩) ?_ ?_); exact built_c3 _ _ _) | (refine wpList_skip rfl (hs1 rfl rfl rfl) ?_) | (refine wpList_skip rfl (hst rfl rfl rfl) ?_))
  clear hs1 hst y3 c0 c1 c2 c3 d0
  have y3 := hcl.c3
  go_wp2_with (first | ((with_reducible show wpList _ _ _ (Oper.mk _ (Op.load 27 _) _ _ _ none :: _) _ _); refine wpList_got rfl (loadC hcl rfl rfl) ?_) | ((with_reducible show wpList _ _ _ (Oper.mk _ (Op.load 27 _) _ _ _ none :: _) _ _); refine wpList_got rfl (loadC hnl rfl rfl) ?_) | ((with_reducible show wpList _ _ _ (Oper.mk _ (Op.binOp BinOp.eql 27 _ _ _) _ _ _ none :: _) _ _); refine wpList_got rfl (exec_eqN rfl rfl rfl HD.out) ?_))
  go_ret
  refine ⟨?_, HW.out⟩
  show Ending.returned (.bool (decide (0 < si))) = _
  rw [decide_eq_false (show ¬ 0 < si by omega)]
set_option maxRecDepth 100000 in
set_option maxHeartbeats 4000000 in
theorem rr_5_pos (tg : ByteArray) (nu si : Int) (zo no so : ByteArray) (w : World) (hft : FitT tg) (ht : nm tg = true) (h0 : ¬ nu = 0) (hs : 0 ≤ si) (hs2 : si ≤ 1125899906842624) (hd : eqC ⟨5, tg, nu, si, zo, no, so⟩ ⟨5, tg, nu, si, E0, E0, E0⟩ = true) (hz : 0 < si) : Calls Try.prog 18 #[encC ⟨5, tg, nu, si, zo, no, so⟩] w fun e w' => e = .returned (.bool true) ∧ Below w.heap.size w w' := by
  rw [show encC ⟨5, tg, nu, si, zo, no, so⟩ = .agg (cellsC ⟨5, tg, nu, si, zo, no, so⟩) from rfl]
  have HD := Lib.hid hd
  clear hd
  have HT : Hid (nm tg = true) := ht
  have HFT := Lib.hid hft
  clear ht hft
  go_enter Try.func18, Try.ntmps18
  go_upto_region 1 with (fail)
  refine wp_gen (fun V => BoxC V w.heap.size ⟨5, tg, nu, si, zo, no, so⟩ ∧ Below w.heap.size w V) ⟨heap_alloc_new _ _, (Below.refl _ _).alloc (Nat.le_refl _) _⟩ ?_
  rintro V ⟨hc, hlw⟩
  have c0 := hc.c0
  have c1 := hc.c1
  have c2 := hc.c2
  have c3 := hc.c3
  have HC := Lib.hid hc
  have HW := Lib.hid hlw
  have HB : Hid (w.heap.size < V.heap.size) := hc.lt
  clear hc hlw
  go_wp2_with (fail)
  refine (refname_is HT.out HFT.out _).mono ?_
  rintro e V2 ⟨rfl, rfl⟩
  have h0b : (nu == 0) = false := by simp [h0]
  have hs3 : ¬ si < 0 := by omega
  have hs4 : ¬ 1125899906842624 < si := by omega
  obtain ⟨V1, hs1, hb1, hl1⟩ := boxC V zeroC rfl ⟨5, tg, nu, 0, E0, E0, E0⟩
  have d0 := (HC.out.after hl1).c0
  replace HC := Lib.hid (HC.out.after hl1)
  have HN := Lib.hid hb1
  replace HW := Lib.hid (HW.out.trans (hl1.mono HW.out.size))
  clear hb1 hl1
  have y3 := HC.out.c3
  have x3 := HN.out.c3
  have f3 := HN.out.free 3
  obtain ⟨V8, hV8⟩ : ∃ V8, V1.setCell ⟨V.heap.size, 3, none⟩ (.int .i64 si) = V8 := ⟨_, rfl⟩
  have hst : ∀ {oi : Oper} {a : Act} {p r : Operand}, oi.op = .store 2 p r → a.eval p = .pointer (some ⟨V.heap.size, 3, none⟩) → a.eval r = (.int .i64 si) → (execOp a.eval oi).run Try.prog V1 = .ok .skip V8 := fun ho h1 h2 => by
    rw [← hV8]
    unfold execOp
    simp only [ho, h1, h2]
    first | (go_simp; rfl) | (go_simp; done)
  have hnl : BoxC V8 V.heap.size ⟨5, tg, nu, si, E0, E0, E0⟩ := hV8 ▸ HN.out.s3 si
  have hcl : BoxC V8 w.heap.size ⟨5, tg, nu, si, zo, no, so⟩ := hV8 ▸ HC.out.other (by have := HB.out; omega)
  have hwl : Below w.heap.size w V8 := hV8 ▸ HW.out.setCell (show w.heap.size ≤ V.heap.size from Nat.le_of_lt HB.out) _
  replace HW := Lib.hid hwl
  clear hwl HC HN hV8 x3 f3
  go_upto_region 17 with (first | ((with_reducible refine wpList_build_to rfl 27 _ rfl (cellsC ⟨5, tg, nu, 0, E0, E0, E0⟩) ?_ ?_); exact built_c3 _ _ _) | (refine wpList_skip rfl (hs1 rfl rfl rfl) ?_) | (refine wpList_skip rfl (hst rfl rfl rfl) ?_))
  clear hs1 hst y3 c0 c1 c2 c3 d0
  have y3 := hcl.c3
  go_wp2_with (first | ((with_reducible show wpList _ _ _ (Oper.mk _ (Op.load 27 _) _ _ _ none :: _) _ _); refine wpList_got rfl (loadC hcl rfl rfl) ?_) | ((with_reducible show wpList _ _ _ (Oper.mk _ (Op.load 27 _) _ _ _ none :: _) _ _); refine wpList_got rfl (loadC hnl rfl rfl) ?_) | ((with_reducible show wpList _ _ _ (Oper.mk _ (Op.binOp BinOp.eql 27 _ _ _) _ _ _ none :: _) _ _); refine wpList_got rfl (exec_eqN rfl rfl rfl HD.out) ?_))
  go_ret
  exact ⟨rfl, HW.out⟩
set_option maxRecDepth 100000 in
set_option maxHeartbeats 4000000 in
theorem rr_6_no (tg : ByteArray) (nu si : Int) (zo no so : ByteArray) (w : World) (hft : FitT tg) (ht : nm tg = true) (h0 : ¬ nu = 0) (hs : 0 ≤ si) (hs2 : si ≤ 1125899906842624) (hd : eqC ⟨6, tg, nu, si, zo, no, so⟩ ⟨6, tg, nu, 0, E0, E0, so⟩ = false) : Calls Try.prog 18 #[encC ⟨6, tg, nu, si, zo, no, so⟩] w fun e w' => e = .returned (.bool false) ∧ Below w.heap.size w w' := by
  rw [show encC ⟨6, tg, nu, si, zo, no, so⟩ = .agg (cellsC ⟨6, tg, nu, si, zo, no, so⟩) from rfl]
  have HD := Lib.hid hd
  clear hd
  have HT : Hid (nm tg = true) := ht
  have HFT := Lib.hid hft
  clear ht hft
  go_enter Try.func18, Try.ntmps18
  go_upto_region 1 with (fail)
  refine wp_gen (fun V => BoxC V w.heap.size ⟨6, tg, nu, si, zo, no, so⟩ ∧ Below w.heap.size w V) ⟨heap_alloc_new _ _, (Below.refl _ _).alloc (Nat.le_refl _) _⟩ ?_
  rintro V ⟨hc, hlw⟩
  have c0 := hc.c0
  have c1 := hc.c1
  have c2 := hc.c2
  have c3 := hc.c3
  have HC := Lib.hid hc
  have HW := Lib.hid hlw
  have HB : Hid (w.heap.size < V.heap.size) := hc.lt
  clear hc hlw
  go_wp2_with (fail)
  refine (refname_is HT.out HFT.out _).mono ?_
  rintro e V2 ⟨rfl, rfl⟩
  have h0b : (nu == 0) = false := by simp [h0]
  have hs3 : ¬ si < 0 := by omega
  have hs4 : ¬ 1125899906842624 < si := by omega
  obtain ⟨V1, hs1, hb1, hl1⟩ := boxC V zeroC rfl ⟨6, tg, nu, 0, E0, E0, E0⟩
  have d0 := (HC.out.after hl1).c0
  replace HC := Lib.hid (HC.out.after hl1)
  have HN := Lib.hid hb1
  replace HW := Lib.hid (HW.out.trans (hl1.mono HW.out.size))
  clear hb1 hl1
  have y6 := HC.out.c6
  have x6 := HN.out.c6
  have f6 := HN.out.free 6
  obtain ⟨V8, hV8⟩ : ∃ V8, V1.setCell ⟨V.heap.size, 6, none⟩ (.string so) = V8 := ⟨_, rfl⟩
  have hst : ∀ {oi : Oper} {a : Act} {p r : Operand}, oi.op = .store 9 p r → a.eval p = .pointer (some ⟨V.heap.size, 6, none⟩) → a.eval r = (.string so) → (execOp a.eval oi).run Try.prog V1 = .ok .skip V8 := fun ho h1 h2 => by
    rw [← hV8]
    unfold execOp
    simp only [ho, h1, h2]
    first | (go_simp; rfl) | (go_simp; done)
  have hnl : BoxC V8 V.heap.size ⟨6, tg, nu, 0, E0, E0, so⟩ := hV8 ▸ HN.out.s6 so
  have hcl : BoxC V8 w.heap.size ⟨6, tg, nu, si, zo, no, so⟩ := hV8 ▸ HC.out.other (by have := HB.out; omega)
  have hwl : Below w.heap.size w V8 := hV8 ▸ HW.out.setCell (show w.heap.size ≤ V.heap.size from Nat.le_of_lt HB.out) _
  replace HW := Lib.hid hwl
  clear hwl HC HN hV8 x6 f6
  go_upto_region 20 with (first | ((with_reducible refine wpList_build_to rfl 27 _ rfl (cellsC ⟨6, tg, nu, 0, E0, E0, E0⟩) ?_ ?_); exact built_c3 _ _ _) | (refine wpList_skip rfl (hs1 rfl rfl rfl) ?_) | (refine wpList_skip rfl (hst rfl rfl rfl) ?_))
  clear hs1 hst y6 c0 c1 c2 c3 d0
  have y6 := hcl.c6
  go_wp2_with (first | ((with_reducible show wpList _ _ _ (Oper.mk _ (Op.load 27 _) _ _ _ none :: _) _ _); refine wpList_got rfl (loadC hcl rfl rfl) ?_) | ((with_reducible show wpList _ _ _ (Oper.mk _ (Op.load 27 _) _ _ _ none :: _) _ _); refine wpList_got rfl (loadC hnl rfl rfl) ?_) | ((with_reducible show wpList _ _ _ (Oper.mk _ (Op.binOp BinOp.eql 27 _ _ _) _ _ _ none :: _) _ _); refine wpList_got rfl (exec_eqN rfl rfl rfl HD.out) ?_))
  go_ret
  exact ⟨rfl, HW.out⟩
set_option maxRecDepth 100000 in
set_option maxHeartbeats 4000000 in
theorem rr_6_yes (tg : ByteArray) (nu si : Int) (zo no so : ByteArray) (w : World) (hft : FitT tg) (ht : nm tg = true) (h0 : ¬ nu = 0) (hs : 0 ≤ si) (hs2 : si ≤ 1125899906842624) (hd : eqC ⟨6, tg, nu, si, zo, no, so⟩ ⟨6, tg, nu, 0, E0, E0, so⟩ = true) (hf2 : FitT so) (b : Bool) (hb : nm so = b) : Calls Try.prog 18 #[encC ⟨6, tg, nu, si, zo, no, so⟩] w fun e w' => e = .returned (.bool b) ∧ Below w.heap.size w w' := by
  rw [show encC ⟨6, tg, nu, si, zo, no, so⟩ = .agg (cellsC ⟨6, tg, nu, si, zo, no, so⟩) from rfl]
  have HF2 := Lib.hid hf2
  have HBB := Lib.hid hb
  clear hf2 hb
  have HD := Lib.hid hd
  clear hd
  have HT : Hid (nm tg = true) := ht
  have HFT := Lib.hid hft
  clear ht hft
  go_enter Try.func18, Try.ntmps18
  go_upto_region 1 with (fail)
  refine wp_gen (fun V => BoxC V w.heap.size ⟨6, tg, nu, si, zo, no, so⟩ ∧ Below w.heap.size w V) ⟨heap_alloc_new _ _, (Below.refl _ _).alloc (Nat.le_refl _) _⟩ ?_
  rintro V ⟨hc, hlw⟩
  have c0 := hc.c0
  have c1 := hc.c1
  have c2 := hc.c2
  have c3 := hc.c3
  have HC := Lib.hid hc
  have HW := Lib.hid hlw
  have HB : Hid (w.heap.size < V.heap.size) := hc.lt
  clear hc hlw
  go_wp2_with (fail)
  refine (refname_is HT.out HFT.out _).mono ?_
  rintro e V2 ⟨rfl, rfl⟩
  have h0b : (nu == 0) = false := by simp [h0]
  have hs3 : ¬ si < 0 := by omega
  have hs4 : ¬ 1125899906842624 < si := by omega
  obtain ⟨V1, hs1, hb1, hl1⟩ := boxC V zeroC rfl ⟨6, tg, nu, 0, E0, E0, E0⟩
  have d0 := (HC.out.after hl1).c0
  replace HC := Lib.hid (HC.out.after hl1)
  have HN := Lib.hid hb1
  replace HW := Lib.hid (HW.out.trans (hl1.mono HW.out.size))
  clear hb1 hl1
  have y6 := HC.out.c6
  have x6 := HN.out.c6
  have f6 := HN.out.free 6
  obtain ⟨V8, hV8⟩ : ∃ V8, V1.setCell ⟨V.heap.size, 6, none⟩ (.string so) = V8 := ⟨_, rfl⟩
  have hst : ∀ {oi : Oper} {a : Act} {p r : Operand}, oi.op = .store 9 p r → a.eval p = .pointer (some ⟨V.heap.size, 6, none⟩) → a.eval r = (.string so) → (execOp a.eval oi).run Try.prog V1 = .ok .skip V8 := fun ho h1 h2 => by
    rw [← hV8]
    unfold execOp
    simp only [ho, h1, h2]
    first | (go_simp; rfl) | (go_simp; done)
  have hnl : BoxC V8 V.heap.size ⟨6, tg, nu, 0, E0, E0, so⟩ := hV8 ▸ HN.out.s6 so
  have hcl : BoxC V8 w.heap.size ⟨6, tg, nu, si, zo, no, so⟩ := hV8 ▸ HC.out.other (by have := HB.out; omega)
  have hwl : Below w.heap.size w V8 := hV8 ▸ HW.out.setCell (show w.heap.size ≤ V.heap.size from Nat.le_of_lt HB.out) _
  replace HW := Lib.hid hwl
  clear hwl HC HN hV8 x6 f6
  go_upto_region 20 with (first | ((with_reducible refine wpList_build_to rfl 27 _ rfl (cellsC ⟨6, tg, nu, 0, E0, E0, E0⟩) ?_ ?_); exact built_c3 _ _ _) | (refine wpList_skip rfl (hs1 rfl rfl rfl) ?_) | (refine wpList_skip rfl (hst rfl rfl rfl) ?_))
  clear hs1 hst y6 c0 c1 c2 c3 d0
  have y6 := hcl.c6
  go_wp2_with (first | ((with_reducible show wpList _ _ _ (Oper.mk _ (Op.load 27 _) _ _ _ none :: _) _ _); refine wpList_got rfl (loadC hcl rfl rfl) ?_) | ((with_reducible show wpList _ _ _ (Oper.mk _ (Op.load 27 _) _ _ _ none :: _) _ _); refine wpList_got rfl (loadC hnl rfl rfl) ?_) | ((with_reducible show wpList _ _ _ (Oper.mk _ (Op.binOp BinOp.eql 27 _ _ _) _ _ _ none :: _) _ _); refine wpList_got rfl (exec_eqN rfl rfl rfl HD.out) ?_))
  refine (refname_is HBB.out HF2.out _).mono ?_
  rintro e V3 ⟨rfl, rfl⟩
  clear hcl hnl
  go_wp2
  go_ret
  exact ⟨rfl, HW.out⟩
end Go.Proofs.Ytbgfccanbgpjiaa.O.I
