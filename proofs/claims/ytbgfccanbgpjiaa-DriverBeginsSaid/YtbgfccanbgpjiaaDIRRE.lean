/- Own work. -/
import Derived.Test.YtbgfccanbgpjiaaDJISnSeqN
namespace Go.Proofs.Ytbgfccanbgpjiaa.O.I
open Go Go.RowKit Go.Lib KM
attribute [local go_sem] Oper.semAt_some
set_option maxRecDepth 100000 in
set_option maxHeartbeats 4000000 in
theorem rr_3_no (tg : ByteArray) (nu si : Int) (zo no so : ByteArray) (w : World) (hft : FitT tg) (ht : nm tg = true) (h0 : ¬ nu = 0) (hs : 0 ≤ si) (hs2 : si ≤ 1125899906842624) (hd : eqC ⟨3, tg, nu, si, zo, no, so⟩ ⟨3, tg, nu, 0, E0, no, E0⟩ = false) : Calls Try.prog 18 #[encC ⟨3, tg, nu, si, zo, no, so⟩] w fun e w' => e = .returned (.bool false) ∧ Below w.heap.size w w' := by
  rw [show encC ⟨3, tg, nu, si, zo, no, so⟩ = .agg (cellsC ⟨3, tg, nu, si, zo, no, so⟩) from rfl]
  have HD := Lib.hid hd
  clear hd
  have HT : Hid (nm tg = true) := ht
  have HFT := Lib.hid hft
  clear ht hft
  go_enter Try.func18, Try.ntmps18
  go_upto_region 1 with (fail)
  refine wp_gen (fun V => BoxC V w.heap.size ⟨3, tg, nu, si, zo, no, so⟩ ∧ Below w.heap.size w V) ⟨heap_alloc_new _ _, (Below.refl _ _).alloc (Nat.le_refl _) _⟩ ?_
  rintro V ⟨hc, hlw⟩
  have c0 := hc.c0
  have c1 := hc.c1
  have c2 := hc.c2
  have c3 := hc.c3
  have HC := Lib.hid hc
  have HW := Lib.hid hlw
  have HB : Hid (w.heap.size < V.heap.size) := hc.lt
  clear hc hlw
  go_wp2_with (fail)
  refine (refname_is HT.out HFT.out _).mono ?_
  rintro e V2 ⟨rfl, rfl⟩
  have h0b : (nu == 0) = false := by simp [h0]
  have hs3 : ¬ si < 0 := by omega
  have hs4 : ¬ 1125899906842624 < si := by omega
  obtain ⟨V1, hs1, hb1, hl1⟩ := boxC V zeroC rfl ⟨3, tg, nu, 0, E0, E0, E0⟩
  have d0 := (HC.out.after hl1).c0
  replace HC := Lib.hid (HC.out.after hl1)
  have HN := Lib.hid hb1
  replace HW := Lib.hid (HW.out.trans (hl1.mono HW.out.size))
  clear hb1 hl1
  have y5 := HC.out.c5
  have x5 := HN.out.c5
  have f5 := HN.out.free 5
  obtain ⟨V8, hV8⟩ : ∃ V8, V1.setCell ⟨V.heap.size, 5, none⟩ (.string no) = V8 := ⟨_, rfl⟩
  have hst : ∀ {oi : Oper} {a : Act} {p r : Operand}, oi.op = .store 9 p r → a.eval p = .pointer (some ⟨V.heap.size, 5, none⟩) → a.eval r = (.string no) → (execOp a.eval oi).run Try.prog V1 = .ok .skip V8 := fun ho h1 h2 => by
    rw [← hV8]
    unfold execOp
    simp only [ho, h1, h2]
    first | (go_simp; rfl) | (go_simp; done)
  have hnl : BoxC V8 V.heap.size ⟨3, tg, nu, 0, E0, no, E0⟩ := hV8 ▸ HN.out.s5 no
  have hcl : BoxC V8 w.heap.size ⟨3, tg, nu, si, zo, no, so⟩ := hV8 ▸ HC.out.other (by have := HB.out; omega)
  have hwl : Below w.heap.size w V8 := hV8 ▸ HW.out.setCell (show w.heap.size ≤ V.heap.size from Nat.le_of_lt HB.out) _
  replace HW := Lib.hid hwl
  clear hwl HC HN hV8 x5 f5
  go_upto_region 14 with (first | ((with_reducible refine wpList_build_to rfl 27 _ rfl (cellsC ⟨3, tg, nu, 0, E0, E0, E0⟩) ?_ ?_); exact built_c3 _ _ _) | (refine wpList_skip rfl (hs1 rfl rfl rfl) ?_) | (refine wpList_skip rfl (hst rfl rfl rfl) ?_))
  clear hs1 hst y5 c0 c1 c2 c3 d0
  have y5 := hcl.c5
  go_wp2_with (first | ((with_reducible show wpList _ _ _ (Oper.mk _ (Op.load 27 _) _ _ _ none :: _) _ _); refine wpList_got rfl (loadC hcl rfl rfl) ?_) | ((with_reducible show wpList _ _ _ (Oper.mk _ (Op.load 27 _) _ _ _ none :: _) _ _); refine wpList_got rfl (loadC hnl rfl rfl) ?_) | ((with_reducible show wpList _ _ _ (Oper.mk _ (Op.binOp BinOp.eql 27 _ _ _) _ _ _ none :: _) _ _); refine wpList_got rfl (exec_eqN rfl rfl rfl HD.out) ?_))
  go_ret
  exact ⟨rfl, HW.out⟩
set_option maxRecDepth 100000 in
set_option maxHeartbeats 4000000 in
theorem rr_3_yes (tg : ByteArray) (nu si : Int) (zo no so : ByteArray) (w : World) (hft : FitT tg) (ht : nm tg = true) (h0 : ¬ nu = 0) (hs : 0 ≤ si) (hs2 : si ≤ 1125899906842624) (hd : eqC ⟨3, tg, nu, si, zo, no, so⟩ ⟨3, tg, nu, 0, E0, no, E0⟩ = true) (hf2 : FitT no) (b : Bool) (hb : nm no = b) : Calls Try.prog 18 #[encC ⟨3, tg, nu, si, zo, no, so⟩] w fun e w' => e = .returned (.bool b) ∧ Below w.heap.size w w' := by
  rw [show encC ⟨3, tg, nu, si, zo, no, so⟩ = .agg (cellsC ⟨3, tg, nu, si, zo, no, so⟩) from rfl]
  have HF2 := Lib.hid hf2
  have HBB := Lib.hid hb
  clear hf2 hb
  have HD := Lib.hid hd
  clear hd
  have HT : Hid (nm tg = true) := ht
  have HFT := Lib.hid hft
  clear ht hft
  go_enter Try.func18, Try.ntmps18
  go_upto_region 1 with (fail)
  refine wp_gen (fun V => BoxC V w.heap.size ⟨3, tg, nu, si, zo, no, so⟩ ∧ Below w.heap.size w V) ⟨heap_alloc_new _ _, (Below.refl _ _).alloc (Nat.le_refl _) _⟩ ?_
  rintro V ⟨hc, hlw⟩
  have c0 := hc.c0
  have c1 := hc.c1
  have c2 := hc.c2
  have c3 := hc.c3
  have HC := Lib.hid hc
  have HW := Lib.hid hlw
  have HB : Hid (w.heap.size < V.heap.size) := hc.lt
  clear hc hlw
  go_wp2_with (fail)
  refine (refname_is HT.out HFT.out _).mono ?_
  rintro e V2 ⟨rfl, rfl⟩
  have h0b : (nu == 0) = false := by simp [h0]
  have hs3 : ¬ si < 0 := by omega
  have hs4 : ¬ 1125899906842624 < si := by omega
  obtain ⟨V1, hs1, hb1, hl1⟩ := boxC V zeroC rfl ⟨3, tg, nu, 0, E0, E0, E0⟩
  have d0 := (HC.out.after hl1).c0
  replace HC := Lib.hid (HC.out.after hl1)
  have HN := Lib.hid hb1
  replace HW := Lib.hid (HW.out.trans (hl1.mono HW.out.size))
  clear hb1 hl1
  have y5 := HC.out.c5
  have x5 := HN.out.c5
  have f5 := HN.out.free 5
  obtain ⟨V8, hV8⟩ : ∃ V8, V1.setCell ⟨V.heap.size, 5, none⟩ (.string no) = V8 := ⟨_, rfl⟩
  have hst : ∀ {oi : Oper} {a : Act} {p r : Operand}, oi.op = .store 9 p r → a.eval p = .pointer (some ⟨V.heap.size, 5, none⟩) → a.eval r = (.string no) → (execOp a.eval oi).run Try.prog V1 = .ok .skip V8 := fun ho h1 h2 => by
    rw [← hV8]
    unfold execOp
    simp only [ho, h1, h2]
    first | (go_simp; rfl) | (go_simp; done)
  have hnl : BoxC V8 V.heap.size ⟨3, tg, nu, 0, E0, no, E0⟩ := hV8 ▸ HN.out.s5 no
  have hcl : BoxC V8 w.heap.size ⟨3, tg, nu, si, zo, no, so⟩ := hV8 ▸ HC.out.other (by have := HB.out; omega)
  have hwl : Below w.heap.size w V8 := hV8 ▸ HW.out.setCell (show w.heap.size ≤ V.heap.size from Nat.le_of_lt HB.out) _
  replace HW := Lib.hid hwl
  clear hwl HC HN hV8 x5 f5
  go_upto_region 14 with (first | ((with_reducible refine wpList_build_to rfl 27 _ rfl (cellsC ⟨3, tg, nu, 0, E0, E0, E0⟩) ?_ ?_); exact built_c3 _ _ _) | (refine wpList_skip rfl (hs1 rfl rfl rfl) ?_) | (refine wpList_skip rfl (hst rfl rfl rfl) ?_))
  clear hs1 hst y5 c0 c1 c2 c3 d0
  have y5 := hcl.c5
  go_wp2_with (first | ((with_reducible show wpList _ _ _ (Oper.mk _ (Op.load 27 _) _ _ _ none :: _) _ _); refine wpList_got rfl (loadC hcl rfl rfl) ?_) | ((with_reducible show wpList _ _ _ (Oper.mk _ (Op.load 27 _) _ _ _ none :: _) _ _); refine wpList_got rfl (loadC hnl rfl rfl) ?_) | ((with_reducible show wpList _ _ _ (Oper.mk _ (Op.binOp BinOp.eql 27 _ _ _) _ _ _ none :: _) _ _); refine wpList_got rfl (exec_eqN rfl rfl rfl HD.out) ?_))
  refine (refname_is HBB.out HF2.out _).mono ?_
  rintro e V3 ⟨rfl, rfl⟩
  clear hcl hnl
  go_wp2
  go_ret
  exact ⟨rfl, HW.out⟩
set_option maxRecDepth 100000 in
set_option maxHeartbeats 4000000 in
theorem rr_4_no (tg : ByteArray) (nu si : Int) (zo no so : ByteArray) (w : World) (hft : FitT tg) (ht : nm tg = true) (h0 : ¬ nu = 0) (hs : 0 ≤ si) (hs2 : si ≤ 1125899906842624) (hd : eqC ⟨4, tg, nu, si, zo, no, so⟩ ⟨4, tg, nu, 0, E0, no, E0⟩ = false) : Calls Try.prog 18 #[encC ⟨4, tg, nu, si, zo, no, so⟩] w fun e w' => e = .returned (.bool false) ∧ Below w.heap.size w w' := by
  rw [show encC ⟨4, tg, nu, si, zo, no, so⟩ = .agg (cellsC ⟨4, tg, nu, si, zo, no, so⟩) from rfl]
  have HD := Lib.hid hd
  clear hd
  have HT : Hid (nm tg = true) := ht
  have HFT := Lib.hid hft
  clear ht hft
  go_enter Try.func18, Try.ntmps18
  go_upto_region 1 with (fail)
  refine wp_gen (fun V => BoxC V w.heap.size ⟨4, tg, nu, si, zo, no, so⟩ ∧ Below w.heap.size w V) ⟨heap_alloc_new _ _, (Below.refl _ _).alloc (Nat.le_refl _) _⟩ ?_
  rintro V ⟨hc, hlw⟩
  have c0 := hc.c0
  have c1 := hc.c1
  have c2 := hc.c2
  have c3 := hc.c3
  have HC := Lib.hid hc
  have HW := Lib.hid hlw
  have HB : Hid (w.heap.size < V.heap.size) := hc.lt
  clear hc hlw
  go_wp2_with (fail)
  refine (refname_is HT.out HFT.out _).mono ?_
  rintro e V2 ⟨rfl, rfl⟩
  have h0b : (nu == 0) = false := by simp [h0]
  have hs3 : ¬ si < 0 := by omega
  have hs4 : ¬ 1125899906842624 < si := by omega
  obtain ⟨V1, hs1, hb1, hl1⟩ := boxC V zeroC rfl ⟨4, tg, nu, 0, E0, E0, E0⟩
  have d0 := (HC.out.after hl1).c0
  replace HC := Lib.hid (HC.out.after hl1)
  have HN := Lib.hid hb1
  replace HW := Lib.hid (HW.out.trans (hl1.mono HW.out.size))
  clear hb1 hl1
  have y5 := HC.out.c5
  have x5 := HN.out.c5
  have f5 := HN.out.free 5
  obtain ⟨V8, hV8⟩ : ∃ V8, V1.setCell ⟨V.heap.size, 5, none⟩ (.string no) = V8 := ⟨_, rfl⟩
  have hst : ∀ {oi : Oper} {a : Act} {p r : Operand}, oi.op = .store 9 p r → a.eval p = .pointer (some ⟨V.heap.size, 5, none⟩) → a.eval r = (.string no) → (execOp a.eval oi).run Try.prog V1 = .ok .skip V8 := fun ho h1 h2 => by
    rw [← hV8]
    unfold execOp
    simp only [ho, h1, h2]
    first | (go_simp; rfl) | (go_simp; done)
  have hnl : BoxC V8 V.heap.size ⟨4, tg, nu, 0, E0, no, E0⟩ := hV8 ▸ HN.out.s5 no
  have hcl : BoxC V8 w.heap.size ⟨4, tg, nu, si, zo, no, so⟩ := hV8 ▸ HC.out.other (by have := HB.out; omega)
  have hwl : Below w.heap.size w V8 := hV8 ▸ HW.out.setCell (show w.heap.size ≤ V.heap.size from Nat.le_of_lt HB.out) _
  replace HW := Lib.hid hwl
  clear hwl HC HN hV8 x5 f5
  go_upto_region 14 with (first | ((with_reducible refine wpList_build_to rfl 27 _ rfl (cellsC ⟨4, tg, nu, 0, E0, E0, E0⟩) ?_ ?_); exact built_c3 _ _ _) | (refine wpList_skip rfl (hs1 rfl rfl rfl) ?_) | (refine wpList_skip rfl (hst rfl rfl rfl) ?_))
  clear hs1 hst y5 c0 c1 c2 c3 d0
  have y5 := hcl.c5
  go_wp2_with (first | ((with_reducible show wpList _ _ _ (Oper.mk _ (Op.load 27 _) _ _ _ none :: _) _ _); refine wpList_got rfl (loadC hcl rfl rfl) ?_) | ((with_reducible show wpList _ _ _ (Oper.mk _ (Op.load 27 _) _ _ _ none :: _) _ _); refine wpList_got rfl (loadC hnl rfl rfl) ?_) | ((with_reducible show wpList _ _ _ (Oper.mk _ (Op.binOp BinOp.eql 27 _ _ _) _ _ _ none :: _) _ _); refine wpList_got rfl (exec_eqN rfl rfl rfl HD.out) ?_))
  go_ret
  exact ⟨rfl, HW.out⟩
set_option maxRecDepth 100000 in
set_option maxHeartbeats 4000000 in
theorem rr_4_yes (tg : ByteArray) (nu si : Int) (zo no so : ByteArray) (w : World) (hft : FitT tg) (ht : nm tg = true) (h0 : ¬ nu = 0) (hs : 0 ≤ si) (hs2 : si ≤ 1125899906842624) (hd : eqC ⟨4, tg, nu, si, zo, no, so⟩ ⟨4, tg, nu, 0, E0, no, E0⟩ = true) (hf2 : FitT no) (b : Bool) (hb : nm no = b) : Calls Try.prog 18 #[encC ⟨4, tg, nu, si, zo, no, so⟩] w fun e w' => e = .returned (.bool b) ∧ Below w.heap.size w w' := by
  rw [show encC ⟨4, tg, nu, si, zo, no, so⟩ = .agg (cellsC ⟨4, tg, nu, si, zo, no, so⟩) from rfl]
  have HF2 := Lib.hid hf2
  have HBB := Lib.hid hb
  clear hf2 hb
  have HD := Lib.hid hd
  clear hd
  have HT : Hid (nm tg = true) := ht
  have HFT := Lib.hid hft
  clear ht hft
  go_enter Try.func18, Try.ntmps18
  go_upto_region 1 with (fail)
  refine wp_gen (fun V => BoxC V w.heap.size ⟨4, tg, nu, si, zo, no, so⟩ ∧ Below w.heap.size w V) ⟨heap_alloc_new _ _, (Below.refl _ _).alloc (Nat.le_refl _) _⟩ ?_
  rintro V ⟨hc, hlw⟩
  have c0 := hc.c0
  have c1 := hc.c1
  have c2 := hc.c2
  have c3 := hc.c3
  have HC := Lib.hid hc
  have HW := Lib.hid hlw
  have HB : Hid (w.heap.size < V.heap.size) := hc.lt
  clear hc hlw
  go_wp2_with (fail)
  refine (refname_is HT.out HFT.out _).mono ?_
  rintro e V2 ⟨rfl, rfl⟩
  have h0b : (nu == 0) = false := by simp [h0]
  have hs3 : ¬ si < 0 := by omega
  have hs4 : ¬ 1125899906842624 < si := by omega
  obtain ⟨V1, hs1, hb1, hl1⟩ := boxC V zeroC rfl ⟨4, tg, nu, 0, E0, E0, E0⟩
  have d0 := (HC.out.after hl1).c0
  replace HC := Lib.hid (HC.out.after hl1)
  have HN := Lib.hid hb1
  replace HW := Lib.hid (HW.out.trans (hl1.mono HW.out.size))
  clear hb1 hl1
  have y5 := HC.out.c5
  have x5 := HN.out.c5
  have f5 := HN.out.free 5
  obtain ⟨V8, hV8⟩ : ∃ V8, V1.setCell ⟨V.heap.size, 5, none⟩ (.string no) = V8 := ⟨_, rfl⟩
  have hst : ∀ {oi : Oper} {a : Act} {p r : Operand}, oi.op = .store 9 p r → a.eval p = .pointer (some ⟨V.heap.size, 5, none⟩) → a.eval r = (.string no) → (execOp a.eval oi).run Try.prog V1 = .ok .skip V8 := fun ho h1 h2 => by
    rw [← hV8]
    unfold execOp
    simp only [ho, h1, h2]
    first | (go_simp; rfl) | (go_simp; done)
  have hnl : BoxC V8 V.heap.size ⟨4, tg, nu, 0, E0, no, E0⟩ := hV8 ▸ HN.out.s5 no
  have hcl : BoxC V8 w.heap.size ⟨4, tg, nu, si, zo, no, so⟩ := hV8 ▸ HC.out.other (by have := HB.out; omega)
  have hwl : Below w.heap.size w V8 := hV8 ▸ HW.out.setCell (show w.heap.size ≤ V.heap.size from Nat.le_of_lt HB.out) _
  replace HW := Lib.hid hwl
  clear hwl HC HN hV8 x5 f5
  go_upto_region 14 with (first | ((with_reducible refine wpList_build_to rfl 27 _ rfl (cellsC ⟨4, tg, nu, 0, E0, E0, E0⟩) ?_ ?_); exact built_c3 _ _ _) | (refine wpList_skip rfl (hs1 rfl rfl rfl) ?_) | (refine wpList_skip rfl (hst rfl rfl rfl) ?_))
  clear hs1 hst y5 c0 c1 c2 c3 d0
  have y5 := hcl.c5
  go_wp2_with (first | ((with_reducible show wpList _ _ _ (Oper.mk _ (Op.load 27 _) _ _ _ none :: _) _ _); refine wpList_got rfl (loadC hcl rfl rfl) ?_) | ((with_reducible show wpList _ _ _ (Oper.mk _ (Op.load 27 _) _ _ _ none :: _) _ _); refine wpList_got rfl (loadC hnl rfl rfl) ?_) | ((with_reducible show wpList _ _ _ (Oper.mk _ (Op.binOp BinOp.eql 27 _ _ _) _ _ _ none :: _) _ _); refine wpList_got rfl (exec_eqN rfl rfl rfl HD.out) ?_))
  refine (refname_is HBB.out HF2.out _).mono ?_
  rintro e V3 ⟨rfl, rfl⟩
  clear hcl hnl
  go_wp2
  go_ret
  exact ⟨rfl, HW.out⟩
end Go.Proofs.Ytbgfccanbgpjiaa.O.I
