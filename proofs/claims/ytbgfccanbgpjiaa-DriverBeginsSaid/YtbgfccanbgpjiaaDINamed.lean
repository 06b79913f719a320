/- Own work. -/
import Derived.Test.YtbgfccanbgpjiaaDIBase
namespace Go.Proofs.Ytbgfccanbgpjiaa.O.I
open Go Go.RowKit Go.Lib
attribute [local go_sem] Oper.semAt_some
theorem heap2 (w : World) (x y : Go.Obj) : ((w.alloc x).alloc y).heap[w.heap.size]? = some x ∧ ((w.alloc x).alloc y).heap[w.heap.size + 1]? = some y :=
  ⟨(Below.heap_alloc _ _ _ (by simp)).trans (heap_alloc_new _ _), heap_alloc2_new w _ _⟩
theorem below2 (w : World) (x y : Go.Obj) : Below w.heap.size w ((w.alloc x).alloc y) := ((Below.refl _ _).alloc (Nat.le_refl _) _).alloc (by simp) _
theorem BoxC.other {W : World} {b k i : Nat} {v : Value} {x : Cl} (h : BoxC W b x) (hne : b ≠ k) : BoxC (W.setCell ⟨k, i, none⟩ v) b x := (heap_setCell_other _ _ _ _ hne).trans h
section
variable {W : World} {b : Nat} {verb tg nu si zo no so}
theorem BoxC.s3 (h : BoxC W b ⟨verb, tg, nu, si, zo, no, so⟩) (v : Int) : BoxC (W.setCell ⟨b, 3, none⟩ (.int .i64 v)) b ⟨verb, tg, nu, v, zo, no, so⟩ := (heap_setCell_same W b 3 _ _ _ h).trans rfl
theorem BoxC.s4 (h : BoxC W b ⟨verb, tg, nu, si, zo, no, so⟩) (v : ByteArray) : BoxC (W.setCell ⟨b, 4, none⟩ (.string v)) b ⟨verb, tg, nu, si, v, no, so⟩ := (heap_setCell_same W b 4 _ _ _ h).trans rfl
theorem BoxC.s5 (h : BoxC W b ⟨verb, tg, nu, si, zo, no, so⟩) (v : ByteArray) : BoxC (W.setCell ⟨b, 5, none⟩ (.string v)) b ⟨verb, tg, nu, si, zo, v, so⟩ := (heap_setCell_same W b 5 _ _ _ h).trans rfl
theorem BoxC.s6 (h : BoxC W b ⟨verb, tg, nu, si, zo, no, so⟩) (v : ByteArray) : BoxC (W.setCell ⟨b, 6, none⟩ (.string v)) b ⟨verb, tg, nu, si, zo, no, v⟩ := (heap_setCell_same W b 6 _ _ _ h).trans rfl
end
theorem built_c3 (verb : Int) (tg : ByteArray) (nu : Int) : Try.prog.built 27 [(0, .int .u8 verb), (1, .string tg), (2, .int .u64 nu)] = some (cellsC ⟨verb, tg, nu, 0, E0, E0, E0⟩) := by kernel_rfl
set_option maxRecDepth 100000 in
set_option maxHeartbeats 4000000 in
theorem named_3 (tg : ByteArray) (nu si : Int) (zo no so : ByteArray) (w : World) : Calls Try.prog 41 #[encC ⟨3, tg, nu, si, zo, no, so⟩] w fun e w' => e = .returned (encC ⟨3, tg, nu, 0, E0, no, E0⟩) ∧ Below w.heap.size w w' := by
  rw [show encC ⟨3, tg, nu, si, zo, no, so⟩ = .agg (cellsC ⟨3, tg, nu, si, zo, no, so⟩) from rfl]
  go_enter Try.func41, Try.ntmps41
  go_upto_region 1 with (fail)
  refine wp_gen (fun V => BoxC V w.heap.size ⟨3, tg, nu, si, zo, no, so⟩ ∧ BoxC V (w.heap.size + 1) zeroC ∧ Below w.heap.size w V) ⟨(heap2 w _ _).1, (heap2 w _ _).2, below2 w _ _⟩ ?_
  rintro V ⟨hc, hr, hlw⟩
  obtain ⟨V1, hs1, hb1, hl1⟩ := boxC V zeroC rfl ⟨3, tg, nu, 0, E0, E0, E0⟩
  have hc1 := hc.after hl1
  have hr1 := hr.after hl1
  have hn0 := hc.lt
  have hn1 := hr.lt
  have hw1 := hlw.trans (hl1.mono hlw.size)
  have c0 := hc.c0
  have c1 := hc.c1
  have c2 := hc.c2
  have d0 := hc1.c0
  have d5 := hc1.c5
  have x5 := hb1.c5
  have f5 := hb1.free 5
  have hb2 := hb1.s5 no
  obtain ⟨V3, hs3, hb3, -, hl3⟩ := stoC (hr1.other (k := V.heap.size) (i := 5) (v := .string no) (by omega)) ⟨3, tg, nu, 0, E0, no, E0⟩
  have HV := Lib.hid hb3
  have HW := Lib.hid (hl3 w.heap.size w (hw1.setCell (show w.heap.size ≤ V.heap.size from Nat.le_of_lt hn0) _) (Nat.le_succ _))
  clear hc hr hlw hb1 hl1 hc1 hr1 hn0 hn1 hw1 hb3 hl3
  go_wp2_with (first | ((with_reducible refine wpList_build_to rfl 27 _ rfl (cellsC ⟨3, tg, nu, 0, E0, E0, E0⟩) ?_ ?_); exact built_c3 _ _ _) | (refine wpList_skip rfl (hs1 rfl rfl rfl) ?_) | (refine wpList_got rfl (loadC hb2 rfl rfl) ?_) | (refine wpList_skip rfl (hs3 rfl rfl rfl) ?_))
  refine bodyPost_ret (v := encC ⟨3, tg, nu, 0, E0, no, E0⟩) (results_cell_row rfl _ _ (w.heap.size + 1) 27 (cellsC ⟨3, tg, nu, 0, E0, no, E0⟩) (0, 0) _ rfl HV.out undC rfl sizeC) rfl ?_
  exact ⟨rfl, HW.out⟩
set_option maxRecDepth 100000 in
set_option maxHeartbeats 4000000 in
theorem named_4 (tg : ByteArray) (nu si : Int) (zo no so : ByteArray) (w : World) : Calls Try.prog 41 #[encC ⟨4, tg, nu, si, zo, no, so⟩] w fun e w' => e = .returned (encC ⟨4, tg, nu, 0, E0, no, E0⟩) ∧ Below w.heap.size w w' := by
  rw [show encC ⟨4, tg, nu, si, zo, no, so⟩ = .agg (cellsC ⟨4, tg, nu, si, zo, no, so⟩) from rfl]
  go_enter Try.func41, Try.ntmps41
  go_upto_region 1 with (fail)
  refine wp_gen (fun V => BoxC V w.heap.size ⟨4, tg, nu, si, zo, no, so⟩ ∧ BoxC V (w.heap.size + 1) zeroC ∧ Below w.heap.size w V) ⟨(heap2 w _ _).1, (heap2 w _ _).2, below2 w _ _⟩ ?_
  rintro V ⟨hc, hr, hlw⟩
  obtain ⟨V1, hs1, hb1, hl1⟩ := boxC V zeroC rfl ⟨4, tg, nu, 0, E0, E0, E0⟩
  have hc1 := hc.after hl1
  have hr1 := hr.after hl1
  have hn0 := hc.lt
  have hn1 := hr.lt
  have hw1 := hlw.trans (hl1.mono hlw.size)
  have c0 := hc.c0
  have c1 := hc.c1
  have c2 := hc.c2
  have d0 := hc1.c0
  have d5 := hc1.c5
  have x5 := hb1.c5
  have f5 := hb1.free 5
  have hb2 := hb1.s5 no
  obtain ⟨V3, hs3, hb3, -, hl3⟩ := stoC (hr1.other (k := V.heap.size) (i := 5) (v := .string no) (by omega)) ⟨4, tg, nu, 0, E0, no, E0⟩
  have HV := Lib.hid hb3
  have HW := Lib.hid (hl3 w.heap.size w (hw1.setCell (show w.heap.size ≤ V.heap.size from Nat.le_of_lt hn0) _) (Nat.le_succ _))
  clear hc hr hlw hb1 hl1 hc1 hr1 hn0 hn1 hw1 hb3 hl3
  go_wp2_with (first | ((with_reducible refine wpList_build_to rfl 27 _ rfl (cellsC ⟨4, tg, nu, 0, E0, E0, E0⟩) ?_ ?_); exact built_c3 _ _ _) | (refine wpList_skip rfl (hs1 rfl rfl rfl) ?_) | (refine wpList_got rfl (loadC hb2 rfl rfl) ?_) | (refine wpList_skip rfl (hs3 rfl rfl rfl) ?_))
  refine bodyPost_ret (v := encC ⟨4, tg, nu, 0, E0, no, E0⟩) (results_cell_row rfl _ _ (w.heap.size + 1) 27 (cellsC ⟨4, tg, nu, 0, E0, no, E0⟩) (0, 0) _ rfl HV.out undC rfl sizeC) rfl ?_
  exact ⟨rfl, HW.out⟩
set_option maxRecDepth 100000 in
set_option maxHeartbeats 4000000 in
theorem named_5 (tg : ByteArray) (nu si : Int) (zo no so : ByteArray) (w : World) : Calls Try.prog 41 #[encC ⟨5, tg, nu, si, zo, no, so⟩] w fun e w' => e = .returned (encC ⟨5, tg, nu, si, E0, E0, E0⟩) ∧ Below w.heap.size w w' := by
  rw [show encC ⟨5, tg, nu, si, zo, no, so⟩ = .agg (cellsC ⟨5, tg, nu, si, zo, no, so⟩) from rfl]
  go_enter Try.func41, Try.ntmps41
  go_upto_region 1 with (fail)
  refine wp_gen (fun V => BoxC V w.heap.size ⟨5, tg, nu, si, zo, no, so⟩ ∧ BoxC V (w.heap.size + 1) zeroC ∧ Below w.heap.size w V) ⟨(heap2 w _ _).1, (heap2 w _ _).2, below2 w _ _⟩ ?_
  rintro V ⟨hc, hr, hlw⟩
  obtain ⟨V1, hs1, hb1, hl1⟩ := boxC V zeroC rfl ⟨5, tg, nu, 0, E0, E0, E0⟩
  have hc1 := hc.after hl1
  have hr1 := hr.after hl1
  have hn0 := hc.lt
  have hn1 := hr.lt
  have hw1 := hlw.trans (hl1.mono hlw.size)
  have c0 := hc.c0
  have c1 := hc.c1
  have c2 := hc.c2
  have d0 := hc1.c0
  have d3 := hc1.c3
  have x3 := hb1.c3
  have f3 := hb1.free 3
  have hb2 := hb1.s3 si
  obtain ⟨V3, hs3, hb3, -, hl3⟩ := stoC (hr1.other (k := V.heap.size) (i := 3) (v := .int .i64 si) (by omega)) ⟨5, tg, nu, si, E0, E0, E0⟩
  have HV := Lib.hid hb3
  have HW := Lib.hid (hl3 w.heap.size w (hw1.setCell (show w.heap.size ≤ V.heap.size from Nat.le_of_lt hn0) _) (Nat.le_succ _))
  clear hc hr hlw hb1 hl1 hc1 hr1 hn0 hn1 hw1 hb3 hl3
  go_wp2_with (first | ((with_reducible refine wpList_build_to rfl 27 _ rfl (cellsC ⟨5, tg, nu, 0, E0, E0, E0⟩) ?_ ?_); exact built_c3 _ _ _) | (refine wpList_skip rfl (hs1 rfl rfl rfl) ?_) | (refine wpList_got rfl (loadC hb2 rfl rfl) ?_) | (refine wpList_skip rfl (hs3 rfl rfl rfl) ?_))
  refine bodyPost_ret (v := encC ⟨5, tg, nu, si, E0, E0, E0⟩) (results_cell_row rfl _ _ (w.heap.size + 1) 27 (cellsC ⟨5, tg, nu, si, E0, E0, E0⟩) (0, 0) _ rfl HV.out undC rfl sizeC) rfl ?_
  exact ⟨rfl, HW.out⟩
set_option maxRecDepth 100000 in
set_option maxHeartbeats 4000000 in
theorem named_6 (tg : ByteArray) (nu si : Int) (zo no so : ByteArray) (w : World) : Calls Try.prog 41 #[encC ⟨6, tg, nu, si, zo, no, so⟩] w fun e w' => e = .returned (encC ⟨6, tg, nu, 0, E0, E0, so⟩) ∧ Below w.heap.size w w' := by
  rw [show encC ⟨6, tg, nu, si, zo, no, so⟩ = .agg (cellsC ⟨6, tg, nu, si, zo, no, so⟩) from rfl]
  go_enter Try.func41, Try.ntmps41
  go_upto_region 1 with (fail)
  refine wp_gen (fun V => BoxC V w.heap.size ⟨6, tg, nu, si, zo, no, so⟩ ∧ BoxC V (w.heap.size + 1) zeroC ∧ Below w.heap.size w V) ⟨(heap2 w _ _).1, (heap2 w _ _).2, below2 w _ _⟩ ?_
  rintro V ⟨hc, hr, hlw⟩
  obtain ⟨V1, hs1, hb1, hl1⟩ := boxC V zeroC rfl ⟨6, tg, nu, 0, E0, E0, E0⟩
  have hc1 := hc.after hl1
  have hr1 := hr.after hl1
  have hn0 := hc.lt
  have hn1 := hr.lt
  have hw1 := hlw.trans (hl1.mono hlw.size)
  have c0 := hc.c0
  have c1 := hc.c1
  have c2 := hc.c2
  have d0 := hc1.c0
  have d6 := hc1.c6
  have x6 := hb1.c6
  have f6 := hb1.free 6
  have hb2 := hb1.s6 so
  obtain ⟨V3, hs3, hb3, -, hl3⟩ := stoC (hr1.other (k := V.heap.size) (i := 6) (v := .string so) (by omega)) ⟨6, tg, nu, 0, E0, E0, so⟩
  have HV := Lib.hid hb3
  have HW := Lib.hid (hl3 w.heap.size w (hw1.setCell (show w.heap.size ≤ V.heap.size from Nat.le_of_lt hn0) _) (Nat.le_succ _))
  clear hc hr hlw hb1 hl1 hc1 hr1 hn0 hn1 hw1 hb3 hl3
  go_wp2_with (first | ((with_reducible refine wpList_build_to rfl 27 _ rfl (cellsC ⟨6, tg, nu, 0, E0, E0, E0⟩) ?_ ?_); exact built_c3 _ _ _) | (refine wpList_skip rfl (hs1 rfl rfl rfl) ?_) | (refine wpList_got rfl (loadC hb2 rfl rfl) ?_) | (refine wpList_skip rfl (hs3 rfl rfl rfl) ?_))
  refine bodyPost_ret (v := encC ⟨6, tg, nu, 0, E0, E0, so⟩) (results_cell_row rfl _ _ (w.heap.size + 1) 27 (cellsC ⟨6, tg, nu, 0, E0, E0, so⟩) (0, 0) _ rfl HV.out undC rfl sizeC) rfl ?_
  exact ⟨rfl, HW.out⟩
set_option maxRecDepth 100000 in
set_option maxHeartbeats 4000000 in
theorem named_else (verb : Int) (tg : ByteArray) (nu si : Int) (zo no so : ByteArray) (w : World) (h1 : ¬ verb = 1) (h3 : ¬ verb = 3) (h4 : ¬ verb = 4) (h5 : ¬ verb = 5) (h6 : ¬ verb = 6) : Calls Try.prog 41 #[encC ⟨verb, tg, nu, si, zo, no, so⟩] w fun e w' => e = .returned (encC ⟨verb, tg, nu, 0, E0, E0, E0⟩) ∧ Below w.heap.size w w' := by
  rw [show encC ⟨verb, tg, nu, si, zo, no, so⟩ = .agg (cellsC ⟨verb, tg, nu, si, zo, no, so⟩) from rfl]
  go_enter Try.func41, Try.ntmps41
  go_upto_region 1 with (fail)
  refine wp_gen (fun V => BoxC V w.heap.size ⟨verb, tg, nu, si, zo, no, so⟩ ∧ BoxC V (w.heap.size + 1) zeroC ∧ Below w.heap.size w V) ⟨(heap2 w _ _).1, (heap2 w _ _).2, below2 w _ _⟩ ?_
  rintro V ⟨hc, hr, hlw⟩
  obtain ⟨V1, hs1, hb1, hl1⟩ := boxC V zeroC rfl ⟨verb, tg, nu, 0, E0, E0, E0⟩
  have hc1 := hc.after hl1
  have hr1 := hr.after hl1
  have hn0 := hc.lt
  have hn1 := hr.lt
  have hw1 := hlw.trans (hl1.mono hlw.size)
  have c0 := hc.c0
  have c1 := hc.c1
  have c2 := hc.c2
  have d0 := hc1.c0
  obtain ⟨V3, hs3, hb3, -, hl3⟩ := stoC hr1 ⟨verb, tg, nu, 0, E0, E0, E0⟩
  have HV := Lib.hid hb3
  have HW := Lib.hid (hl3 w.heap.size w hw1 (Nat.le_succ _))
  clear hc hr hlw hl1 hc1 hr1 hn0 hn1 hw1 hb3 hl3
  go_wp2_with (first | ((with_reducible refine wpList_build_to rfl 27 _ rfl (cellsC ⟨verb, tg, nu, 0, E0, E0, E0⟩) ?_ ?_); exact built_c3 _ _ _) | (refine wpList_skip rfl (hs1 rfl rfl rfl) ?_) | (refine wpList_got rfl (loadC hb1 rfl rfl) ?_) | (refine wpList_skip rfl (hs3 rfl rfl rfl) ?_))
  refine bodyPost_ret (v := encC ⟨verb, tg, nu, 0, E0, E0, E0⟩) (results_cell_row rfl _ _ (w.heap.size + 1) 27 (cellsC ⟨verb, tg, nu, 0, E0, E0, E0⟩) (0, 0) _ rfl HV.out undC rfl sizeC) rfl ?_
  exact ⟨rfl, HW.out⟩
set_option maxRecDepth 100000 in
set_option maxHeartbeats 4000000 in
theorem named_1 (tg : ByteArray) (nu si : Int) (zo no so : ByteArray) (w : World) : Calls Try.prog 41 #[encC ⟨1, tg, nu, si, zo, no, so⟩] w fun e w' => e = .returned (encC ⟨1, tg, nu, si, zo, E0, so⟩) ∧ Below w.heap.size w w' := by
  rw [show encC ⟨1, tg, nu, si, zo, no, so⟩ = .agg (cellsC ⟨1, tg, nu, si, zo, no, so⟩) from rfl]
  go_enter Try.func41, Try.ntmps41
  go_upto_region 1 with (fail)
  refine wp_gen (fun V => BoxC V w.heap.size ⟨1, tg, nu, si, zo, no, so⟩ ∧ BoxC V (w.heap.size + 1) zeroC ∧ Below w.heap.size w V) ⟨(heap2 w _ _).1, (heap2 w _ _).2, below2 w _ _⟩ ?_
  rintro V ⟨hc, hr, hlw⟩
  obtain ⟨V1, hs1, hb1, hl1⟩ := boxC V zeroC rfl ⟨1, tg, nu, 0, E0, E0, E0⟩
  have hc1 := hc.after hl1
  have hr1 := hr.after hl1
  have hn0 := hc.lt
  have hn1 := hr.lt
  have hw1 := hlw.trans (hl1.mono hlw.size)
  have c0 := hc.c0
  have c1 := hc.c1
  have c2 := hc.c2
  have d0 := hc1.c0
  have HC := Lib.hid hc1
  have HR := Lib.hid hr1
  have HN := Lib.hid hb1
  have HB : Hid (w.heap.size < V.heap.size ∧ w.heap.size + 1 < V.heap.size) := ⟨hn0, hn1⟩
  have HW := Lib.hid hw1
  clear hc hr hlw hl1 hc1 hr1 hn0 hn1 hw1 hb1
  go_upto_region 4 with (first | ((with_reducible refine wpList_build_to rfl 27 _ rfl (cellsC ⟨1, tg, nu, 0, E0, E0, E0⟩) ?_ ?_); exact built_c3 _ _ _) | (refine wpList_skip rfl (hs1 rfl rfl rfl) ?_))
  clear hs1 d0 c0 c1 c2
  refine wp_region_held_drew (S := fun X => BoxC X w.heap.size ⟨1, tg, nu, si, zo, no, so⟩) (by kernel_rfl) HC.out (fun _ => ?_)
  refine HeldBy.gen (fun X => (BoxC X w.heap.size ⟨1, tg, nu, si, zo, no, so⟩) ∧ BoxC X (w.heap.size + 1) zeroC ∧ BoxC X V.heap.size ⟨1, tg, nu, 0, E0, E0, E0⟩ ∧ Below w.heap.size w X) ⟨HC.out, HR.out, HN.out, HW.out.drew⟩ ?_
  clear HC HR HN HW
  rintro U0 ⟨HS, HR, HN, HW⟩
  refine HeldBy.tn (i := 0) rfl HS ?_
  refine HeldBy.tk (i := 1) rfl (fun X hX => by have h1 := hX.c3; first | (go_simp; rfl) | (go_simp; done)) HS ?_
  refine HeldBy.tn (i := 2) rfl HS ?_
  refine HeldBy.tk (i := 3) rfl (fun X hX => by have h1 := hX.c4; first | (go_simp; rfl) | (go_simp; done)) HS ?_
  refine HeldBy.tn (i := 4) rfl HS ?_
  refine HeldBy.tk (i := 5) rfl (fun X hX => by have h1 := hX.c6; first | (go_simp; rfl) | (go_simp; done)) HS ?_
  refine HeldBy.tn (i := 6) rfl HS ?_
  have x3 := HN.c3
  have f3 := HN.free 3
  obtain ⟨U1, hU1⟩ : ∃ U, U0.setCell ⟨V.heap.size, 3, none⟩ (.int .i64 si) = U := ⟨_, rfl⟩
  have hS1 : BoxC U1 w.heap.size ⟨1, tg, nu, si, zo, no, so⟩ := hU1 ▸ HS.other (by have := HB.out.1; omega)
  have hR1 : BoxC U1 (w.heap.size + 1) zeroC := hU1 ▸ HR.other (by have := HB.out.2; omega)
  have hW1 : Below w.heap.size w U1 := hU1 ▸ HW.setCell (show w.heap.size ≤ V.heap.size from Nat.le_of_lt HB.out.1) _
  have hN1 := HN.s3 si
  rw [hU1] at hN1
  refine HeldBy.store (i := 7) (w' := U1) rfl (by kernel_rfl) (by rfl) (by rw [← hU1]; first | (go_simp; done) | (go_simp; rfl)) (by first | (go_simp; rfl) | (go_simp; done)) hS1 ?_
  clear HS HR HW HN x3 f3 hU1
  have HS := hS1
  have HR := hR1
  have HW := hW1
  have HN := hN1
  clear hS1 hR1 hW1 hN1
  refine HeldBy.tn (i := 8) rfl HS ?_
  have x4 := HN.c4
  have f4 := HN.free 4
  obtain ⟨U2, hU2⟩ : ∃ U, U1.setCell ⟨V.heap.size, 4, none⟩ (.string zo) = U := ⟨_, rfl⟩
  have hS2 : BoxC U2 w.heap.size ⟨1, tg, nu, si, zo, no, so⟩ := hU2 ▸ HS.other (by have := HB.out.1; omega)
  have hR2 : BoxC U2 (w.heap.size + 1) zeroC := hU2 ▸ HR.other (by have := HB.out.2; omega)
  have hW2 : Below w.heap.size w U2 := hU2 ▸ HW.setCell (show w.heap.size ≤ V.heap.size from Nat.le_of_lt HB.out.1) _
  have hN2 := HN.s4 zo
  rw [hU2] at hN2
  refine HeldBy.store (i := 9) (w' := U2) rfl (by kernel_rfl) (by rfl) (by rw [← hU2]; first | (go_simp; done) | (go_simp; rfl)) (by first | (go_simp; rfl) | (go_simp; done)) hS2 ?_
  clear HS HR HW HN x4 f4 hU2
  have HS := hS2
  have HR := hR2
  have HW := hW2
  have HN := hN2
  clear hS2 hR2 hW2 hN2
  refine HeldBy.tn (i := 10) rfl HS ?_
  have x6 := HN.c6
  have f6 := HN.free 6
  obtain ⟨U3, hU3⟩ : ∃ U, U2.setCell ⟨V.heap.size, 6, none⟩ (.string so) = U := ⟨_, rfl⟩
  have hS3 : BoxC U3 w.heap.size ⟨1, tg, nu, si, zo, no, so⟩ := hU3 ▸ HS.other (by have := HB.out.1; omega)
  have hR3 : BoxC U3 (w.heap.size + 1) zeroC := hU3 ▸ HR.other (by have := HB.out.2; omega)
  have hW3 : Below w.heap.size w U3 := hU3 ▸ HW.setCell (show w.heap.size ≤ V.heap.size from Nat.le_of_lt HB.out.1) _
  have hN3 := HN.s6 so
  rw [hU3] at hN3
  refine HeldBy.store (i := 11) (w' := U3) rfl (by kernel_rfl) (by rfl) (by rw [← hU3]; first | (go_simp; done) | (go_simp; rfl)) (by first | (go_simp; rfl) | (go_simp; done)) hS3 ?_
  clear HS HR HW HN x6 f6 hU3
  have HS := hS3
  have HR := hR3
  have HW := hW3
  have HN := hN3
  clear hS3 hR3 hW3 hN3
  refine wpAnyH_done (by kernel_rfl) ?_ _
  obtain ⟨V3, hs3, hb3, -, hl3⟩ := stoC HR ⟨1, tg, nu, si, zo, E0, so⟩
  have HV := Lib.hid hb3
  have HY := Lib.hid (hl3 w.heap.size w HW (Nat.le_succ _))
  clear HS HR HW hb3 hl3
  go_wp2_with (first | (refine wpList_got rfl (loadC HN rfl rfl) ?_) | (refine wpList_skip rfl (hs3 rfl rfl rfl) ?_))
  refine bodyPost_ret (v := encC ⟨1, tg, nu, si, zo, E0, so⟩) (results_cell_row rfl _ _ (w.heap.size + 1) 27 (cellsC ⟨1, tg, nu, si, zo, E0, so⟩) (0, 0) _ rfl HV.out undC rfl sizeC) rfl ?_
  exact ⟨rfl, HY.out⟩
def namedC (c : Cl) : Cl := if c.verb = 1 then ⟨c.verb, c.target, c.num, c.size, c.zone, E0, c.source⟩ else if c.verb = 3 ∨ c.verb = 4 then ⟨c.verb, c.target, c.num, 0, E0, c.node, E0⟩
  else if c.verb = 5 then ⟨c.verb, c.target, c.num, c.size, E0, E0, E0⟩ else if c.verb = 6 then ⟨c.verb, c.target, c.num, 0, E0, E0, c.source⟩ else ⟨c.verb, c.target, c.num, 0, E0, E0, E0⟩
theorem named_any (c : Cl) (w : World) : Calls Try.prog 41 #[encC c] w fun e w' => e = .returned (encC (namedC c)) ∧ Below w.heap.size w w' := by
  obtain ⟨verb, tg, nu, si, zo, no, so⟩ := c
  by_cases h1 : verb = 1
  · subst h1
    exact named_1 tg nu si zo no so w
  by_cases h3 : verb = 3
  · subst h3
    exact named_3 tg nu si zo no so w
  by_cases h4 : verb = 4
  · subst h4
    exact named_4 tg nu si zo no so w
  by_cases h5 : verb = 5
  · subst h5
    exact named_5 tg nu si zo no so w
  by_cases h6 : verb = 6
  · subst h6
    exact named_6 tg nu si zo no so w
  rw [show namedC ⟨verb, tg, nu, si, zo, no, so⟩ = ⟨verb, tg, nu, 0, E0, E0, E0⟩ by simp [namedC, h1, h3, h4, h5, h6]]
  exact named_else verb tg nu si zo no so w h1 h3 h4 h5 h6
end Go.Proofs.Ytbgfccanbgpjiaa.O.I
