/- A claim that asks for more is served in four steps. -/
import Derived.Test.YtijgieefmnmakaaDoorDLive
import Derived.Test.YtijgieefmnmakaaDoorDAfter
namespace Go.Proofs.YtijgieefmnmakaaDoor.O.B
open Go Go.RowKit Go.Shelf Go.Lib RangeMap KM
attribute [local go_sem] Oper.semAt_some

def cC : ByteArray := ⟨#[99]⟩
def vA (n m : Int) : Obj := { vW with size := n, num := m }
def vB (n : Int) : Obj := { vW with size := n, got := n, num := 0 }
def bC (n m : Int) : Cl := ⟨5, ⟨#[118]⟩, m, n, E0, E0, E0⟩
theorem up_small {t : Int} (h0 : 0 ≤ t) (h1 : t + 1 ≤ 18446744073709551615) : up t = t + 1 := by
  unfold up
  rw [IntKind.wrap_u64]
  omega
theorem step1 (n t : Int) (hn : 5 ≤ n) (h0 : 0 ≤ t) (h1 : t + 1 ≤ 18446744073709551615) : claimD (worldN n 4) t cC = writeA (vA n (t + 1)) := by
  have hok : okD (worldN n 4) cC = true := by kernel_rfl
  have hc : clD (worldN n 4) cC = cW n 4 := by kernel_rfl
  have hv : voD (worldN n 4) cC = vW := by kernel_rfl
  unfold claimD
  rw [if_pos hok, hc, hv, up_small h0 h1]
  unfold growN
  rw [if_pos (show vW.got < (cW n 4).size by show (4 : Int) < n; omega), if_neg (fun h => by have h2 : n ≤ (4 : Int) := h.1; omega)]
  show writeA { vW with size := max 4 n, num := t + 1 } = _
  rw [show max (4 : Int) n = n by omega]
  rfl
theorem step2 (n m : Int) (hn : 5 ≤ n) (hm : m ≠ 0) : claimD [cW n 4, vA n m, sW] m cC = askA (bC n m) := by
  have hok : okD [cW n 4, vA n m, sW] cC = true := by kernel_rfl
  have hc : clD [cW n 4, vA n m, sW] cC = cW n 4 := by kernel_rfl
  have hv : voD [cW n 4, vA n m, sW] cC = vA n m := by kernel_rfl
  unfold claimD
  rw [if_pos hok, hc, hv]
  unfold growN
  rw [if_pos (show (vA n m).got < (cW n 4).size by show (4 : Int) < n; omega), if_pos ⟨(show n ≤ n by omega), hm⟩]
  rfl
theorem step3 (n m : Int) (hn : 5 ≤ n) (hm : m ≠ 0) : afterD [cW n 4, vA n m, sW] m 3 cC (bC n m) ⟨0, n, E0, 0⟩ = writeA (vB n) := by
  have h1 : nextD [cW n 4, vA n m, sW] m 3 cC = askA (bC n m) := by
    unfold nextD
    rw [if_pos rfl]
    exact step2 n m hn hm
  have h2 : askedN [cW n 4, vA n m, sW] 3 cC (bC n m) = vA n m := by kernel_rfl
  unfold afterD
  rw [if_pos h1, h2]
  unfold behindN
  rw [if_neg (show ¬ (0 : Int) = 9 by omega), if_pos (show (0 : Int) = 0 from rfl), if_pos (show (bC n m).verb = 5 from rfl)]
  rfl
theorem step4 (n t : Int) (hn : 5 ≤ n) : claimD [cW n 4, vB n, sW] t cC = writeA (cW n n) := by
  have hok : okD [cW n 4, vB n, sW] cC = true := by kernel_rfl
  have hc : clD [cW n 4, vB n, sW] cC = cW n 4 := by kernel_rfl
  have hv : voD [cW n 4, vB n, sW] cC = vB n := by kernel_rfl
  unfold claimD
  rw [if_pos hok, hc, hv]
  unfold growN
  rw [if_neg (show ¬ (vB n).got < (cW n 4).size by show ¬ n < n; omega), if_neg (show ¬ (cW n 4).got = (vB n).got by show ¬ (4 : Int) = n; omega)]
  rfl
theorem step5 (n t : Int) : claimD [cW n n, vB n, sW] t cC = nothing := by
  have hok : okD [cW n n, vB n, sW] cC = true := by kernel_rfl
  have hc : clD [cW n n, vB n, sW] cC = cW n n := by kernel_rfl
  have hv : voD [cW n n, vB n, sW] cC = vB n := by kernel_rfl
  unfold claimD
  rw [if_pos hok, hc, hv]
  unfold growN
  rw [if_neg (show ¬ (vB n).got < (cW n n).size by show ¬ n < n; omega), if_pos (show (cW n n).got = (vB n).got from rfl)]
theorem exec_neq_call {W : World} {A B : Cl} {oi : Oper} {a : Act} {x y : Operand} {t : TypeId} (ho : oi.op = .binOp .neq 34 x y t) (hx : a.eval x = encC A) (hy : a.eval y = encC B) :
    (execOp a.eval oi).run Tryd.prog W = .ok (.value (.bool (!decide (A = B)))) W := by
  have h := neq_call A B W
  have hg : (eqGuard .neq 34 x y (encC A) (encC B)).run Tryd.prog W = .ok () W := by kernel_rfl
  unfold execOp
  simp only [ho, hx, hy, Sem.run_bind, Result.andThen_ok, hg, h]
  rfl
theorem exec_eql_act {W : World} {A B : Ac} {oi : Oper} {a : Act} {x y : Operand} {t : TypeId} (ho : oi.op = .binOp .eql 36 x y t) (hx : a.eval x = encA A) (hy : a.eval y = encA B) :
    (execOp a.eval oi).run Tryd.prog W = .ok (.value (.bool (decide (A = B)))) W := by
  have h := eql_act A B W
  have hg : (eqGuard .eql 36 x y (encA A) (encA B)).run Tryd.prog W = .ok () W := by kernel_rfl
  unfold execOp
  simp only [ho, hx, hy, Sem.run_bind, Result.andThen_ok, hg, h]
  rfl
theorem exec_neq_same {W : World} {A : Cl} {oi : Oper} {a : Act} {x y : Operand} {t : TypeId} (ho : oi.op = .binOp .neq 34 x y t) (hx : a.eval x = encC A) (hy : a.eval y = encC A) :
    (execOp a.eval oi).run Tryd.prog W = .ok (.value (.bool false)) W := by
  have h := exec_neq_call (W := W) ho hx hy
  rw [show (!decide (A = A)) = false by simp] at h
  exact h
theorem exec_eql_same {W : World} {A : Ac} {oi : Oper} {a : Act} {x y : Operand} {t : TypeId} (ho : oi.op = .binOp .eql 36 x y t) (hx : a.eval x = encA A) (hy : a.eval y = encA A) :
    (execOp a.eval oi).run Tryd.prog W = .ok (.value (.bool true)) W := by
  have h := exec_eql_act (W := W) ho hx hy
  rw [show decide (A = A) = true by simp] at h
  exact h
theorem built_key (k : ByteArray) : Tryd.prog.built 41 [(0, .int .u8 3), (1, .string k)] = some #[.int .u8 3, .string k] := by kernel_rfl
theorem built_res (n : Int) : Tryd.prog.built 44 [(1, .int .i64 n)] = some #[.int .i64 0, .int .i64 n, .string E0, .int .u64 0] := by kernel_rfl
theorem built_none : Tryd.prog.built 36 [] = some (cellsA nothing) := by kernel_rfl
theorem fits_three {a b c : Obj} (ha : (0 ≤ a.born ∧ a.born ≤ 18446744073709551615) ∧ a.name.size ≤ 140737488351232) (hb : (0 ≤ b.born ∧ b.born ≤ 18446744073709551615) ∧ b.name.size ≤ 140737488351232) (hc : (0 ≤ c.born ∧ c.born ≤ 18446744073709551615) ∧ c.name.size ≤ 140737488351232) :
    ∀ s ∈ [a, b, c], (0 ≤ s.born ∧ s.born ≤ 18446744073709551615) ∧ s.name.size ≤ 140737488351232 := by
  intro s hs
  simp only [List.mem_cons, List.not_mem_nil, or_false] at hs
  rcases hs with rfl | rfl | rfl
  · exact ha
  · exact hb
  · exact hc
theorem fit_cW (n g : Int) : (0 ≤ (cW n g).born ∧ (cW n g).born ≤ 18446744073709551615) ∧ (cW n g).name.size ≤ 140737488351232 := ⟨⟨by show (0 : Int) ≤ 0; omega, by show (0 : Int) ≤ 18446744073709551615; omega⟩, by show 1 ≤ 140737488351232; omega⟩
theorem fit_vA (n m : Int) : (0 ≤ (vA n m).born ∧ (vA n m).born ≤ 18446744073709551615) ∧ (vA n m).name.size ≤ 140737488351232 := ⟨⟨by show (0 : Int) ≤ 0; omega, by show (0 : Int) ≤ 18446744073709551615; omega⟩, by show 1 ≤ 140737488351232; omega⟩
theorem fit_sW : (0 ≤ sW.born ∧ sW.born ≤ 18446744073709551615) ∧ sW.name.size ≤ 140737488351232 := ⟨⟨by decide, by decide⟩, by decide⟩

set_option maxRecDepth 100000 in
set_option maxHeartbeats 8000000 in
theorem step_any (s t : Int) (w : World) (ht : Tab w) (hs : 0 ≤ s ∧ s ≤ 4294967295) (hv : 0 ≤ t ∧ t ≤ 4294967295) :
    Calls Tryd.prog 9 #[.int .u32 s, .int .u32 t] w fun e w' => e = .returned (.bool true) ∧ Below w.heap.size w w' := by
  have HT := Lib.hid ht
  obtain ⟨s0, s1⟩ := hs
  obtain ⟨t0, t1⟩ := hv
  have hn : (5 : Int) ≤ s + 5 := by omega
  have hm : t + 1 ≠ 0 := by omega
  have HW0 := Lib.hid (world_any (s + 5) 4 w)
  have H1 := Lib.hid (step1 (s + 5) t hn t0 (by omega))
  have H2 := Lib.hid (step2 (s + 5) (t + 1) hn hm)
  have H3 := Lib.hid (step3 (s + 5) (t + 1) hn hm)
  have H4 := Lib.hid (step4 (s + 5) (t + 2) hn)
  have H5 := Lib.hid (step5 (s + 5) (t + 3))
  have hws : worldN (s + 5) 4 = [cW (s + 5) 4, vW, sW] := rfl
  have HWS := Lib.hid hws
  obtain ⟨bc, hbc⟩ : ∃ bc, bC (s + 5) (t + 1) = bc := ⟨_, rfl⟩
  rw [hbc] at H2 H3
  have hbu : Tryd.prog.built 34 [(0, .int .u8 5), (1, .string ⟨#[118]⟩), (2, .int .u64 (t + 1)), (3, .int .i64 (s + 5))] = some (cellsC bc) := by rw [← hbc]; exact built_expand _ _ _
  have HBU := Lib.hid hbu
  clear ht hn hm hws hbc hbu
  go_enter Tryd.func9, Tryd.ntmps9
  go_wp2_with (fail)
  refine HW0.out.mono ?_
  rintro e W1 ⟨g, rfl, hg, hr, hb1⟩
  have hr1 : RowO W1 g [cW (s + 5) 4, vW, sW] := hr
  have HC := Lib.hid (claimD_any _ (.slice (some ⟨g, 0, none⟩) 3 3) t cC W1 (hr.objs 3 (by show 3 ≤ _; omega)))
  rw [H1.out] at HC
  have HR := Lib.hid hr1
  have HW := Lib.hid hb1
  have HG := Lib.hid hg
  clear HW0 hr hr1 hb1 hg H1 HWS
  unfold cC at HC
  go_wp2_with (fail)
  refine HC.out.mono ?_
  rintro e W2 ⟨rfl, hb2⟩
  obtain ⟨V2, hst, ha, hb⟩ := actbox W2 (writeA (vA (s + 5) (t + 1)))
  have hw2 := HW.out.trans (hb2.mono HW.out.size)
  have hw := hw2.trans (hb.mono hw2.size)
  have hr2 := (HR.out.after hb2).after hb
  have HGA : Hid (g < W2.heap.size) := (HR.out.after hb2).lt
  obtain ⟨V3, hpl, hr3, hoth3, hbl3⟩ := placing hr2 1 (by show 1 < 3; omega) (vA (s + 5) (t + 1))
  have hrow := ha.obj
  have ha3 : BoxA V3 W2.heap.size _ := (hoth3 _ (by have := HGA.out; omega)).trans ha
  have hw3 := hbl3 _ _ hw HG.out
  have hr3' : RowO V3 g [cW (s + 5) 4, vA (s + 5) (t + 1), sW] := hr3
  have HC2 := Lib.hid (claimD_any _ (.slice (some ⟨g, 0, none⟩) 3 3) (t + 1) cC V3 (hr3'.objs 3 (by show 3 ≤ _; omega)))
  rw [H2.out] at HC2
  replace HR := Lib.hid hr3'
  replace HW := Lib.hid hw3
  have HA := Lib.hid ha3
  clear HC hb2 hb hw2 hw hr2 hr3 hr3' hoth3 hbl3 ha ha3 hw3 H2
  unfold cC at HC2
  go_wp2_with (first | (refine wpList_skip rfl (hst rfl rfl rfl) ?_) | (refine wpList_got rfl (load_mid hrow rfl rfl) ?_) | (refine wpList_skip rfl (hpl rfl rfl rfl) ?_))
  refine HC2.out.mono ?_
  rintro e W4 ⟨rfl, hb4⟩
  obtain ⟨V4, hst4, ha4, hb4'⟩ := actbox W4 (askA bc)
  have hw4 := HW.out.trans (hb4.mono HW.out.size)
  have hw := hw4.trans (hb4'.mono hw4.size)
  have hr4 := (HR.out.after hb4).after hb4'
  have hA4 := (HA.out.after hb4).after hb4'
  have HAB : Hid (W2.heap.size < W4.heap.size) := (HA.out.after hb4).lt
  have HC3 := Lib.hid (afterD_any _ (.slice (some ⟨g, 0, none⟩) 3 3) (t + 1) 3 cC bc ⟨0, s + 5, E0, 0⟩ V4 (hr4.objs 3 (by show 3 ≤ _; omega)) (HT.out.after hw) (fits_three (fit_cW _ _) (fit_vA _ _) fit_sW))
  rw [H3.out] at HC3
  have hcall := ha4.callAt
  replace HR := Lib.hid hr4
  replace HW := Lib.hid hw
  replace HA := Lib.hid hA4
  have HB := Lib.hid ha4
  clear HC2 hb4 hb4' hw4 hw hr4 hA4 ha4 H3 hst hpl hrow
  unfold cC encK encR at HC3
  go_wp2_with (first | (refine wpList_skip rfl (hst4 rfl rfl rfl) ?_) | (refine wpList_got rfl (load_callAt hcall rfl rfl) ?_) | ((with_reducible refine wpList_build_to rfl 41 _ rfl _ ?_ ?_); exact built_key _) | ((with_reducible refine wpList_build_to rfl 44 _ rfl _ ?_ ?_); exact built_res _))
  refine HC3.out.mono ?_
  rintro e W5 ⟨rfl, hb5⟩
  obtain ⟨V5, hst5, ha5, hb5'⟩ := actbox W5 (writeA (vB (s + 5)))
  have hw5 := HW.out.trans (hb5.mono HW.out.size)
  have hw := hw5.trans (hb5'.mono hw5.size)
  have hr5 := (HR.out.after hb5).after hb5'
  have hA5 := (HA.out.after hb5).after hb5'
  have hB5 := (HB.out.after hb5).after hb5'
  have HAC : Hid (W4.heap.size < W5.heap.size) := (HB.out.after hb5).lt
  have a0 : V5.cell? ⟨W2.heap.size, 0, none⟩ = some (.int .u8 1) := (cell_of_row V5 _ 0 _ _ _ hA5).trans rfl
  have b0 : V5.cell? ⟨W4.heap.size, 0, none⟩ = some (.int .u8 3) := (cell_of_row V5 _ 0 _ _ _ hB5).trans rfl
  have d0 : V5.cell? ⟨W5.heap.size, 0, none⟩ = some (.int .u8 1) := (cell_of_row V5 _ 0 _ _ _ ha5).trans rfl
  replace hcall := hB5.callAt
  have hrow := ha5.obj
  obtain ⟨V6, hpl, hr6, hoth6, hbl6⟩ := placing hr5 1 (by show 1 < 3; omega) (vB (s + 5))
  have hr6' : RowO V6 g [cW (s + 5) 4, vB (s + 5), sW] := hr6
  have hw6 := hbl6 _ _ hw HG.out
  have HC4 := Lib.hid (claimD_any _ (.slice (some ⟨g, 0, none⟩) 3 3) (t + 2) cC V6 (hr6'.objs 3 (by show 3 ≤ _; omega)))
  rw [H4.out] at HC4
  replace HR := Lib.hid hr6'
  replace HW := Lib.hid hw6
  clear HC3 hb5 hb5' hw5 hw hr5 hA5 hB5 ha5 hr6 hr6' hoth6 hbl6 hw6 HA HB H4 hst4
  unfold cC at HC4
  go_wp2_with (first | (refine wpList_skip rfl (hst5 rfl rfl rfl) ?_) | (refine wpList_got rfl (load_callAt hcall rfl rfl) ?_) | (refine wpList_got rfl (load_mid hrow rfl rfl) ?_) | (refine wpList_got rfl (exec_build 34 _ rfl (cellsC bc) (by exact HBU.out)) ?_) | (refine wpList_got rfl (exec_neq_same (A := bc) rfl rfl rfl) ?_) | (refine wpList_skip rfl (hpl rfl rfl rfl) ?_))
  refine HC4.out.mono ?_
  rintro e W7 ⟨rfl, hb7⟩
  obtain ⟨V7, hst7, ha7, hb7'⟩ := actbox W7 (writeA (cW (s + 5) (s + 5)))
  have hw7 := HW.out.trans (hb7.mono HW.out.size)
  have hw := hw7.trans (hb7'.mono hw7.size)
  have hr7 := (HR.out.after hb7).after hb7'
  have HGE : Hid (g < W7.heap.size) := (HR.out.after hb7).lt
  replace hrow := ha7.obj
  obtain ⟨V8, hpl8, hr8, hoth8, hbl8⟩ := placing hr7 0 (by show 0 < 3; omega) (cW (s + 5) (s + 5))
  have hr8' : RowO V8 g [cW (s + 5) (s + 5), vB (s + 5), sW] := hr8
  have hw8 := hbl8 _ _ hw HG.out
  have ha8 : BoxA V8 W7.heap.size _ := (hoth8 _ (by have := HGE.out; omega)).trans ha7
  replace HR := Lib.hid hr8'
  replace HW := Lib.hid hw8
  have HE := Lib.hid ha8
  have HV := Lib.hid (live_any V8 (HT.out.after hw8))
  clear HC4 hb7 hb7' hw7 hw hr7 hr8 hr8' hoth8 hbl8 hw8 ha7 ha8 a0 b0 d0 hcall hst5 hpl
  go_wp2_with (first | (refine wpList_skip rfl (hst7 rfl rfl rfl) ?_) | (refine wpList_got rfl (load_mid hrow rfl rfl) ?_) | (refine wpList_skip rfl (hpl8 rfl rfl rfl) ?_))
  refine HV.out.mono ?_
  rintro e W9 ⟨rfl, hb9⟩
  have hw9 := HW.out.trans (hb9.mono HW.out.size)
  have hr9 := HR.out.after hb9
  have ha9 := HE.out.after hb9
  have e0 : W9.cell? ⟨W7.heap.size, 0, none⟩ = some (.int .u8 1) := (cell_of_row W9 _ 0 _ _ _ ha9).trans rfl
  have e9 : W9.cell? ⟨W7.heap.size, 9, none⟩ = some (.int .i64 (s + 5)) := (cell_of_row W9 _ 9 _ _ _ ha9).trans rfl
  have l38 : W9.cell? ⟨g, 38, none⟩ = some (.int .u64 0) := (cell_of_row W9 _ 38 _ _ _ hr9).trans rfl
  have HC5 := Lib.hid (claimD_any _ (.slice (some ⟨g, 0, none⟩) 3 3) (t + 3) cC W9 (hr9.objs 3 (by show 3 ≤ _; omega)))
  rw [H5.out] at HC5
  replace HW := Lib.hid hw9
  clear HV hb9 hw9 hr9 ha9 HR HE hst7 hpl8 hrow H5
  unfold cC at HC5
  go_wp2_with (fail)
  refine HC5.out.mono ?_
  rintro e W10 ⟨rfl, hb10⟩
  have HX := Lib.hid (HW.out.trans (hb10.mono HW.out.size))
  clear HC5 hb10 HW
  go_wp2_with (first | (refine wpList_got rfl (exec_build 36 _ rfl (cellsA nothing) (by exact built_none)) ?_) | (refine wpList_got rfl (exec_eql_same (A := nothing) rfl rfl rfl) ?_))
  go_ret
  exact ⟨rfl, HX.out⟩
end Go.Proofs.YtijgieefmnmakaaDoor.O.B
