/- What must be whatever is asked of a driver. -/
import Derived.Test.YtbgfccanbgpjiaaIVols
namespace Go.Proofs.Ytbgfccanbgpjiaa.O.I
open Go Go.RowKit Go.Lib KM
attribute [local go_sem] Oper.semAt_some

def cV : Cl := ⟨1, ⟨#[118]⟩, 1, 4, ⟨#[97]⟩, E0, E0⟩
def zA : Zn := ⟨⟨#[97]⟩, 10⟩
theorem built_z : Try.prog.built 42 [(0, .string ⟨#[97]⟩), (1, .int .i64 10)] = some (cellsZ zA) := by kernel_rfl
theorem built_c : Try.prog.built 27 [(0, .int .u8 1), (1, .string ⟨#[118]⟩), (2, .int .u64 1), (3, .int .i64 4), (4, .string ⟨#[97]⟩)] = some (cellsC cV) := by kernel_rfl
theorem run_z1 (W : World) : (Instr.buildSlice 36 1 #[(0, encZ zA)]).run Try.prog W = .ok (.slice (some ⟨W.heap.size, 0, none⟩) 1 1) (W.alloc (.cells (cellsZ zA) 42 (0, 0))) := by kernel_rfl
set_option maxRecDepth 100000 in
set_option maxHeartbeats 2000000 in
theorem eql_res (a b : Rs) (w : World) : (binOp .eql 50 (encR a) (encR b)).run Try.prog w = .ok (.bool (decide (a = b))) w := by
  obtain ⟨c1, c2, c3, c4⟩ := a
  obtain ⟨d1, d2, d3, d4⟩ := b
  unfold encR cellsR
  dsimp only
  go_simp
  simp only [eqT]
  iterate 3 refine and_if ?_
  exact last_if
theorem exec_eqR {W : World} {p q : Rs} {v : Bool} {oi : Oper} {a : Act} {x y : Operand} {t : TypeId} (ho : oi.op = .binOp .eql 50 x y t) (hx : a.eval x = encR p) (hy : a.eval y = encR q) (hv : decide (p = q) = v) :
    (execOp a.eval oi).run Try.prog W = .ok (.value (.bool v)) W := by
  have hq : (eqGuard .eql 50 x y (encR p) (encR q)).run Try.prog W = .ok () W := run_eqGuard_agg W .eql 50 x y (cellsR p) (cellsR q) (by kernel_rfl)
  have h := eql_res p q W
  rw [hv] at h
  unfold execOp
  simp only [ho, hx, hy, Sem.run_bind, hq, Result.andThen_ok, h]
  rfl
theorem new_at (g : Nat) (z : Zn) (k : Nat) (w : World) (hk : w.heap.size = k) (hg : BoxZ w g z) (hn : nm z.name = true) (hr : inR z.room = true) : Calls Try.prog 19 #[.slice (some ⟨g, 0, none⟩) 1 1] w fun e w' => e = .returned (.pointer (some ⟨k + 4, 0, none⟩)) ∧
    DrAt w' (k + 4) k (k + 1) (k + 2) (k + 3) [(z.name, .int .i64 z.room)] [] [] [] ∧ Below k w w' := by
  subst hk
  exact new_one g z w hg hn hr
theorem room_is {d r v s n : Nat} {R V S : List (ByteArray × Value)} {N : List (Tg × Value)} (k : ByteArray) (x : Value) (hx : KM.get k R = some x) (w : World) (hd : DrAt w d r v s n R V S N) :
    Calls Try.prog 21 #[.pointer (some ⟨d, 0, none⟩), .string k] w fun e w' => e = .returned (.tuple #[x, .bool true]) ∧ w = w' := room_any k (some x) hx w hd
set_option maxRecDepth 100000 in
set_option maxHeartbeats 4000000 in
theorem live_any (w : World) : Calls Try.prog 15 #[] w fun e w' => e = .returned (.bool true) ∧ Below w.heap.size w w' := by
  obtain ⟨k, hk⟩ : ∃ k, (w.alloc (.cells (cellsZ zA) 42 (0, 0))).heap.size = k := ⟨_, rfl⟩
  have hkw : w.heap.size + 1 = k := by rw [← hk]; simp
  have HN := Lib.hid (new_at w.heap.size zA k _ hk (heap_alloc_new w _) (by kernel_rfl) (by kernel_rfl))
  have HB0 : Hid (Below w.heap.size w (w.alloc (.cells (cellsZ zA) 42 (0, 0)))) := (Below.refl _ _).alloc (Nat.le_refl _) _
  have HKW := Lib.hid hkw
  clear hk hkw
  go_enter Try.func15, Try.ntmps15
  go_wp2_with (first | ((with_reducible refine wpList_build_to rfl 42 _ rfl (cellsZ zA) ?_ ?_); exact built_z) | (refine wpList_got rfl (exec_slice (run_z1 w) rfl rfl) ?_))
  refine HN.out.mono ?_
  rintro e W1 ⟨rfl, hd, hb⟩
  obtain ⟨V1, hs1, hb1, hl1⟩ := boxC W1 zeroC rfl cV
  have hkk := HKW.out
  have HD := Lib.hid (hd.after hl1)
  have hlt1 := hd.lt
  have HW : Hid (Below w.heap.size w V1) := by
    have h1 := HB0.out.trans (hb.mono (by omega))
    exact h1.trans (hl1.mono h1.size)
  have HC := Lib.hid hb1
  have HL1 : Hid (k + 4 < W1.heap.size) := hlt1.1
  have HF := Lib.hid (do_first k (k + 4) k (k + 1) (k + 2) (k + 3) [(⟨#[97]⟩, .int .i64 10)] [] [] [] cV 10 6 V1 HD.out (five_of k) rfl rfl (by kernel_rfl) rfl (by decide) (by decide) (by decide) (by kernel_rfl) rfl (by decide) (by kernel_rfl) (by omega))
  have hcb := hb1
  clear hd hb hb1 hl1 hkk hlt1 HN HB0
  go_wp2_with (first | ((with_reducible refine wpList_build_to rfl 27 _ rfl (cellsC cV) ?_ ?_); exact built_c) | (refine wpList_skip rfl (hs1 rfl rfl rfl) ?_) | (refine wpList_got rfl (loadC hcb rfl rfl) ?_))
  clear hs1 hcb
  refine HF.out.mono ?_
  rintro e W2 ⟨m, rfl, hd2, hm2, hle, hb2, hk2⟩
  obtain ⟨V2, hs2, hb2', hl2⟩ := boxR W2 zeroR rfl (resOf cV)
  have hc2 : BoxC W2 W1.heap.size cV := (hk2 _ HC.out.lt (by have := HL1.out; omega) (by have := HL1.out; omega) (by have := HL1.out; omega)).trans HC.out
  have HD2 := Lib.hid (hd2.after hl2)
  have HM := Lib.hid (hm2.after hl2)
  have HC2 := Lib.hid (hc2.after hl2)
  have HR := Lib.hid hb2'
  have HW2 : Hid (Below w.heap.size w V2) := by
    have hkk := HKW.out
    have h1 := HW.out.trans (hb2.mono (by omega))
    exact h1.trans (hl2.mono h1.size)
  have HA := Lib.hid (do_again (k + 4) k (k + 1) (k + 2) (k + 3) _ _ _ _ cV V2 (resOf cV) HD2.out rfl (by kernel_rfl) (by kernel_rfl))
  have hcb := HC2.out
  clear hd2 hm2 hle hb2 hk2 hb2' hl2 hc2 HF HC HD HW
  go_wp2_with (first | (refine wpList_skip rfl (hs2 rfl rfl rfl) ?_) | (refine wpList_got rfl (loadC hcb rfl rfl) ?_))
  clear hs2 hcb
  refine HA.out.mono ?_
  rintro e W3 ⟨rfl, hb3⟩
  obtain ⟨V3, hs3, hb3', hl3⟩ := boxR W3 zeroR rfl (resOf cV)
  have hw3 := HW2.out.trans (hb3.mono HW2.out.size)
  have HW3 := Lib.hid (hw3.trans (hl3.mono hw3.size))
  have HD3 := Lib.hid ((HD2.out.after hb3).after hl3)
  have HM3 := Lib.hid ((HM.out.after hb3).after hl3)
  have HC3 := Lib.hid ((HC2.out.after hb3).after hl3)
  have HR3 := Lib.hid ((HR.out.after hb3).after hl3)
  have HR4 := Lib.hid hb3'
  have HQ := Lib.hid (room_is ⟨#[97]⟩ (.int .i64 6) (by kernel_rfl) V3 HD3.out)
  have hra := HR3.out
  have hrb := HR4.out
  have q0 : V3.cell? ⟨W2.heap.size, 0, none⟩ = some (.int .i64 0) := hra.c0
  have q1 : V3.cell? ⟨W2.heap.size, 1, none⟩ = some (.int .i64 4) := hra.c1
  have HVO := Lib.hid (volumes_one (k + 4) k (k + 1) (k + 2) (k + 3) m _ _ _ _ ⟨4, 0, ⟨#[97]⟩, some m⟩ (by decide) rfl V3 HD3.out HM3.out)
  clear hb3 hl3 hw3 hb3' HA HD2 HM HC2 HR HW2 HD3 HM3 HR3 HR4
  go_wp2_with (refine wpList_skip rfl (hs3 rfl rfl rfl) ?_)
  clear hs3
  refine HQ.out.mono ?_
  rintro e W4 ⟨rfl, rfl⟩
  clear HQ
  go_wp2_with (first | (refine wpList_got rfl (loadR hra rfl rfl) ?_) | (refine wpList_got rfl (loadR hrb rfl rfl) ?_) | (refine wpList_got rfl (exec_eqR (v := true) rfl rfl rfl (decide_eq_true rfl)) ?_))
  clear hra hrb q0 q1
  refine HVO.out.mono ?_
  rintro e W5 ⟨⟨g, cp, rfl⟩, hb5⟩
  have hcb := HC3.out.after hb5
  have HW5 := Lib.hid (HW3.out.trans (hb5.mono HW3.out.size))
  clear hb5 HVO HC3 HW3
  go_wp2_with (refine wpList_got rfl (loadC hcb rfl rfl) ?_)
  clear hcb
  refine (right_is (by kernel_rfl : rightB cV = true) _).mono ?_
  rintro e W6 ⟨rfl, hb6⟩
  have HX := Lib.hid (HW5.out.trans (hb6.mono HW5.out.size))
  clear hb6 HW5
  go_wp2
  go_ret
  exact ⟨rfl, HX.out⟩
end Go.Proofs.Ytbgfccanbgpjiaa.O.I
