/- What a user may make; keys. -/
import Derived.Test.YtacbfpgknfcimaaORight
namespace Go.Proofs.Ytacbfpgknfcimaa.O
open Go.RowKit T
open Go.Lib hiding intOf

/-- The whole object is loaded, guarded or not. -/
theorem wpList_load_obj {ops : Array Oper} {rest : List Oper} {oi : Oper} {a : Act} {W : World} {Q : Exit → Act → World → Prop} {x : Operand} {b : Nat} {o : Obj} (hw : Region.wanted oi (yielded ops a.tmps) = true) (ho : oi.op = .load 27 x)
    (hx : a.eval x = .pointer (some ⟨b, 0, none⟩)) (h : BoxO W b o) (hn : wpList Try.prog ops Q rest (a.put oi.dst (encO o)) W) : wpList Try.prog ops Q (oi :: rest) a W := by
  unfold wpList
  rw [if_pos hw]
  refine .inl ?_
  unfold Oper.wp
  rw [load_obj h ho hx]
  exact hn

set_option maxRecDepth 100000 in
set_option maxHeartbeats 2000000 in
theorem untouched_any (o : Obj) (w : World) :
    Calls Try.prog 49 #[encO o] w fun e w' => e = .returned (.bool (untouchedB o)) ∧ Below w.heap.size w w' := by
  unfold encO
  have H : Hid (untouchedB o = ((o.version == 0) && ((o.born == 0) && ((o.num == 0) && ((o.tag == 0) && !o.deleting))))) := by show _ = _; unfold untouchedB; simp only [beqD]
  go_enter Try.func49, Try.ntmps49
  go_upto_region 1 with (fail)
  refine wp_gen (fun W => BoxO W w.heap.size o ∧ Below w.heap.size w W) ⟨BoxO.new w o, (Below.refl _ _).alloc (Nat.le_refl _) _⟩ ?_
  rintro W1 ⟨hb, hlow⟩
  have c2 := hb.c2
  have c3 := hb.c3
  have c4 := hb.c4
  have c18 := hb.c18
  have c19 := hb.c19
  clear hb
  cases b0 : (o.version == 0) with
  | false =>
    have H' : Hid (untouchedB o = false) := by show _ = _; rw [H.out, b0]; rfl
    go_wp2
    go_ret
    exact ⟨ret_bool H'.out.symm, hlow⟩
  | true =>
  cases b1 : (o.born == 0) with
  | false =>
    have H' : Hid (untouchedB o = false) := by show _ = _; rw [H.out, b0, b1]; rfl
    go_wp2
    go_ret
    exact ⟨ret_bool H'.out.symm, hlow⟩
  | true =>
  cases b2 : (o.num == 0) with
  | false =>
    have H' : Hid (untouchedB o = false) := by show _ = _; rw [H.out, b0, b1, b2]; rfl
    go_wp2
    go_ret
    exact ⟨ret_bool H'.out.symm, hlow⟩
  | true =>
  cases b3 : (o.tag == 0) with
  | false =>
    have H' : Hid (untouchedB o = false) := by show _ = _; rw [H.out, b0, b1, b2, b3]; rfl
    go_wp2
    go_ret
    exact ⟨ret_bool H'.out.symm, hlow⟩
  | true =>
    have H' : Hid (untouchedB o = !o.deleting) := by show _ = _; rw [H.out, b0, b1, b2, b3]; rfl
    go_wp2
    go_ret
    exact ⟨ret_bool H'.out.symm, hlow⟩

set_option maxRecDepth 100000 in
set_option maxHeartbeats 2000000 in
theorem user_any (o : Obj) (w : World) :
    Calls Try.prog 24 #[encO o] w fun e w' => e = .returned (.bool (userB o)) ∧ Below w.heap.size w w' := by
  unfold encO
  go_enter Try.func24, Try.ntmps24
  go_upto_region 1 with (fail)
  refine wp_gen (fun W => BoxO W w.heap.size o ∧ Below w.heap.size w W) ⟨BoxO.new w o, (Below.refl _ _).alloc (Nat.le_refl _) _⟩ ?_
  rintro W1 ⟨hb, hlow⟩
  go_wp2_with ((with_reducible refine wpList_load_obj ?_ rfl ?_ hb ?_); rfl; rfl)
  refine (right_any o _).mono ?_
  rintro e W2 ⟨rfl, hb1⟩
  replace hb := hb.after hb1
  replace hlow := hlow.trans (hb1.mono hlow.size)
  clear hb1
  cases b0 : rightB o with
  | false =>
    have H' : Hid (userB o = false) := by show _ = _; unfold userB; rw [b0]; rfl
    go_wp2
    go_ret
    exact ⟨ret_bool H'.out.symm, hlow⟩
  | true =>
  go_wp2_with ((with_reducible refine wpList_load_obj ?_ rfl ?_ hb ?_); rfl; rfl)
  refine (untouched_any o _).mono ?_
  rintro e W3 ⟨rfl, hb1⟩
  replace hb := hb.after hb1
  replace hlow := hlow.trans (hb1.mono hlow.size)
  clear hb1
  cases b1 : untouchedB o with
  | false =>
    have H' : Hid (userB o = false) := by show _ = _; unfold userB; rw [b0, b1]; rfl
    go_wp2
    go_ret
    exact ⟨ret_bool H'.out.symm, hlow⟩
  | true =>
  have HU : Hid (userB o = userK o) := by show _ = _; unfold userB; rw [b0, b1]; rfl
  clear b0 b1
  have hsz := hlow.size
  have HB := Lib.hid hb
  have HL := Lib.hid hlow
  have c0 := hb.c0
  clear hlow hb
  by_cases k1 : o.kind = 1
  · have e1 := beq_yes k1
    have H' : Hid (userB o = true) := by show _ = _; rw [HU.out]; unfold userK; rw [if_pos k1]
    clear k1
    go_wp2
    go_ret
    exact ⟨ret_bool H'.out.symm, HL.out⟩
  have e1 := beq_no k1
  by_cases k2 : o.kind = 2
  · have e2 := beq_yes k2
    have H' : Hid (userB o = true) := by show _ = _; rw [HU.out]; unfold userK; rw [if_neg k1, if_pos k2]
    clear k1 k2
    go_wp2
    go_ret
    exact ⟨ret_bool H'.out.symm, HL.out⟩
  have e2 := beq_no k2
  by_cases k3 : o.kind = 3
  · have e3 := beq_yes k3
    have H' : Hid (userB o = ((o.phase == 1) && ((emp o.node && (emp o.zone && emp o.volume)) && (o.got == 0)))) := by show _ = _; rw [HU.out]; unfold userK; rw [if_neg k1, if_neg k2, if_pos k3]; simp only [beqD]
    clear k1 k2 k3
    have c17 := HB.out.c17
    have c12 := HB.out.c12
    have c13 := HB.out.c13
    have c15 := HB.out.c15
    have d8 := fun X => (HB.out.alloc X).c8
    cases p1 : (o.phase == 1) with
    | false =>
      have H2 : Hid (userB o = false) := by show _ = _; rw [H'.out, p1]; rfl
      go_wp2
      go_ret
      exact ⟨ret_bool H2.out.symm, HL.out⟩
    | true =>
      go_wp2_with fail
      refine (allEmpty3 o.node o.zone o.volume _ _ ?_ ?_ ?_).mono ?_
      · go_simp
      · go_simp
      · go_simp
      rintro e w' ⟨rfl, rfl⟩
      cases p2 : (emp o.node && (emp o.zone && emp o.volume)) with
      | false =>
        have H2 : Hid (userB o = false) := by show _ = _; rw [H'.out, p1, p2]; rfl
        go_wp2
        go_ret
        exact ⟨ret_bool H2.out.symm, HL.out.alloc hsz _⟩
      | true =>
        have H2 : Hid (userB o = (o.got == 0)) := by show _ = _; rw [H'.out, p1, p2]; rfl
        go_wp2
        go_ret
        exact ⟨ret_bool H2.out.symm, HL.out.alloc hsz _⟩
  have e3 := beq_no k3
  by_cases k4 : o.kind = 4
  · have e4 := beq_yes k4
    have H' : Hid (userB o = ((o.phase == 4) && (emp o.claim && (o.got == o.size)))) := by show _ = _; rw [HU.out]; unfold userK; rw [if_neg k1, if_neg k2, if_neg k3, if_pos k4]; simp only [beqD]
    clear k1 k2 k3 k4
    have c17 := HB.out.c17
    have c14 := HB.out.c14
    have d8 := fun X => (HB.out.alloc X).c8
    have d7 := fun X => (HB.out.alloc X).c7
    cases p1 : (o.phase == 4) with
    | false =>
      have H2 : Hid (userB o = false) := by show _ = _; rw [H'.out, p1]; rfl
      go_wp2
      go_ret
      exact ⟨ret_bool H2.out.symm, HL.out⟩
    | true =>
      go_wp2_with fail
      refine (allEmpty1 o.claim _ _ ?_).mono ?_
      · go_simp
      rintro e w' ⟨rfl, rfl⟩
      cases p2 : emp o.claim with
      | false =>
        have H2 : Hid (userB o = false) := by show _ = _; rw [H'.out, p1, p2]; rfl
        go_wp2
        go_ret
        exact ⟨ret_bool H2.out.symm, HL.out.alloc hsz _⟩
      | true =>
        have H2 : Hid (userB o = (o.got == o.size)) := by show _ = _; rw [H'.out, p1, p2]; rfl
        go_wp2
        go_ret
        exact ⟨ret_bool H2.out.symm, HL.out.alloc hsz _⟩
  have e4 := beq_no k4
  by_cases k6 : o.kind = 6
  · have e6 := beq_yes k6
    have H' : Hid (userB o = emp o.node) := by show _ = _; rw [HU.out]; unfold userK; rw [if_neg k1, if_neg k2, if_neg k3, if_neg k4, if_pos k6]
    clear k1 k2 k3 k4 k6
    have c13 := HB.out.c13
    go_wp2_with fail
    refine (allEmpty1 o.node _ _ ?_).mono ?_
    · go_simp
    rintro e w' ⟨rfl, rfl⟩
    go_wp2
    go_ret
    exact ⟨ret_bool H'.out.symm, HL.out.alloc hsz _⟩
  have e6 := beq_no k6
  by_cases k7 : o.kind = 7
  · have e7 := beq_yes k7
    have H' : Hid (userB o = ((o.phase == 1) && (emp o.volume && (o.got == 0)))) := by show _ = _; rw [HU.out]; unfold userK; rw [if_neg k1, if_neg k2, if_neg k3, if_neg k4, if_neg k6, if_pos k7]; simp only [beqD]
    clear k1 k2 k3 k4 k6 k7
    have c17 := HB.out.c17
    have c15 := HB.out.c15
    have d8 := fun X => (HB.out.alloc X).c8
    cases p1 : (o.phase == 1) with
    | false =>
      have H2 : Hid (userB o = false) := by show _ = _; rw [H'.out, p1]; rfl
      go_wp2
      go_ret
      exact ⟨ret_bool H2.out.symm, HL.out⟩
    | true =>
      go_wp2_with fail
      refine (allEmpty1 o.volume _ _ ?_).mono ?_
      · go_simp
      rintro e w' ⟨rfl, rfl⟩
      cases p2 : emp o.volume with
      | false =>
        have H2 : Hid (userB o = false) := by show _ = _; rw [H'.out, p1, p2]; rfl
        go_wp2
        go_ret
        exact ⟨ret_bool H2.out.symm, HL.out.alloc hsz _⟩
      | true =>
        have H2 : Hid (userB o = (o.got == 0)) := by show _ = _; rw [H'.out, p1, p2]; rfl
        go_wp2
        go_ret
        exact ⟨ret_bool H2.out.symm, HL.out.alloc hsz _⟩
  have e7 := beq_no k7
  have H' : Hid (userB o = false) := by show _ = _; rw [HU.out]; unfold userK; rw [if_neg k1, if_neg k2, if_neg k3, if_neg k4, if_neg k6, if_neg k7]
  clear k1 k2 k3 k4 k6 k7
  go_wp2
  go_ret
  exact ⟨ret_bool H'.out.symm, HL.out⟩
end Go.Proofs.Ytacbfpgknfcimaa.O
