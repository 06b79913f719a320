/- The document's own User. -/
import Derived.Test.YtlnkhngfecdflaaORefRight
import Derived.Test.YtlnkhngfecdflaaOUser
namespace Go.Proofs.Ytlnkhngfecdflaa.O
open Go.RowKit T
open Go.Lib hiding intOf

/-- A claim that is right and waits has no volume. -/
theorem claim_vol {o : Obj} (h : rightB o = true) (hk : o.kind = 3) (hp : o.phase = 1) : emp o.volume = true := by
  have h1 := (right_parts h).2.2.2.2.2
  rw [kind3 hk] at h1
  unfold claimB at h1
  simp only [Bool.and_eq_true] at h1
  have h2 := h1.2.2.2.2
  rw [hp] at h2
  simpa using h2

set_option maxRecDepth 100000 in
set_option maxHeartbeats 4000000 in
theorem refUser_any (o : Obj) (w : World) (hf : Fit o) :
    Calls Try.prog 14 #[encO o] w fun e w' => e = .returned (.bool (userB o)) ∧ Below w.heap.size w w' := by
  unfold encO
  have HU0 : Hid (userB o = (rightB o && (((o.version == 0) && ((o.born == 0) && ((o.num == 0) && ((o.tag == 0) && !o.deleting)))) && userK o))) := by show _ = _; unfold userB untouchedB; simp only [beqD]
  go_enter Try.func14, Try.ntmps14
  go_upto_region 1 with (fail)
  refine wp_gen (fun W => BoxO W w.heap.size o ∧ Below w.heap.size w W) ⟨BoxO.new w o, (Below.refl _ _).alloc (Nat.le_refl _) _⟩ ?_
  rintro W1 ⟨hb, hlow⟩
  go_wp2_with ((with_reducible refine wpList_load_obj ?_ rfl ?_ hb ?_); rfl; rfl)
  refine (refRight_any o _ hf).mono ?_
  rintro e W2 ⟨rfl, hb1⟩
  replace hb := hb.after hb1
  replace hlow := hlow.trans (hb1.mono hlow.size)
  clear hb1
  cases b0 : rightB o with
  | false =>
    have H' : Hid (userB o = false) := by show _ = _; rw [HU0.out, b0]; rfl
    go_wp2
    go_ret
    exact ⟨ret_bool H'.out.symm, hlow⟩
  | true =>
  have c2 := hb.c2
  have c3 := hb.c3
  have c4 := hb.c4
  have c18 := hb.c18
  have c19 := hb.c19
  have nb : ∀ n : Int, (n != 0) = !(n == 0) := fun n => rfl
  have NB := Lib.hid nb
  clear nb
  cases b1 : (o.version == 0) with
  | false =>
    have q := (NB.out o.version).trans (by rw [b1])
    have H' : Hid (userB o = false) := by show _ = _; rw [HU0.out, b0, b1]; rfl
    go_wp2
    go_ret
    exact ⟨ret_bool H'.out.symm, hlow⟩
  | true =>
  have q1 := (NB.out o.version).trans (by rw [b1])
  cases b2 : (o.born == 0) with
  | false =>
    have q := (NB.out o.born).trans (by rw [b2])
    have H' : Hid (userB o = false) := by show _ = _; rw [HU0.out, b0, b1, b2]; rfl
    go_wp2
    go_ret
    exact ⟨ret_bool H'.out.symm, hlow⟩
  | true =>
  have q2 := (NB.out o.born).trans (by rw [b2])
  cases b3 : (o.num == 0) with
  | false =>
    have q := (NB.out o.num).trans (by rw [b3])
    have H' : Hid (userB o = false) := by show _ = _; rw [HU0.out, b0, b1, b2, b3]; rfl
    go_wp2
    go_ret
    exact ⟨ret_bool H'.out.symm, hlow⟩
  | true =>
  have q3 := (NB.out o.num).trans (by rw [b3])
  cases b4 : (o.tag == 0) with
  | false =>
    have q := (NB.out o.tag).trans (by rw [b4])
    have H' : Hid (userB o = false) := by show _ = _; rw [HU0.out, b0, b1, b2, b3, b4]; rfl
    go_wp2
    go_ret
    exact ⟨ret_bool H'.out.symm, hlow⟩
  | true =>
  have q4 := (NB.out o.tag).trans (by rw [b4])
  cases b5 : o.deleting with
  | true =>
    have H' : Hid (userB o = false) := by show _ = _; rw [HU0.out, b0, b1, b2, b3, b4, b5]; rfl
    go_wp2
    go_ret
    exact ⟨ret_bool H'.out.symm, hlow⟩
  | false =>
  have HU : Hid (userB o = userK o) := by show _ = _; rw [HU0.out, b0, b1, b2, b3, b4, b5]; rfl
  have HR := Lib.hid b0
  go_upto_region 3 with (fail)
  clear b0 b1 b2 b3 b4 b5 q1 q2 q3 q4 c2 c3 c4 c18 c19
  have c0 := hb.c0
  have c7 := hb.c7
  have c8 := hb.c8
  have c12 := hb.c12
  have c13 := hb.c13
  have c14 := hb.c14
  have c15 := hb.c15
  have c17 := hb.c17
  clear hb
  by_cases k1 : o.kind = 1
  · have e1 := beq_yes k1
    have H' : Hid (userB o = true) := by show _ = _; rw [HU.out]; unfold userK; rw [if_pos k1]
    clear k1
    go_wp2
    go_ret
    exact ⟨ret_bool H'.out.symm, hlow⟩
  have e1 := beq_no k1
  by_cases k2 : o.kind = 2
  · have e2 := beq_yes k2
    have H' : Hid (userB o = true) := by show _ = _; rw [HU.out]; unfold userK; rw [if_neg k1, if_pos k2]
    clear k1 k2
    go_wp2
    go_ret
    exact ⟨ret_bool H'.out.symm, hlow⟩
  have e2 := beq_no k2
  by_cases k3 : o.kind = 3
  · have e3 := beq_yes k3
    have H' : Hid (userB o = ((o.phase == 1) && ((emp o.node && (emp o.zone && emp o.volume)) && (o.got == 0)))) := by show _ = _; rw [HU.out]; unfold userK; rw [if_neg k1, if_neg k2, if_pos k3]; simp only [beqD]
    have HV := fun hp => Lib.hid (claim_vol HR.out k3 hp)
    clear k1 k2 k3
    cases p1 : (o.phase == 1) with
    | false =>
      have H2 : Hid (userB o = false) := by show _ = _; rw [H'.out, p1]; rfl
      go_wp2
      go_ret
      exact ⟨ret_bool H2.out.symm, hlow⟩
    | true =>
    replace HV := HV (eq_of_beq p1)
    cases p2 : emp o.node with
    | false =>
      have s2 := emp_false p2
      have H2 : Hid (userB o = false) := by show _ = _; rw [H'.out, p1, p2]; rfl
      go_wp2
      go_ret
      exact ⟨ret_bool H2.out.symm, hlow⟩
    | true =>
    have s2 := emp_true p2
    have r2 := emp_true' p2
    cases p3 : emp o.zone with
    | false =>
      have s3 := emp_false p3
      have H2 : Hid (userB o = false) := by show _ = _; rw [H'.out, p1, p2, p3]; rfl
      go_wp2
      go_ret
      exact ⟨ret_bool H2.out.symm, hlow⟩
    | true =>
    have s3 := emp_true p3
    have r3 := emp_true' p3
    have H2 : Hid (userB o = (o.got == 0)) := by show _ = _; rw [H'.out, p1, p2, p3, HV.out]; rfl
    go_wp2
    go_ret
    exact ⟨ret_bool H2.out.symm, hlow⟩
  have e3 := beq_no k3
  by_cases k4 : o.kind = 4
  · have e4 := beq_yes k4
    have H' : Hid (userB o = ((o.phase == 4) && (emp o.claim && (o.got == o.size)))) := by show _ = _; rw [HU.out]; unfold userK; rw [if_neg k1, if_neg k2, if_neg k3, if_pos k4]; simp only [beqD]
    clear k1 k2 k3 k4
    cases p1 : (o.phase == 4) with
    | false =>
      have H2 : Hid (userB o = false) := by show _ = _; rw [H'.out, p1]; rfl
      go_wp2
      go_ret
      exact ⟨ret_bool H2.out.symm, hlow⟩
    | true =>
    cases p2 : emp o.claim with
    | false =>
      have s2 := emp_false p2
      have H2 : Hid (userB o = false) := by show _ = _; rw [H'.out, p1, p2]; rfl
      go_wp2
      go_ret
      exact ⟨ret_bool H2.out.symm, hlow⟩
    | true =>
    have s2 := emp_true p2
    have r2 := emp_true' p2
    have H2 : Hid (userB o = (o.got == o.size)) := by show _ = _; rw [H'.out, p1, p2]; rfl
    go_wp2
    go_ret
    exact ⟨ret_bool H2.out.symm, hlow⟩
  have e4 := beq_no k4
  by_cases k6 : o.kind = 6
  · have e6 := beq_yes k6
    have H' : Hid (userB o = o.node.toList.isEmpty) := by show _ = _; rw [HU.out]; unfold userK; rw [if_neg k1, if_neg k2, if_neg k3, if_neg k4, if_pos k6, empI]
    clear k1 k2 k3 k4 k6
    go_wp2
    go_ret
    exact ⟨ret_bool H'.out.symm, hlow⟩
  have e6 := beq_no k6
  by_cases k7 : o.kind = 7
  · have e7 := beq_yes k7
    have H' : Hid (userB o = ((o.phase == 1) && (emp o.volume && (o.got == 0)))) := by show _ = _; rw [HU.out]; unfold userK; rw [if_neg k1, if_neg k2, if_neg k3, if_neg k4, if_neg k6, if_pos k7]; simp only [beqD]
    clear k1 k2 k3 k4 k6 k7
    cases p1 : (o.phase == 1) with
    | false =>
      have H2 : Hid (userB o = false) := by show _ = _; rw [H'.out, p1]; rfl
      go_wp2
      go_ret
      exact ⟨ret_bool H2.out.symm, hlow⟩
    | true =>
    cases p2 : emp o.volume with
    | false =>
      have s2 := emp_false p2
      have H2 : Hid (userB o = false) := by show _ = _; rw [H'.out, p1, p2]; rfl
      go_wp2
      go_ret
      exact ⟨ret_bool H2.out.symm, hlow⟩
    | true =>
    have s2 := emp_true p2
    have r2 := emp_true' p2
    have H2 : Hid (userB o = (o.got == 0)) := by show _ = _; rw [H'.out, p1, p2]; rfl
    go_wp2
    go_ret
    exact ⟨ret_bool H2.out.symm, hlow⟩
  have e7 := beq_no k7
  have H' : Hid (userB o = false) := by show _ = _; rw [HU.out]; unfold userK; rw [if_neg k1, if_neg k2, if_neg k3, if_neg k4, if_neg k6, if_neg k7]
  clear k1 k2 k3 k4 k6 k7
  go_wp2
  go_ret
  exact ⟨ret_bool H'.out.symm, hlow⟩
end Go.Proofs.Ytlnkhngfecdflaa.O
