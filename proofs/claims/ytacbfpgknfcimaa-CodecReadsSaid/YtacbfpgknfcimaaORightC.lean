/- What a volume must be to be right; what each kind asks. -/
import Derived.Test.YtacbfpgknfcimaaORightB
import Derived.Deep.DeepCutAuto
namespace Go.Proofs.Ytacbfpgknfcimaa.O
open Go.RowKit T
open Go.Lib hiding intOf

def belongs (o : Obj) : Bool := decide (o.phase = 3) || decide (o.phase = 5)
theorem beqD (a b : Int) : (a == b) = decide (a = b) := by rw [Bool.eq_iff_iff]; simp

set_option maxRecDepth 100000 in
set_option maxHeartbeats 4000000 in
theorem rightVolume_any (o : Obj) (w : World) :
    Calls Try.prog 74 #[encO o] w fun e w' => e = .returned (.bool (volumeB o)) ∧ Below w.heap.size w w' := by
  unfold encO
  have H : Hid (volumeB o = ((!emp o.cls && !emp o.zone) && (decide (o.size ≠ 0) && (decide (o.got ≠ 0) && (modeB o.mode && (ph4 o.phase 4 3 5 6 && (!emp o.claim || !belongs o))))))) := rfl
  have es := neB o.size
  have eg := neB o.got
  go_enter Try.func74, Try.ntmps74
  go_upto_region 1 with (fail)
  refine wp_gen (fun W => BoxO W w.heap.size o ∧ Below w.heap.size w W) ⟨BoxO.new w o, (Below.refl _ _).alloc (Nat.le_refl _) _⟩ ?_
  rintro W1 ⟨hb, hlow⟩
  have c6 := hb.c6
  have c7 := hb.c7
  have c8 := hb.c8
  have c9 := hb.c9
  have c12 := hb.c12
  have c14 := hb.c14
  have c17 := hb.c17
  go_cut [3] (fun s3 wx => s3 = .bool (belongs o) ∧ W1 = wx)
  case first =>
    have ed : Hid (belongs o = (decide (o.phase = 3) || decide (o.phase = 5))) := rfl
    by_cases h3 : o.phase = 3
    · have e3 := beq_yes h3
      have h3' := Lib.hid h3
      clear h3
      go_wp2
      go_meet
      case rel => exact ⟨by rw [ed.out, h3'.out]; rfl, rfl⟩
    · have e3 := beq_no h3
      have h3' := Lib.hid h3
      have e5 := beqD o.phase 5
      clear h3
      go_wp2
      go_meet
      case rel => exact ⟨by rw [ed.out, decide_eq_false h3'.out]; simp, rfl⟩
  case rest =>
    obtain ⟨rfl, rfl⟩ := hcut
    have hsz := hlow.size
    have lt := hb.lt
    have d7 := fun X => (hb.alloc X).c7
    have d8 := fun X => (hb.alloc X).c8
    have d9 := fun X => (hb.alloc X).c9
    have d17 := fun X => (hb.alloc X).c17
    have d14 := fun X Y => ((hb.alloc X).alloc Y).c14
    have hlow' := Lib.hid hlow
    clear lt hlow hb es eg
    go_wp2_with fail
    refine (noneEmpty2 o.cls o.zone _ _ ?_ ?_).mono ?_
    · go_simp
    · go_simp
    rintro e w' ⟨rfl, rfl⟩
    cases b0 : (!emp o.cls && !emp o.zone) with
    | false =>
      have H' : Hid (volumeB o = false) := by show _ = _; rw [H.out, b0]; rfl
      go_wp2
      go_ret
      exact ⟨ret_bool H'.out.symm, hlow'.out.alloc hsz _⟩
    | true =>
    cases b1 : (o.size != 0) with
    | false =>
      have H' : Hid (volumeB o = false) := by show _ = _; rw [H.out, b0, ← neB, b1]; rfl
      go_wp2
      go_ret
      exact ⟨ret_bool H'.out.symm, hlow'.out.alloc hsz _⟩
    | true =>
    cases b2 : (o.got != 0) with
    | false =>
      have H' : Hid (volumeB o = false) := by show _ = _; rw [H.out, b0, ← neB, ← neB, b1, b2]; rfl
      go_wp2
      go_ret
      exact ⟨ret_bool H'.out.symm, hlow'.out.alloc hsz _⟩
    | true =>
    go_wp2_with fail
    refine (rightMode_any o.mode _).mono ?_
    rintro e w' ⟨rfl, rfl⟩
    cases b3 : modeB o.mode with
    | false =>
      have H' : Hid (volumeB o = false) := by show _ = _; rw [H.out, b0, ← neB, ← neB, b1, b2, b3]; rfl
      go_wp2
      go_ret
      exact ⟨ret_bool H'.out.symm, hlow'.out.alloc hsz _⟩
    | true =>
    go_wp2_with fail
    refine (oneOf4 o.phase 4 3 5 6 _ _ ?_ ?_ ?_ ?_).mono ?_
    · go_simp
    · go_simp
    · go_simp
    · go_simp
    rintro e w' ⟨rfl, rfl⟩
    cases b4 : ph4 o.phase 4 3 5 6 with
    | false =>
      have H' : Hid (volumeB o = false) := by show _ = _; rw [H.out, b0, ← neB, ← neB, b1, b2, b3, b4]; rfl
      go_wp2
      go_ret
      exact ⟨ret_bool H'.out.symm, (hlow'.out.alloc hsz _).alloc (by simp; omega) _⟩
    | true =>
    have H' : Hid (volumeB o = (!emp o.claim || !belongs o)) := by show _ = _; rw [H.out, b0, ← neB, ← neB, b1, b2, b3, b4]; rfl
    go_wp2_with fail
    refine (noneEmpty1 o.claim _ _ ?_).mono ?_
    · go_simp
    rintro e w' ⟨rfl, rfl⟩
    cases b5 : emp o.claim with
    | false =>
      have H2 : Hid (volumeB o = true) := by show _ = _; rw [H'.out, b5]; rfl
      go_wp2
      go_ret
      exact ⟨ret_bool H2.out.symm, ((hlow'.out.alloc hsz _).alloc (by simp; omega) _).alloc (by simp; omega) _⟩
    | true =>
      have H2 : Hid (volumeB o = !belongs o) := by show _ = _; rw [H'.out, b5]; rfl
      go_wp2
      go_ret
      exact ⟨ret_bool H2.out.symm, ((hlow'.out.alloc hsz _).alloc (by simp; omega) _).alloc (by simp; omega) _⟩

set_option maxRecDepth 100000 in
set_option maxHeartbeats 4000000 in
theorem rightOfKind_any (o : Obj) (w : World) (hz : o.volume.size ≤ 140737488351232 ∧ o.node.size ≤ 140737488351232) :
    Calls Try.prog 54 #[encO o] w fun e w' => e = .returned (.bool (kindB o)) ∧ Below w.heap.size w w' := by
  have HZ := Lib.hid hz
  clear hz
  unfold encO
  have H : Hid (kindB o = if o.kind = 1 then true
    else if o.kind = 2 then !emp o.zone && noSl o.name
    else if o.kind = 3 then claimB o
    else if o.kind = 4 then volumeB o
    else if o.kind = 5 then attachB o
    else if o.kind = 6 then !emp o.claim
    else if o.kind = 7 then !emp o.source && ph4 o.phase 1 10 11 6
    else false) := rfl
  go_enter Try.func54, Try.ntmps54
  go_upto_region 1 with (fail)
  refine wp_gen (fun W => BoxO W w.heap.size o ∧ Below w.heap.size w W) ⟨BoxO.new w o, (Below.refl _ _).alloc (Nat.le_refl _) _⟩ ?_
  rintro W1 ⟨hb, hlow⟩
  have hsz := hlow.size
  have lt := hb.lt
  have HB := Lib.hid hb
  have HL := Lib.hid hlow
  have c0 := hb.c0
  clear lt hlow hb
  by_cases k1 : o.kind = 1
  · have e1 := beq_yes k1
    have H' : Hid (kindB o = true) := by show _ = _; rw [H.out, if_pos k1]
    clear k1
    go_wp2
    go_ret
    exact ⟨ret_bool H'.out.symm, HL.out⟩
  have e1 := beq_no k1
  by_cases k2 : o.kind = 2
  · have e2 := beq_yes k2
    have H' : Hid (kindB o = (!emp o.zone && noSl o.name)) := by show _ = _; rw [H.out, if_neg k1, if_pos k2]
    clear k1 k2
    have c12 := HB.out.c12
    have d1 := fun X => (HB.out.alloc X).c1
    go_wp2_with fail
    refine (noneEmpty1 o.zone _ _ ?_).mono ?_
    · go_simp
    rintro e w' ⟨rfl, rfl⟩
    cases b0 : emp o.zone with
    | true =>
      have H2 : Hid (kindB o = false) := by show _ = _; rw [H'.out, b0]; rfl
      go_wp2
      go_ret
      exact ⟨ret_bool H2.out.symm, HL.out.alloc hsz _⟩
    | false =>
      have H2 : Hid (kindB o = noSl o.name) := by show _ = _; rw [H'.out, b0]; rfl
      go_wp2_with fail
      refine (noSlash_any o.name _).mono ?_
      rintro e w' ⟨rfl, rfl⟩
      go_wp2
      go_ret
      exact ⟨ret_bool H2.out.symm, HL.out.alloc hsz _⟩
  have e2 := beq_no k2
  by_cases k3 : o.kind = 3
  · have e3 := beq_yes k3
    have H' : Hid (kindB o = claimB o) := by show _ = _; rw [H.out, if_neg k1, if_neg k2, if_pos k3]
    clear k1 k2 k3
    go_wp2_with ((with_reducible refine wpList_load_row rfl 27 _ rfl w.heap.size ?_ 27 (cellsO o) (0, 0) _ ?_ undObj ?_ ?_ ?_); rfl; exact HB.out; rfl; exact sizeObj)
    refine (rightClaim_any o _).mono ?_
    rintro e w2 ⟨rfl, hb2⟩
    go_wp2
    go_ret
    exact ⟨ret_bool H'.out.symm, HL.out.trans (hb2.mono hsz)⟩
  have e3 := beq_no k3
  by_cases k4 : o.kind = 4
  · have e4 := beq_yes k4
    have H' : Hid (kindB o = volumeB o) := by show _ = _; rw [H.out, if_neg k1, if_neg k2, if_neg k3, if_pos k4]
    clear k1 k2 k3 k4
    go_wp2_with ((with_reducible refine wpList_load_row rfl 27 _ rfl w.heap.size ?_ 27 (cellsO o) (0, 0) _ ?_ undObj ?_ ?_ ?_); rfl; exact HB.out; rfl; exact sizeObj)
    refine (rightVolume_any o _).mono ?_
    rintro e w2 ⟨rfl, hb2⟩
    go_wp2
    go_ret
    exact ⟨ret_bool H'.out.symm, HL.out.trans (hb2.mono hsz)⟩
  have e4 := beq_no k4
  by_cases k5 : o.kind = 5
  · have e5 := beq_yes k5
    have H' : Hid (kindB o = attachB o) := by show _ = _; rw [H.out, if_neg k1, if_neg k2, if_neg k3, if_neg k4, if_pos k5]
    clear k1 k2 k3 k4 k5
    go_wp2_with ((with_reducible refine wpList_load_row rfl 27 _ rfl w.heap.size ?_ 27 (cellsO o) (0, 0) _ ?_ undObj ?_ ?_ ?_); rfl; exact HB.out; rfl; exact sizeObj)
    refine (rightAttach_any o _ HZ.out).mono ?_
    rintro e w2 ⟨rfl, hb2⟩
    go_wp2
    go_ret
    exact ⟨ret_bool H'.out.symm, HL.out.trans (hb2.mono hsz)⟩
  have e5 := beq_no k5
  by_cases k6 : o.kind = 6
  · have e6 := beq_yes k6
    have H' : Hid (kindB o = !emp o.claim) := by show _ = _; rw [H.out, if_neg k1, if_neg k2, if_neg k3, if_neg k4, if_neg k5, if_pos k6]
    clear k1 k2 k3 k4 k5 k6
    have c14 := HB.out.c14
    go_wp2_with fail
    refine (noneEmpty1 o.claim _ _ ?_).mono ?_
    · go_simp
    rintro e w' ⟨rfl, rfl⟩
    go_wp2
    go_ret
    exact ⟨ret_bool H'.out.symm, HL.out.alloc hsz _⟩
  have e6 := beq_no k6
  by_cases k7 : o.kind = 7
  · have e7 := beq_yes k7
    have H' : Hid (kindB o = (!emp o.source && ph4 o.phase 1 10 11 6)) := by show _ = _; rw [H.out, if_neg k1, if_neg k2, if_neg k3, if_neg k4, if_neg k5, if_neg k6, if_pos k7]
    clear k1 k2 k3 k4 k5 k6 k7
    have c16 := HB.out.c16
    have d17 := fun X => (HB.out.alloc X).c17
    go_wp2_with fail
    refine (noneEmpty1 o.source _ _ ?_).mono ?_
    · go_simp
    rintro e w' ⟨rfl, rfl⟩
    cases b0 : emp o.source with
    | true =>
      have H2 : Hid (kindB o = false) := by show _ = _; rw [H'.out, b0]; rfl
      go_wp2
      go_ret
      exact ⟨ret_bool H2.out.symm, HL.out.alloc hsz _⟩
    | false =>
      have H2 : Hid (kindB o = ph4 o.phase 1 10 11 6) := by show _ = _; rw [H'.out, b0]; rfl
      go_wp2_with fail
      refine (oneOf4 o.phase 1 10 11 6 _ _ ?_ ?_ ?_ ?_).mono ?_
      · go_simp
      · go_simp
      · go_simp
      · go_simp
      rintro e w' ⟨rfl, rfl⟩
      go_wp2
      go_ret
      exact ⟨ret_bool H2.out.symm, (HL.out.alloc hsz _).alloc (by simp; omega) _⟩
  have e7 := beq_no k7
  have H' : Hid (kindB o = false) := by show _ = _; rw [H.out, if_neg k1, if_neg k2, if_neg k3, if_neg k4, if_neg k5, if_neg k6, if_neg k7]
  clear k1 k2 k3 k4 k5 k6 k7
  go_wp2
  go_ret
  exact ⟨ret_bool H'.out.symm, HL.out⟩
end Go.Proofs.Ytacbfpgknfcimaa.O
