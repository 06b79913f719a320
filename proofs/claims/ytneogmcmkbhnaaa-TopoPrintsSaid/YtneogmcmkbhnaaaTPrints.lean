/- The law TopoPrints: its walk. -/
import Derived.Test.YtneogmcmkbhnaaaTRefP
namespace Go.Proofs.Ytneogmcmkbhnaaa.T
open Go.RowKit
open Go.Lib hiding intOf

theorem TextPost.res {w : World} {r : Option (List UInt8)} {e : Ending} {W : World} (h : TextPost w r e W) : Below w.heap.size w W ∧ e = .returned (.tuple #[encS (r.getD []), .int .i64 (if r.isSome = true then 0 else 2)]) := by
  obtain ⟨hb, he⟩ := h
  refine ⟨hb, ?_⟩
  cases r with
  | none => exact he
  | some s => exact he

set_option maxRecDepth 100000 in
set_option maxHeartbeats 4000000 in
theorem topoPrints_any (sel : Value) (acc : List TB) (v : Value) (l : List LB) (w : World) (hT : TermsIn w sel acc) (hz : FitT acc) (hL : LabsIn w v l) (hzl : FitL l) :
    Calls Try.prog 3 #[sel, v] w fun e w' => e = .returned (.bool true) ∧ Below w.heap.size w w' := by
  have HT := Lib.hid hT
  have HL := Lib.hid hL
  have HZ := Lib.hid hz
  have HZL := Lib.hid hzl
  have hn := hL.len
  obtain ⟨p, d, rfl⟩ := hL.shape
  clear hT hL hz hzl
  obtain ⟨M, hM⟩ : ∃ M, M = l.length := ⟨_, rfl⟩
  rw [← hM] at HL hn ⊢
  have HM := Lib.hid hM
  clear hM
  have HPa := Lib.hid (fun W h => (print_any sel acc W h).mono fun e W' h => TextPost.res h)
  have HPb := Lib.hid (fun v W h => (printR_any v acc W h HZ.out).mono fun e W' h => TextPost.res h)
  have HPc := Lib.hid (fun v W h => (printLabels_any v l W h).mono fun e W' h => TextPost.res h)
  have HPd := Lib.hid (fun v W h => (printLabelsR_any v l W h HZL.out).mono fun e W' h => TextPost.res h)
  generalize (printAll prT kyT 44 acc).getD [] = s1 at HPa HPb
  generalize (if (printAll prT kyT 44 acc).isSome = true then (0 : Int) else 2) = n1 at HPa HPb
  generalize (printAll prLabel keyL 44 l).getD [] = s2 at HPc HPd
  generalize (if (printAll prLabel keyL 44 l).isSome = true then (0 : Int) else 2) = n2 at HPc HPd
  go_enter Try.func3, Try.ntmps3
  go_wp2_with fail
  refine (small_any sel acc _ HT.out).mono ?_
  rintro e W1 ⟨rfl, rfl⟩
  cases hs : smallB acc with
  | false =>
    clear hs
    go_wp2_with fail
    refine (live_any _).mono ?_
    rintro e W1 ⟨rfl, hb⟩
    have HB := Lib.hid hb
    clear hb
    go_wp2
    go_ret
    exact ⟨rfl, HB.out⟩
  | true =>
    have h30 := Lib.hid (small_le hs)
    clear hs
    by_cases hM30 : M ≤ 30
    · have hM2 := Lib.hid hM30
      go_wp2_with fail
      refine (HPa.out _ HT.out).mono ?_
      rintro e W2 ⟨hb, rfl⟩
      have HB := Lib.hid hb
      clear hb HPa
      go_wp2_with fail
      refine (refTerms_any sel acc h30.out W2 (HT.out.after HB.out)).mono ?_
      rintro e W3 ⟨v1, rfl, hT1, hb⟩
      replace HB := Lib.hid (HB.out.trans (hb.mono HB.out.size))
      have HT1 := Lib.hid hT1
      clear hb hT1
      go_wp2_with fail
      refine (HPb.out v1 _ HT1.out).mono ?_
      rintro e W4 ⟨hb, rfl⟩
      replace HB := Lib.hid (HB.out.trans (hb.mono HB.out.size))
      clear hb HPb HT1
      go_wp2_with fail
      refine (HPc.out _ _ (HL.out.after HB.out)).mono ?_
      rintro e W5 ⟨hb, rfl⟩
      replace HB := Lib.hid (HB.out.trans (hb.mono HB.out.size))
      clear hb HPc
      go_wp2_with fail
      refine (refLabels_any _ l (by rw [← HM.out]; exact hM2.out) W5 (HL.out.after HB.out)).mono ?_
      rintro e W6 ⟨v2, rfl, hL1, hb⟩
      replace HB := Lib.hid (HB.out.trans (hb.mono HB.out.size))
      have HL1 := Lib.hid hL1
      clear hb hL1
      go_wp2_with fail
      refine (HPd.out v2 _ HL1.out).mono ?_
      rintro e W7 ⟨hb, rfl⟩
      replace HB := Lib.hid (HB.out.trans (hb.mono HB.out.size))
      clear hb HPd HL1
      go_wp2_with fail
      refine (live_any _).mono ?_
      rintro e W8 ⟨rfl, hb⟩
      replace HB := Lib.hid (HB.out.trans (hb.mono HB.out.size))
      clear hb
      go_wp2_with (first | (refine wpList_known (v := .bool true) rfl (exec_eqS s1 rfl rfl rfl) ?_) | (refine wpList_known (v := .bool true) rfl (exec_eqS s2 rfl rfl rfl) ?_))
      go_ret
      exact ⟨rfl, HB.out⟩
    · go_wp2_with fail
      refine (live_any _).mono ?_
      rintro e W1 ⟨rfl, hb⟩
      have HB := Lib.hid hb
      clear hb
      go_wp2
      go_ret
      exact ⟨rfl, HB.out⟩
end Go.Proofs.Ytneogmcmkbhnaaa.T
