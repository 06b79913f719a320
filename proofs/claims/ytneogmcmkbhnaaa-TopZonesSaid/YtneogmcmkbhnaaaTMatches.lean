/- The law TopoMatches: its walk. -/
import Derived.Test.YtneogmcmkbhnaaaTMatchR
namespace Go.Proofs.Ytneogmcmkbhnaaa.T
open Go.RowKit Go.Lib

theorem matchB_nil (l : List LB) : matchB [] l = true := rfl
theorem small_le {acc : List TB} (h : smallB acc = true) : acc.length ≤ 30 := by
  unfold smallB at h
  rw [Bool.and_eq_true] at h
  simpa using h.1
set_option maxRecDepth 100000 in
set_option maxHeartbeats 2000000 in
theorem topoMatches_any (sel : Value) (acc : List TB) (v : Value) (l : List LB) (w : World) (hT : TermsIn w sel acc) (hL : LabsIn w v l) :
    Calls Try.prog 6 #[sel, v] w fun e w' => e = .returned (.bool true) ∧ Below w.heap.size w w' := by
  have HT := Lib.hid hT
  have HL := Lib.hid hL
  have hn := hL.len
  obtain ⟨p, d, rfl⟩ := hL.shape
  clear hT hL
  obtain ⟨M, hM⟩ : ∃ M, M = l.length := ⟨_, rfl⟩
  rw [← hM] at HL hn ⊢
  have HM := Lib.hid hM
  clear hM
  go_enter Try.func6, Try.ntmps6
  go_wp2_with fail
  refine (small_any sel acc _ HT.out).mono ?_
  rintro e W1 ⟨rfl, rfl⟩
  cases hs : smallB acc with
  | false =>
    clear hs
    go_wp2_with fail
    refine (live_any _).mono ?_
    rintro e W1 ⟨rfl, hb⟩
    have HB := Lib.hid hb
    clear hb
    go_wp2
    go_ret
    exact ⟨rfl, HB.out⟩
  | true =>
    have h30 := Lib.hid (small_le hs)
    clear hs
    by_cases hM30 : M ≤ 30
    · have hM2 := Lib.hid hM30
      go_wp2_with fail
      refine (live_any _).mono ?_
      rintro e W1 ⟨rfl, hb⟩
      have HB := Lib.hid hb
      clear hb
      go_wp2_with fail
      refine (match_any sel acc _ l W1 (HT.out.after HB.out) (HL.out.after HB.out)).mono ?_
      rintro e W2 ⟨rfl, hb⟩
      replace HB := Lib.hid (HB.out.trans (hb.mono HB.out.size))
      clear hb
      go_wp2_with fail
      refine (refTerms_any sel acc h30.out W2 (HT.out.after HB.out)).mono ?_
      rintro e W3 ⟨v1, rfl, hT1, hb⟩
      replace HB := Lib.hid (HB.out.trans (hb.mono HB.out.size))
      have HT1 := Lib.hid hT1
      clear hb hT1
      go_wp2_with fail
      refine (refLabels_any _ l (by rw [← HM.out]; exact hM2.out) W3 (HL.out.after HB.out)).mono ?_
      rintro e W4 ⟨v2, rfl, hL1, hb⟩
      replace HB := Lib.hid (HB.out.trans (hb.mono HB.out.size))
      replace HT1 := Lib.hid (HT1.out.after hb)
      have HL1 := Lib.hid hL1
      clear hb hL1
      go_wp2_with fail
      refine (matchR_any v1 acc v2 l W4 HT1.out HL1.out).mono ?_
      rintro e W5 ⟨rfl, hb⟩
      replace HB := Lib.hid (HB.out.trans (hb.mono HB.out.size))
      clear hb HT1 HL1
      generalize matchB (acc.map Prod.fst) l = R
      go_wp2_with fail
      refine (match_any (.slice none 0 0) [] _ l W5 ⟨fun x hx => (by cases hx), .inl ⟨0, rfl, rfl⟩⟩ (HL.out.after HB.out)).mono ?_
      rintro e W6 ⟨rfl, hb⟩
      replace HB := Lib.hid (HB.out.trans (hb.mono HB.out.size))
      rw [List.map_nil, matchB_nil]
      clear hb
      go_wp2
      go_ret
      exact ⟨rfl, HB.out⟩
    · go_wp2_with fail
      refine (live_any _).mono ?_
      rintro e W1 ⟨rfl, hb⟩
      have HB := Lib.hid hb
      clear hb
      go_wp2
      go_ret
      exact ⟨rfl, HB.out⟩
end Go.Proofs.Ytneogmcmkbhnaaa.T
