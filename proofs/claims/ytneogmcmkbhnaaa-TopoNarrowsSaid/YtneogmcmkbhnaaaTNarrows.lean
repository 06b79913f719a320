/- The law TopoNarrows: its walk. -/
import Derived.Test.YtneogmcmkbhnaaaTNarrowR
import Derived.Test.YtneogmcmkbhnaaaTMatches
import Derived.Test.YtneogmcmkbhnaaaTSameR
import Derived.Test.YtneogmcmkbhnaaaTOpen2
namespace Go.Proofs.Ytneogmcmkbhnaaa.T
open Go.RowKit
open Go.Lib hiding intOf

theorem both_len : ∀ (n : Nat) (A B ts : List PT), A.length + B.length ≤ n → bothB A B = some ts → ts.length ≤ A.length + B.length := by
  intro n
  induction n with
  | zero =>
    intro A B ts h hb
    obtain rfl : A = [] := List.length_eq_zero_iff.1 (by omega)
    obtain rfl : B = [] := List.length_eq_zero_iff.1 (by omega)
    rw [bothB_left] at hb
    cases hb
    simp
  | succ n ih =>
    intro A B ts h hb
    cases A with
    | nil => rw [bothB_left] at hb; cases hb; simp
    | cons x A =>
      cases B with
      | nil => rw [bothB_nil] at hb; cases hb; simp
      | cons y B =>
        simp only [List.length_cons] at h
        rw [bothB] at hb
        split at hb
        · obtain ⟨u, hu, rfl⟩ := Option.map_eq_some_iff.1 hb
          have := ih A (y :: B) u (by simp only [List.length_cons]; omega) hu
          simp only [List.length_cons] at this ⊢
          omega
        · split at hb
          · obtain ⟨u, hu, rfl⟩ := Option.map_eq_some_iff.1 hb
            have := ih (x :: A) B u (by simp only [List.length_cons]; omega) hu
            simp only [List.length_cons] at this ⊢
            omega
          · split at hb
            · cases hb
            · obtain ⟨u, hu, rfl⟩ := Option.map_eq_some_iff.1 hb
              have := ih A B u (by omega) hu
              simp only [List.length_cons] at this ⊢
              omega
theorem narrow_len (A B : List PT) : (narrowB A B).2.length ≤ 8 := by
  unfold narrowB
  split
  · split
    · cases bothB A B with
      | none => simp
      | some ts =>
        dsimp only
        split
        · simp
        · dsimp only
          omega
    · simp
  · simp

set_option maxRecDepth 100000 in
set_option maxHeartbeats 4000000 in
theorem topoNarrows_any (va vb : Value) (A B : List TB) (w : World) (hA : TermsIn w va A) (ca : CapOk va) (fa : FitT A) (hB : TermsIn w vb B) (cb : CapOk vb) (fb : FitT B) :
    Calls Try.prog 7 #[va, vb] w fun e w' => e = .returned (.bool true) ∧ Below w.heap.size w w' := by
  have HA := Lib.hid hA
  have HB := Lib.hid hB
  have HN1 := Lib.hid (fun W (hb : Below w.heap.size w W) => narrow_any va vb A B W (hA.after hb) (hB.after hb) ca cb)
  have HN2 := Lib.hid (fun v1 v2 W (h1 : TermsIn W v1 A) (h2 : TermsIn W v2 B) => narrowR_any v1 v2 A B W h1 h2 fa fb)
  have hlen := narrow_len (A.map Prod.fst) (B.map Prod.fst)
  obtain ⟨r, hr⟩ : ∃ r, narrowB (A.map Prod.fst) (B.map Prod.fst) = r := ⟨_, rfl⟩
  rw [hr] at HN1 HN2 hlen
  obtain ⟨n, ts⟩ := r
  have HLn := Lib.hid hlen
  clear hA hB ca cb fa fb hr hlen
  go_enter Try.func7, Try.ntmps7
  go_wp2_with fail
  refine (small_any va A _ HA.out).mono ?_
  rintro e W1 ⟨rfl, rfl⟩
  cases hs1 : smallB A with
  | false =>
    clear hs1
    go_wp2_with fail
    refine (live_any _).mono ?_
    rintro e V2 ⟨rfl, hb⟩
    have HL := Lib.hid hb
    clear hb
    go_wp2
    go_ret
    exact ⟨rfl, HL.out⟩
  | true =>
    have HSa := Lib.hid (small_le hs1)
    clear hs1
    go_wp2_with fail
    refine (small_any vb B _ HB.out).mono ?_
    rintro e W1 ⟨rfl, rfl⟩
    cases hs2 : smallB B with
    | false =>
      clear hs2
      go_wp2_with fail
      refine (live_any _).mono ?_
      rintro e V2 ⟨rfl, hb⟩
      have HL := Lib.hid hb
      clear hb
      go_wp2
      go_ret
      exact ⟨rfl, HL.out⟩
    | true =>
      have HSb := Lib.hid (small_le hs2)
      clear hs2
      go_wp2_with fail
      refine (HN1.out _ (Below.refl _ _)).mono ?_
      rintro e W2 ⟨v, O, rfl, hro, hO⟩
      have HT := Lib.hid hro.terms
      have HL := Lib.hid hro.low
      have HO := Lib.hid hO
      dsimp only at HO
      have HOl : Hid (O.length ≤ 30) := by
        show _ ≤ _
        have h2 : O.length = ts.length := by rw [← HO.out, List.length_map]
        rw [h2]
        exact Nat.le_trans HLn.out (by decide)
      clear hro hO HN1
      go_wp2_with fail
      refine (refTerms_any va A HSa.out W2 (HA.out.after HL.out)).mono ?_
      rintro e W3 ⟨v1, rfl, h1, hb⟩
      replace HL := Lib.hid (HL.out.trans (hb.mono HL.out.size))
      replace HT := Lib.hid (HT.out.after hb)
      have HT1 := Lib.hid h1
      clear hb h1
      go_wp2_with fail
      refine (refTerms_any vb B HSb.out W3 (HB.out.after HL.out)).mono ?_
      rintro e W4 ⟨v2, rfl, h2, hb⟩
      replace HL := Lib.hid (HL.out.trans (hb.mono HL.out.size))
      replace HT := Lib.hid (HT.out.after hb)
      replace HT1 := Lib.hid (HT1.out.after hb)
      have HT2 := Lib.hid h2
      clear hb h2
      go_wp2_with fail
      refine (HN2.out v1 v2 W4 HT1.out HT2.out).mono ?_
      rintro e W5 ⟨v3, O3, rfl, h3, hO3, hb⟩
      replace HL := Lib.hid (HL.out.trans (hb.mono HL.out.size))
      replace HT := Lib.hid (HT.out.after hb)
      have HT3 := Lib.hid h3
      have HO3 := Lib.hid hO3
      dsimp only at HO3
      clear hb h3 hO3 HN2 HT1 HT2
      go_wp2_with fail
      refine (live_any _).mono ?_
      rintro e W6 ⟨rfl, hb⟩
      replace HL := Lib.hid (HL.out.trans (hb.mono HL.out.size))
      replace HT := Lib.hid (HT.out.after hb)
      replace HT3 := Lib.hid (HT3.out.after hb)
      clear hb
      go_wp2_with fail
      refine (refTerms_any v O HOl.out W6 HT.out).mono ?_
      rintro e W7 ⟨v4, rfl, h4, hb⟩
      replace HL := Lib.hid (HL.out.trans (hb.mono HL.out.size))
      replace HT3 := Lib.hid (HT3.out.after hb)
      have HT4 := Lib.hid h4
      clear hb h4 HT
      go_wp2_with fail
      refine (sameTermsR_any v4 v3 O O3 W7 HT4.out HT3.out).mono ?_
      rintro e W8 ⟨rfl, hb⟩
      rw [decide_eq_true (show O.map Prod.fst = O3.map Prod.fst by rw [HO.out, HO3.out])]
      replace HL := Lib.hid (HL.out.trans (hb.mono HL.out.size))
      clear hb HT3 HT4
      go_wp2
      go_ret
      exact ⟨rfl, HL.out⟩
end Go.Proofs.Ytneogmcmkbhnaaa.T
