/- The laws QuantPrints, QuantBack, QuantUp: their walks. -/
import Derived.Test.YtggkdapfccanpaaDoorQLive
import Derived.Test.YtggkdapfccanpaaDoorQRefPrint
import Derived.Test.YtggkdapfccanpaaDoorQMath
namespace Go.Proofs.YtggkdapfccanpaaDoor.Q
open Go.RowKit

set_option maxHeartbeats 400000 in
theorem quantPrints_any (n u : Int) (w : World) (ht : Tab w) :
    Calls Tryd.prog 4 #[.int .i64 n, .int .i64 u] w fun e W' => e = .returned (.bool true) ∧ Below w.heap.size w W' := by
  have HT := Lib.hid ht
  clear ht
  go_enter Tryd.func4, Tryd.ntmps4
  go_wp2_with fail
  refine (print_any n _ HT.out).mono ?_
  rintro e w1 ⟨rfl, hb1⟩
  have ht1 := Lib.hid (HT.out.below hb1 (Nat.le_refl _))
  go_wp2_with fail
  refine (ref_print_any n _ ht1.out).mono ?_
  rintro e w2 ⟨rfl, hb2⟩
  have hb := hb1.trans (hb2.mono hb1.size)
  have ht2 := Lib.hid (HT.out.below hb (Nat.le_refl _))
  have hb' := Lib.hid hb
  clear hb1 hb2 hb
  go_wp2_with fail
  refine (up_any _ _ _).mono ?_
  rintro e w3 ⟨rfl, rfl⟩
  go_wp2_with fail
  refine (ref_up_any _ _ _).mono ?_
  rintro e w3 ⟨rfl, rfl⟩
  go_wp2_with fail
  refine (live_any _ ht2.out).mono ?_
  rintro e w3 ⟨rfl, hb3⟩
  have hbb := Lib.hid (hb'.out.trans (hb3.mono hb'.out.size))
  clear hb3
  unfold encS
  generalize printT n = pt at *
  generalize printE n = pe at *
  generalize upV n u = uv at *
  generalize upE n u = ue at *
  go_wp2_with fail
  refine (fits_any _ _ _).mono ?_
  rintro e w3 ⟨rfl, rfl⟩
  go_wp2_with fail
  refine (ref_fits_any _ _ _).mono ?_
  rintro e w3 ⟨rfl, rfl⟩
  generalize fits n u = fu at *
  go_wp2
  go_ret
  exact ⟨by simp, hbb.out⟩

theorem print_len {n : Int} (hok : okSize n = true) : (printT n).length ≤ 22 := by
  obtain ⟨a, b, c, d, e, f, g, -⟩ := printed hok
  simp only [okSize, Bool.and_eq_true, decide_eq_true_eq] at hok
  rw [a, List.length_append]
  have := suffix_le n
  have := digits_le e (Int.le_trans f hok.2)
  omega

set_option maxHeartbeats 1000000 in
theorem quantBack_any (n : Int) (s : ByteArray) (w : World) (ht : Tab w) (hs : s.size ≤ 9223372036854775807) :
    Calls Tryd.prog 5 #[.int .i64 n, .string s] w fun e W' => e = .returned (.bool true) ∧ Below w.heap.size w W' := by
  have HT := Lib.hid ht
  clear ht
  have hp1 := Lib.hid (@parse_print n)
  have hp2 := Lib.hid (@parse_size s.data.toList)
  have hp3 := Lib.hid (@parse_err s.data.toList)
  have hp4 := Lib.hid (@parse_print (parseV s.data.toList))
  cases hok : okSize n with
  | true =>
    have H1 := Lib.hid (hp1.out hok)
    have hl : Hid ((printT n).length ≤ 22) := print_len hok
    clear hp1 hok
    go_enter Tryd.func5, Tryd.ntmps5
    go_wp2_with fail
    refine (print_any n _ HT.out).mono ?_
    rintro e w1 ⟨rfl, hb1⟩
    rw [H1.out.2.2]
    unfold encS
    go_wp2_with fail
    refine (parse_any _ _ (by have := hl.out; show (printT n).toArray.size ≤ _; simp; omega)).mono ?_
    rintro e w2 ⟨rfl, hb2⟩
    have hb := hb1.trans (hb2.mono hb1.size)
    rw [show parseV (ByteArray.mk (printT n).toArray).data.toList = n from H1.out.1, show parseE (ByteArray.mk (printT n).toArray).data.toList = 0 from H1.out.2.1]
    have hb' := Lib.hid hb
    clear hb1 hb2 hb
    go_wp2_with fail
    refine (parse_any s _ hs).mono ?_
    rintro e w3 ⟨rfl, hb3⟩
    have hc := hb'.out.trans (hb3.mono hb'.out.size)
    have ht3 := Lib.hid (HT.out.below hc (Nat.le_refl _))
    have hc' := Lib.hid hc
    clear hb3 hc
    rcases hp3.out with he | ⟨he | he, hv⟩
    · have hsz := hp2.out he
      have H4 := Lib.hid (hp4.out hsz)
      have hl4 : Hid ((printT (parseV s.data.toList)).length ≤ 22) := print_len hsz
      rw [he]
      clear he hsz hp2 hp3 hp4
      generalize parseV s.data.toList = a at *
      go_wp2_with fail
      refine (print_any a _ ht3.out).mono ?_
      rintro e w4 ⟨rfl, hb4⟩
      have hd := hc'.out.trans (hb4.mono hc'.out.size)
      rw [H4.out.2.2]
      unfold encS
      have hd' := Lib.hid hd
      clear hb4 hd
      go_wp2_with fail
      refine (parse_any _ _ (by have := hl4.out; show (printT a).toArray.size ≤ _; simp; omega)).mono ?_
      rintro e w5 ⟨rfl, hb5⟩
      have he := hd'.out.trans (hb5.mono hd'.out.size)
      rw [show parseV (ByteArray.mk (printT a).toArray).data.toList = a from H4.out.1, show parseE (ByteArray.mk (printT a).toArray).data.toList = 0 from H4.out.2.1]
      have ht5 := Lib.hid (HT.out.below he (Nat.le_refl _))
      have he' := Lib.hid he
      clear hb5 he
      go_wp2_with fail
      refine (live_any _ ht5.out).mono ?_
      rintro e w6 ⟨rfl, hb6⟩
      have hf' := Lib.hid (he'.out.trans (hb6.mono he'.out.size))
      clear hb6
      go_wp2
      go_ret
      exact ⟨by simp, hf'.out⟩
    all_goals
      rw [he, hv]
      clear he hv hp2 hp3 hp4
      go_wp2_with fail
      refine (live_any _ ht3.out).mono ?_
      rintro e w6 ⟨rfl, hb6⟩
      have hf' := Lib.hid (hc'.out.trans (hb6.mono hc'.out.size))
      clear hb6
      go_wp2
      go_ret
      exact ⟨by simp, hf'.out⟩
  | false =>
    have H1 := Lib.hid (print_no hok)
    have hcase : n < 0 ∨ (0 ≤ n ∧ 1125899906842624 < n) := by
      simp only [okSize, Bool.and_eq_false_iff, decide_eq_false_iff_not] at hok; omega
    clear hp1 hok
    go_enter Tryd.func5, Tryd.ntmps5
    go_wp2_with fail
    refine (print_any n _ HT.out).mono ?_
    rintro e w1 ⟨rfl, hb1⟩
    rw [H1.out.1, H1.out.2]
    unfold encS
    have hb' := Lib.hid hb1
    clear hb1
    rcases hcase with h | ⟨h, h'⟩
    all_goals
      go_wp2_with fail
      refine (parse_any s _ hs).mono ?_
      rintro e w3 ⟨rfl, hb3⟩
      have hc := hb'.out.trans (hb3.mono hb'.out.size)
      have ht3 := Lib.hid (HT.out.below hc (Nat.le_refl _))
      have hc' := Lib.hid hc
      clear hb3 hc
      rcases hp3.out with he | ⟨he | he, hv⟩
      · have hsz := hp2.out he
        have H4 := Lib.hid (hp4.out hsz)
        have hl4 : Hid ((printT (parseV s.data.toList)).length ≤ 22) := print_len hsz
        rw [he]
        clear he hsz hp2 hp3 hp4
        generalize parseV s.data.toList = a at *
        go_wp2_with fail
        refine (print_any a _ ht3.out).mono ?_
        rintro e w4 ⟨rfl, hb4⟩
        have hd := hc'.out.trans (hb4.mono hc'.out.size)
        rw [H4.out.2.2]
        unfold encS
        have hd' := Lib.hid hd
        clear hb4 hd
        go_wp2_with fail
        refine (parse_any _ _ (by have := hl4.out; show (printT a).toArray.size ≤ _; simp; omega)).mono ?_
        rintro e w5 ⟨rfl, hb5⟩
        have he := hd'.out.trans (hb5.mono hd'.out.size)
        rw [show parseV (ByteArray.mk (printT a).toArray).data.toList = a from H4.out.1, show parseE (ByteArray.mk (printT a).toArray).data.toList = 0 from H4.out.2.1]
        have ht5 := Lib.hid (HT.out.below he (Nat.le_refl _))
        have he' := Lib.hid he
        clear hb5 he
        go_wp2_with fail
        refine (live_any _ ht5.out).mono ?_
        rintro e w6 ⟨rfl, hb6⟩
        have hf' := Lib.hid (he'.out.trans (hb6.mono he'.out.size))
        clear hb6
        go_wp2
        go_ret
        exact ⟨by simp, hf'.out⟩
      all_goals
        rw [he, hv]
        clear he hv hp2 hp3 hp4
        go_wp2_with fail
        refine (live_any _ ht3.out).mono ?_
        rintro e w6 ⟨rfl, hb6⟩
        have hf' := Lib.hid (hc'.out.trans (hb6.mono hc'.out.size))
        clear hb6
        go_wp2
        go_ret
        exact ⟨by simp, hf'.out⟩

theorem up_facts {n u : Int} (h : upE n u = 0) : 0 ≤ n ∧ 1 ≤ u ∧ u ≤ 1125899906842624 ∧ n ≤ upV n u ∧ upV n u - n < u ∧ upV n u % u = 0 ∧ upV n u ≤ 1125899906842624 ∧ upV (upV n u) u = upV n u ∧ upE (upV n u) u = 0 := by
  have hok : okUp n u = true := by
    cases hb : okUp n u with
    | true => rfl
    | false => rw [(up_no hb).2] at h; cases h
  have hle : ¬ 1125899906842624 < upOf n u := fun hb => by rw [(up_over hok hb).2] at h; cases h
  rw [(up_ok hok hle).1]
  have hb := hok
  simp only [okUp, okSize, Bool.and_eq_true, decide_eq_true_eq] at hb
  obtain ⟨⟨h0, h1⟩, h2, h3⟩ := hb
  have b := up_bounds h0 h2
  have e := Int.mul_ediv_add_emod (n + u - 1) u
  rw [Int.mul_comm] at e
  have m1 := Int.emod_nonneg (n + u - 1) (b := u) (by omega)
  have m2 := Int.emod_lt_of_pos (n + u - 1) (b := u) (by omega)
  have hm : upOf n u % u = 0 := by unfold upOf; exact Int.mul_emod_left _ _
  have hx : upOf (upOf n u) u = upOf n u := by rw [up_exact h2 hm]; exact Int.ediv_mul_cancel (Int.dvd_of_emod_eq_zero hm)
  have hok2 : okUp (upOf n u) u = true := okUp_true (by unfold upOf; omega) (by omega) h2 h3
  have r := up_ok hok2 (by rw [hx]; exact hle)
  rw [hx] at r
  refine ⟨h0, h2, h3, ?_, ?_, hm, by omega, r.1, r.2⟩
  · unfold upOf; omega
  · unfold upOf; omega

set_option maxHeartbeats 400000 in
theorem quantUp_any (n u : Int) (w : World) (ht : Tab w) :
    Calls Tryd.prog 7 #[.int .i64 n, .int .i64 u] w fun e W' => e = .returned (.bool true) ∧ Below w.heap.size w W' := by
  have HT := Lib.hid ht
  clear ht
  by_cases hE : upE n u = 0
  · obtain ⟨f1, f2, f3, f4, f5, f6, f7, f8, f9⟩ := up_facts hE
    have HE := Lib.hid hE
    have H8 := Lib.hid f8
    have H9 := Lib.hid f9
    have g6 : (upV n u % u == 0) = true := by simpa using f6
    clear hE f8 f9 f6
    go_enter Tryd.func7, Tryd.ntmps7
    go_wp2_with fail
    refine (up_any _ _ _).mono ?_
    rintro e w1 ⟨rfl, rfl⟩
    rw [HE.out]
    generalize upV n u = v at *
    go_wp2_with fail
    refine (up_any _ _ _).mono ?_
    rintro e w1 ⟨rfl, rfl⟩
    rw [H8.out, H9.out]
    go_wp2_with fail
    refine (live_any _ HT.out).mono ?_
    rintro e w6 ⟨rfl, hb6⟩
    have hf' := Lib.hid hb6
    clear hb6
    go_wp2
    go_ret
    exact ⟨by simp, hf'.out⟩
  · have h3 : upE n u = 3 ∧ upV n u = 0 := by
      revert hE; unfold upE upV
      repeat' split
      all_goals simp
    have H3 := Lib.hid h3
    clear hE h3
    go_enter Tryd.func7, Tryd.ntmps7
    go_wp2_with fail
    refine (up_any _ _ _).mono ?_
    rintro e w1 ⟨rfl, rfl⟩
    rw [H3.out.1, H3.out.2]
    go_wp2_with fail
    refine (live_any _ HT.out).mono ?_
    rintro e w6 ⟨rfl, hb6⟩
    have hf' := Lib.hid hb6
    clear hb6
    go_wp2
    go_ret
    exact ⟨by simp, hf'.out⟩
end Go.Proofs.YtggkdapfccanpaaDoor.Q
