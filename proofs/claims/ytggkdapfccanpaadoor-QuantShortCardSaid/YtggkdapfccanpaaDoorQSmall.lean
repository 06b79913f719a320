/- The small functions of sizes: Fits, Up, and the document's own Unit, Up, Fits. -/
import Derived.Test.YtggkdapfccanpaaDoorQDigits
namespace Go.Proofs.YtggkdapfccanpaaDoor.Q
open Go.RowKit

theorem fits_any (n room : Int) (w : World) :
    Calls Tryd.prog 20 #[.int .i64 n, .int .i64 room] w fun e W' => e = .returned (.bool (fits n room)) ∧ w = W' := by
  unfold fits
  by_cases h1 : 0 ≤ n
  all_goals
    go_enter Tryd.func20, Tryd.ntmps20
    go_wp2
    go_ret
    exact ⟨by simp [h1] <;> omega, rfl⟩

theorem ref_fits_any (n room : Int) (w : World) :
    Calls Tryd.prog 21 #[.int .i64 n, .int .i64 room] w fun e W' => e = .returned (.bool (fits n room)) ∧ w = W' := by
  unfold fits
  by_cases h1 : 0 ≤ n
  all_goals
    go_enter Tryd.func21, Tryd.ntmps21
    go_wp2
    go_ret
    exact ⟨by simp [h1] <;> omega, rfl⟩

theorem up_bounds {n u : Int} (h0 : 0 ≤ n) (hu : 1 ≤ u) : 0 ≤ (n + u - 1) / u ∧ (n + u - 1) / u ≤ n + u - 1 ∧ 0 ≤ (n + u - 1) / u * u ∧ (n + u - 1) / u * u ≤ n + u - 1 := by
  have h1 : 0 ≤ (n + u - 1) / u := Int.ediv_nonneg (by omega) (by omega)
  exact ⟨h1, Int.ediv_le_self _ (by omega), Int.mul_nonneg h1 (by omega), Int.ediv_mul_le _ (by omega)⟩

theorem okUp_true {n u : Int} (h1 : 0 ≤ n) (h2 : n ≤ 1125899906842624) (h3 : 1 ≤ u) (h4 : u ≤ 1125899906842624) : okUp n u = true := by
  simp [okUp, okSize, h1, h2, h3, h4]
theorem okUp_false {n u : Int} (h : n < 0 ∨ 1125899906842624 < n ∨ u < 1 ∨ 1125899906842624 < u) : okUp n u = false := by
  simp only [okUp, okSize, Bool.and_eq_false_iff, decide_eq_false_iff_not]; omega

theorem ret_up {n u a b : Int} (h1 : a = upV n u) (h2 : b = upE n u) : Ending.returned (.tuple #[.int .i64 a, .int .i64 b]) = .returned (.tuple #[.int .i64 (upV n u), .int .i64 (upE n u)]) := by rw [h1, h2]

theorem up_no {n u : Int} (h : okUp n u = false) : upV n u = 0 ∧ upE n u = 3 := by simp [upV, upE, h]
theorem up_over {n u : Int} (h : okUp n u = true) (h2 : 1125899906842624 < upOf n u) : upV n u = 0 ∧ upE n u = 3 := by simp [upV, upE, h, h2]
theorem up_ok {n u : Int} (h : okUp n u = true) (h2 : ¬ 1125899906842624 < upOf n u) : upV n u = upOf n u ∧ upE n u = 0 := by simp [upV, upE, h, h2]

set_option maxHeartbeats 400000 in
theorem up_any (n u : Int) (w : World) :
    Calls Tryd.prog 18 #[.int .i64 n, .int .i64 u] w fun e W' => e = .returned (.tuple #[.int .i64 (upV n u), .int .i64 (upE n u)]) ∧ w = W' := by
  by_cases h1 : n < 0
  · have H := Lib.hid (up_no (okUp_false (u := u) (.inl h1)))
    go_enter Tryd.func18, Tryd.ntmps18
    go_wp2
    go_ret2
    exact ⟨ret_up H.out.1.symm H.out.2.symm, rfl⟩
  by_cases h2 : 1125899906842624 < n
  · have H := Lib.hid (up_no (okUp_false (u := u) (.inr (.inl h2))))
    go_enter Tryd.func18, Tryd.ntmps18
    go_wp2
    go_ret2
    exact ⟨ret_up H.out.1.symm H.out.2.symm, rfl⟩
  by_cases h3 : u < 1
  · have H := Lib.hid (up_no (okUp_false (n := n) (u := u) (.inr (.inr (.inl h3)))))
    go_enter Tryd.func18, Tryd.ntmps18
    go_wp2
    go_ret2
    exact ⟨ret_up H.out.1.symm H.out.2.symm, rfl⟩
  by_cases h4 : 1125899906842624 < u
  · have H := Lib.hid (up_no (okUp_false (n := n) (u := u) (.inr (.inr (.inr h4)))))
    go_enter Tryd.func18, Tryd.ntmps18
    go_wp2
    go_ret2
    exact ⟨ret_up H.out.1.symm H.out.2.symm, rfl⟩
  have hok := okUp_true (n := n) (u := u) (by omega) (by omega) (by omega) (by omega)
  obtain ⟨b1, b2, b3, b4⟩ := up_bounds (n := n) (u := u) (by omega) (by omega)
  have g1 : 0 ≤ n := by omega
  have g2 : n ≤ 1125899906842624 := by omega
  have g3 : 1 ≤ u := by omega
  have g4 : u ≤ 1125899906842624 := by omega
  clear h1 h2 h3 h4
  by_cases h5 : 1125899906842624 < (n + u - 1) / u * u
  · have H := Lib.hid (up_over hok h5)
    clear hok
    go_enter Tryd.func18, Tryd.ntmps18
    go_wp2
    go_ret2
    exact ⟨ret_up H.out.1.symm H.out.2.symm, rfl⟩
  · have H := Lib.hid (up_ok hok h5)
    clear hok
    go_enter Tryd.func18, Tryd.ntmps18
    go_wp2
    go_ret2
    exact ⟨ret_up H.out.1.symm H.out.2.symm, rfl⟩

theorem ref_bounds {n u : Int} (h0 : 0 ≤ n) (hu : 1 ≤ u) : 0 ≤ n / u ∧ n / u ≤ n ∧ 0 ≤ n / u * u ∧ n / u * u ≤ n ∧ 0 ≤ n % u ∧ n % u < u ∧ n / u * u + n % u = n := by
  have h1 : 0 ≤ n / u := Int.ediv_nonneg h0 (by omega)
  have e := Int.mul_ediv_add_emod n u
  rw [Int.mul_comm] at e
  exact ⟨h1, Int.ediv_le_self _ h0, Int.mul_nonneg h1 (by omega), Int.ediv_mul_le _ (by omega), Int.emod_nonneg _ (by omega), Int.emod_lt_of_pos _ (by omega), e⟩
theorem up_exact {n u : Int} (hu : 1 ≤ u) (h : n % u = 0) : upOf n u = n / u * u := by
  unfold upOf
  have e := Int.mul_ediv_add_emod n u
  rw [h, Int.add_zero] at e
  have : (n + u - 1) / u = n / u := by
    rw [show n + u - 1 = (u - 1) + u * (n / u) by rw [e]; omega, Int.add_mul_ediv_left _ _ (by omega), Int.ediv_eq_zero_of_lt (by omega) (by omega), Int.zero_add]
  rw [this]
theorem up_more {n u : Int} (hu : 1 ≤ u) (h : n % u ≠ 0) : upOf n u = (n / u + 1) * u := by
  unfold upOf
  have e := Int.mul_ediv_add_emod n u
  have h1 := Int.emod_nonneg n (b := u) (by omega)
  have h2 := Int.emod_lt_of_pos n (b := u) (by omega)
  have : (n + u - 1) / u = n / u + 1 := by
    rw [show n + u - 1 = (n % u - 1) + u * (n / u + 1) by rw [Int.mul_add]; omega, Int.add_mul_ediv_left _ _ (by omega), Int.ediv_eq_zero_of_lt (by omega) (by omega), Int.zero_add]
  rw [this]

set_option maxHeartbeats 400000 in
theorem ref_up_any (n u : Int) (w : World) :
    Calls Tryd.prog 19 #[.int .i64 n, .int .i64 u] w fun e W' => e = .returned (.tuple #[.int .i64 (upV n u), .int .i64 (upE n u)]) ∧ w = W' := by
  by_cases h1 : n < 0
  · have H := Lib.hid (up_no (okUp_false (u := u) (.inl h1)))
    go_enter Tryd.func19, Tryd.ntmps19
    go_wp2
    go_ret2
    exact ⟨ret_up H.out.1.symm H.out.2.symm, rfl⟩
  by_cases h2 : 1125899906842624 < n
  · have H := Lib.hid (up_no (okUp_false (u := u) (.inr (.inl h2))))
    go_enter Tryd.func19, Tryd.ntmps19
    go_wp2
    go_ret2
    exact ⟨ret_up H.out.1.symm H.out.2.symm, rfl⟩
  by_cases h3 : u < 1
  · have H := Lib.hid (up_no (okUp_false (n := n) (u := u) (.inr (.inr (.inl h3)))))
    go_enter Tryd.func19, Tryd.ntmps19
    go_wp2
    go_ret2
    exact ⟨ret_up H.out.1.symm H.out.2.symm, rfl⟩
  by_cases h4 : 1125899906842624 < u
  · have H := Lib.hid (up_no (okUp_false (n := n) (u := u) (.inr (.inr (.inr h4)))))
    go_enter Tryd.func19, Tryd.ntmps19
    go_wp2
    go_ret2
    exact ⟨ret_up H.out.1.symm H.out.2.symm, rfl⟩
  have hok := okUp_true (n := n) (u := u) (by omega) (by omega) (by omega) (by omega)
  obtain ⟨b1, b2, b3, b4, b5, b6, -⟩ := ref_bounds (n := n) (u := u) (by omega) (by omega)
  have g1 : 0 ≤ n := by omega
  have g2 : n ≤ 1125899906842624 := by omega
  have g3 : 1 ≤ u := by omega
  have g4 : u ≤ 1125899906842624 := by omega
  clear h1 h2 h3 h4
  by_cases hm : n % u = 0
  · have he := up_exact g3 hm
    have hm' : (n % u != 0) = false := by simp [hm]
    have H := Lib.hid (up_ok hok (by rw [he]; omega))
    have HE := Lib.hid he
    clear hok he hm
    go_enter Tryd.func19, Tryd.ntmps19
    go_wp2
    go_ret2
    exact ⟨ret_up (H.out.1.trans HE.out).symm H.out.2.symm, rfl⟩
  · have he := up_more g3 hm
    have hm' : (n % u != 0) = true := by simp [hm]
    have e1 : (n / u + 1) * u = n / u * u + u := by rw [Int.add_mul, Int.one_mul]
    have b7 : 0 ≤ (n / u + 1) * u := by omega
    have b8 : (n / u + 1) * u ≤ 2251799813685248 := by omega
    have HE := Lib.hid he
    clear he hm e1
    by_cases h5 : 1125899906842624 < (n / u + 1) * u
    · have H := Lib.hid (up_over hok (by rw [HE.out]; exact h5))
      clear hok
      go_enter Tryd.func19, Tryd.ntmps19
      go_wp2
      go_ret2
      exact ⟨ret_up H.out.1.symm H.out.2.symm, rfl⟩
    · have H := Lib.hid (up_ok hok (by rw [HE.out]; exact h5))
      clear hok
      go_enter Tryd.func19, Tryd.ntmps19
      go_wp2
      go_ret2
      exact ⟨ret_up (H.out.1.trans HE.out).symm H.out.2.symm, rfl⟩
end Go.Proofs.YtggkdapfccanpaaDoor.Q
