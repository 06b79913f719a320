/- WorkqDelays: its walk. -/
import Derived.Test.YtdjkdehfkkkalaaWLive
namespace Go.Proofs.Ytdjkdehfkkkalaa.W
open Go Go.RowKit KM
open Go.Lib

theorem delay_low {f : Int} (h : f ≤ 0) : delayN f = 0 := by unfold delayN; rw [if_pos h]
theorem delay_high {f : Int} (h : 7 ≤ f) : delayN f = 64 := by
  unfold delayN
  rw [if_neg (by omega), show min (f - 1) 6 = 6 by omega]
  rfl
theorem delays_low (f : Int) (w : World) (h0 : -9223372036854775808 ≤ f) (h : f ≤ 0) : Calls Try.prog 6 #[.int .i64 f] w fun e w' => e = .returned (.bool true) ∧ Below w.heap.size w w' := by
  go_enter Try.func6, Try.ntmps6
  go_wp2_with fail
  refine (live_any _).mono ?_
  rintro e V ⟨rfl, hb⟩
  have HB := Lib.hid hb
  clear hb
  go_wp2_with fail
  refine (delay_at (delay_low h) _ h0 (by omega)).mono ?_
  rintro e V2 ⟨rfl, rfl⟩
  go_wp2
  go_ret
  exact ⟨rfl, HB.out⟩
theorem delays_at (f d e : Int) (w : World) (h0 : 1 ≤ f) (h1 : f ≤ 9223372036854775807) (hd : delayN f = d) (he : delayN (f - 1) = e) (hd1 : 1 ≤ d ∧ d ≤ 64) (he1 : 0 ≤ e ∧ e ≤ 64) (hh : f = 1 ∨ (f ≠ 1 ∧ d = 2 * e) ∨ (f ≠ 1 ∧ d ≠ 2 * e ∧ d = 64 ∧ 32 ≤ e)) :
    Calls Try.prog 6 #[.int .i64 f] w fun e w' => e = .returned (.bool true) ∧ Below w.heap.size w w' := by
  obtain ⟨hd0, hd64⟩ := hd1
  obtain ⟨he0, he64⟩ := he1
  have HD := Lib.hid hd
  have HE := Lib.hid he
  clear hd he
  go_enter Try.func6, Try.ntmps6
  go_wp2_with fail
  refine (delay_at HD.out _ (by omega) (by omega)).mono ?_
  rintro _ V ⟨rfl, rfl⟩
  go_wp2_with fail
  refine (delay_at HE.out _ (by omega) (by omega)).mono ?_
  rintro _ V ⟨rfl, rfl⟩
  go_wp2_with fail
  refine (live_any _).mono ?_
  rintro _ V ⟨rfl, hb⟩
  have HB := Lib.hid hb
  clear hb HD HE
  rcases hh with rfl | ⟨h2, h3⟩ | ⟨h2, h3, rfl, h5⟩
  · go_wp2
    go_ret
    exact ⟨rfl, HB.out⟩
  · subst h3
    have b1 : (f == 1) = false := by simpa using h2
    go_wp2
    go_ret
    exact ⟨rfl, HB.out⟩
  · have b1 : (f == 1) = false := by simpa using h2
    have b2 : ((64 : Int) == 2 * e) = false := by simpa using h3
    go_wp2
    go_ret
    exact ⟨rfl, HB.out⟩
theorem workqDelays_any (f : Int) (w : World) (h : -9223372036854775808 ≤ f ∧ f ≤ 9223372036854775807) : Calls Try.prog 6 #[.int .i64 f] w fun e w' => e = .returned (.bool true) ∧ Below w.heap.size w w' := by
  have hc : f ≤ 0 ∨ f = 1 ∨ f = 2 ∨ f = 3 ∨ f = 4 ∨ f = 5 ∨ f = 6 ∨ f = 7 ∨ 8 ≤ f := by omega
  rcases hc with h1 | rfl | rfl | rfl | rfl | rfl | rfl | rfl | h1
  · exact delays_low f w h.1 h1
  · exact delays_at 1 1 0 w (by omega) (by omega) (by decide) (by decide) (by omega) (by omega) (.inl rfl)
  · exact delays_at 2 2 1 w (by omega) (by omega) (by decide) (by decide) (by omega) (by omega) (.inr (.inl (by omega)))
  · exact delays_at 3 4 2 w (by omega) (by omega) (by decide) (by decide) (by omega) (by omega) (.inr (.inl (by omega)))
  · exact delays_at 4 8 4 w (by omega) (by omega) (by decide) (by decide) (by omega) (by omega) (.inr (.inl (by omega)))
  · exact delays_at 5 16 8 w (by omega) (by omega) (by decide) (by decide) (by omega) (by omega) (.inr (.inl (by omega)))
  · exact delays_at 6 32 16 w (by omega) (by omega) (by decide) (by decide) (by omega) (by omega) (.inr (.inl (by omega)))
  · exact delays_at 7 64 32 w (by omega) (by omega) (by decide) (by decide) (by omega) (by omega) (.inr (.inl (by omega)))
  · exact delays_at f 64 64 w (by omega) h.2 (delay_high (by omega)) (delay_high (by omega)) (by omega) (by omega) (.inr (.inr (by omega)))
end Go.Proofs.Ytdjkdehfkkkalaa.W
