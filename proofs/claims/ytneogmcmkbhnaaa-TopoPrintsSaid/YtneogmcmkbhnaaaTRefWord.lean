/- The document's Word. -/
import Derived.Test.YtneogmcmkbhnaaaTRound
namespace Go.Proofs.Ytneogmcmkbhnaaa.T
open Go.RowKit
open Go.Lib hiding intOf

theorem isW_iff {c : UInt8} : isW c = true ↔ c.toNat = 45 ∨ (48 ≤ c.toNat ∧ c.toNat ≤ 57) ∨ (97 ≤ c.toNat ∧ c.toNat ≤ 122) := by
  unfold isW
  simp only [Bool.or_eq_true, Bool.and_eq_true, decide_eq_true_eq]
  omega
theorem beq_no {a b : Int} (h : a ≠ b) : (a == b) = false := by simpa using h
theorem wordB_not {l : List UInt8} (h : l.all isW = false) : wordB l = false := by unfold wordB; rw [h, Bool.and_false]
theorem wordB_off {l : List UInt8} (h : l.length < 1 ∨ 24 < l.length) : wordB l = false := by
  unfold wordB
  rcases h with h | h
  · rw [decide_eq_false (show ¬ 1 ≤ l.length by omega)]; rfl
  · rw [decide_eq_false (show ¬ l.length ≤ 24 by omega), Bool.and_false]; rfl
theorem wordB_mid {l : List UInt8} (h1 : 1 ≤ l.length) (h2 : l.length ≤ 24) : wordB l = l.all isW := by
  unfold wordB
  rw [decide_eq_true h1, decide_eq_true h2]; rfl
theorem len_list (s : ByteArray) : s.data.toList.length = s.size := rfl

set_option maxHeartbeats 1000000 in
theorem refWordS_any (s : ByteArray) (w : World) (hs : s.size ≤ 9223372036854775807) :
    Calls Try.prog 58 #[.string s] w fun e w' => e = .returned (.bool (wordB s.data.toList)) ∧ w = w' := by
  go_enter Try.func58, Try.ntmps58
  go_wp2
  go_loop [3] (fun i => ∃ k : Nat, k ≤ s.size ∧ i = .int .i64 k ∧ Hid ((s.data.toList.take k).all isW = true)) (fun i => s.size - (intOf i).toNat)
  case atStart => exact ⟨0, Nat.zero_le _, rfl, by show _ = _; simp⟩
  case round =>
    obtain ⟨k, hk, rfl, hd⟩ := hrel
    by_cases hp : k < s.size
    · cases hn : isW s[k] with
      | true =>
        have hd' := Lib.hid (all_snoc hp hd.out hn)
        have hc := isW_iff.1 hn
        clear hd hn
        rcases hc with h | ⟨h, h'⟩ | ⟨h, h'⟩
        all_goals
          try have e45 := beq_no (a := (s[k].toNat : Int)) (b := 45) (by omega)
          go_wp2
          all_goals
            go_round
            case rel => exact ⟨k + 1, by omega, by go_num, hd'⟩
            case measure => simp [intOf]; omega
      | false =>
        have hn' := Lib.hid (wordB_not (all_not hp hn))
        have hc : ¬ (s[k].toNat = 45 ∨ (48 ≤ s[k].toNat ∧ s[k].toNat ≤ 57) ∨ (97 ≤ s[k].toNat ∧ s[k].toNat ≤ 122)) := fun e => by rw [isW_iff.2 e] at hn; cases hn
        clear hd hn
        have e45 := beq_no (a := (s[k].toNat : Int)) (b := 45) (by omega)
        have hcase : s[k].toNat < 48 ∨ (57 < s[k].toNat ∧ s[k].toNat < 97) ∨ 122 < s[k].toNat := by omega
        clear hc
        rcases hcase with h | ⟨h, h'⟩ | h
        all_goals
          try have d57 : decide ((s[k].toNat : Int) ≤ 57) = false := decide_eq_false (by omega)
          try have d122 : decide ((s[k].toNat : Int) ≤ 122) = false := decide_eq_false (by omega)
          go_wp2
          go_ret
          exact ⟨ret_bool hn'.out.symm, rfl⟩
    · have hall : Hid (s.data.toList.all isW = true) := by
        have := hd.out
        rwa [List.take_of_length_le (by rw [len_list]; omega)] at this
      clear hd
      by_cases h1 : s.size < 1
      · have H : Hid (wordB s.data.toList = false) := wordB_off (.inl h1)
        go_wp2
        go_ret
        exact ⟨ret_bool H.out.symm, rfl⟩
      have g1 : 1 ≤ s.size := by omega
      by_cases h2 : 24 < s.size
      · have H : Hid (wordB s.data.toList = false) := wordB_off (.inr h2)
        go_wp2
        go_ret
        exact ⟨ret_bool (by rw [H.out]; simp; omega), rfl⟩
      have g2 : s.size ≤ 24 := by omega
      have H : Hid (wordB s.data.toList = true) := (wordB_mid g1 g2).trans hall.out
      clear h1 h2
      go_wp2
      go_ret
      exact ⟨ret_bool (by rw [H.out]; simp; omega), rfl⟩
theorem refWord_any (l : List UInt8) (w : World) (hl : l.length ≤ 9223372036854775807) :
    Calls Try.prog 58 #[encS l] w fun e w' => e = .returned (.bool (wordB l)) ∧ w = w' := refWordS_any ⟨l.toArray⟩ w hl
end Go.Proofs.Ytneogmcmkbhnaaa.T
