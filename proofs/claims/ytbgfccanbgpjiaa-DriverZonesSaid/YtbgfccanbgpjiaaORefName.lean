/- The document's own Name. -/
import Derived.Test.YtbgfccanbgpjiaaOName2
namespace Go.Proofs.Ytbgfccanbgpjiaa.O
open Go.RowKit Go.Lib T

theorem isN_iff {c : UInt8} : isN c = true ↔ c.toNat = 35 ∨ (45 ≤ c.toNat ∧ c.toNat ≤ 57) ∨ (97 ≤ c.toNat ∧ c.toNat ≤ 122) := by
  unfold isN isW
  simp only [Bool.or_eq_true, Bool.and_eq_true, decide_eq_true_eq]
  omega
theorem isN_false {c : UInt8} (h : ¬ (c.toNat = 35 ∨ (45 ≤ c.toNat ∧ c.toNat ≤ 57) ∨ (97 ≤ c.toNat ∧ c.toNat ≤ 122))) : isN c = false := by
  rw [Bool.eq_false_iff]; exact fun e => h (isN_iff.1 e)
theorem beq_no {a b : Int} (h : a ≠ b) : (a == b) = false := by simpa using h
theorem beq_yes {a b : Int} (h : a = b) : (a == b) = true := by simpa using h

set_option maxHeartbeats 1000000 in
theorem refName_any (s : ByteArray) (w : World) (hs : s.size ≤ 9223372036854775807) :
    Calls Try.prog 43 #[.string s] w fun e w' => e = .returned (.bool (nameB s.data.toList)) ∧ w = w' := by
  go_enter Try.func43, Try.ntmps43
  go_wp2
  go_loop [3] (fun i => ∃ k : Nat, k ≤ s.size ∧ i = .int .i64 k ∧ Hid ((s.data.toList.take k).all isN = true)) (fun i => s.size - (intOf i).toNat)
  case atStart => exact ⟨0, Nat.zero_le _, rfl, by show _ = _; simp⟩
  case round =>
    obtain ⟨k, hk, rfl, hd⟩ := hrel
    by_cases hp : k < s.size
    · cases hn : isN s[k] with
      | true =>
        have hd' := Lib.hid (allN_snoc hp hd.out hn)
        have hc := isN_iff.1 hn
        clear hd hn
        have hcase : s[k].toNat = 35 ∨ s[k].toNat = 45 ∨ s[k].toNat = 46 ∨ s[k].toNat = 47 ∨ (48 ≤ s[k].toNat ∧ s[k].toNat ≤ 57) ∨ (97 ≤ s[k].toNat ∧ s[k].toNat ≤ 122) := by omega
        clear hc
        rcases hcase with h | h | h | h | ⟨h, h'⟩ | ⟨h, h'⟩
        all_goals
          try have e35 := beq_no (a := (s[k].toNat : Int)) (b := 35) (by omega)
          try have e45 := beq_no (a := (s[k].toNat : Int)) (b := 45) (by omega)
          try have e46 := beq_no (a := (s[k].toNat : Int)) (b := 46) (by omega)
          try have e47 := beq_no (a := (s[k].toNat : Int)) (b := 47) (by omega)
          go_wp2
          all_goals
            go_round
            case rel => exact ⟨k + 1, by omega, by go_num, hd'⟩
            case measure => simp [intOf]; omega
      | false =>
        have hn' := Lib.hid (nameB_not (allN_not hp hn))
        have hc : ¬ (s[k].toNat = 35 ∨ (45 ≤ s[k].toNat ∧ s[k].toNat ≤ 57) ∨ (97 ≤ s[k].toNat ∧ s[k].toNat ≤ 122)) := fun e => by rw [isN_iff.2 e] at hn; cases hn
        clear hd hn
        have e35 := beq_no (a := (s[k].toNat : Int)) (b := 35) (by omega)
        have e45 := beq_no (a := (s[k].toNat : Int)) (b := 45) (by omega)
        have e46 := beq_no (a := (s[k].toNat : Int)) (b := 46) (by omega)
        have e47 := beq_no (a := (s[k].toNat : Int)) (b := 47) (by omega)
        have hcase : s[k].toNat < 48 ∨ (57 < s[k].toNat ∧ s[k].toNat < 97) ∨ 122 < s[k].toNat := by omega
        clear hc
        rcases hcase with h | ⟨h, h'⟩ | h
        all_goals
          try have d57 : decide ((s[k].toNat : Int) ≤ 57) = false := decide_eq_false (by omega)
          try have d122 : decide ((s[k].toNat : Int) ≤ 122) = false := decide_eq_false (by omega)
          go_wp2
          go_ret
          exact ⟨ret_bool hn'.out.symm, rfl⟩
    · have hall : Hid (s.data.toList.all isN = true) := by
        have := hd.out
        rwa [List.take_of_length_le (by rw [size_list]; omega)] at this
      clear hd
      by_cases h1 : s.size < 1
      · have H := Lib.hid (nameB_off (.inl h1))
        go_wp2
        go_ret
        exact ⟨ret_bool H.out.symm, rfl⟩
      have g1 : 1 ≤ s.size := by omega
      by_cases h2 : 40 < s.size
      · have H := Lib.hid (nameB_off (.inr h2))
        go_wp2
        go_ret
        exact ⟨ret_bool (by rw [H.out]; simp; omega), rfl⟩
      have g2 : s.size ≤ 40 := by omega
      have H : Hid (nameB s.data.toList = true) := (nameB_mid g1 g2).trans hall.out
      clear h1 h2
      go_wp2
      go_ret
      exact ⟨ret_bool (by rw [H.out]; simp; omega), rfl⟩
end Go.Proofs.Ytbgfccanbgpjiaa.O
