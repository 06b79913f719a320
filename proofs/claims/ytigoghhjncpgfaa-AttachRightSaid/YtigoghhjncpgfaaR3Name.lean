/- The document's own Name, maybe and plain; names of attachments. -/
import Derived.Test.YtigoghhjncpgfaaOMath
import Derived.Test.YtigoghhjncpgfaaOCore
import Derived.Laws.Runes
namespace Go.Proofs.Ytigoghhjncpgfaa.O
open Go.RowKit Go.Lib T

theorem ret_bool {a b : Bool} (h : a = b) : Ending.returned (.bool a) = .returned (.bool b) := by rw [h]

theorem take_snoc (s : ByteArray) (k : Nat) (h : k < s.size) : s.data.toList.take (k + 1) = s.data.toList.take k ++ [s[k]] := by
  rw [List.take_succ_eq_append_getElem (by simpa using h)]; rfl

theorem allN_snoc {s : ByteArray} {k : Nat} (h : k < s.size) (hd : (s.data.toList.take k).all isN = true) (hk : isN s[k] = true) : (s.data.toList.take (k + 1)).all isN = true := by
  rw [take_snoc s k h, List.all_append, hd]; simp [hk]

theorem allN_not {s : ByteArray} {k : Nat} (h : k < s.size) (hk : isN s[k] = false) : s.data.toList.all isN = false := by
  rw [List.all_eq_false]
  exact ⟨s[k], by rw [← get_list s k h]; exact List.getElem_mem _, by simp [hk]⟩

theorem nameB_mid {s : ByteArray} (h1 : 1 ≤ s.size) (h2 : s.size ≤ 40) : nameB s.data.toList = s.data.toList.all isN := by
  unfold nameB
  simp only [size_list]
  rw [show decide (1 ≤ s.size) = true by simp; omega, show decide (s.size ≤ 40) = true by simp; omega]
  rfl

theorem nameB_off {s : ByteArray} (h : s.size < 1 ∨ 40 < s.size) : nameB s.data.toList = false := by
  unfold nameB; simp only [size_list, Bool.and_eq_false_iff, decide_eq_false_iff_not]; omega

theorem nameB_not {s : ByteArray} (h : s.data.toList.all isN = false) : nameB s.data.toList = false := by
  unfold nameB; rw [h]; simp

theorem nameB_le {s : ByteArray} (h : nameB s.data.toList = true) : 1 ≤ s.size ∧ s.size ≤ 40 := by
  unfold nameB at h
  simp only [size_list, Bool.and_eq_true, decide_eq_true_eq] at h
  exact h.1

theorem isN_iff {c : UInt8} : isN c = true ↔ c.toNat = 35 ∨ (45 ≤ c.toNat ∧ c.toNat ≤ 57) ∨ (97 ≤ c.toNat ∧ c.toNat ≤ 122) := by
  unfold isN isW
  simp only [Bool.or_eq_true, Bool.and_eq_true, decide_eq_true_eq]
  omega
theorem isN_false {c : UInt8} (h : ¬ (c.toNat = 35 ∨ (45 ≤ c.toNat ∧ c.toNat ≤ 57) ∨ (97 ≤ c.toNat ∧ c.toNat ≤ 122))) : isN c = false := by
  rw [Bool.eq_false_iff]; exact fun e => h (isN_iff.1 e)
theorem beq_no {a b : Int} (h : a ≠ b) : (a == b) = false := by simpa using h
theorem beq_yes {a b : Int} (h : a = b) : (a == b) = true := by simpa using h

set_option maxHeartbeats 1000000 in
theorem refName_any (s : ByteArray) (w : World) (hs : s.size ≤ 9223372036854775807) :
    Calls Try.prog 43 #[.string s] w fun e w' => e = .returned (.bool (nameB s.data.toList)) ∧ w = w' := by
  go_enter Try.func43, Try.ntmps43
  go_wp2
  go_loop [3] (fun i => ∃ k : Nat, k ≤ s.size ∧ i = .int .i64 k ∧ Hid ((s.data.toList.take k).all isN = true)) (fun i => s.size - (intOf i).toNat)
  case atStart => exact ⟨0, Nat.zero_le _, rfl, by show _ = _; simp⟩
  case round =>
    obtain ⟨k, hk, rfl, hd⟩ := hrel
    by_cases hp : k < s.size
    · cases hn : isN s[k] with
      | true =>
        have hd' := Lib.hid (allN_snoc hp hd.out hn)
        have hc := isN_iff.1 hn
        clear hd hn
        have hcase : s[k].toNat = 35 ∨ s[k].toNat = 45 ∨ s[k].toNat = 46 ∨ s[k].toNat = 47 ∨ (48 ≤ s[k].toNat ∧ s[k].toNat ≤ 57) ∨ (97 ≤ s[k].toNat ∧ s[k].toNat ≤ 122) := by omega
        clear hc
        rcases hcase with h | h | h | h | ⟨h, h'⟩ | ⟨h, h'⟩
        all_goals
          try have e35 := beq_no (a := (s[k].toNat : Int)) (b := 35) (by omega)
          try have e45 := beq_no (a := (s[k].toNat : Int)) (b := 45) (by omega)
          try have e46 := beq_no (a := (s[k].toNat : Int)) (b := 46) (by omega)
          try have e47 := beq_no (a := (s[k].toNat : Int)) (b := 47) (by omega)
          go_wp2
          all_goals
            go_round
            case rel => exact ⟨k + 1, by omega, by go_num, hd'⟩
            case measure => simp [intOf]; omega
      | false =>
        have hn' := Lib.hid (nameB_not (allN_not hp hn))
        have hc : ¬ (s[k].toNat = 35 ∨ (45 ≤ s[k].toNat ∧ s[k].toNat ≤ 57) ∨ (97 ≤ s[k].toNat ∧ s[k].toNat ≤ 122)) := fun e => by rw [isN_iff.2 e] at hn; cases hn
        clear hd hn
        have e35 := beq_no (a := (s[k].toNat : Int)) (b := 35) (by omega)
        have e45 := beq_no (a := (s[k].toNat : Int)) (b := 45) (by omega)
        have e46 := beq_no (a := (s[k].toNat : Int)) (b := 46) (by omega)
        have e47 := beq_no (a := (s[k].toNat : Int)) (b := 47) (by omega)
        have hcase : s[k].toNat < 48 ∨ (57 < s[k].toNat ∧ s[k].toNat < 97) ∨ 122 < s[k].toNat := by omega
        clear hc
        rcases hcase with h | ⟨h, h'⟩ | h
        all_goals
          try have d57 : decide ((s[k].toNat : Int) ≤ 57) = false := decide_eq_false (by omega)
          try have d122 : decide ((s[k].toNat : Int) ≤ 122) = false := decide_eq_false (by omega)
          go_wp2
          go_ret
          exact ⟨ret_bool hn'.out.symm, rfl⟩
    · have hall : Hid (s.data.toList.all isN = true) := by
        have := hd.out
        rwa [List.take_of_length_le (by rw [size_list]; omega)] at this
      clear hd
      by_cases h1 : s.size < 1
      · have H := Lib.hid (nameB_off (.inl h1))
        go_wp2
        go_ret
        exact ⟨ret_bool H.out.symm, rfl⟩
      have g1 : 1 ≤ s.size := by omega
      by_cases h2 : 40 < s.size
      · have H := Lib.hid (nameB_off (.inr h2))
        go_wp2
        go_ret
        exact ⟨ret_bool (by rw [H.out]; simp; omega), rfl⟩
      have g2 : s.size ≤ 40 := by omega
      have H : Hid (nameB s.data.toList = true) := (nameB_mid g1 g2).trans hall.out
      clear h1 h2
      go_wp2
      go_ret
      exact ⟨ret_bool (by rw [H.out]; simp; omega), rfl⟩

theorem maybe_any (s : ByteArray) (w : World) (hs : s.size ≤ 9223372036854775807) :
    Calls Try.prog 49 #[.string s] w fun e w' => e = .returned (.bool (okT s)) ∧ w = w' := by
  by_cases h : s.data.toList = []
  · have H : Hid (okT s = true) := by show _ = _; unfold okT; rw [h]; rfl
    have h1 : s.toList = [] := by rw [Lib.toList_data]; exact h
    clear h
    go_enter Try.func49, Try.ntmps49
    go_wp2
    go_ret
    exact ⟨ret_bool H.out.symm, rfl⟩
  · have H : Hid (okT s = nameB s.data.toList) := by show _ = _; unfold okT; rw [decide_eq_false h]; rfl
    have h1 : s.toList.isEmpty = false := by rw [Lib.toList_data]; simpa using h
    clear h
    go_enter Try.func49, Try.ntmps49
    go_wp2_with fail
    refine (refName_any s _ hs).mono ?_
    rintro e w1 ⟨rfl, rfl⟩
    go_wp2
    go_ret
    exact ⟨ret_bool (by rw [H.out]), rfl⟩

theorem noSl_snoc {s : ByteArray} {k : Nat} (h : k < s.size) (hd : (47 : UInt8) ∉ s.data.toList.take k) (hk : s[k] ≠ 47) : (47 : UInt8) ∉ s.data.toList.take (k + 1) := by
  rw [take_snoc s k h]
  simp only [List.mem_append, List.mem_singleton, not_or]
  exact ⟨hd, fun e => hk e.symm⟩
theorem noSl_at {s : ByteArray} {k : Nat} (h : k < s.size) (hk : s[k] = 47) : noSl s = false := by
  unfold noSl
  have : (47 : UInt8) ∈ s.data.toList := by rw [← hk, ← get_list s k h]; exact List.getElem_mem _
  simp [this]
theorem noSl_of {s : ByteArray} (h : (47 : UInt8) ∉ s.data.toList) : noSl s = true := by
  unfold noSl; simp [h]

set_option maxHeartbeats 400000 in
theorem plain_any (s : ByteArray) (w : World) (hs : s.size ≤ 9223372036854775807) :
    Calls Try.prog 51 #[.string s] w fun e w' => e = .returned (.bool (noSl s)) ∧ w = w' := by
  go_enter Try.func51, Try.ntmps51
  go_wp2
  go_loop [3] (fun i => ∃ k : Nat, k ≤ s.size ∧ i = .int .i64 k ∧ Hid ((47 : UInt8) ∉ s.data.toList.take k)) (fun i => s.size - (intOf i).toNat)
  case atStart => exact ⟨0, Nat.zero_le _, rfl, by show ¬ _; simp⟩
  case round =>
    obtain ⟨k, hk, rfl, hd⟩ := hrel
    by_cases hp : k < s.size
    · by_cases hc : s[k] = 47
      · have H := Lib.hid (noSl_at hp hc)
        have e47 := beq_yes (a := (s[k].toNat : Int)) (b := 47) (by rw [hc]; rfl)
        clear hd hc
        go_wp2
        go_ret
        exact ⟨ret_bool H.out.symm, rfl⟩
      · have hd' := Lib.hid (noSl_snoc hp hd.out hc)
        have e47 := beq_no (a := (s[k].toNat : Int)) (b := 47) (fun e => hc (UInt8.toNat_inj.1 (by simp; omega)))
        clear hd hc
        go_wp2
        go_round
        case rel => exact ⟨k + 1, by omega, by go_num, hd'⟩
        case measure => simp [intOf]; omega
    · have H : Hid (noSl s = true) := by
        have := hd.out
        rw [List.take_of_length_le (by rw [size_list]; omega)] at this
        exact noSl_of this
      clear hd
      go_wp2
      go_ret
      exact ⟨ret_bool H.out.symm, rfl⟩
theorem emp_true {s : ByteArray} (h : emp s = true) : s.toList.isEmpty = true := by
  unfold emp at h; rw [Lib.toList_data, of_decide_eq_true h]; rfl

theorem emp_false {s : ByteArray} (h : emp s = false) : s.toList.isEmpty = false := by
  unfold emp at h; rw [Lib.toList_data]; simpa using h

theorem emp_true' {s : ByteArray} (h : emp s = true) : s.toList = [] := by
  unfold emp at h; rw [Lib.toList_data, of_decide_eq_true h]

theorem neB (n : Int) : (n != 0) = decide (n ≠ 0) := by rw [Bool.eq_iff_iff]; simp

theorem beqD (a b : Int) : (a == b) = decide (a = b) := by rw [Bool.eq_iff_iff]; simp

theorem refAttachName_any (v n : ByteArray) (w : World) (h1 : v.size ≤ 140737488351232) (h2 : n.size ≤ 140737488351232) :
    Calls Try.prog 52 #[.string v, .string n] w fun e w' => e = .returned (.string (attachN v n)) ∧ w = w' := by
  go_enter Try.func52, Try.ntmps52
  go_wp2
  go_ret
  exact ⟨rfl, rfl⟩
end Go.Proofs.Ytigoghhjncpgfaa.O
