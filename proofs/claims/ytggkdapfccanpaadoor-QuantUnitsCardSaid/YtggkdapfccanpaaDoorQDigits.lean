/- quant.countDigits and quant.number: what they answer, and that nothing that lay has turned. -/
import Derived.Test.YtggkdapfccanpaaDoorQPlain
import Derived.Test.YtggkdapfccanpaaDoorChecked
import Derived.WalkKit
import Derived.WalkSpells
import Derived.WalkLawsBesides
import Derived.Laws.RangeString
import Derived.Laws.RangeAny
import Derived.Lib.Hide
namespace Go.Proofs.YtggkdapfccanpaaDoor.Q
open Go.RowKit Go.Lib

theorem ret_int {k : IntKind} {a b : Int} (h : a = b) : Ending.returned (.int k a) = .returned (.int k b) := by rw [h]

theorem get_list (s : ByteArray) (k : Nat) (h : k < s.size) : s.data.toList[k]'(by simpa using h) = s[k] := rfl
theorem take_snoc (s : ByteArray) (k : Nat) (h : k < s.size) : s.data.toList.take (k + 1) = s.data.toList.take k ++ [s[k]] := by
  rw [List.take_succ_eq_append_getElem (by simpa using h)]; rfl
theorem dig_snoc {s : ByteArray} {k : Nat} (h : k < s.size) (hd : ∀ c ∈ s.data.toList.take k, isDig c = true) (hk : isDig s[k] = true) : ∀ c ∈ s.data.toList.take (k + 1), isDig c = true := by
  rw [take_snoc s k h]
  intro c hc
  rcases List.mem_append.1 hc with h1 | h1
  · exact hd c h1
  · simp at h1; subst h1; exact hk
theorem isDig_true {c : UInt8} (h : isDig c = true) : 48 ≤ c.toNat ∧ c.toNat ≤ 57 := by
  unfold isDig at h; simpa using h
theorem isDig_false {c : UInt8} (h : isDig c = false) : c.toNat < 48 ∨ 57 < c.toNat := by
  unfold isDig at h; simp at h; omega
theorem size_list (s : ByteArray) : s.data.toList.length = s.size := by simp

theorem below_iter {w : World} (s : ByteArray) (pos : Nat) : Below w.heap.size w (w.iter s pos) := (Below.refl _ w).alloc (Nat.le_refl _) _

set_option maxHeartbeats 400000 in
theorem countDigits_any (s : ByteArray) (w : World) (_hs : s.size ≤ 9223372036854775807) :
    Calls Tryd.prog 22 #[.string s] w fun e w' => e = .returned (.int .i64 (nd s.data.toList : Nat)) ∧ Below w.heap.size w w' := by

  go_enter Tryd.func22, Tryd.ntmps22
  go_wp2
  go_loopw [] (fun w' => ∃ pos : Nat, pos ≤ s.size ∧ w' = w.iter s pos ∧ ∀ c ∈ s.data.toList.take pos, isDig c = true) (fun w' => s.size - w'.iterPos w.heap.size)
  case atStart => exact ⟨0, Nat.zero_le _, rfl, by simp⟩
  case round =>
    obtain ⟨pos, hpos, rfl, hd⟩ := hrel
    by_cases hp : pos < s.size
    · by_cases hk : isDig s[pos] = true
      · have hb := isDig_true hk
        have hd' : Hid (∀ c ∈ s.data.toList.take (pos + 1), isDig c = true) := dig_snoc hp hd hk
        clear hd hk
        have hnx : ∀ ty, (Instr.next (.pointer (some ⟨w.heap.size, 0, none⟩)) true ty).run Tryd.prog (w.iter s pos) = _ := fun ty => run_next_ascii w s pos ty hp (by omega)
        go_wp2
        exact ⟨⟨pos + 1, by omega, rfl, hd'.out⟩, by simp; omega⟩
      · have hb := isDig_false (by simpa using hk)
        have hn : Hid (nd s.data.toList = pos) := nd_of (l := s.data.toList) (k := pos) (by simpa using hpos) hd (fun h => by rw [get_list s pos hp]; simpa using hk)
        clear hd hk
        by_cases ha : s[pos].toNat < 128
        · have hnx : ∀ ty, (Instr.next (.pointer (some ⟨w.heap.size, 0, none⟩)) true ty).run Tryd.prog (w.iter s pos) = _ := fun ty => run_next_ascii w s pos ty hp ha
          rcases hb with hb | hb
          all_goals
            go_wp2
            go_ret
            exact ⟨ret_int (by rw [hn.out]), below_iter _ _⟩
        · have hnx : ∀ ty, (Instr.next (.pointer (some ⟨w.heap.size, 0, none⟩)) true ty).run Tryd.prog (w.iter s pos) = _ := fun ty => run_next_any w s pos ty hp
          have hh := (decode_high s pos hp (by omega)).1
          clear hb ha
          go_wp2
          go_ret
          exact ⟨ret_int (by rw [hn.out]), below_iter _ _⟩
    · have hn : Hid (nd s.data.toList = s.size) := by
        have := nd_of (l := s.data.toList) (k := pos) (by simpa using hpos) hd (fun h => absurd (by simpa using h) hp)
        have e : pos = s.size := by omega
        rw [e] at this; exact this
      have hnx : ∀ ty, (Instr.next (.pointer (some ⟨w.heap.size, 0, none⟩)) true ty).run Tryd.prog (w.iter s pos) = _ := fun ty => run_next_end w s pos ty hp
      clear hd
      go_wp2
      go_ret
      exact ⟨ret_int (by rw [hn.out]), below_iter _ _⟩

theorem num_take_bound {s : ByteArray} {k : Nat} (hd : ∀ c ∈ s.data.toList, isDig c = true) (hk : k ≤ s.size) (h16 : s.size ≤ 16) : 0 ≤ num (s.data.toList.take k) ∧ num (s.data.toList.take k) < 10 ^ 16 := by
  have h := num_bound k (s.data.toList.take k) (by rw [List.length_take, size_list]; omega) (fun c hc => hd c (List.mem_of_mem_take hc))
  have h2 : (10 : Int) ^ k ≤ 10 ^ 16 := by
    have : (10 : Nat) ^ k ≤ 10 ^ 16 := Nat.pow_le_pow_right (by decide) (by omega)
    exact_mod_cast this
  omega

set_option maxHeartbeats 400000 in
theorem number_any (s : ByteArray) (w : World) (h16 : s.size ≤ 16) (hd : ∀ c ∈ s.data.toList, isDig c = true) :
    Calls Tryd.prog 23 #[.string s] w fun e w' => e = .returned (.int .i64 (num s.data.toList)) ∧ Below w.heap.size w w' := by
  have HD := Lib.hid hd
  clear hd
  go_enter Tryd.func23, Tryd.ntmps23
  go_wp2
  go_loopw [3] (fun n w' => ∃ pos : Nat, pos ≤ s.size ∧ w' = w.iter s pos ∧ n = .int .i64 (num (s.data.toList.take pos))) (fun _ w' => s.size - w'.iterPos w.heap.size)
  case atStart => exact ⟨0, Nat.zero_le _, rfl, by simp [num]⟩
  case round =>
    obtain ⟨pos, hpos, rfl, rfl⟩ := hrel
    have hb0 := num_take_bound HD.out hpos h16
    by_cases hp : pos < s.size
    · have hb := isDig_true (HD.out s[pos] (by rw [← get_list s pos hp]; exact List.getElem_mem _))
      have hs : Hid (num (s.data.toList.take (pos + 1)) = num (s.data.toList.take pos) * 10 + ((s[pos].toNat : Int) - 48)) := by rw [take_snoc s pos hp, num_snoc]; exact rfl
      have hb1 : num (s.data.toList.take pos) < 100000000000000000 := by omega
      have hb2 := hb0.1
      clear hb0
      have hnx : ∀ ty, (Instr.next (.pointer (some ⟨w.heap.size, 0, none⟩)) true ty).run Tryd.prog (w.iter s pos) = _ := fun ty => run_next_ascii w s pos ty hp (by omega)
      generalize num (s.data.toList.take pos) = m at *
      go_wp2
      exact ⟨⟨pos + 1, by omega, rfl, by rw [hs.out]⟩, by simp; omega⟩
    · have e : Hid (s.data.toList.take pos = s.data.toList) := List.take_of_length_le (by rw [size_list]; omega)
      have hnx : ∀ ty, (Instr.next (.pointer (some ⟨w.heap.size, 0, none⟩)) true ty).run Tryd.prog (w.iter s pos) = _ := fun ty => run_next_end w s pos ty hp
      clear hb0
      go_wp2
      go_ret
      exact ⟨ret_int (by rw [e.out]), below_iter _ _⟩
end Go.Proofs.YtggkdapfccanpaaDoor.Q
