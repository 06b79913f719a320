/- topo.Word. -/
import Derived.Test.YtbgfccanbgpjiaaTPlain
import Derived.Test.YtbgfccanbgpjiaaChecked
import Derived.WalkKit
import Derived.WalkSpells
import Derived.WalkLawsBesides
import Derived.Laws.RangeString
import Derived.Laws.RangeAny
import Derived.Lib.Hide
import Derived.Lib.IndexBytes
import Derived.Lib.RuneCount
import Derived.BigQuiet
import Derived.Deep.QuietTactic
namespace Go.Proofs.Ytbgfccanbgpjiaa.T
open Go.RowKit Go.Lib

def runeB (r : Int) : Bool := (decide (97 ≤ r) && decide (r ≤ 122)) || (decide (48 ≤ r) && decide (r ≤ 57)) || (r == 45)

theorem ret_bool {a b : Bool} (h : a = b) : Ending.returned (.bool a) = .returned (.bool b) := by rw [h]
theorem wordRune_any (r : Int) (w : World) :
    Calls Try.prog 95 #[.int .i32 r] w fun e w' => e = .returned (.bool (runeB r)) ∧ w = w' := by
  have hcase : r < 45 ∨ r = 45 ∨ (45 < r ∧ r < 48) ∨ (48 ≤ r ∧ r ≤ 57) ∨ (57 < r ∧ r < 97) ∨ (97 ≤ r ∧ r ≤ 122) ∨ 122 < r := by omega
  rcases hcase with h | rfl | ⟨h, h'⟩ | ⟨h, h'⟩ | ⟨h, h'⟩ | ⟨h, h'⟩ | h
  all_goals
    try have e45 : (r == 45) = false := by simp; omega
    go_enter Try.func95, Try.ntmps95
    go_wp2
    go_ret
    refine ⟨ret_bool ?_, rfl⟩
    first | rfl | (rw [Bool.eq_iff_iff]; simp [runeB]; done) | (rw [Bool.eq_iff_iff]; simp [runeB]; omega) | (unfold runeB; rw [e45]; simp; omega)

theorem runeB_byte (c : UInt8) : runeB (c.toNat : Int) = isW c := by
  unfold runeB isW
  have e : ((c.toNat : Int) == 45) = decide (c.toNat = 45) := by
    by_cases h : c.toNat = 45
    · simp [h]
    · simp only [h, decide_false]; simp; omega
  rw [e]
  congr 2
  · congr 1 <;> (apply decide_eq_decide.2; omega)
  · congr 1 <;> (apply decide_eq_decide.2; omega)
theorem runeB_high {r : Int} (h : 128 ≤ r) : runeB r = false := by
  unfold runeB
  simp only [Bool.or_eq_false_iff, Bool.and_eq_false_iff, decide_eq_false_iff_not, beq_eq_false_iff_ne]
  omega

theorem take_snoc (s : ByteArray) (k : Nat) (h : k < s.size) : s.data.toList.take (k + 1) = s.data.toList.take k ++ [s[k]] := by
  rw [List.take_succ_eq_append_getElem (by simpa using h)]; rfl
theorem all_snoc {s : ByteArray} {k : Nat} (h : k < s.size) (hd : (s.data.toList.take k).all isW = true) (hk : isW s[k] = true) : (s.data.toList.take (k + 1)).all isW = true := by
  rw [take_snoc s k h, List.all_append, hd]; simp [hk]
theorem all_not {s : ByteArray} {k : Nat} (h : k < s.size) (hk : isW s[k] = false) : s.data.toList.all isW = false := by
  rw [List.all_eq_false]
  exact ⟨s[k], by rw [← get_list s k h]; exact List.getElem_mem _, by simp [hk]⟩
theorem isW_low {c : UInt8} (h : isW c = true) : c.toNat < 128 := by
  unfold isW at h
  simp only [Bool.or_eq_true, Bool.and_eq_true, decide_eq_true_eq] at h
  omega
theorem below_iter {w : World} (s : ByteArray) (pos : Nat) : Below w.heap.size w (w.iter s pos) := (Below.refl _ w).alloc (Nat.le_refl _) _

set_option maxHeartbeats 400000 in
theorem word_any (s : ByteArray) (w : World) :
    Calls Try.prog 79 #[.string s] w fun e w' => e = .returned (.bool (wordB s.data.toList)) ∧ Below w.heap.size w w' := by
  by_cases h1 : s.size < 1
  · have H : Hid (wordB s.data.toList = false) := by unfold wordB; show _ = _; simp only [size_list, Bool.and_eq_false_iff, decide_eq_false_iff_not]; omega
    go_enter Try.func79, Try.ntmps79
    go_wp2
    go_ret
    exact ⟨ret_bool H.out.symm, Below.refl _ _⟩
  by_cases h2 : 24 < s.size
  · have H : Hid (wordB s.data.toList = false) := by unfold wordB; show _ = _; simp only [size_list, Bool.and_eq_false_iff, decide_eq_false_iff_not]; omega
    go_enter Try.func79, Try.ntmps79
    go_wp2
    go_ret
    exact ⟨ret_bool H.out.symm, Below.refl _ _⟩
  have H : Hid (wordB s.data.toList = s.data.toList.all isW) := by
    show _ = _
    unfold wordB
    simp only [size_list]
    rw [show decide (1 ≤ s.size) = true by simp; omega, show decide (s.size ≤ 24) = true by simp; omega]
    rfl
  have g1 : 1 ≤ s.size := by omega
  have g2 : s.size ≤ 24 := by omega
  clear h1 h2
  go_enter Try.func79, Try.ntmps79
  go_wp2
  go_loopw [] (fun w' => ∃ pos : Nat, pos ≤ s.size ∧ w' = w.iter s pos ∧ Hid ((s.data.toList.take pos).all isW = true)) (fun w' => s.size - w'.iterPos w.heap.size)
  case atStart => exact ⟨0, Nat.zero_le _, rfl, by show _ = _; simp⟩
  case round =>
    obtain ⟨pos, hpos, rfl, hd⟩ := hrel
    by_cases hp : pos < s.size
    · cases hk : isW s[pos] with
      | true =>
        have hd' := Lib.hid (all_snoc hp hd.out hk)
        have hlow := isW_low hk
        have hrb := Lib.hid ((runeB_byte s[pos]).trans hk)
        clear hd hk
        have hnx : ∀ ty, (Instr.next (.pointer (some ⟨w.heap.size, 0, none⟩)) true ty).run Try.prog (w.iter s pos) = _ := fun ty => run_next_ascii w s pos ty hp hlow
        go_wp2_with fail
        refine (wordRune_any _ _).mono ?_
        rintro e w1 ⟨rfl, rfl⟩
        rw [hrb.out]
        go_wp2
        exact ⟨⟨pos + 1, by omega, rfl, hd'⟩, by simp; omega⟩
      | false =>
        have hn := Lib.hid (all_not hp hk)
        by_cases ha : s[pos].toNat < 128
        · have hrb := Lib.hid ((runeB_byte s[pos]).trans hk)
          clear hd hk
          have hnx : ∀ ty, (Instr.next (.pointer (some ⟨w.heap.size, 0, none⟩)) true ty).run Try.prog (w.iter s pos) = _ := fun ty => run_next_ascii w s pos ty hp ha
          go_wp2_with fail
          refine (wordRune_any _ _).mono ?_
          rintro e w1 ⟨rfl, rfl⟩
          rw [hrb.out]
          go_wp2
          go_ret
          exact ⟨ret_bool (by rw [H.out, hn.out]), below_iter _ _⟩
        · have hh := (decode_high s pos hp (by omega)).1
          have hrb := Lib.hid (runeB_high (r := ((Utf8.decode s pos).1 : Int)) (by omega))
          clear hd hk ha hh
          have hnx : ∀ ty, (Instr.next (.pointer (some ⟨w.heap.size, 0, none⟩)) true ty).run Try.prog (w.iter s pos) = _ := fun ty => run_next_any w s pos ty hp
          go_wp2_with fail
          refine (wordRune_any _ _).mono ?_
          rintro e w1 ⟨rfl, rfl⟩
          rw [hrb.out]
          go_wp2
          go_ret
          exact ⟨ret_bool (by rw [H.out, hn.out]), below_iter _ _⟩
    · have hn : Hid (s.data.toList.all isW = true) := by
        have := hd.out
        rwa [List.take_of_length_le (by rw [size_list]; omega)] at this
      have hnx : ∀ ty, (Instr.next (.pointer (some ⟨w.heap.size, 0, none⟩)) true ty).run Try.prog (w.iter s pos) = _ := fun ty => run_next_end w s pos ty hp
      clear hd
      go_wp2
      go_ret
      exact ⟨ret_bool (by rw [H.out, hn.out]), below_iter _ _⟩
end Go.Proofs.Ytbgfccanbgpjiaa.T
