/- Plain facts on words, and on texts that are cut at marks: no program is named here. -/
import Derived.Lib.Strings
import Derived.Lib.SpaceUEq
import Derived.Laws.RangeAny
import Derived.Lib.DecodeN
namespace Go.Proofs.Ytbgfccanbgpjiaa.T
open Go.Lib

/-- May a byte stand in a word? -/
def isW (c : UInt8) : Bool := (decide (97 ≤ c.toNat) && decide (c.toNat ≤ 122)) || (decide (48 ≤ c.toNat) && decide (c.toNat ≤ 57)) || decide (c.toNat = 45)
def wordB (l : List UInt8) : Bool := decide (1 ≤ l.length) && decide (l.length ≤ 24) && l.all isW

/-- What stands between the marks of a text. -/
def splitOn (m : UInt8) : List UInt8 → List (List UInt8)
  | [] => [[]]
  | c :: l => if c = m then [] :: splitOn m l else
    match splitOn m l with
    | h :: t => (c :: h) :: t
    | [] => [[c]]

theorem splitOn_ne (m : UInt8) (l : List UInt8) : splitOn m l ≠ [] := by
  induction l with
  | nil => simp [splitOn]
  | cons c l ih =>
    unfold splitOn
    split
    · simp
    · split <;> simp
theorem splitOn_none {m : UInt8} : ∀ {l : List UInt8}, m ∉ l → splitOn m l = [l]
  | [], _ => rfl
  | c :: l, h => by
    have hc : c ≠ m := fun e => h (by simp [e])
    have ih := splitOn_none (m := m) (l := l) (fun e => h (List.mem_cons_of_mem _ e))
    unfold splitOn
    rw [if_neg hc, ih]
theorem splitOn_at {m : UInt8} : ∀ {a b : List UInt8}, m ∉ a → splitOn m (a ++ m :: b) = a :: splitOn m b
  | [], b, _ => by show splitOn m (m :: b) = _; rw [splitOn, if_pos rfl]
  | c :: a, b, h => by
    have hc : c ≠ m := fun e => h (by simp [e])
    have ih := splitOn_at (m := m) (a := a) (b := b) (fun e => h (List.mem_cons_of_mem _ e))
    show splitOn m (c :: (a ++ m :: b)) = _
    rw [splitOn, if_neg hc, ih]
theorem splitOn_length (m : UInt8) : ∀ (l : List UInt8), (splitOn m l).length ≤ l.length + 1
  | [] => by simp [splitOn]
  | c :: l => by
    have ih := splitOn_length m l
    have hn := splitOn_ne m l
    unfold splitOn
    split
    · simp; omega
    · split
      · rename_i h t e; rw [e] at ih; simp at ih ⊢; omega
      · rename_i e; exact absurd e hn

/-- A rune's bytes behind a first one that is none of ASCII are none of ASCII either, and they are there. -/
theorem high_step (s : ByteArray) (pos : Nat) (h : pos < s.size) (ha : 128 ≤ (s[pos]'h).toNat) :
    pos + (Utf8.decode s pos).2 ≤ s.size ∧ ∀ j, pos ≤ j → j < pos + (Utf8.decode s pos).2 → ∀ hj : j < s.size, 128 ≤ (s[j]'hj).toNat := by
  have e : ∀ j (hj : j < s.size), s.get! j = s[j]'hj := fun j hj => by
    show s.get! j = _
    simp [ByteArray.get!, getElem!_pos, hj]
    rfl
  have w1 := (decode_high s pos h ha).2
  rw [decode_at] at w1 ⊢
  obtain ⟨c1, c2, c3, c4⟩ := decodeN_conts (s.size - pos) (s.get! pos).toNat (s.get! (pos + 1)).toNat (s.get! (pos + 2)).toNat (s.get! (pos + 3)).toNat
  generalize (decodeN (s.size - pos) (s.get! pos).toNat (s.get! (pos + 1)).toNat (s.get! (pos + 2)).toNat (s.get! (pos + 3)).toNat).2 = k at *
  refine ⟨by omega, fun j hj1 hj2 hj => ?_⟩
  obtain rfl | rfl | rfl | rfl : j = pos ∨ j = pos + 1 ∨ j = pos + 2 ∨ j = pos + 3 := by omega
  · exact ha
  · have := (c1 (by omega)).1; rw [e _ hj] at this; omega
  · have := (c2 (by omega)).1; rw [e _ hj] at this; omega
  · have := (c3 (by omega)).1; rw [e _ hj] at this; omega

theorem get_list (s : ByteArray) (k : Nat) (h : k < s.size) : s.data.toList[k]'(by simpa using h) = s[k] := rfl
theorem size_list (s : ByteArray) : s.data.toList.length = s.size := by simp
end Go.Proofs.Ytbgfccanbgpjiaa.T
