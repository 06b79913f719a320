/- Plain facts on texts of digits, suffixes and sizes: no program is named here. -/
import Derived.Lib.ItoaNum
import Derived.Lib.Strings
namespace Go.Proofs.YtggkdapfccanpaaDoor.Q
open Go.Lib

/-- Is a byte a decimal digit? -/
def isDig (c : UInt8) : Bool := decide (48 ≤ c.toNat) && decide (c.toNat ≤ 57)
/-- How many digits stand ahead. -/
def nd (l : List UInt8) : Nat := (l.takeWhile isDig).length
/-- The number that digits say. -/
def num (l : List UInt8) : Int := l.foldl (fun n c => n * 10 + ((c.toNat : Int) - 48)) 0

/-- The units: value and whether there is one. -/
def unitV (l : List UInt8) : Int :=
  if l = [] then 1 else if l = [75] then 1000 else if l = [77] then 1000000 else if l = [71] then 1000000000 else if l = [84] then 1000000000000
  else if l = [75, 105] then 1024 else if l = [77, 105] then 1048576 else if l = [71, 105] then 1073741824 else if l = [84, 105] then 1099511627776 else 0
def unitB (l : List UInt8) : Bool := decide (unitV l ≠ 0)

theorem unitV_pos {l : List UInt8} (h : unitB l = true) : 1 ≤ unitV l ∧ unitV l ≤ 1099511627776 := by
  unfold unitB at h
  have h0 : unitV l ≠ 0 := of_decide_eq_true h
  revert h0
  unfold unitV
  repeat' split
  all_goals simp
theorem unitV_no {l : List UInt8} (h : unitB l = false) : unitV l = 0 := by
  unfold unitB at h
  simpa using h

theorem num_nil : num [] = 0 := rfl
theorem num_snoc (l : List UInt8) (c : UInt8) : num (l ++ [c]) = num l * 10 + ((c.toNat : Int) - 48) := by
  unfold num; rw [List.foldl_append]; rfl

theorem num_bound : ∀ (k : Nat) (l : List UInt8), l.length = k → (∀ c ∈ l, isDig c = true) → 0 ≤ num l ∧ num l < 10 ^ k := by
  intro k
  induction k with
  | zero =>
    intro l hl _
    obtain rfl : l = [] := List.length_eq_zero_iff.1 hl
    simp [num]
  | succ k ih =>
    intro l hl hd
    have hne : l ≠ [] := by intro e; subst e; simp at hl
    obtain ⟨l', c, rfl⟩ : ∃ l' c, l = l' ++ [c] := ⟨l.dropLast, l.getLast hne, (List.dropLast_concat_getLast hne).symm⟩
    have h1 := ih l' (by simpa using hl) (fun x hx => hd x (by simp [hx]))
    have h2 := hd c (by simp)
    unfold isDig at h2
    simp only [Bool.and_eq_true, decide_eq_true_eq] at h2
    rw [num_snoc]
    have e : (10 : Int) ^ (k + 1) = 10 ^ k * 10 := Int.pow_succ ..
    rw [e]
    omega

theorem takeWhile_length_le (l : List UInt8) : nd l ≤ l.length := by
  unfold nd; exact List.IsPrefix.length_le (List.takeWhile_prefix _)
theorem take_nd (l : List UInt8) : l.take (nd l) = l.takeWhile isDig := by
  have h : l.takeWhile isDig <+: l := List.takeWhile_prefix _
  unfold nd
  exact (List.prefix_iff_eq_take.1 h).symm
theorem take_nd_dig (l : List UInt8) : ∀ c ∈ l.take (nd l), isDig c = true := by
  rw [take_nd]; intro c hc
  have := List.all_takeWhile (l := l) (p := isDig)
  exact List.all_eq_true.1 this c hc

/-- Where the first k bytes are digits, and byte k is none (or the end): k is the count. -/
theorem nd_of {l : List UInt8} {k : Nat} (hk : k ≤ l.length) (hd : ∀ c ∈ l.take k, isDig c = true) (hn : ∀ h : k < l.length, isDig l[k] = false) : nd l = k := by
  unfold nd
  have e : l = l.take k ++ l.drop k := (List.take_append_drop k l).symm
  have h1 : (l.take k ++ l.drop k).takeWhile isDig = l.take k ++ (l.drop k).takeWhile isDig := by
    rw [List.takeWhile_append]
    have : (l.take k).takeWhile isDig = l.take k := by
      have := List.takeWhile_append_of_pos (l₁ := l.take k) (l₂ := []) hd
      simpa using this
    rw [this]; simp
  rw [e, h1]
  have h2 : (l.drop k).takeWhile isDig = [] := by
    rcases Nat.lt_or_ge k l.length with h | h
    · rw [List.drop_eq_getElem_cons h, List.takeWhile_cons, hn h]; rfl
    · rw [List.drop_eq_nil_of_le h]; rfl
  rw [h2]; simp; omega

/-- A text as a size: the size and the number of the error. -/
def parseE (l : List UInt8) : Int :=
  if unitB (l.drop (nd l)) = false ∨ nd l < 1 ∨ 16 < nd l ∨ (1 < nd l ∧ l.head? = some 48) then 2
  else if 1125899906842624 / unitV (l.drop (nd l)) < num (l.take (nd l)) then 3 else 0
def parseV (l : List UInt8) : Int := if parseE l = 0 then num (l.take (nd l)) * unitV (l.drop (nd l)) else 0

/-- A size as a text. -/
def printN (n : Int) : Int :=
  if n = 0 then 0 else if n % 1099511627776 = 0 then n / 1099511627776 else if n % 1073741824 = 0 then n / 1073741824
  else if n % 1048576 = 0 then n / 1048576 else if n % 1024 = 0 then n / 1024 else n
def suffixOf (n : Int) : List UInt8 :=
  if n = 0 then [] else if n % 1099511627776 = 0 then [84, 105] else if n % 1073741824 = 0 then [71, 105]
  else if n % 1048576 = 0 then [77, 105] else if n % 1024 = 0 then [75, 105] else []
def okSize (n : Int) : Bool := decide (0 ≤ n) && decide (n ≤ 1125899906842624)
def printT (n : Int) : List UInt8 := if okSize n then decDigits (printN n).toNat ++ suffixOf n else []
def printE (n : Int) : Int := if okSize n then 0 else 3

/-- A size rounded up. -/
def okUp (n u : Int) : Bool := okSize n && (decide (1 ≤ u) && decide (u ≤ 1125899906842624))
def upOf (n u : Int) : Int := (n + u - 1) / u * u
def upV (n u : Int) : Int := if okUp n u then (if 1125899906842624 < upOf n u then 0 else upOf n u) else 0
def upE (n u : Int) : Int := if okUp n u then (if 1125899906842624 < upOf n u then 3 else 0) else 3
def fits (n room : Int) : Bool := decide (0 ≤ n) && decide (n ≤ room)
end Go.Proofs.YtggkdapfccanpaaDoor.Q
