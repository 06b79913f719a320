/- Keys and queues in plain Lean; keys as keys of maps. -/
import Derived.Test.YtjmiodbpebaajaaKeyMap
import Derived.Test.YtjmiodbpebaajaaLawEnd
import Derived.Test.YtjmiodbpebaajaaProg
import Derived.WalkKit
import Derived.WalkSpells
import Derived.WalkLawsBesides
import Derived.Laws.StructEq
import Derived.Lib.IndexBytes
import Derived.Lib.Hide
import Derived.KernelRfl
namespace Go.Proofs.Ytjmiodbpebaajaa.W
open Go Go.RowKit KM

structure Ky where
  k : Int
  n : ByteArray
deriving DecidableEq
def encK (x : Ky) : Value := .agg #[.int .u8 x.k, .string x.n]
def cellsK (x : Ky) : List Value := [.int .u8 x.k, .string x.n]
/-- How long one waits that failed so often. -/
def delayN (f : Int) : Int := if f ≤ 0 then 0 else 2 ^ (min (f - 1) 6).toNat
theorem delay_bounds (f : Int) : 0 ≤ delayN f ∧ delayN f ≤ 64 := by
  unfold delayN
  split
  · decide
  · have h : (min (f - 1) 6).toNat ≤ 6 := by omega
    generalize (min (f - 1) 6).toNat = n at h
    have : n = 0 ∨ n = 1 ∨ n = 2 ∨ n = 3 ∨ n = 4 ∨ n = 5 ∨ n = 6 := by omega
    rcases this with rfl | rfl | rfl | rfl | rfl | rfl | rfl <;> decide
theorem key_check (em : Bool) (w : World) (x : Ky) : (Instr.checkKey em 10000 25 (encK x)).run Try.prog w = .ok () w := by
  unfold encK
  kernel_rfl
theorem tl_eq (a b : ByteArray) : (a.toList == b.toList) = decide (a = b) := by
  rw [Bool.eq_iff_iff, beq_iff_eq, decide_eq_true_eq, Lib.toList_data, Lib.toList_data]
  exact ⟨fun h => ByteArray.ext (Array.ext' h), fun h => by rw [h]⟩
theorem key_stays (x : Ky) : Instr.sameBits 10000 (encK x) (encK x) = true := by
  unfold encK Instr.sameBits
  simp [Instr.sameBits, beq_toListBytes]
theorem key_eq (w : World) (x y : Ky) : (Op.equal 25 (encK x) (encK y)).run Try.prog w = .ok (decide (x = y)) w := by
  obtain ⟨a, s⟩ := x
  obtain ⟨b, t⟩ := y
  have h : (decide ((⟨a, s⟩ : Ky) = ⟨b, t⟩)) = (a == b && (s.toList == t.toList)) := by
    rw [tl_eq, Bool.eq_iff_iff]
    simp
  rw [h]
  unfold encK
  show (Op.equalIn 10000 _ _ _).run _ _ = _
  cases h1 : (a == b) with
  | false => go_simp
  | true =>
    go_simp
    by_cases h2 : s.toList = t.toList <;> simp [h2]
theorem keyT : KeyT Try.prog 25 encK := ⟨key_check, key_eq, ⟨_, Try.underlying25⟩, key_stays⟩
end Go.Proofs.Ytjmiodbpebaajaa.W
