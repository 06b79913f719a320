/- Leases in plain Lean: who holds one, what is asked, what is given up. -/
import Derived.Test.YtmamibabaedpcaaOMath
namespace Go.Proofs.Ytmamibabaedpcaa.L
open T O

structure Lz where
  h : ByteArray
  u : Int
  t : Int
deriving DecidableEq
def Lz0 : Lz := ⟨E0, 0, 0⟩
/-- A term more. -/
def up (t : Int) : Int := IntKind.u64.wrap (t + 1)
def holdB (x : Lz) (who : ByteArray) : Bool := !emp who && decide (who = x.h)
def mineB (x : Lz) (who : ByteArray) (now : Int) : Bool := holdB x who && decide (now < x.u)
def rangeB (now span : Int) : Bool := decide (1 ≤ span) && (decide (span ≤ 1099511627776) && decide (now ≤ 1152921504606846976))
/-- What is behind an asking, and the error. -/
def tryL (x : Lz) (who : ByteArray) (now span : Int) : Lz × Int :=
  if nameB who.data.toList = false then (Lz0, 2)
  else if rangeB now span = false then (Lz0, 3)
  else if mineB x who now = true then (⟨x.h, max x.u (now + span), x.t⟩, 0)
  else if mineB x x.h now = true then (Lz0, 8)
  else (⟨who, now + span, up x.t⟩, 0)
def relL (x : Lz) (who : ByteArray) : Lz × Int := if holdB x who = true then (⟨E0, 0, x.t⟩, 0) else (Lz0, 8)

/-- Numbers of 64 bits. -/
def U64 (n : Int) : Prop := 0 ≤ n ∧ n ≤ 18446744073709551615
structure FitL (x : Lz) : Prop where
  u : U64 x.u
  t : U64 x.t
  h : x.h.size ≤ 9223372036854775807
theorem up_u64 (t : Int) : U64 (up t) := by
  have h : up t = (t + 1) % 18446744073709551616 := by
    unfold up IntKind.wrap
    simp [IntKind.signed, IntKind.bits]
  unfold U64
  rw [h]
  omega
theorem fit0 : FitL Lz0 := ⟨⟨by decide, by decide⟩, ⟨by decide, by decide⟩, by decide⟩
theorem range_iff {now span : Int} : rangeB now span = true ↔ 1 ≤ span ∧ span ≤ 1099511627776 ∧ now ≤ 1152921504606846976 := by
  unfold rangeB
  simp only [Bool.and_eq_true, decide_eq_true_eq]
theorem hold_iff {x : Lz} {who : ByteArray} : holdB x who = true ↔ emp who = false ∧ who = x.h := by
  unfold holdB
  simp only [Bool.and_eq_true, Bool.not_eq_true', decide_eq_true_eq]
theorem mine_iff {x : Lz} {who : ByteArray} {now : Int} : mineB x who now = true ↔ emp who = false ∧ who = x.h ∧ now < x.u := by
  unfold mineB
  rw [Bool.and_eq_true, hold_iff, decide_eq_true_eq, and_assoc]
theorem fit_try {x : Lz} {who : ByteArray} {now span : Int} (hx : FitL x) (hw : who.size ≤ 9223372036854775807) (hn : 0 ≤ now) : FitL (tryL x who now span).1 := by
  unfold tryL
  split
  · exact fit0
  split
  · exact fit0
  rename_i h2
  have hr := range_iff.1 (by simpa using h2)
  split
  · exact ⟨⟨by have := hx.u.1; show 0 ≤ max _ _; omega, by have := hx.u.2; show max _ _ ≤ _; omega⟩, hx.t, hx.h⟩
  split
  · exact fit0
  · exact ⟨⟨by show 0 ≤ now + span; omega, by show now + span ≤ _; omega⟩, up_u64 _, hw⟩
theorem fit_rel {x : Lz} {who : ByteArray} (hx : FitL x) : FitL (relL x who).1 := by
  unfold relL
  split
  · exact ⟨fit0.u, hx.t, fit0.h⟩
  · exact fit0
theorem try_err {x : Lz} {who : ByteArray} {now span : Int} (h : (tryL x who now span).2 ≠ 0) : (tryL x who now span).1 = Lz0 := by
  unfold tryL at h ⊢
  split
  · rfl
  split
  · rfl
  split
  · simp_all
  split
  · rfl
  · simp_all
end Go.Proofs.Ytmamibabaedpcaa.L
