/- The document's leases. -/
import Derived.Test.YtmamibabaedpcaaLTryC
namespace Go.Proofs.Ytmamibabaedpcaa.L
open Go.RowKit T O
open Go.Lib

theorem hb_eq (x : Lz) (who : ByteArray) (h : emp who = false) : holdB x who = (x.h.toList == who.toList) := by
  unfold holdB
  rw [h, tl_eq]
  simp [eq_comm]
set_option maxHeartbeats 400000 in
theorem refMine_any (x : Lz) (who : ByteArray) (now : Int) (w : World) :
    Calls Try.prog 18 #[encL x, .string who, .int .u64 now] w fun e w' => e = .returned (.bool (mineB x who now)) ∧ Below w.heap.size w w' := by
  obtain ⟨h, u, t⟩ := x
  unfold encL
  cases he : emp who with
  | true =>
    have H : Hid (mineB ⟨h, u, t⟩ who now = false) := by show _ = _; unfold mineB holdB; rw [he]; rfl
    have h1 := emp_yes he
    clear he
    go_enter Try.func18, Try.ntmps18
    go_wp2
    go_ret
    exact ⟨ret_bool H.out.symm, (Below.refl _ _).alloc (Nat.le_refl _) _⟩
  | false =>
    have h1 := emp_no he
    cases hq : (h.toList == who.toList) with
    | true =>
      have H : Hid (mineB ⟨h, u, t⟩ who now = decide (now < u)) := by show _ = _; unfold mineB; rw [hb_eq _ _ he, show ((Lz.mk h u t).h.toList == who.toList) = true from hq]; rfl
      clear he
      go_enter Try.func18, Try.ntmps18
      go_wp2
      go_ret
      exact ⟨ret_bool H.out.symm, (Below.refl _ _).alloc (Nat.le_refl _) _⟩
    | false =>
      have H : Hid (mineB ⟨h, u, t⟩ who now = false) := by show _ = _; unfold mineB; rw [hb_eq _ _ he, show ((Lz.mk h u t).h.toList == who.toList) = false from hq]; rfl
      clear he
      go_enter Try.func18, Try.ntmps18
      go_wp2
      go_ret
      exact ⟨ret_bool H.out.symm, (Below.refl _ _).alloc (Nat.le_refl _) _⟩
end Go.Proofs.Ytmamibabaedpcaa.L
