/- Digits tell their number; a name with its number behind a sharp sign tells both. -/
import Derived.Test.YtdlbpfallmpkoaaDoorKBorn
namespace Go.Proofs.YtdlbpfallmpkoaaDoor.O.B
open Go Go.Lib

def valD (l : List UInt8) : Nat := l.foldl (fun a c => 10 * a + (c.toNat - 48)) 0
theorem digit_val (i : Nat) (h : i < 10) : (UInt8.ofNat (48 + i)).toNat = 48 + i := by
  rw [UInt8.toNat_ofNat']
  omega
theorem val_digits : ∀ n : Nat, valD (Lib.decDigits n) = n ∧ ∀ c ∈ Lib.decDigits n, (35 : UInt8) ≠ c := by
  intro n
  induction n using Nat.strongRecOn with
  | _ n ih =>
    by_cases h : n < 10
    · rw [Lib.decDigits_one h]
      refine ⟨?_, fun c hc => ?_⟩
      · simp only [valD, List.foldl_cons, List.foldl_nil]
        rw [digit_val n h]
        omega
      · simp only [List.mem_singleton] at hc
        subst hc
        intro e
        have := congrArg UInt8.toNat e
        rw [digit_val n h] at this
        have h35 : (35 : UInt8).toNat = 35 := rfl
        omega
    · obtain ⟨i1, i2⟩ := ih (n / 10) (by omega)
      have hd : Lib.decDigits n = Lib.decDigits (n / 10) ++ [UInt8.ofNat (48 + n % 10)] := by
        rw [Lib.decDigits]
        simp [h]
      rw [hd]
      refine ⟨?_, fun c hc => ?_⟩
      · unfold valD at *
        rw [List.foldl_append, i1]
        simp only [List.foldl_cons, List.foldl_nil]
        rw [digit_val _ (by omega)]
        omega
      · rcases List.mem_append.1 hc with h1 | h1
        · exact i2 c h1
        · simp only [List.mem_singleton] at h1
          subst h1
          intro e
          have := congrArg UInt8.toNat e
          rw [digit_val _ (by omega)] at this
          have h35 : (35 : UInt8).toNat = 35 := rfl
          omega
theorem split_at {x y d e : List UInt8} (h : x ++ 35 :: d = y ++ 35 :: e) (hd : ∀ c ∈ d, (35 : UInt8) ≠ c) (he : ∀ c ∈ e, (35 : UInt8) ≠ c) : x = y ∧ d = e := by
  rcases List.append_eq_append_iff.1 h with ⟨a, h1, h2⟩ | ⟨a, h1, h2⟩
  · cases a with
    | nil =>
      simp at h1 h2
      exact ⟨h1.symm, h2⟩
    | cons c a =>
      simp only [List.cons_append, List.cons.injEq] at h2
      exact absurd rfl (hd 35 (by rw [h2.2]; simp))
  · cases a with
    | nil =>
      simp at h1 h2
      exact ⟨h1, h2.symm⟩
    | cons c a =>
      simp only [List.cons_append, List.cons.injEq] at h2
      exact absurd rfl (he 35 (by rw [h2.2]; simp))
theorem born_iff (a b : ByteArray) (m n : Int) (hm : 0 ≤ m) (hn : 0 ≤ n) : a ++ ⟨#[35]⟩ ++ digs m = b ++ ⟨#[35]⟩ ++ digs n ↔ a = b ∧ m = n := by
  constructor
  · intro h
    have h1 := congrArg (fun s : ByteArray => s.data.toList) h
    simp only [ByteArray.data_append, Array.toList_append, digs, List.append_assoc] at h1
    obtain ⟨h2, h3⟩ := split_at (d := Lib.decDigits m.toNat) (e := Lib.decDigits n.toNat) (by simpa using h1) (val_digits _).2 (val_digits _).2
    refine ⟨ba_ext h2, ?_⟩
    have h4 := congrArg valD h3
    rw [(val_digits _).1, (val_digits _).1] at h4
    omega
  · rintro ⟨rfl, rfl⟩
    rfl
end Go.Proofs.YtdlbpfallmpkoaaDoor.O.B
