/- Plain facts: what is printed is parsed again. -/
import Derived.Test.YtggkdapfccanpaaDoorQPlain
import Derived.Lib.ItoaLen
namespace Go.Proofs.YtggkdapfccanpaaDoor.Q
open Go.Lib

theorem dig_of {d : Nat} (h : d < 10) : isDig (UInt8.ofNat (48 + d)) = true ∧ ((UInt8.ofNat (48 + d)).toNat : Int) = 48 + d := by
  have e : (UInt8.ofNat (48 + d)).toNat = 48 + d := by simp [UInt8.toNat_ofNat']; omega
  refine ⟨?_, by rw [e]; omega⟩
  unfold isDig; rw [e]; simp; omega

theorem dec_dig (u : Nat) : ∀ c ∈ decDigits u, isDig c = true := by
  induction u using Nat.strongRecOn with
  | _ u ih =>
    rw [decDigits]
    split
    · rename_i h
      intro c hc; simp only [List.mem_singleton] at hc; subst hc; exact (dig_of h).1
    · rename_i h
      intro c hc
      rcases List.mem_append.1 hc with h1 | h1
      · exact ih (u / 10) (by omega) c h1
      · simp only [List.mem_singleton] at h1; subst h1; exact (dig_of (by omega)).1
theorem dec_num (u : Nat) : num (decDigits u) = u := by
  induction u using Nat.strongRecOn with
  | _ u ih =>
    rw [decDigits]
    split
    · rename_i h
      show (0 : Int) * 10 + (((UInt8.ofNat (48 + u)).toNat : Int) - 48) = u
      rw [(dig_of h).2]; omega
    · rename_i h
      rw [num_snoc, ih (u / 10) (by omega), (dig_of (d := u % 10) (by omega)).2]; omega
theorem head_append {a b : List UInt8} (h : a ≠ []) : (a ++ b).head? = a.head? := by
  cases a with
  | nil => exact absurd rfl h
  | cons x a => rfl
theorem dec_pos (u : Nat) : 1 ≤ (decDigits u).length := by rw [decDigits_length]; exact nDigits_pos u
theorem dec_head (u : Nat) : (decDigits u).head? = some 48 → u = 0 := by
  induction u using Nat.strongRecOn with
  | _ u ih =>
    rw [decDigits]
    split
    · rename_i h
      intro e
      simp only [List.head?_cons, Option.some.injEq] at e
      have h2 := (dig_of h).2
      rw [e] at h2
      have : ((48 : UInt8).toNat : Int) = 48 := rfl
      omega
    · rename_i h
      intro e
      have hne : decDigits (u / 10) ≠ [] := fun e' => by have := dec_pos (u / 10); rw [e'] at this; simp at this
      rw [head_append hne] at e
      have := ih (u / 10) (by omega) e
      omega
theorem dec_len (k u : Nat) (hk : 1 ≤ k) : u < 10 ^ k → (decDigits u).length ≤ k := by
  induction k generalizing u with
  | zero => omega
  | succ k ih =>
    intro h
    rw [decDigits]
    split
    · simp
    · rename_i h10
      rw [List.length_append]
      by_cases hk0 : k = 0
      · subst hk0; simp at h; omega
      · have := ih (u / 10) (by omega) (by rw [Nat.pow_succ] at h; omega)
        simp; omega

/-- Digits, and behind them what begins with none. -/
theorem nd_digits {D S : List UInt8} (hD : ∀ c ∈ D, isDig c = true) (hS : nd S = 0) : nd (D ++ S) = D.length := by
  refine nd_of (by simp) (by rw [List.take_left']; exact hD; rfl) (fun h => ?_)
  have hS0 : 0 < S.length := by rw [List.length_append] at h; omega
  rw [List.getElem_append_right (Nat.le_refl _)]
  simp only [Nat.sub_self]
  cases S with
  | nil => simp at hS0
  | cons c S =>
    show isDig c = false
    unfold nd at hS
    rw [List.takeWhile_cons] at hS
    cases hc : isDig c with
    | false => rfl
    | true => rw [hc] at hS; simp at hS

variable {m : Int} {S : List UInt8}
theorem parts (h0 : 0 ≤ m) (h1 : m ≤ 1125899906842624) (hS : nd S = 0) :
    nd (decDigits m.toNat ++ S) = (decDigits m.toNat).length ∧ (decDigits m.toNat ++ S).drop (decDigits m.toNat).length = S ∧ (decDigits m.toNat ++ S).take (decDigits m.toNat).length = decDigits m.toNat ∧
    num (decDigits m.toNat) = m ∧ 1 ≤ (decDigits m.toNat).length ∧ (decDigits m.toNat).length ≤ 16 ∧ ¬ (1 < (decDigits m.toNat).length ∧ (decDigits m.toNat ++ S).head? = some 48) := by
  refine ⟨nd_digits (dec_dig _) hS, List.drop_left, List.take_left, by rw [dec_num]; omega, dec_pos _, dec_len 16 _ (by omega) (by omega), ?_⟩
  rintro ⟨hl, hh⟩
  have hne : decDigits m.toNat ≠ [] := fun e => by have := dec_pos m.toNat; rw [e] at this; simp at this
  rw [head_append hne] at hh
  have := dec_head _ hh
  rw [this, decDigits_one (by decide)] at hl
  simp at hl

theorem parse_form_of (h0 : 0 ≤ m) (h1 : m ≤ 1125899906842624) (hS : nd S = 0) (hu : unitB S = false) : parseV (decDigits m.toNat ++ S) = 0 ∧ parseE (decDigits m.toNat ++ S) = 2 := by
  obtain ⟨a, b, c, d, e, f, g⟩ := parts (m := m) (S := S) h0 h1 hS
  have h : parseE (decDigits m.toNat ++ S) = 2 := by unfold parseE; rw [a, b, if_pos (.inl hu)]
  exact ⟨by unfold parseV; rw [h]; rfl, h⟩
theorem parse_range_of (h0 : 0 ≤ m) (h1 : m ≤ 1125899906842624) (hS : nd S = 0) (hu : unitB S = true) (hr : 1125899906842624 / unitV S < m) : parseV (decDigits m.toNat ++ S) = 0 ∧ parseE (decDigits m.toNat ++ S) = 3 := by
  obtain ⟨a, b, c, d, e, f, g⟩ := parts (m := m) (S := S) h0 h1 hS
  have h : parseE (decDigits m.toNat ++ S) = 3 := by
    unfold parseE
    rw [a, b, c, d, if_neg, if_pos hr]
    rintro (h | h | h | h)
    · rw [hu] at h; cases h
    · omega
    · omega
    · exact g h
  exact ⟨by unfold parseV; rw [h]; rfl, h⟩
theorem parse_ok_of (h0 : 0 ≤ m) (h1 : m ≤ 1125899906842624) (hS : nd S = 0) (hu : unitB S = true) (hr : m ≤ 1125899906842624 / unitV S) : parseV (decDigits m.toNat ++ S) = m * unitV S ∧ parseE (decDigits m.toNat ++ S) = 0 := by
  obtain ⟨a, b, c, d, e, f, g⟩ := parts (m := m) (S := S) h0 h1 hS
  have h : parseE (decDigits m.toNat ++ S) = 0 := by
    unfold parseE
    rw [a, b, c, d, if_neg, if_neg (by omega)]
    rintro (h | h | h | h)
    · rw [hu] at h; cases h
    · omega
    · omega
    · exact g h
  exact ⟨by unfold parseV; rw [h, a, b, c, d]; rfl, h⟩

/-- What is printed. -/
theorem printed {n : Int} (h : okSize n = true) : printT n = decDigits (printN n).toNat ++ suffixOf n ∧ nd (suffixOf n) = 0 ∧ unitB (suffixOf n) = true ∧ printN n * unitV (suffixOf n) = n ∧ 0 ≤ printN n ∧ printN n ≤ n ∧ 1 ≤ unitV (suffixOf n) ∧
    (n ≠ 0 → 1 ≤ printN n ∧ (printN n % 1024 ≠ 0 ∨ suffixOf n = [84, 105])) := by
  simp only [okSize, Bool.and_eq_true, decide_eq_true_eq] at h
  refine ⟨by simp [printT, okSize, h.1, h.2], ?_⟩
  unfold suffixOf printN
  by_cases h0 : n = 0
  · subst h0; refine ⟨by decide, by decide, by decide, by decide, by decide, by decide, fun h => absurd rfl h⟩
  by_cases h1 : n % 1099511627776 = 0
  · rw [if_neg h0, if_pos h1, if_neg h0, if_pos h1]
    refine ⟨by decide, by decide, ?_, by omega, by omega, by decide, fun _ => ⟨by omega, .inr rfl⟩⟩
    show n / 1099511627776 * 1099511627776 = n; omega
  by_cases h2 : n % 1073741824 = 0
  · rw [if_neg h0, if_neg h1, if_pos h2, if_neg h0, if_neg h1, if_pos h2]
    refine ⟨by decide, by decide, ?_, by omega, by omega, by decide, fun _ => ⟨by omega, .inl (by omega)⟩⟩
    show n / 1073741824 * 1073741824 = n; omega
  by_cases h3 : n % 1048576 = 0
  · rw [if_neg h0, if_neg h1, if_neg h2, if_pos h3, if_neg h0, if_neg h1, if_neg h2, if_pos h3]
    refine ⟨by decide, by decide, ?_, by omega, by omega, by decide, fun _ => ⟨by omega, .inl (by omega)⟩⟩
    show n / 1048576 * 1048576 = n; omega
  by_cases h4 : n % 1024 = 0
  · rw [if_neg h0, if_neg h1, if_neg h2, if_neg h3, if_pos h4, if_neg h0, if_neg h1, if_neg h2, if_neg h3, if_pos h4]
    refine ⟨by decide, by decide, ?_, by omega, by omega, by decide, fun _ => ⟨by omega, .inl (by omega)⟩⟩
    show n / 1024 * 1024 = n; omega
  · rw [if_neg h0, if_neg h1, if_neg h2, if_neg h3, if_neg h4, if_neg h0, if_neg h1, if_neg h2, if_neg h3, if_neg h4]
    refine ⟨by decide, by decide, ?_, by omega, by omega, by decide, fun _ => ⟨by omega, .inl h4⟩⟩
    show n * 1 = n; omega

/-- Parse of Print is the size. -/
theorem parse_print {n : Int} (h : okSize n = true) : parseV (printT n) = n ∧ parseE (printT n) = 0 ∧ printE n = 0 := by
  obtain ⟨a, b, c, d, e, f, g, -⟩ := printed h
  have hb := h
  simp only [okSize, Bool.and_eq_true, decide_eq_true_eq] at hb
  have hr : printN n ≤ 1125899906842624 / unitV (suffixOf n) := (Int.le_ediv_iff_mul_le (by omega)).2 (by omega)
  obtain ⟨p, q⟩ := parse_ok_of e (by omega) b c hr
  rw [← a] at p q
  exact ⟨p.trans d, q, by simp [printE, h]⟩

/-- What is parsed is a size. -/
theorem parse_size {l : List UInt8} (h : parseE l = 0) : okSize (parseV l) = true := by
  unfold parseE at h
  split at h
  · cases h
  rename_i h1
  split at h
  · cases h
  rename_i h2
  have hu : unitB (l.drop (nd l)) = true := by
    cases hb : unitB (l.drop (nd l)) with
    | true => rfl
    | false => exact absurd (.inl hb) h1
  have hp := unitV_pos hu
  have hn := num_bound _ (l.take (nd l)) rfl (take_nd_dig l)
  have e : parseE l = 0 := by unfold parseE; rw [if_neg h1, if_neg h2]
  unfold parseV
  rw [e, if_pos rfl]
  simp only [okSize, Bool.and_eq_true, decide_eq_true_eq]
  exact ⟨Int.mul_nonneg hn.1 (by omega), Int.le_trans (Int.mul_le_mul_of_nonneg_right (by omega) (by omega)) (Int.ediv_mul_le _ (by omega))⟩
theorem parse_err {l : List UInt8} : parseE l = 0 ∨ ((parseE l = 2 ∨ parseE l = 3) ∧ parseV l = 0) := by
  by_cases h : parseE l = 0
  · exact .inl h
  · refine .inr ⟨?_, by unfold parseV; rw [if_neg h]⟩
    revert h; unfold parseE
    repeat' split
    all_goals simp
end Go.Proofs.YtggkdapfccanpaaDoor.Q
