/- TopZones, in plain Lean: a selector of one key, its values letters. -/
import Derived.Test.YtneogmcmkbhnaaaTNarrowM
import Derived.Test.YtneogmcmkbhnaaaTLabelsL
namespace Go.Proofs.Ytneogmcmkbhnaaa.T

def zoneK : List UInt8 := [122, 111, 110, 101]
def letter (i : Nat) : List UInt8 := [UInt8.ofNat (97 + i)]
/-- The letters that are taken. -/
def zv (h : Nat → Bool) (k : Nat) : List (List UInt8) := ((List.range k).filter h).map letter
theorem zv_succ (h : Nat → Bool) (k : Nat) : zv h (k + 1) = zv h k ++ (if h k = true then [letter k] else []) := by
  unfold zv
  rw [List.range_succ, List.filter_append, List.map_append]
  congr 1
  by_cases hk : h k = true
  · simp [hk]
  · simp [hk]
/-- The text, as it grows. -/
theorem txt_no {h : Nat → Bool} {k : Nat} (hk : h k = false) : joinB 124 (zv h (k + 1)) = joinB 124 (zv h k) := by
  rw [zv_succ, if_neg (by simp [hk]), List.append_nil]
theorem zv_ne {h : Nat → Bool} {k : Nat} : joinB 124 (zv h k) = [] ↔ zv h k = [] := by
  constructor
  · intro e
    cases hz : zv h k with
    | nil => rfl
    | cons x r =>
      have hx : x ∈ zv h k := by rw [hz]; simp
      obtain ⟨i, -, rfl⟩ := List.mem_map.1 hx
      rw [hz] at e
      simp [joinB, letter] at e
  · intro e
    rw [e]
    rfl
theorem txt_first {h : Nat → Bool} {k : Nat} (hk : h k = true) (h0 : zv h k = []) : joinB 124 (zv h (k + 1)) = letter k := by
  rw [zv_succ, if_pos hk, h0]
  simp [joinB]
theorem txt_next {h : Nat → Bool} {k : Nat} (hk : h k = true) (h0 : zv h k ≠ []) : joinB 124 (zv h (k + 1)) = joinB 124 (zv h k) ++ [124] ++ letter k := by
  rw [zv_succ, if_pos hk, joinB_snoc, if_neg h0, List.append_assoc]
theorem letter_word : ∀ i, i < 8 → wordB (letter i) = true := by decide
theorem letter_lt : ∀ i j, i < j → j < 8 → leB (letter j) (letter i) = false := by
  have : ∀ j, j < 8 → ∀ i, i < j → leB (letter j) (letter i) = false := by decide
  exact fun i j h1 h2 => this j h2 i h1
theorem letter_inj : ∀ i, i < 8 → ∀ j, j < 8 → letter i = letter j → i = j := by decide
theorem zv_prints (h : Nat → Bool) (k : Nat) (hk : k ≤ 8) : Prints rdWord keyWord (zv h k) := by
  have hmem : ∀ x ∈ zv h k, ∃ i, i < k ∧ h i = true ∧ x = letter i := fun x hx => by
    obtain ⟨i, hi, rfl⟩ := List.mem_map.1 hx
    obtain ⟨h1, h2⟩ := List.mem_filter.1 hi
    exact ⟨i, List.mem_range.1 h1, h2, rfl⟩
  refine (prints_iff _ _).2 ⟨?_, fun x hx => ?_, ?_⟩
  · unfold zv
    rw [List.length_map]
    have := List.length_filter_le h (List.range k)
    rw [List.length_range] at this
    omega
  · obtain ⟨i, hi, -, rfl⟩ := hmem x hx
    rw [rdWord_some.2 ⟨letter_word i (by omega), rfl⟩]
    rfl
  · induction k with
    | zero => intro j hj; simp [zv] at hj
    | succ k ih =>
      rw [zv_succ]
      by_cases hh : h k = true
      · rw [if_pos hh]
        refine rises_snoc keyWord (ih (by omega) fun x hx => ?_) fun y hy => ?_
        · obtain ⟨i, hi, rfl⟩ := List.mem_map.1 hx
          obtain ⟨h1, h2⟩ := List.mem_filter.1 hi
          exact ⟨i, List.mem_range.1 h1, h2, rfl⟩
        · have hy2 : y ∈ zv h k := List.mem_of_getLast? hy
          obtain ⟨i, hi, rfl⟩ := List.mem_map.1 hy2
          obtain ⟨h1, -⟩ := List.mem_filter.1 hi
          exact letter_lt i k (List.mem_range.1 h1) (by omega)
      · rw [if_neg hh, List.append_nil]
        refine ih (by omega) fun x hx => ?_
        obtain ⟨i, hi, rfl⟩ := List.mem_map.1 hx
        obtain ⟨h1, h2⟩ := List.mem_filter.1 hi
        exact ⟨i, List.mem_range.1 h1, h2, rfl⟩
theorem words_texts {l : List (List UInt8)} (h : Prints rdWord keyWord l) : texts rdWord l = l := by
  unfold texts
  refine (List.map_congr_left fun y hy => ?_).trans (List.map_id _)
  obtain ⟨-, h3, -⟩ := (prints_iff _ _).1 h
  obtain ⟨u, hu⟩ := Option.isSome_iff_exists.1 (h3 y hy)
  rw [hu]
  exact (rdWord_some.1 hu).2.symm
theorem one_print {vs : List (List UInt8)} (h : Prints rdWord keyWord vs) (h0 : vs ≠ []) : printAll prTerm keyT 44 [(zoneK, vs)] = some (zoneK ++ [61] ++ joinB 124 vs) := by
  have ht : prTerm (zoneK, vs) = some (zoneK ++ [61] ++ joinB 124 vs) := by
    unfold prTerm
    rw [if_pos (show wordB zoneK = true by decide), if_neg h0, print_done _ _ h.len h.all, words_texts h]
    rfl
  have hp : Prints prTerm keyT [(zoneK, vs)] := (prints_iff _ _).2 ⟨by simp, fun y hy => by
    obtain rfl : y = (zoneK, vs) := by simpa using hy
    rw [ht]
    rfl, fun j hj => by simp at hj⟩
  rw [print_done _ _ hp.len hp.all]
  simp [texts, joinB, ht]
/-- What the selector's text says. -/
theorem zone_terms {h : Nat → Bool} (h0 : zv h 8 ≠ []) : termsOf (zoneK ++ [61] ++ joinB 124 (zv h 8)) = some [(zoneK, zv h 8)] := terms_of_print (one_print (zv_prints h 8 (Nat.le_refl _)) h0)
theorem zone_none : termsOf (zoneK ++ [61] ++ []) = none := by decide +kernel
theorem pick_prints (j : Nat) (hj : j < 8) : Prints rdWord keyWord [letter j] := (prints_iff _ _).2 ⟨by simp, fun y hy => by
    obtain rfl : y = letter j := by simpa using hy
    rw [rdWord_some.2 ⟨letter_word j hj, rfl⟩]
    rfl, fun i hi => by simp at hi⟩
theorem pick_terms (j : Nat) (hj : j < 8) : termsOf (zoneK ++ [61] ++ letter j) = some [(zoneK, [letter j])] := by
  have := terms_of_print (one_print (pick_prints j hj) (by simp))
  simpa [joinB] using this
theorem pick_labels (j : Nat) (hj : j < 8) : labelsOf (zoneK ++ [61] ++ letter j) = some [(zoneK, letter j)] := by
  have ht : prLabel (zoneK, letter j) = some (zoneK ++ [61] ++ letter j) := by
    unfold prLabel
    rw [if_pos (show wordB zoneK = true by decide), if_pos (letter_word j hj)]
  have hp : Prints prLabel keyL [(zoneK, letter j)] := (prints_iff _ _).2 ⟨by simp, fun y hy => by
    obtain rfl : y = (zoneK, letter j) := by simpa using hy
    rw [ht]
    rfl, fun i hi => by simp at hi⟩
  refine labels_of_print ?_
  rw [print_done _ _ hp.len hp.all]
  simp [texts, joinB, ht]
theorem mem_zv {h : Nat → Bool} {j : Nat} (hj : j < 8) : letter j ∈ zv h 8 ↔ h j = true := by
  constructor
  · intro hx
    obtain ⟨i, hi, e⟩ := List.mem_map.1 hx
    obtain ⟨h1, h2⟩ := List.mem_filter.1 hi
    rw [← letter_inj i (List.mem_range.1 h1) j hj e]
    exact h2
  · intro hh
    exact List.mem_map.2 ⟨j, List.mem_filter.2 ⟨List.mem_range.2 hj, hh⟩, rfl⟩
theorem zone_match {h : Nat → Bool} {j : Nat} (hj : j < 8) : matchB [(zoneK, zv h 8)] [(zoneK, letter j)] = h j := by
  have e : matchB [(zoneK, zv h 8)] [(zoneK, letter j)] = (zv h 8).contains (letter j) := by simp [matchB, askB]
  rw [e, Bool.eq_iff_iff, ← mem_zv hj]
  simp
theorem common_pick {l : List (List UInt8)} {x : List UInt8} (hl : l.Pairwise (· < ·)) : commonB l [x] = if x ∈ l then [x] else [] := by
  by_cases hx : x ∈ l
  · rw [if_pos hx]
    refine sorted_ext (List.Pairwise.filter _ hl) (List.pairwise_singleton _ _) fun z => ?_
    rw [mem_common]
    constructor
    · rintro ⟨-, h2⟩; exact h2
    · intro h2
      obtain rfl : z = x := by simpa using h2
      exact ⟨hx, h2⟩
  · rw [if_neg hx]
    unfold commonB
    rw [List.filter_eq_nil_iff]
    intro z hz hc
    obtain rfl : z = x := by simpa using hc
    exact hx hz
theorem zone_narrow {h : Nat → Bool} {j : Nat} (hj : j < 8) (h0 : zv h 8 ≠ []) : narrowB [(zoneK, zv h 8)] [(zoneK, [letter j])] = if h j = true then (0, [(zoneK, [letter j])]) else (5, []) := by
  have hp := zv_prints h 8 (Nat.le_refl _)
  have hs : (zv h 8).Pairwise (· < ·) := rises_pairwise (key := keyWord) ((prints_iff _ _).1 hp).2.2
  unfold narrowB
  rw [if_pos (by rw [one_print hp h0]; rfl), if_pos (by rw [one_print (pick_prints j hj) (by simp)]; rfl), bothB]
  have hk : ltB zoneK zoneK = false := by decide
  show (match (if ltB zoneK zoneK = true then _ else if ltB zoneK zoneK = true then _ else _ : Option (List PT)) with
    | none => ((5 : Int), ([] : List PT))
    | some ts => if 8 < ts.length then (2, []) else (0, ts)) = _
  rw [if_neg (by simp [hk]), if_neg (by simp [hk]), common_pick hs]
  by_cases hh : h j = true
  · rw [if_pos ((mem_zv hj).2 hh), if_pos hh, if_neg (by simp), bothB_left]
    rfl
  · rw [if_neg fun e => hh ((mem_zv hj).1 e), if_neg hh, if_pos rfl]
end Go.Proofs.Ytneogmcmkbhnaaa.T
