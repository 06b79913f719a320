/- What is narrowed asks what both ask; both ways it is the same: in plain Lean. -/
import Derived.Test.YtneogmcmkbhnaaaTNarrow
namespace Go.Proofs.Ytneogmcmkbhnaaa.T

theorem leB_false {a b : List UInt8} (h : leB a b = false) : b < a := by
  unfold leB at h
  rw [Bool.or_eq_false_iff, less_list] at h
  have h1 : ¬ a < b := by simpa using h.1
  have h2 : a ≠ b := by simpa using h.2
  rcases Decidable.em (b < a) with h3 | h3
  · exact h3
  · exact absurd (List.le_antisymm (List.not_lt.1 h3) (List.not_lt.1 h1)) h2
theorem rises_pairwise {α : Type} {key : α → List UInt8} : ∀ {l : List α}, Rises key l → l.Pairwise fun x y => key x < key y
  | [], _ => List.Pairwise.nil
  | x :: l, h => by
    have ht : Rises key l := fun j hj => h (j + 1) (by rw [List.length_cons]; omega)
    have ih := rises_pairwise ht
    refine List.Pairwise.cons (fun y hy => ?_) ih
    cases l with
    | nil => cases hy
    | cons z r =>
      have hz : key x < key z := leB_false (h 0 (by simp))
      rcases List.mem_cons.1 hy with rfl | hy
      · exact hz
      · exact List.lt_trans hz ((List.pairwise_cons.1 ih).1 y hy)
/-- Each key once. -/
def OnceL (l : List LB) : Prop := ∀ k v v', (k, v) ∈ l → (k, v') ∈ l → v = v'
theorem once_of {l : List LB} (h : l.Pairwise fun x y => keyL x < keyL y) : OnceL l := by
  induction l with
  | nil => intro k v v' h1; cases h1
  | cons x l ih =>
    obtain ⟨h1, h2⟩ := List.pairwise_cons.1 h
    intro k v v' m1 m2
    rcases List.mem_cons.1 m1 with e1 | m1 <;> rcases List.mem_cons.1 m2 with e2 | m2
    · rw [← e1] at e2; cases e2; rfl
    · have := h1 _ m2
      rw [← e1] at this
      exact absurd this (List.lt_irrefl _)
    · have := h1 _ m1
      rw [← e2] at this
      exact absurd this (List.lt_irrefl _)
    · exact ih h2 k v v' m1 m2
theorem any_iff {t : PT} {l : List LB} : l.any (askB t) = true ↔ ∃ v, (t.1, v) ∈ l ∧ v ∈ t.2 := by
  rw [List.any_eq_true]
  constructor
  · rintro ⟨⟨k, v⟩, hx, ha⟩
    unfold askB at ha
    rw [Bool.and_eq_true] at ha
    have hk : k = t.1 := by simpa using ha.1
    subst hk
    exact ⟨v, hx, by simpa using ha.2⟩
  · rintro ⟨v, h1, h2⟩
    exact ⟨_, h1, by unfold askB; simp [h2]⟩
theorem mem_common {a b : List (List UInt8)} {x : List UInt8} : x ∈ commonB a b ↔ x ∈ a ∧ x ∈ b := by
  unfold commonB
  rw [List.mem_filter]
  simp
theorem matchB_cons {t : PT} {ts : List PT} {l : List LB} : matchB (t :: ts) l = (l.any (askB t) && matchB ts l) := rfl
theorem matchB_append {a b : List PT} {l : List LB} : matchB (a ++ b) l = (matchB a l && matchB b l) := by unfold matchB; rw [List.all_append]
theorem same_key {a b : List UInt8} (h1 : ltB a b = false) (h2 : ltB b a = false) : a = b := by
  unfold ltB at h1 h2
  rw [less_list] at h1 h2
  exact List.le_antisymm (List.not_lt.1 (by simpa using h2)) (List.not_lt.1 (by simpa using h1))
theorem both_match (l : List LB) (hl : OnceL l) : ∀ (n : Nat) (A B : List PT), A.length + B.length ≤ n → match bothB A B with
    | none => (matchB A l && matchB B l) = false
    | some ts => matchB ts l = (matchB A l && matchB B l) := by
  intro n
  induction n with
  | zero =>
    intro A B h
    obtain rfl : A = [] := List.length_eq_zero_iff.1 (by omega)
    obtain rfl : B = [] := List.length_eq_zero_iff.1 (by omega)
    rw [bothB_nil]
    rfl
  | succ n ih =>
    intro A B h
    cases A with
    | nil => rw [bothB_left]; simp [matchB]
    | cons x A =>
      cases B with
      | nil => rw [bothB_nil]; simp [matchB]
      | cons y B =>
        simp only [List.length_cons] at h
        rw [bothB]
        by_cases h1 : ltB x.1 y.1 = true
        · rw [if_pos h1]
          have := ih A (y :: B) (by simp only [List.length_cons]; omega)
          cases hb : bothB A (y :: B) with
          | none =>
            rw [hb] at this
            simp only [Option.map_none]
            rw [matchB_cons, Bool.and_assoc, this, Bool.and_false]
          | some ts =>
            rw [hb] at this
            simp only [Option.map_some]
            rw [matchB_cons, matchB_cons (t := x), this, Bool.and_assoc]
        · rw [if_neg h1]
          by_cases h2 : ltB y.1 x.1 = true
          · rw [if_pos h2]
            have := ih (x :: A) B (by simp only [List.length_cons]; omega)
            cases hb : bothB (x :: A) B with
            | none =>
              rw [hb] at this
              simp only [Option.map_none]
              rw [matchB_cons (t := y), Bool.and_left_comm, this, Bool.and_false]
            | some ts =>
              rw [hb] at this
              simp only [Option.map_some]
              rw [matchB_cons, matchB_cons (t := y), this, Bool.and_left_comm]
          · rw [if_neg h2]
            have hk : x.1 = y.1 := same_key (by simpa using h1) (by simpa using h2)
            have hany : l.any (askB (x.1, commonB x.2 y.2)) = (l.any (askB x) && l.any (askB y)) := by
              rw [Bool.eq_iff_iff, Bool.and_eq_true, any_iff, any_iff, any_iff]
              constructor
              · rintro ⟨v, hv, hc⟩
                obtain ⟨c1, c2⟩ := mem_common.1 hc
                exact ⟨⟨v, hv, c1⟩, ⟨v, by rw [← hk]; exact hv, c2⟩⟩
              · rintro ⟨⟨v, hv, c1⟩, ⟨v', hv', c2⟩⟩
                rw [← hk] at hv'
                obtain rfl := hl _ _ _ hv hv'
                exact ⟨v, hv, mem_common.2 ⟨c1, c2⟩⟩
            by_cases h3 : commonB x.2 y.2 = []
            · rw [if_pos h3]
              have h0 : l.any (askB (x.1, commonB x.2 y.2)) = false := by
                rw [Bool.eq_false_iff]
                intro e
                obtain ⟨v, -, hc⟩ := any_iff.1 e
                rw [h3] at hc
                cases hc
              rw [h0] at hany
              show (matchB (x :: A) l && matchB (y :: B) l) = false
              rw [matchB_cons, matchB_cons]
              generalize l.any (askB x) = X at hany ⊢
              generalize l.any (askB y) = Y at hany ⊢
              generalize matchB A l = P
              generalize matchB B l = Q
              revert hany
              cases X <;> cases Y <;> cases P <;> cases Q <;> decide
            · rw [if_neg h3]
              have := ih A B (by omega)
              cases hb : bothB A B with
              | none =>
                rw [hb] at this
                simp only [Option.map_none]
                show (matchB (x :: A) l && matchB (y :: B) l) = false
                rw [matchB_cons, matchB_cons]
                have this : (matchB A l && matchB B l) = false := this
                generalize l.any (askB x) = X
                generalize l.any (askB y) = Y
                generalize matchB A l = P at this ⊢
                generalize matchB B l = Q at this ⊢
                revert this
                cases X <;> cases Y <;> cases P <;> cases Q <;> decide
              | some ts =>
                rw [hb] at this
                simp only [Option.map_some]
                show matchB ((x.1, commonB x.2 y.2) :: ts) l = (matchB (x :: A) l && matchB (y :: B) l)
                have this : matchB ts l = (matchB A l && matchB B l) := this
                rw [matchB_cons, hany, this, matchB_cons, matchB_cons]
                generalize l.any (askB x) = X
                generalize l.any (askB y) = Y
                generalize matchB A l = P
                generalize matchB B l = Q
                cases X <;> cases Y <;> cases P <;> cases Q <;> decide
theorem sorted_ext : ∀ {a b : List (List UInt8)}, a.Pairwise (· < ·) → b.Pairwise (· < ·) → (∀ x, x ∈ a ↔ x ∈ b) → a = b
  | [], [], _, _, _ => rfl
  | [], y :: b, _, _, h => absurd ((h y).2 (by simp)) (by simp)
  | x :: a, [], _, _, h => absurd ((h x).1 (by simp)) (by simp)
  | x :: a, y :: b, h1, h2, h => by
    obtain ⟨p1, q1⟩ := List.pairwise_cons.1 h1
    obtain ⟨p2, q2⟩ := List.pairwise_cons.1 h2
    have hxy : x = y := by
      rcases List.mem_cons.1 ((h x).1 (by simp)) with e | hx
      · exact e
      · rcases List.mem_cons.1 ((h y).2 (by simp)) with e | hy
        · exact e.symm
        · exact absurd (List.lt_trans (p2 x hx) (p1 y hy)) (List.lt_irrefl _)
    subst hxy
    rw [sorted_ext q1 q2 fun z => ?_]
    constructor
    · intro hz
      rcases List.mem_cons.1 ((h z).1 (List.mem_cons_of_mem _ hz)) with e | hz'
      · subst e; exact absurd (p1 z hz) (List.lt_irrefl _)
      · exact hz'
    · intro hz
      rcases List.mem_cons.1 ((h z).2 (List.mem_cons_of_mem _ hz)) with e | hz'
      · subst e; exact absurd (p2 z hz) (List.lt_irrefl _)
      · exact hz'
theorem common_comm {a b : List (List UInt8)} (ha : Prints rdWord keyWord a) (hb : Prints rdWord keyWord b) : commonB a b = commonB b a := by
  have h1 : a.Pairwise (· < ·) := rises_pairwise (key := keyWord) ((prints_iff _ _).1 ha).2.2
  have h2 : b.Pairwise (· < ·) := rises_pairwise (key := keyWord) ((prints_iff _ _).1 hb).2.2
  refine sorted_ext (List.Pairwise.filter _ h1) (List.Pairwise.filter _ h2) fun x => ?_
  rw [mem_common, mem_common, And.comm]
theorem both_comm : ∀ (n : Nat) (A B : List PT), A.length + B.length ≤ n → (∀ t ∈ A, (prTerm t).isSome = true) → (∀ t ∈ B, (prTerm t).isSome = true) → bothB A B = bothB B A := by
  intro n
  induction n with
  | zero =>
    intro A B h _ _
    obtain rfl : A = [] := List.length_eq_zero_iff.1 (by omega)
    obtain rfl : B = [] := List.length_eq_zero_iff.1 (by omega)
    rfl
  | succ n ih =>
    intro A B h hA hB
    cases A with
    | nil => rw [bothB_left, bothB_nil]
    | cons x A =>
      cases B with
      | nil => rw [bothB_left, bothB_nil]
      | cons y B =>
        simp only [List.length_cons] at h
        have hA' : ∀ t ∈ A, (prTerm t).isSome = true := fun t ht => hA t (List.mem_cons_of_mem _ ht)
        have hB' : ∀ t ∈ B, (prTerm t).isSome = true := fun t ht => hB t (List.mem_cons_of_mem _ ht)
        rw [bothB, bothB]
        by_cases h1 : ltB x.1 y.1 = true
        · have h2 : ¬ ltB y.1 x.1 = true := by
            unfold ltB at h1 ⊢
            rw [less_list] at h1 ⊢
            have : x.1 < y.1 := by simpa using h1
            simpa using List.lt_asymm this
          rw [if_pos h1, if_neg h2, if_pos h1, ih A (y :: B) (by simp only [List.length_cons]; omega) hA' hB]
        · rw [if_neg h1]
          by_cases h2 : ltB y.1 x.1 = true
          · rw [if_pos h2, if_pos h2, ih (x :: A) B (by simp only [List.length_cons]; omega) hA hB']
          · have hk : x.1 = y.1 := same_key (by simpa using h1) (by simpa using h2)
            rw [if_neg h2, if_neg h2, if_neg h1, common_comm (term_vals (hA x (by simp))) (term_vals (hB y (by simp))), ih A B (by omega) hA' hB', hk]
theorem narrow_comm {A B : List PT} (h : (narrowB A B).1 = 0) : narrowB B A = narrowB A B := by
  unfold narrowB at h ⊢
  by_cases h1 : (printAll prTerm keyT 44 A).isSome = true
  · by_cases h2 : (printAll prTerm keyT 44 B).isSome = true
    · rw [if_pos h1, if_pos h2, if_pos h2, if_pos h1, both_comm _ A B (Nat.le_refl _) ((prints_iff _ _).1 (some_prints h1)).2.1 ((prints_iff _ _).1 (some_prints h2)).2.1]
    · rw [if_pos h1, if_neg h2] at h
      cases h
  · rw [if_neg h1] at h
    cases h
/-- What is told of labels. -/
theorem narrow_match {A B : List PT} {l : List LB} (hl : OnceL l) : ((narrowB A B).1 = 5 → (matchB A l && matchB B l) = false) ∧ ((narrowB A B).1 = 0 → matchB (narrowB A B).2 l = (matchB A l && matchB B l)) := by
  have h := both_match l hl _ A B (Nat.le_refl _)
  unfold narrowB
  by_cases h1 : (printAll prTerm keyT 44 A).isSome = true
  · by_cases h2 : (printAll prTerm keyT 44 B).isSome = true
    · rw [if_pos h1, if_pos h2]
      cases hb : bothB A B with
      | none =>
        rw [hb] at h
        exact ⟨fun _ => h, fun e => absurd e (by decide)⟩
      | some ts =>
        rw [hb] at h
        dsimp only
        split
        · exact ⟨fun e => absurd e (by decide), fun e => absurd e (by decide)⟩
        · exact ⟨fun e => absurd e (by show ¬ (0 : Int) = 5; decide), fun _ => h⟩
    · rw [if_pos h1, if_neg h2]
      exact ⟨fun e => absurd e (by decide), fun e => absurd e (by decide)⟩
  · rw [if_neg h1]
    exact ⟨fun e => absurd e (by decide), fun e => absurd e (by decide)⟩
theorem narrow_num (A B : List PT) : (narrowB A B).1 = 0 ∨ (narrowB A B).1 = 2 ∨ (narrowB A B).1 = 5 := by
  unfold narrowB
  split
  · split
    · cases bothB A B with
      | none => exact .inr (.inr rfl)
      | some ts =>
        dsimp only
        split
        · exact .inr (.inl rfl)
        · exact .inl rfl
    · exact .inr (.inl rfl)
  · exact .inr (.inl rfl)
end Go.Proofs.Ytneogmcmkbhnaaa.T
