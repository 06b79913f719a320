/- The volume that a claim takes fits, and none that would do is smaller: in plain Lean. -/
import Derived.Test.YtfpdchabknoklaaDoorBBest
namespace Go.Proofs.YtfpdchabknoklaaDoor.O.B
open Go Go.Lib

theorem there_in {k : Int} {l : List Obj} {i : Nat} (h : i < l.length) (hk : l[i].kind = k) (hf : ∀ j (hj : j < i), ¬ (l[j].kind = l[i].kind ∧ l[j].name = l[i].name)) : l[i] ∈ thereL k l := by
  have hnone : ((thereL k (l.take i)).find? fun y => decide (y.name = l[i].name)).isNone = true := by
    rw [Option.isNone_iff_eq_none, List.find?_eq_none]
    intro y hy
    obtain ⟨h1, h2⟩ := there_mem hy
    obtain ⟨j, hj, rfl⟩ := List.mem_iff_getElem.1 h1
    have hj' : j < i := by rw [List.length_take] at hj; omega
    rw [List.getElem_take] at h2 ⊢
    intro e
    exact hf j hj' ⟨by rw [h2, hk], of_decide_eq_true e⟩
  have h1 : l[i] ∈ thereL k (l.take (i + 1)) := by
    rw [there_take h]
    unfold stepT
    rw [if_pos ⟨hk, hnone⟩]
    simp
  exact (there_prefix (k := k) (l := l) (i + 1)).subset h1
theorem got_le {a b : Obj} (h : gotB a b = true) : a.got ≤ b.got := by
  unfold gotB at h
  by_cases h1 : a.got < b.got
  · omega
  · rw [if_neg h1] at h
    by_cases h2 : b.got < a.got
    · rw [if_pos h2] at h
      cases h
    · omega
theorem got_ge {a b : Obj} (h : gotB a b = false) : b.got ≤ a.got := by
  unfold gotB at h
  by_cases h1 : a.got < b.got
  · rw [if_pos h1] at h
    cases h
  · omega
theorem least_fold (fits : Obj → Bool) : ∀ (L : List Obj) (acc : Option Obj), (∀ b, acc = some b → fits b = true) →
    (∀ b, L.foldl (stepL fits gotB) acc = some b → fits b = true) ∧ (∀ a, acc = some a → ∃ b, L.foldl (stepL fits gotB) acc = some b ∧ b.got ≤ a.got) ∧ ∀ y ∈ L, fits y = true → ∃ b, L.foldl (stepL fits gotB) acc = some b ∧ b.got ≤ y.got
  | [], acc, h => ⟨h, fun a ha => ⟨a, ha, Int.le_refl _⟩, fun y hy => by cases hy⟩
  | o :: L, acc, h => by
    have hacc : ∀ b, stepL fits gotB acc o = some b → fits b = true := by
      intro b hb
      unfold stepL at hb
      cases hf : fits o with
      | false =>
        rw [hf] at hb
        exact h b hb
      | true =>
        cases acc with
        | none =>
          have e := hb
          rw [hf] at e
          have e2 : o = b := Option.some.inj e
          rw [← e2]
          exact hf
        | some a =>
          cases hg : gotB o a with
          | false =>
            simp only [hf, hg] at hb
            exact h b hb
          | true =>
            simp only [hf, hg] at hb
            have e2 : o = b := Option.some.inj hb
            rw [← e2]
            exact hf
    have hold : ∀ a, acc = some a → ∃ b, stepL fits gotB acc o = some b ∧ b.got ≤ a.got := by
      rintro a rfl
      unfold stepL
      cases hf : fits o with
      | false => exact ⟨a, by simp, Int.le_refl _⟩
      | true =>
        cases hg : gotB o a with
        | false => exact ⟨a, by simp [hg], Int.le_refl _⟩
        | true => exact ⟨o, by simp [hg], got_le hg⟩
    have hnew : fits o = true → ∃ b, stepL fits gotB acc o = some b ∧ b.got ≤ o.got := by
      intro hf
      unfold stepL
      cases acc with
      | none => exact ⟨o, by simp [hf], Int.le_refl _⟩
      | some a =>
        cases hg : gotB o a with
        | false => exact ⟨a, by simp [hg], got_ge hg⟩
        | true => exact ⟨o, by simp [hf, hg], Int.le_refl _⟩
    obtain ⟨h1, h2, h3⟩ := least_fold fits L (stepL fits gotB acc o) hacc
    refine ⟨h1, ?_, ?_⟩
    · intro a ha
      obtain ⟨b, hb, hle⟩ := hold a ha
      obtain ⟨c, hc, hle2⟩ := h2 b hb
      exact ⟨c, hc, Int.le_trans hle2 hle⟩
    · intro y hy hf
      rcases List.mem_cons.1 hy with rfl | hy
      · obtain ⟨b, hb, hle⟩ := hnew hf
        obtain ⟨c, hc, hle2⟩ := h2 b hb
        exact ⟨c, hc, Int.le_trans hle2 hle⟩
      · exact h3 y hy hf
/-- What is taken fits. -/
theorem best_fits {l : List Obj} {c v : Obj} (h : bestN l c = some v) : v.phase = 4 ∧ v.deleting = false ∧ v.cls = c.cls ∧ v.mode = c.mode ∧ c.size ≤ v.got := by
  have h1 := (least_fold _ (thereL 4 l) none (fun b hb => by cases hb)).1 v h
  unfold fitB at h1
  simp only [Bool.and_eq_true, beq_iff_eq, Bool.not_eq_true', decide_eq_true_eq] at h1
  obtain ⟨h1, h2, h3, h4, h5, -⟩ := h1
  exact ⟨h1, h2, eqT.1 h3, h4, h5⟩
/-- None that would do is smaller. -/
theorem best_least {l : List Obj} {c : Obj} {i : Nat} (h : i < l.length) (hn : c.node = E0) (hk : l[i].kind = 4) (h1 : l[i].phase = 4) (h2 : l[i].deleting = false) (h3 : l[i].cls = c.cls) (h4 : l[i].mode = c.mode) (h5 : c.size ≤ l[i].got)
    (hf : ∀ j (hj : j < i), ¬ (l[j].kind = l[i].kind ∧ l[j].name = l[i].name)) : ∃ v, bestN l c = some v ∧ v.got ≤ l[i].got := by
  refine (least_fold _ (thereL 4 l) none (fun b hb => by cases hb)).2.2 l[i] (there_in h hk hf) ?_
  have hnd : nodeN l c = none := by unfold nodeN; rw [if_pos hn]
  rw [hnd]
  unfold fitB
  simp only [Option.isSome_none, Bool.not_false, Bool.true_or, Bool.and_true, Bool.and_eq_true, beq_iff_eq, Bool.not_eq_true', decide_eq_true_eq]
  exact ⟨h1, h2, eqT.2 h3, h4, h5⟩
end Go.Proofs.YtfpdchabknoklaaDoor.O.B
