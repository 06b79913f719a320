/- Of one key the first object counts: those of a kind that are there; done again it is the same. -/
import Derived.Test.YtigoghhjncpgfaaKUniqP
namespace Go.Proofs.Ytigoghhjncpgfaa.O.B
open Go Go.Lib T

theorem there_uniq (k : Int) (l : List Obj) : thereL k l = (uniqL l).filter fun o => decide (o.kind = k) := by
  have h : ∀ (l acc : List Obj), l.foldl (stepT k) (acc.filter fun o => decide (o.kind = k)) = (l.foldl stepU acc).filter fun o => decide (o.kind = k) := by
    intro l
    induction l with
    | nil => intro acc; rfl
    | cons x l ih =>
      intro acc
      rw [List.foldl_cons, List.foldl_cons, ← ih]
      congr 1
      unfold stepT stepU
      have hf : ((acc.filter fun o => decide (o.kind = k)).find? fun y => decide (y.name = x.name)) = getL acc k x.name := by
        unfold getL
        rw [List.find?_filter]
        congr 1
        funext a
        simp
      rw [hf]
      by_cases hk : x.kind = k
      · subst hk
        cases hg : getL acc x.kind x.name with
        | some y => simp
        | none => simp
      · rw [if_neg (fun e => hk e.1)]
        split
        · rfl
        · simp [hk]
  have := h l []
  simpa [thereL, uniqL] using this
/-- No two of one key. -/
def Apart (l : List Obj) : Prop := l.Pairwise fun a b => ¬ (a.kind = b.kind ∧ a.name = b.name)
theorem apart_uniq (l : List Obj) : Apart (uniqL l) := by
  have h : ∀ (l acc : List Obj), Apart acc → Apart (l.foldl stepU acc) := by
    intro l
    induction l with
    | nil => intro acc h; exact h
    | cons x l ih =>
      intro acc h
      refine ih _ ?_
      unfold stepU
      split
      · exact h
      · rename_i hx
        refine List.pairwise_append.2 ⟨h, List.pairwise_singleton _ _, fun a ha b hb => ?_⟩
        rw [List.mem_singleton.1 hb]
        rintro ⟨h1, h2⟩
        refine hx ?_
        unfold getL
        rw [List.find?_isSome]
        exact ⟨a, ha, by simp [h1, h2]⟩
  exact h l [] List.Pairwise.nil
theorem uniq_apart {l : List Obj} (h : Apart l) : uniqL l = l := by
  have h : ∀ (l acc : List Obj), Apart (acc ++ l) → l.foldl stepU acc = acc ++ l := by
    intro l
    induction l with
    | nil => intro acc _; simp
    | cons x l ih =>
      intro acc h
      have hn : ¬ (getL acc x.kind x.name).isSome = true := by
        intro e
        unfold getL at e
        rw [List.find?_isSome] at e
        obtain ⟨a, ha, hp⟩ := e
        simp only [Bool.and_eq_true, decide_eq_true_eq] at hp
        exact (List.pairwise_append.1 h).2.2 a ha x List.mem_cons_self hp
      rw [List.foldl_cons, show stepU acc x = acc ++ [x] by unfold stepU; rw [if_neg hn], ih (acc ++ [x]) (by simpa using h)]
      simp
  simpa [uniqL] using h l [] (by simpa using (by assumption : Apart l))
theorem uniq_idem (l : List Obj) : uniqL (uniqL l) = uniqL l := uniq_apart (apart_uniq l)
theorem there_idem (k : Int) (l : List Obj) : thereL k (uniqL l) = thereL k l := by rw [there_uniq, there_uniq, uniq_idem]
end Go.Proofs.Ytigoghhjncpgfaa.O.B
