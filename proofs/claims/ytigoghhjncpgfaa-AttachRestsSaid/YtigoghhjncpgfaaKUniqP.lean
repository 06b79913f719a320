/- Of one key the first object counts, in plain Lean. -/
import Derived.Test.YtigoghhjncpgfaaBPlain
namespace Go.Proofs.Ytigoghhjncpgfaa.O.B
open Go Go.Lib T

def stepU (acc : List Obj) (o : Obj) : List Obj := if (getL acc o.kind o.name).isSome = true then acc else acc ++ [o]
def uniqL (l : List Obj) : List Obj := l.foldl stepU []
theorem uniq_take {l : List Obj} {i : Nat} (h : i < l.length) : uniqL (l.take (i + 1)) = stepU (uniqL (l.take i)) l[i] := by
  unfold uniqL
  rw [List.take_succ_eq_append_getElem h, List.foldl_append]
  rfl
theorem uniq_len (l : List Obj) : (uniqL l).length ≤ l.length := by
  have h : ∀ (l acc : List Obj), (l.foldl stepU acc).length ≤ acc.length + l.length := by
    intro l
    induction l with
    | nil => intro acc; simp
    | cons x l ih =>
      intro acc
      have := ih (stepU acc x)
      have h2 : (stepU acc x).length ≤ acc.length + 1 := by
        unfold stepU
        split <;> simp
      simp only [List.foldl_cons, List.length_cons]
      omega
  have := h l []
  simpa [uniqL] using this
theorem getL_append (a b : List Obj) (k : Int) (n : ByteArray) : getL (a ++ b) k n = (getL a k n).or (getL b k n) := by
  unfold getL
  rw [List.find?_append]
theorem step_get (acc : List Obj) (x : Obj) (k : Int) (n : ByteArray) : getL (stepU acc x) k n = (getL acc k n).or (getL [x] k n) := by
  unfold stepU
  split
  · rename_i h
    cases ha : getL acc k n with
    | some y => rfl
    | none =>
      by_cases hx : x.kind = k ∧ x.name = n
      · rw [hx.1, hx.2, ha] at h
        cases h
      · have : getL [x] k n = none := by
          unfold getL
          rw [List.find?_eq_none]
          intro y hy
          rw [List.mem_singleton.1 hy]
          intro e
          simp only [Bool.and_eq_true, decide_eq_true_eq] at e
          exact hx e
        rw [this]
        rfl
  · rw [getL_append]
theorem uniq_get (l : List Obj) (k : Int) (n : ByteArray) : getL (uniqL l) k n = getL l k n := by
  have h : ∀ (l acc : List Obj), getL (l.foldl stepU acc) k n = (getL acc k n).or (getL l k n) := by
    intro l
    induction l with
    | nil => intro acc; simp [getL]
    | cons x l ih =>
      intro acc
      rw [List.foldl_cons, ih, step_get, show x :: l = [x] ++ l from rfl, getL_append, Option.or_assoc]
  have := h l []
  simpa [uniqL, getL] using this
theorem uniq_mem {l : List Obj} {o : Obj} (ho : o ∈ uniqL l) : o ∈ l := by
  have h : ∀ (l acc : List Obj), o ∈ l.foldl stepU acc → o ∈ acc ∨ o ∈ l := by
    intro l
    induction l with
    | nil => intro acc h; exact .inl h
    | cons x l ih =>
      intro acc h
      rcases ih _ h with h1 | h1
      · unfold stepU at h1
        split at h1
        · exact .inl h1
        · rcases List.mem_append.1 h1 with h2 | h2
          · exact .inl h2
          · rw [List.mem_singleton.1 h2]
            exact .inr List.mem_cons_self
      · exact .inr (List.mem_cons_of_mem _ h1)
  rcases h l [] ho with h1 | h1
  · cases h1
  · exact h1
end Go.Proofs.Ytigoghhjncpgfaa.O.B
