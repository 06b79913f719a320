/- What is done next for claims and for volumes, in plain Lean: no program is named here. -/
import Derived.Test.YtigoghhjncpgfaaOPlain
namespace Go.Proofs.Ytigoghhjncpgfaa.O.B
open Go.Lib T

/-- A call. -/
structure Cl where
  verb : Int
  target : ByteArray
  num : Int
  size : Int
  zone : ByteArray
  node : ByteArray
  source : ByteArray
deriving DecidableEq
/-- An act. -/
structure Ac where
  act : Int
  obj : Obj
  call : Cl
deriving DecidableEq
def Z0 : Obj := ⟨0, E0, 0, 0, false, false, E0, 0, 0, 0, false, false, E0, E0, E0, E0, E0, 0, 0, 0⟩
def C0 : Cl := ⟨0, E0, 0, 0, E0, E0, E0⟩
def nothing : Ac := ⟨0, Z0, C0⟩
def writeA (o : Obj) : Ac := ⟨1, o, C0⟩
def removeA (o : Obj) : Ac := ⟨2, o, C0⟩
def askA (c : Cl) : Ac := ⟨3, Z0, c⟩

/-- Those of a kind that are there: of one name the first one. -/
def stepT (k : Int) (acc : List Obj) (o : Obj) : List Obj := if o.kind = k ∧ (acc.find? fun y => decide (y.name = o.name)).isNone = true then acc ++ [o] else acc
def thereL (k : Int) (l : List Obj) : List Obj := l.foldl (stepT k) []
theorem there_take {k : Int} {l : List Obj} {i : Nat} (h : i < l.length) : thereL k (l.take (i + 1)) = stepT k (thereL k (l.take i)) l[i] := by
  unfold thereL
  rw [List.take_succ_eq_append_getElem h, List.foldl_append]
  rfl
theorem fold_grows (k : Int) : ∀ (l acc : List Obj), ∃ t, l.foldl (stepT k) acc = acc ++ t
  | [], acc => ⟨[], by simp⟩
  | o :: l, acc => by
    obtain ⟨t, ht⟩ := fold_grows k l (stepT k acc o)
    rw [List.foldl_cons, ht]
    unfold stepT
    split
    · exact ⟨o :: t, by simp⟩
    · exact ⟨t, rfl⟩
theorem there_prefix {k : Int} {l : List Obj} (i : Nat) : thereL k (l.take i) <+: thereL k l := by
  obtain ⟨t, ht⟩ := fold_grows k (l.drop i) (thereL k (l.take i))
  refine ⟨t, ?_⟩
  unfold thereL at *
  rw [← ht, ← List.foldl_append, List.take_append_drop]
theorem there_len (k : Int) (l : List Obj) : (thereL k l).length ≤ l.length := by
  have h : ∀ (l acc : List Obj), (l.foldl (stepT k) acc).length ≤ acc.length + l.length := by
    intro l
    induction l with
    | nil => intro acc; simp
    | cons x l ih =>
      intro acc
      have := ih (stepT k acc x)
      have h2 : (stepT k acc x).length ≤ acc.length + 1 := by
        unfold stepT
        split <;> simp
      simp only [List.foldl_cons, List.length_cons]
      omega
  have := h l []
  simpa [thereL] using this
theorem there_mem {k : Int} : ∀ {l : List Obj} {o : Obj}, o ∈ thereL k l → o ∈ l ∧ o.kind = k := by
  have h : ∀ (l acc : List Obj) (o : Obj), o ∈ l.foldl (stepT k) acc → o ∈ acc ∨ o ∈ l ∧ o.kind = k := by
    intro l
    induction l with
    | nil => intro acc o h; exact .inl h
    | cons x l ih =>
      intro acc o h
      rcases ih _ o h with h1 | h1
      · unfold stepT at h1
        split at h1
        · rename_i hx
          rcases List.mem_append.1 h1 with h2 | h2
          · exact .inl h2
          · simp at h2; subst h2; exact .inr ⟨List.mem_cons_self, hx.1⟩
        · exact .inl h1
      · exact .inr ⟨List.mem_cons_of_mem _ h1.1, h1.2⟩
  intro l o ho
  rcases h l [] o ho with h1 | h1
  · cases h1
  · exact h1
/-- The first one of a kind and a name. -/
def getL (l : List Obj) (k : Int) (n : ByteArray) : Option Obj := l.find? fun o => decide (o.kind = k) && decide (o.name = n)
theorem there_find (k : Int) (n : ByteArray) : ∀ (l : List Obj), (thereL k l).find? (fun o => decide (o.name = n)) = getL l k n := by
  have h : ∀ (l acc : List Obj), (l.foldl (stepT k) acc).find? (fun o => decide (o.name = n)) = (acc.find? fun o => decide (o.name = n)).or (getL l k n) := by
    intro l
    induction l with
    | nil => intro acc; simp [getL]
    | cons x l ih =>
      intro acc
      rw [List.foldl_cons, ih]
      unfold stepT getL
      by_cases hk : x.kind = k
      · by_cases hn : x.name = n
        · rw [List.find?_cons_of_pos (by simp [hk, hn])]
          split
          · rename_i hx
            have hnone : acc.find? (fun o => decide (o.name = n)) = none := by
              have := hx.2
              rw [hn] at this
              exact Option.isNone_iff_eq_none.1 this
            rw [List.find?_append, hnone]
            simp [hn]
          · rename_i hx
            have hx' : (acc.find? fun y => decide (y.name = x.name)).isNone ≠ true := fun e => hx ⟨hk, e⟩
            rw [hn] at hx'
            cases hf : acc.find? (fun o => decide (o.name = n)) with
            | some z => rfl
            | none => rw [hf] at hx'; exact absurd rfl hx'
        · rw [List.find?_cons_of_neg (by simp [hn])]
          split
          · rw [List.find?_append]
            simp [hn]
          · rfl
      · rw [List.find?_cons_of_neg (by simp [hk]), if_neg (fun e => hk e.1)]
  intro l
  have := h l []
  simpa [thereL] using this
/-- Of those that fit the one that stands ahead of the others. -/
def stepL (fits : Obj → Bool) (less : Obj → Obj → Bool) (best : Option Obj) (o : Obj) : Option Obj :=
  if fits o && (match best with | none => true | some b => less o b) then some o else best
def leastL (fits : Obj → Bool) (less : Obj → Obj → Bool) (l : List Obj) : Option Obj := l.foldl (stepL fits less) none
theorem least_snoc (fits : Obj → Bool) (less : Obj → Obj → Bool) (pre : List Obj) (o : Obj) : leastL fits less (pre ++ [o]) = stepL fits less (leastL fits less pre) o := by
  unfold leastL
  rw [List.foldl_append]
  rfl
end Go.Proofs.Ytigoghhjncpgfaa.O.B
