/- The text of a list, in plain Lean; a builder, between two rounds. -/
import Derived.Test.YtneogmcmkbhnaaaTBuild
import Derived.Test.YtneogmcmkbhnaaaTSameR
namespace Go.Proofs.Ytneogmcmkbhnaaa.T
open Go.RowKit Go.Lib

def joinB (m : UInt8) : List (List UInt8) → List UInt8
  | [] => []
  | x :: r => x ++ r.flatMap fun y => m :: y
theorem joinB_snoc (m : UInt8) : ∀ (xs : List (List UInt8)) (y : List UInt8), joinB m (xs ++ [y]) = if xs = [] then y else joinB m xs ++ ([m] ++ y)
  | [], y => by simp [joinB]
  | x :: r, y => by simp [joinB]
section
variable {α : Type} (pr : α → Option (List UInt8)) (key : α → List UInt8)
def texts (l : List α) : List (List UInt8) := l.map fun x => (pr x).getD []
/-- The first k stand in a text. -/
structure Printed (l : List α) (k : Nat) : Prop where
  has : ∀ j (h : j < l.length), j < k → (pr l[j]).isSome = true
  rise : ∀ j (h : j + 1 < l.length), j + 1 < k → leB (key l[j + 1]) (key (l[j]'(by omega))) = false
/-- There is a text of them all. -/
structure Prints (l : List α) : Prop where
  len : l.length ≤ 8
  all : Printed pr key l l.length
open Classical in
/-- Their text. -/
noncomputable def printAll (m : UInt8) (l : List α) : Option (List UInt8) := if Prints pr key l then some (joinB m (texts pr l)) else none
theorem print_done {m : UInt8} {l : List α} (h0 : l.length ≤ 8) (h : Printed pr key l l.length) : printAll pr key m l = some (joinB m (texts pr l)) := by
  unfold printAll
  rw [if_pos ⟨h0, h⟩]
theorem print_long {m : UInt8} {l : List α} (h0 : ¬ l.length ≤ 8) : printAll pr key m l = none := by
  unfold printAll
  rw [if_neg fun h => h0 h.len]
theorem print_no {m : UInt8} {l : List α} {k : Nat} (hk : k < l.length) (h : pr l[k] = none) : printAll pr key m l = none := by
  unfold printAll
  rw [if_neg fun hp => by have := hp.all.has k hk hk; rw [h] at this; cases this]
theorem print_fall {m : UInt8} {l : List α} {k : Nat} (hk : k + 1 < l.length) (h : leB (key l[k + 1]) (key (l[k]'(by omega))) = true) : printAll pr key m l = none := by
  unfold printAll
  rw [if_neg fun hp => by have := hp.all.rise k hk hk; rw [h] at this; cases this]
theorem print_some {m : UInt8} {l : List α} {s : List UInt8} (h : printAll pr key m l = some s) : Prints pr key l ∧ s = joinB m (texts pr l) := by
  unfold printAll at h
  split at h
  · cases h; exact ⟨by assumption, rfl⟩
  · cases h
theorem print_none {m : UInt8} {l : List α} (h : printAll pr key m l = none) : ¬ Prints pr key l := by
  unfold printAll at h
  split at h
  · cases h
  · assumption
theorem Printed.next {l : List α} {k : Nat} (h : Printed pr key l k) (hk : k < l.length) (h1 : (pr l[k]).isSome = true) (h2 : ∀ (h0 : 0 < k), leB (key l[k]) (key (l[k - 1]'(by omega))) = false) : Printed pr key l (k + 1) := by
  refine ⟨fun j hj hjk => ?_, fun j hj hjk => ?_⟩
  · by_cases e : j < k
    · exact h.has j hj e
    · obtain rfl : j = k := by omega
      exact h1
  · by_cases e : j + 1 < k
    · exact h.rise j hj e
    · obtain rfl : k = j + 1 := by omega
      exact h2 (by omega)
theorem Printed.zero (l : List α) : Printed pr key l 0 := ⟨fun _ _ h => by omega, fun _ _ h => by omega⟩
theorem texts_take {l : List α} {k : Nat} (hk : k < l.length) {s : List UInt8} (hs : pr l[k] = some s) : texts pr (l.take (k + 1)) = texts pr (l.take k) ++ [s] := by
  unfold texts
  rw [List.take_succ_eq_append_getElem hk, List.map_append]
  simp [hs]
theorem texts_len (l : List α) (k : Nat) (hk : k ≤ l.length) : (texts pr (l.take k)).length = k := by
  unfold texts
  rw [List.length_map, List.length_take]
  omega
theorem join_first {m : UInt8} {l : List α} (hk : 0 < l.length) {s : List UInt8} (hs : pr l[0] = some s) : joinB m (texts pr (l.take (0 + 1))) = joinB m (texts pr (l.take 0)) ++ s := by
  rw [texts_take pr hk hs, joinB_snoc]
  simp [texts, joinB]
theorem join_next {m : UInt8} {l : List α} {k : Nat} (hk : k < l.length) (h0 : 0 < k) {s : List UInt8} (hs : pr l[k] = some s) : joinB m (texts pr (l.take (k + 1))) = joinB m (texts pr (l.take k)) ++ [m] ++ s := by
  rw [texts_take pr hk hs, joinB_snoc, if_neg fun e => by have := texts_len pr l k (by omega); rw [e] at this; simp at this; omega, List.append_assoc]
end
theorem Builds.after {B b : Nat} {l : List UInt8} {W W' : World} (h : Builds B b l W) (hb : Below W.heap.size W W') : Builds B b l W' := by
  have one : ∀ p, BuildAt B b p l W → BuildAt B b p l W' := fun p h => by
    obtain ⟨hB, v, hbk, hown, hne⟩ := h
    exact ⟨hB, v, (hb.block b (Array.getElem?_eq_some_iff.1 hbk).1).trans hbk, ownsRow_below hown hb, hne⟩
  rcases h with h | h
  · exact .inl (one _ h)
  · exact .inr (one _ h)
theorem Builds.fresh (w : World) : Builds w.heap.size w.heap.size [] (w.alloc (.cells #[.pointer none, .slice none 0 0] 95 (0, 0))) :=
  .inl ⟨Nat.le_refl _, _, heap_alloc_new w _, World.ownsRow_nil _ _ _ _, by simp [Value.ownBlock]⟩
/-- What stands between two rounds. -/
structure PS (w : World) (t : List UInt8) (V : World) : Prop where
  bld : Builds w.heap.size w.heap.size t V
  low : Below w.heap.size w V
theorem PS.after {w V V1 : World} {t : List UInt8} (h : PS w t V) (hb : Below V.heap.size V V1) : PS w t V1 := ⟨h.bld.after hb, h.low.trans (hb.mono h.low.size)⟩
theorem PS.drew {w V : World} {t : List UInt8} (h : PS w t V) : PS w t V.drew := h.after (Below.refl _ _).drew
theorem PS.start (w : World) : PS w [] (w.alloc (.cells #[.pointer none, .slice none 0 0] 95 (0, 0))) := ⟨Builds.fresh w, (Below.refl _ _).alloc (Nat.le_refl _) _⟩
def PrintPost (w : World) (r : Option (List UInt8)) (e : Ending) (W' : World) : Prop := Below w.heap.size w W' ∧ match r with
  | none => e = .returned (.tuple #[encS [], .bool false])
  | some s => e = .returned (.tuple #[encS s, .bool true])
end Go.Proofs.Ytneogmcmkbhnaaa.T
