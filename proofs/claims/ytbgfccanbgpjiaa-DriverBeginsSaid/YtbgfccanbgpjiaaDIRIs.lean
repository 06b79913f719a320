/- Own work. -/
import Derived.Test.YtbgfccanbgpjiaaDIRCut
namespace Go.Proofs.Ytbgfccanbgpjiaa.O.I
open Go Go.RowKit Go.Lib KM
theorem found_at {α : Type} {p : α → Bool} {l : List α} {i : Nat} {x : α} (hx : l[i]? = some x) (hp : p x = true) (hn : ∀ j y, j < i → l[j]? = some y → p y = false) {v : Value} (h : Found p l v) : v = .int .i64 (i : Int) := by
  rcases h with ⟨j, y, rfl, hy, hq, hm⟩ | ⟨-, hno⟩
  · rcases Nat.lt_trichotomy i j with h1 | h1 | h1
    · have := hm i x h1 hx
      rw [hp] at this
      cases this
    · rw [h1]
    · have := hn j y h1 hy
      rw [hq] at this
      cases this
  · have := hno x (List.mem_of_getElem? hx)
    rw [hp] at this
    cases this
theorem found_not {α : Type} {p : α → Bool} {l : List α} (hn : ∀ x ∈ l, p x = false) {v : Value} (h : Found p l v) : v = .int .i64 (-1) := by
  rcases h with ⟨j, y, rfl, hy, hq, -⟩ | ⟨h1, -⟩
  · have := hn y (List.mem_of_getElem? hy)
    rw [hq] at this
    cases this
  · exact h1
theorem first_or {α : Type} (p : α → Bool) : ∀ l : List α, (∃ (i : Nat) (x : α), l[i]? = some x ∧ p x = true ∧ ∀ (j : Nat) (y : α), j < i → l[j]? = some y → p y = false) ∨ ∀ x ∈ l, p x = false
  | [] => .inr fun x hx => (by cases hx)
  | y :: r => by
    cases hp : p y with
    | true => exact .inl ⟨0, y, rfl, hp, fun j z hj => absurd hj (by omega)⟩
    | false =>
      rcases first_or p r with ⟨i, x, hx, hq, hn⟩ | hn
      · refine .inl ⟨i + 1, x, by simpa using hx, hq, fun j z hj hz => ?_⟩
        cases j with
        | zero =>
          cases hz
          exact hp
        | succ j => exact hn j z (by omega) (by simpa using hz)
      · exact .inr fun x hx => by
          rcases List.mem_cons.1 hx with rfl | h
          · exact hp
          · exact hn x h
theorem found_val {α : Type} (p : α → Bool) (l : List α) : ∃ v, ∀ u, Found p l u → u = v := by
  rcases first_or p l with ⟨i, x, hx, hp, hn⟩ | hn
  · exact ⟨_, fun u h => found_at hx hp hn h⟩
  · exact ⟨_, fun u h => found_not hn h⟩
section
variable {R : Nat} {W : World} {q : Nat} {S : St} {rd : Rd} {L : List (DV × Sl)} (h : RAt R W q S rd L)
include h
theorem rvol_v {k : ByteArray} {v : Value} (hv : ∀ u, Found (fun x : DV => decide (x.name = k)) S.core.vols u → u = v) : Calls Try.prog 76 #[.pointer (some ⟨q, 0, none⟩), .string k] W fun e w' => e = .returned v ∧ Below W.heap.size W w' :=
  (rvol_any h k).mono fun e w' ⟨u, he, hf, hw⟩ => ⟨by rw [he, hv u hf], hw ▸ Below.refl _ _⟩
theorem rsnap_v {k : ByteArray} {v : Value} (hv : ∀ u, Found (fun x : DS => decide (x.name = k)) S.core.snaps u → u = v) : Calls Try.prog 94 #[.pointer (some ⟨q, 0, none⟩), .string k] W fun e w' => e = .returned v ∧ Below W.heap.size W w' :=
  (rsnap_any h k).mono fun e w' ⟨u, he, hf, hw⟩ => ⟨by rw [he, hv u hf], hw ▸ Below.refl _ _⟩
theorem rzone_v {k : ByteArray} {v : Value} (hv : ∀ u, Found (fun x : Zn => decide (x.name = k)) S.core.zones u → u = v) : Calls Try.prog 58 #[.pointer (some ⟨q, 0, none⟩), .string k] W fun e w' => e = .returned v ∧ Below W.heap.size W w' :=
  (rzone_any h k).mono fun e w' ⟨u, he, hf, hw⟩ => ⟨by rw [he, hv u hf], hw ▸ Below.refl _ _⟩
end
end Go.Proofs.Ytbgfccanbgpjiaa.O.I
