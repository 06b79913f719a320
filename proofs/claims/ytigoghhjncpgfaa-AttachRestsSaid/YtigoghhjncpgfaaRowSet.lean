/- A block's cells behind a store of several, written out (of no program). -/
import Derived.ProofKit
import Derived.Below
import Derived.Laws.IdiomCopy
import Derived.Laws.AppendOwn
import Derived.OwnWalk
import Derived.Laws.Tables
namespace Go.RowSet
open Go Go.RowKit

def setAll (cur : Array Value) : Nat → List Value → Array Value
  | _, [] => cur
  | o, v :: r => setAll (cur.setIfInBounds o v) (o + 1) r
theorem setAll_size : ∀ (vs : List Value) (o : Nat) (cur : Array Value), (setAll cur o vs).size = cur.size
  | [], _, _ => rfl
  | v :: r, o, cur => by
    unfold setAll
    rw [setAll_size r, Array.size_setIfInBounds]
theorem setAll_get : ∀ (vs : List Value) (o : Nat) (cur : Array Value), o + vs.length ≤ cur.size → ∀ j, (setAll cur o vs)[j]? = if o ≤ j ∧ j < o + vs.length then vs[j - o]? else cur[j]?
  | [], o, cur, _, j => by
    unfold setAll
    rw [if_neg (fun h => by have := h.2; rw [List.length_nil] at this; omega)]
  | v :: r, o, cur, h, j => by
    have hc : o + (r.length + 1) ≤ cur.size := h
    unfold setAll
    rw [setAll_get r (o + 1) _ (by rw [Array.size_setIfInBounds]; omega) j]
    simp only [List.length_cons]
    by_cases h1 : o + 1 ≤ j ∧ j < o + 1 + r.length
    · rw [if_pos h1, if_pos (by omega)]
      obtain ⟨k, rfl⟩ : ∃ k, j = o + 1 + k := ⟨j - (o + 1), by omega⟩
      rw [show o + 1 + k - (o + 1) = k by omega, show o + 1 + k - o = k + 1 by omega]
      rfl
    · rw [if_neg h1, Array.getElem?_setIfInBounds]
      by_cases e : o = j
      · subst e
        rw [if_pos rfl, if_pos (by omega), if_pos (by omega)]
        simp
      · rw [if_neg e, if_neg (by omega)]
theorem heap_set (g : Nat) (t : TypeId) : ∀ (vs : List Value) (o : Nat) (w : World) (cur : Array Value), w.heap[g]? = some (.cells cur t (0, 0)) → (w.setCells g o vs).heap[g]? = some (.cells (setAll cur o vs) t (0, 0))
  | [], _, _, _, h => h
  | v :: r, o, w, _, h => heap_set g t r (o + 1) _ _ (heap_setCell_same w g o _ _ v h)
theorem heap_set_other (g b : Nat) (hb : b ≠ g) : ∀ (vs : List Value) (o : Nat) (w : World), (w.setCells g o vs).heap[b]? = w.heap[b]?
  | [], _, _ => rfl
  | v :: r, o, w => by
    show ((w.setCell ⟨g, o, none⟩ v).setCells g (o + 1) r).heap[b]? = _
    rw [heap_set_other g b hb r (o + 1)]
    exact heap_setCell_other w ⟨g, o, none⟩ b v hb
theorem below_set {B g : Nat} (hg : B ≤ g) : ∀ (vs : List Value) (o : Nat) (w : World), Below B w (w.setCells g o vs)
  | [], _, w => Below.refl _ w
  | v :: r, o, w => ((Below.refl B w).setCell (p := ⟨g, o, none⟩) hg v).trans (below_set hg r (o + 1) _)
theorem size_set (g : Nat) : ∀ (vs : List Value) (o : Nat) (w : World), (w.setCells g o vs).heap.size = w.heap.size
  | [], _, _ => rfl
  | v :: r, o, w => by
    show ((w.setCell ⟨g, o, none⟩ v).setCells g (o + 1) r).heap.size = _
    rw [size_set g r (o + 1)]
    simp [World.setCell]
/-- What stands behind one place moves there: the first cells are those without it. -/
theorem take_moved (cur : Array Value) (i k n : Nat) (hi : i < n) (hn : n * k ≤ cur.size) :
    (setAll cur (i * k) ((cur.toList.take (n * k)).drop ((i + 1) * k))).toList.take ((n - 1) * k) = (cur.toList.take (n * k)).take (i * k) ++ (cur.toList.take (n * k)).drop ((i + 1) * k) := by
  obtain ⟨m, rfl⟩ : ∃ m, n = i + 1 + m := ⟨n - (i + 1), by omega⟩
  have e1 : (i + 1 + m) * k = i * k + k + m * k := by rw [Nat.add_mul, Nat.add_mul, Nat.one_mul]
  have e2 : (i + 1) * k = i * k + k := by rw [Nat.add_mul, Nat.one_mul]
  have e3 : (i + 1 + m - 1) * k = i * k + m * k := by rw [show i + 1 + m - 1 = i + m by omega, Nat.add_mul]
  rw [e1, e2, e3]
  rw [e1] at hn
  have hl : ((cur.toList.take (i * k + k + m * k)).drop (i * k + k)).length = m * k := by simp; omega
  apply List.ext_getElem?
  intro j
  rw [List.getElem?_take, Array.getElem?_toList, setAll_get _ _ _ (by rw [hl]; omega), hl]
  by_cases h1 : j < i * k + m * k
  · rw [if_pos h1]
    by_cases h2 : i * k ≤ j
    · rw [if_pos ⟨h2, h1⟩, List.getElem?_append_right (by simp; omega)]
      congr 1
      simp
      omega
    · rw [if_neg (fun h => h2 h.1), List.getElem?_append_left (by simp; omega), List.getElem?_take, if_pos (by omega), List.getElem?_take, if_pos (by omega), Array.getElem?_toList]
  · rw [if_neg h1]
    symm
    rw [List.getElem?_eq_none]
    simp
    omega
end Go.RowSet
