/- A drawn region walked by hand, where two or three allocations may come up in any order. Of no program. -/
import Derived.Test.YtbgfccanbgpjiaaHeldTwo
import Derived.Below
import Derived.Laws.IdiomRangeMap
namespace Go.HeldBy
open Go Go.RowKit

section
variable {P : Program} {ops : Array Oper} {Q : Exit → Act → World → Prop} {md : Region.Mode} {S : World → Prop}

theorem wanted_none {oi : Oper} (h : oi.guard = none) (y : Nat → Option Bool) : Region.wanted oi y = true := by
  unfold Region.wanted
  rw [h]
/-- What an allocation answers. -/
def Makes (P : Program) (oi : Oper) (x : Obj) : Prop := ∀ (a : Act) (w : World), (execOp a.eval oi).run P w = .ok (.value (.pointer (some ⟨w.heap.size, 0, none⟩))) (w.alloc x)
def ptr (p : Nat) : Value := .pointer (some ⟨p, 0, none⟩)

theorem two_allocs {i j : Nat} {oi oj : Oper} {x y : Obj} {fuel : Nat} {listed l2 : Array Bool} {a : Act} {w : World} {mk : Nat → Nat → Act}
    (hr : Region.ready md ops listed = [i, j]) (hri : Region.ready md ops (listed.setIfInBounds i true) = [j]) (hrj : Region.ready md ops (listed.setIfInBounds j true) = [i])
    (hi : ops[i]? = some oi) (hj : ops[j]? = some oj) (gi : oi.guard = none) (gj : oj.guard = none) (hvi : Makes P oi x) (hvj : Makes P oj y)
    (hl1 : (listed.setIfInBounds i true).setIfInBounds j true = l2) (hl2 : (listed.setIfInBounds j true).setIfInBounds i true = l2)
    (ha1 : ∀ p q, (a.put oi.dst (ptr p)).put oj.dst (ptr q) = mk p q) (ha2 : ∀ p q, (a.put oj.dst (ptr q)).put oi.dst (ptr p) = mk p q)
    (hS : ∀ w', Below w.heap.size w w' → S w')
    (h : ∀ p q w', w.heap.size ≤ p → w.heap.size ≤ q → p ≠ q → w'.heap[p]? = some x → w'.heap[q]? = some y → Below w.heap.size w w' → wpAnyH P md ops Q S fuel l2 (mk p q) w') :
    wpAnyH P md ops Q S (fuel + 2) listed a w := by
  have b1 : ∀ z : Obj, Below w.heap.size w (w.alloc z) := fun z => (Below.refl _ _).alloc (Nat.le_refl _) z
  have sz : ∀ z : Obj, (w.alloc z).heap.size = w.heap.size + 1 := fun z => by show (w.heap.push z).size = _; simp
  have b2 : ∀ z z' : Obj, Below w.heap.size w ((w.alloc z).alloc z') := fun z z' => (b1 z).alloc (by rw [sz]; omega) z'
  refine two hr ?_ ?_
  · refine op_value hi (wanted_none gi _) (hvi a w) rfl ⟨hS _ (b1 x), ?_⟩
    refine value hj hri (wanted_none gj _) (hvj _ _) (ha1 _ _) (hS _ (b2 x y)) ?_
    rw [hl1]
    refine h _ _ _ (Nat.le_refl _) (by rw [sz]; omega) (by rw [sz]; omega) ?_ (heap_alloc_new _ _) (b2 x y)
    exact (heap_alloc_old _ _ (by rw [sz]; omega)).trans (heap_alloc_new _ _)
  · refine op_value hj (wanted_none gj _) (hvj a w) rfl ⟨hS _ (b1 y), ?_⟩
    refine value hi hrj (wanted_none gi _) (hvi _ _) (ha2 _ _) (hS _ (b2 y x)) ?_
    rw [hl2]
    refine h _ _ _ (by rw [sz]; omega) (Nat.le_refl _) (by rw [sz]; omega) (heap_alloc_new _ _) ?_ (b2 y x)
    exact (heap_alloc_old _ _ (by rw [sz]; omega)).trans (heap_alloc_new _ _)

/-- Three may come up: each of them first. -/
theorem three {i j k : Nat} {fuel : Nat} {listed : Array Bool} {a : Act} {w : World} (hr : Region.ready md ops listed = [i, j, k])
    (h1 : wpOp P ops Q i (fun a' w' => S w' ∧ wpAnyH P md ops Q S fuel (listed.setIfInBounds i true) a' w') a w)
    (h2 : wpOp P ops Q j (fun a' w' => S w' ∧ wpAnyH P md ops Q S fuel (listed.setIfInBounds j true) a' w') a w)
    (h3 : wpOp P ops Q k (fun a' w' => S w' ∧ wpAnyH P md ops Q S fuel (listed.setIfInBounds k true) a' w') a w) : wpAnyH P md ops Q S (fuel + 1) listed a w := by
  refine wpAnyH_all hr (by simp) fun l hl => ?_
  simp only [List.mem_cons, List.not_mem_nil, or_false] at hl
  rcases hl with rfl | rfl | rfl
  · exact h1
  · exact h2
  · exact h3

theorem three_allocs {i j k : Nat} {oi oj ok : Oper} {x : Obj} {fuel : Nat} {listed l3 : Array Bool} {a : Act} {w : World} {mk : Nat → Nat → Nat → Act}
    (hr : Region.ready md ops listed = [i, j, k])
    (r1 : Region.ready md ops (listed.setIfInBounds i true) = [j, k]) (r2 : Region.ready md ops (listed.setIfInBounds j true) = [i, k]) (r3 : Region.ready md ops (listed.setIfInBounds k true) = [i, j])
    (r12 : Region.ready md ops ((listed.setIfInBounds i true).setIfInBounds j true) = [k]) (r13 : Region.ready md ops ((listed.setIfInBounds i true).setIfInBounds k true) = [j])
    (r21 : Region.ready md ops ((listed.setIfInBounds j true).setIfInBounds i true) = [k]) (r23 : Region.ready md ops ((listed.setIfInBounds j true).setIfInBounds k true) = [i])
    (r31 : Region.ready md ops ((listed.setIfInBounds k true).setIfInBounds i true) = [j]) (r32 : Region.ready md ops ((listed.setIfInBounds k true).setIfInBounds j true) = [i])
    (hi : ops[i]? = some oi) (hj : ops[j]? = some oj) (hk : ops[k]? = some ok) (gi : oi.guard = none) (gj : oj.guard = none) (gk : ok.guard = none) (hvi : Makes P oi x) (hvj : Makes P oj x) (hvk : Makes P ok x)
    (l123 : ((listed.setIfInBounds i true).setIfInBounds j true).setIfInBounds k true = l3) (l132 : ((listed.setIfInBounds i true).setIfInBounds k true).setIfInBounds j true = l3)
    (l213 : ((listed.setIfInBounds j true).setIfInBounds i true).setIfInBounds k true = l3) (l231 : ((listed.setIfInBounds j true).setIfInBounds k true).setIfInBounds i true = l3)
    (l312 : ((listed.setIfInBounds k true).setIfInBounds i true).setIfInBounds j true = l3) (l321 : ((listed.setIfInBounds k true).setIfInBounds j true).setIfInBounds i true = l3)
    (a123 : ∀ p q r, ((a.put oi.dst (ptr p)).put oj.dst (ptr q)).put ok.dst (ptr r) = mk p q r) (a132 : ∀ p q r, ((a.put oi.dst (ptr p)).put ok.dst (ptr r)).put oj.dst (ptr q) = mk p q r)
    (a213 : ∀ p q r, ((a.put oj.dst (ptr q)).put oi.dst (ptr p)).put ok.dst (ptr r) = mk p q r) (a231 : ∀ p q r, ((a.put oj.dst (ptr q)).put ok.dst (ptr r)).put oi.dst (ptr p) = mk p q r)
    (a312 : ∀ p q r, ((a.put ok.dst (ptr r)).put oi.dst (ptr p)).put oj.dst (ptr q) = mk p q r) (a321 : ∀ p q r, ((a.put ok.dst (ptr r)).put oj.dst (ptr q)).put oi.dst (ptr p) = mk p q r)
    (hS : ∀ w', Below w.heap.size w w' → S w')
    (h : ∀ p q r w', w.heap.size ≤ p → w.heap.size ≤ q → w.heap.size ≤ r → p ≠ q → p ≠ r → q ≠ r → w'.heap[p]? = some x → w'.heap[q]? = some x → w'.heap[r]? = some x → Below w.heap.size w w' → wpAnyH P md ops Q S fuel l3 (mk p q r) w') :
    wpAnyH P md ops Q S (fuel + 3) listed a w := by
  have b1 : Below w.heap.size w (w.alloc x) := (Below.refl _ _).alloc (Nat.le_refl _) x
  have sz : (w.alloc x).heap.size = w.heap.size + 1 := by show (w.heap.push x).size = _; simp
  have tr : ∀ w', Below (w.alloc x).heap.size (w.alloc x) w' → Below w.heap.size w w' := fun w' hb => b1.trans (hb.mono b1.size)
  have nw : ∀ w', Below (w.alloc x).heap.size (w.alloc x) w' → w'.heap[w.heap.size]? = some x := fun w' hb => (hb.block _ (by omega)).trans (heap_alloc_new _ _)
  refine three hr ?_ ?_ ?_
  · refine op_value hi (wanted_none gi _) (hvi a w) rfl ⟨hS _ b1, ?_⟩
    refine two_allocs (mk := mk w.heap.size) r1 r12 r13 hj hk gj gk hvj hvk l123 l132 (a123 _) (fun q r => a132 _ q r) (fun w' hb => hS _ (tr w' hb)) ?_
    intro q r w' hq hr hqr eq er hb
    exact h _ _ _ _ (Nat.le_refl _) (by omega) (by omega) (by omega) (by omega) hqr (nw _ hb) eq er (tr _ hb)
  · refine op_value hj (wanted_none gj _) (hvj a w) rfl ⟨hS _ b1, ?_⟩
    refine two_allocs (mk := fun p r => mk p w.heap.size r) r2 r21 r23 hi hk gi gk hvi hvk l213 l231 (fun p r => a213 p _ r) (fun p r => a231 p _ r) (fun w' hb => hS _ (tr w' hb)) ?_
    intro p r w' hp hr hpr ep er hb
    exact h _ _ _ _ (by omega) (Nat.le_refl _) (by omega) (by omega) hpr (by omega) ep (nw _ hb) er (tr _ hb)
  · refine op_value hk (wanted_none gk _) (hvk a w) rfl ⟨hS _ b1, ?_⟩
    refine two_allocs (mk := fun p q => mk p q w.heap.size) r3 r31 r32 hi hj gi gj hvi hvj l312 l321 (fun p q => a312 p q _) (fun p q => a321 p q _) (fun w' hb => hS _ (tr w' hb)) ?_
    intro p q w' hp hq hpq ep eq hb
    exact h _ _ _ _ (by omega) (by omega) (Nat.le_refl _) hpq (by omega) (by omega) ep eq (nw _ hb) (tr _ hb)
end
end Go.HeldBy
