/- Own work. -/
import Derived.Test.YtbgfccanbgpjiaaDJ05
namespace Go.HeldBy
open Go Go.RowKit
structure Fl where
  k : Nat
  dst : Option Tmp
  x : Obj
  val : Nat → Value
section
variable {P : Program} {ops : Array Oper} {Q : Exit → Act → World → Prop} {md : Region.Mode} {S : World → Prop}
def Flies (P : Program) (A : Act → World → Prop) (fo : Oper) (f : Fl) : Prop := ∀ a w, A a w → (execOp a.eval fo).run P w = .ok (.value (f.val w.heap.size)) (w.alloc f.x)
structure Flow1 (P : Program) (md : Region.Mode) (ops : Array Oper) (Q : Exit → Act → World → Prop) (S : World → Prop) (R : Nat) (f : Fl) (n : Nat) (L : Array Bool) (A : Act → World → Prop) : Prop where
  bare : ∀ a w, A a w → wpAnyH P md ops Q S (n + 1) L a w
  one : ∀ a w p, A a w → R ≤ p → w.heap[p]? = some f.x → wpAnyH P md ops Q S n (L.setIfInBounds f.k true) (a.put f.dst (f.val p)) w
structure Flow2 (P : Program) (md : Region.Mode) (ops : Array Oper) (Q : Exit → Act → World → Prop) (S : World → Prop) (R : Nat) (f g : Fl) (n : Nat) (L : Array Bool) (A : Act → World → Prop) : Prop where
  bare : ∀ a w, A a w → wpAnyH P md ops Q S (n + 2) L a w
  one : ∀ a w p, A a w → R ≤ p → w.heap[p]? = some f.x → wpAnyH P md ops Q S (n + 1) (L.setIfInBounds f.k true) (a.put f.dst (f.val p)) w
  two : ∀ a w q, A a w → R ≤ q → w.heap[q]? = some g.x → wpAnyH P md ops Q S (n + 1) (L.setIfInBounds g.k true) (a.put g.dst (g.val q)) w
  both : ∀ a w p q, A a w → R ≤ p → R ≤ q → p ≠ q → w.heap[p]? = some f.x → w.heap[q]? = some g.x → wpAnyH P md ops Q S n ((L.setIfInBounds f.k true).setIfInBounds g.k true) ((a.put f.dst (f.val p)).put g.dst (g.val q)) w
def Steps (P : Program) (oi : Oper) (Keep : World → World → Prop) (A A' : Act → World → Prop) : Prop := ∀ a w, A a w →
  (∃ v w', (execOp a.eval oi).run P w = .ok (.value v) w' ∧ A' (a.put oi.dst v) w' ∧ Keep w w') ∨
  (∃ f args, (execOp a.eval oi).run P w = .ok (.enter f args) w ∧ Calls P f args w fun e w' => ∃ v, e = .returned v ∧ A' (a.put oi.dst v) w' ∧ Keep w w')
def keeps (x : Obj) (R : Nat) (w w' : World) : Prop := ∀ p, R ≤ p → w.heap[p]? = some x → w'.heap[p]? = some x
theorem op_step {i : Nat} {oi : Oper} {Keep : World → World → Prop} {A A' : Act → World → Prop} {K : Act → World → Prop} {a b : Act} {w : World} (ext : Act → Act) (hi : ops[i]? = some oi) (gi : oi.guard = none) (hs : Steps P oi Keep A A') (hA : A a w) (_hb : b = ext a)
    (he : execOp b.eval oi = execOp a.eval oi) (hp : ∀ v, b.put oi.dst v = ext (a.put oi.dst v)) (h : ∀ a' w', A' a' w' → Keep w w' → K (ext a') w') : wpOp P ops Q i K b w := by
  rcases hs a w hA with ⟨v, w', h1, h2, h3⟩ | ⟨f, args, h1, h2⟩
  · exact op_value hi (wanted_none gi _) (by rw [he]; exact h1) (hp v) (h _ _ h2 h3)
  · unfold wpOp
    simp only [hi, wanted_none gi, if_true]
    refine .inl ?_
    unfold Oper.wp
    rw [he, h1]
    exact h2.mono fun e w' ⟨v, hv, h3, h4⟩ => by
      subst hv
      show K (b.put oi.dst v) w'
      rw [hp v]
      exact h _ _ h3 h4
def only (md : Region.Mode) (ops : Array Oper) (L : Array Bool) (js : List Nat) : Bool := !(Region.ready md ops L).isEmpty && (Region.ready md ops L).all fun j => js.contains j
theorem only_out {L : Array Bool} {js : List Nat} (h : only md ops L js = true) : (Region.ready md ops L).isEmpty = false ∧ ∀ j ∈ Region.ready md ops L, j ∈ js := by
  unfold only at h
  simp only [Bool.and_eq_true, Bool.not_eq_true', List.all_eq_true] at h
  exact ⟨h.1, fun j hj => List.contains_iff_mem.1 (h.2 j hj)⟩
theorem wp_only {L : Array Bool} {js : List Nat} {fuel : Nat} {a : Act} {w : World} (h : only md ops L js = true) (hj : ∀ j ∈ js, wpOp P ops Q j (fun a' w' => S w' ∧ wpAnyH P md ops Q S fuel (L.setIfInBounds j true) a' w') a w) : wpAnyH P md ops Q S (fuel + 1) L a w :=
  wpAnyH_all rfl (by intro h0; have := (only_out h).1; rw [h0] at this; cases this) fun j h2 => hj j ((only_out h).2 j h2)
variable {R : Nat} {f g : Fl} {n : Nat} {L L2 : Array Bool} {A A' : Act → World → Prop} {i : Nat} {oi fo gi2 : Oper}
theorem Flow1.nil (hf : ops[f.k]? = some fo) (df : fo.dst = f.dst) (gf : fo.guard = none) (hr : only md ops L [f.k] = true) (hfl : Flies P A fo f) (hAa : ∀ a w, A a w → A a (w.alloc f.x)) (hS : ∀ a w, A a w → S w) (hR : ∀ a w, A a w → R ≤ w.heap.size)
    (hl : L.setIfInBounds f.k true = L2) (h : ∀ a w p, A a w → R ≤ p → w.heap[p]? = some f.x → wpAnyH P md ops Q S n L2 (a.put f.dst (f.val p)) w) : Flow1 P md ops Q S R f n L A := by
  subst hl
  refine ⟨fun a w hA => wp_only hr fun j hj => ?_, h⟩
  obtain rfl : j = f.k := by simpa using hj
  exact op_value hf (wanted_none gf _) (hfl a w hA) (by rw [df]) ⟨hS _ _ (hAa _ _ hA), h _ _ _ (hAa _ _ hA) (hR _ _ hA) (heap_alloc_new _ _)⟩
theorem Flow1.step (hi : ops[i]? = some oi) (gi : oi.guard = none) (hsi : noSel oi = true) (hf : ops[f.k]? = some fo) (df : fo.dst = f.dst) (gf : fo.guard = none) (hr : only md ops L [i, f.k] = true) (hr1 : only md ops (L.setIfInBounds f.k true) [i] = true) (hik : i ≠ f.k) (far1 : far ops oi f.dst = true)
    (hfl : Flies P A fo f) (hAa : ∀ a w, A a w → A a (w.alloc f.x)) (hS : ∀ a w, A a w → S w) (hS' : ∀ a w, A' a w → S w) (hR : ∀ a w, A a w → R ≤ w.heap.size)
    (hs : Steps P oi (keeps f.x R) A A') (h : Flow1 P md ops Q S R f n (L.setIfInBounds i true) A') : Flow1 P md ops Q S R f (n + 1) L A := by
  obtain ⟨hap, hdd⟩ := far_out far1
  have late : ∀ a w p, A a w → R ≤ p → w.heap[p]? = some f.x → wpAnyH P md ops Q S (n + 1) (L.setIfInBounds f.k true) (a.put f.dst (f.val p)) w := fun a w p hA hp hx => by
    refine wp_only hr1 fun j hj => ?_
    obtain rfl : j = i := by simpa using hj
    refine op_step (fun a => a.put f.dst (f.val p)) hi gi hs hA rfl (execOp_put oi (noSel_out hsi) a f.dst _ hap) (fun v => (Act.put_comm a v _ (fun d hd e => hdd d e hd)).symm) ?_
    intro a' w' hA' hk
    refine ⟨hS' _ _ hA', ?_⟩
    rw [Array.setIfInBounds_comm _ _ (fun e => hik e.symm)]
    exact h.one _ _ _ hA' hp (hk p hp hx)
  refine ⟨fun a w hA => wp_only hr fun j hj => ?_, late⟩
  simp only [List.mem_cons, List.not_mem_nil, or_false] at hj
  rcases hj with rfl | rfl
  · refine op_step (fun a => a) hi gi hs hA rfl rfl (fun v => rfl) ?_
    intro a' w' hA' _
    exact ⟨hS' _ _ hA', h.bare _ _ hA'⟩
  · exact op_value hf (wanted_none gf _) (hfl a w hA) (by rw [df]) ⟨hS _ _ (hAa _ _ hA), late _ _ _ (hAa _ _ hA) (hR _ _ hA) (heap_alloc_new _ _)⟩
theorem Flow2.step (hi : ops[i]? = some oi) (gi : oi.guard = none) (hsi : noSel oi = true) (hf : ops[f.k]? = some fo) (df : fo.dst = f.dst) (gf : fo.guard = none) (hg : ops[g.k]? = some gi2) (dg : gi2.dst = g.dst) (gg : gi2.guard = none)
    (hr : only md ops L [i, f.k, g.k] = true) (hr1 : only md ops (L.setIfInBounds f.k true) [i, g.k] = true) (hr2 : only md ops (L.setIfInBounds g.k true) [i, f.k] = true) (hr3 : only md ops ((L.setIfInBounds f.k true).setIfInBounds g.k true) [i] = true)
    (hif : i ≠ f.k) (hig : i ≠ g.k) (hfg : f.k ≠ g.k) (sf : noSel fo = true) (sg : noSel gi2 = true) (far1 : far ops oi f.dst = true) (far2 : far ops oi g.dst = true) (far3 : far ops gi2 f.dst = true) (far4 : far ops fo g.dst = true)
    (hff : Flies P A fo f) (hgg : Flies P A gi2 g) (hAa : ∀ a w z, A a w → A a (w.alloc z)) (hS : ∀ a w, A a w → S w) (hS' : ∀ a w, A' a w → S w) (hR : ∀ a w, A a w → R ≤ w.heap.size)
    (hs : Steps P oi (fun w w' => keeps f.x R w w' ∧ keeps g.x R w w') A A') (h : Flow2 P md ops Q S R f g n (L.setIfInBounds i true) A') : Flow2 P md ops Q S R f g (n + 1) L A := by
  obtain ⟨hap1, hdd1⟩ := far_out far1
  obtain ⟨hap2, hdd2⟩ := far_out far2
  obtain ⟨hap3, hdd3⟩ := far_out far3
  obtain ⟨hap4, hdd4⟩ := far_out far4
  have c1 : ∀ (a : Act) v p, (a.put f.dst (f.val p)).put oi.dst v = (a.put oi.dst v).put f.dst (f.val p) := fun a v p => (Act.put_comm a v _ (fun d hd e => hdd1 d e hd)).symm
  have c2 : ∀ (a : Act) v q, (a.put g.dst (g.val q)).put oi.dst v = (a.put oi.dst v).put g.dst (g.val q) := fun a v q => (Act.put_comm a v _ (fun d hd e => hdd2 d e hd)).symm
  have e1 : ∀ (a : Act) p, execOp (a.put f.dst (f.val p)).eval oi = execOp a.eval oi := fun a p => execOp_put oi (noSel_out hsi) a f.dst _ hap1
  have e2 : ∀ (a : Act) q, execOp (a.put g.dst (g.val q)).eval oi = execOp a.eval oi := fun a q => execOp_put oi (noSel_out hsi) a g.dst _ hap2
  have both : ∀ a w p q, A a w → R ≤ p → R ≤ q → p ≠ q → w.heap[p]? = some f.x → w.heap[q]? = some g.x → wpAnyH P md ops Q S (n + 1) ((L.setIfInBounds f.k true).setIfInBounds g.k true) ((a.put f.dst (f.val p)).put g.dst (g.val q)) w := fun a w p q hA hp hq hpq hx hy => by
    refine wp_only hr3 fun j hj => ?_
    obtain rfl : j = i := by simpa using hj
    refine op_step (fun a => (a.put f.dst (f.val p)).put g.dst (g.val q)) hi gi hs hA rfl (by rw [e2, e1]) (fun v => by rw [c2, c1]) ?_
    intro a' w' hA' hk
    refine ⟨hS' _ _ hA', ?_⟩
    rw [Array.setIfInBounds_comm _ _ (fun e => hig e.symm), Array.setIfInBounds_comm (i := f.k) _ _ (fun e => hif e.symm)]
    exact h.both _ _ _ _ hA' hp hq hpq (hk.1 p hp hx) (hk.2 q hq hy)
  have one : ∀ a w p, A a w → R ≤ p → w.heap[p]? = some f.x → wpAnyH P md ops Q S (n + 1 + 1) (L.setIfInBounds f.k true) (a.put f.dst (f.val p)) w := fun a w p hA hp hx => by
    have hlt : p < w.heap.size := (Array.getElem?_eq_some_iff.1 hx).1
    refine wp_only hr1 fun j hj => ?_
    simp only [List.mem_cons, List.not_mem_nil, or_false] at hj
    rcases hj with rfl | rfl
    · refine op_step (fun a => a.put f.dst (f.val p)) hi gi hs hA rfl (e1 a p) (fun v => c1 a v p) ?_
      intro a' w' hA' hk
      refine ⟨hS' _ _ hA', ?_⟩
      rw [Array.setIfInBounds_comm _ _ (fun e => hif e.symm)]
      exact h.one _ _ _ hA' hp (hk.1 p hp hx)
    · refine op_value hg (wanted_none gg _) (by rw [execOp_put gi2 (noSel_out sg) a f.dst _ hap3]; exact hgg a w hA) (by rw [dg]) ⟨hS _ _ (hAa _ _ _ hA), ?_⟩
      exact both _ _ _ _ (hAa _ _ _ hA) hp (hR _ _ hA) (by omega) (by first | exact (heap_alloc_old _ _ hlt).trans hx | exact (heap_alloc_old _ _ _ hlt).trans hx) (heap_alloc_new _ _)
  have two' : ∀ a w q, A a w → R ≤ q → w.heap[q]? = some g.x → wpAnyH P md ops Q S (n + 1 + 1) (L.setIfInBounds g.k true) (a.put g.dst (g.val q)) w := fun a w q hA hq hy => by
    have hlt : q < w.heap.size := (Array.getElem?_eq_some_iff.1 hy).1
    refine wp_only hr2 fun j hj => ?_
    simp only [List.mem_cons, List.not_mem_nil, or_false] at hj
    rcases hj with rfl | rfl
    · refine op_step (fun a => a.put g.dst (g.val q)) hi gi hs hA rfl (e2 a q) (fun v => c2 a v q) ?_
      intro a' w' hA' hk
      refine ⟨hS' _ _ hA', ?_⟩
      rw [Array.setIfInBounds_comm _ _ (fun e => hig e.symm)]
      exact h.two _ _ _ hA' hq (hk.2 q hq hy)
    · refine op_value hf (wanted_none gf _) (by rw [execOp_put fo (noSel_out sf) a g.dst _ hap4]; exact hff a w hA) (by rw [df]) ⟨hS _ _ (hAa _ _ _ hA), ?_⟩
      rw [Array.setIfInBounds_comm _ _ (fun e => hfg e.symm), Act.put_comm (x := g.dst) (y := f.dst) a (g.val q) (f.val w.heap.size) (fun d hd e => hdd3 d e (dg.trans hd))]
      exact both _ _ _ _ (hAa _ _ _ hA) (hR _ _ hA) hq (by omega) (heap_alloc_new _ _) (by first | exact (heap_alloc_old _ _ hlt).trans hy | exact (heap_alloc_old _ _ _ hlt).trans hy)
  refine ⟨fun a w hA => wp_only hr fun j hj => ?_, one, two', both⟩
  simp only [List.mem_cons, List.not_mem_nil, or_false] at hj
  rcases hj with rfl | rfl | rfl
  · refine op_step (fun a => a) hi gi hs hA rfl rfl (fun v => rfl) ?_
    intro a' w' hA' _
    exact ⟨hS' _ _ hA', h.bare _ _ hA'⟩
  · exact op_value hf (wanted_none gf _) (hff a w hA) (by rw [df]) ⟨hS _ _ (hAa _ _ _ hA), one _ _ _ (hAa _ _ _ hA) (hR _ _ hA) (heap_alloc_new _ _)⟩
  · exact op_value hg (wanted_none gg _) (hgg a w hA) (by rw [dg]) ⟨hS _ _ (hAa _ _ _ hA), two' _ _ _ (hAa _ _ _ hA) (hR _ _ hA) (heap_alloc_new _ _)⟩
theorem Flow2.nil (hf : ops[f.k]? = some fo) (df : fo.dst = f.dst) (gf : fo.guard = none) (hg : ops[g.k]? = some gi2) (dg : gi2.dst = g.dst) (gg : gi2.guard = none)
    (hr : only md ops L [f.k, g.k] = true) (hr1 : only md ops (L.setIfInBounds f.k true) [g.k] = true) (hr2 : only md ops (L.setIfInBounds g.k true) [f.k] = true)
    (hfg : f.k ≠ g.k) (sf : noSel fo = true) (sg : noSel gi2 = true) (far3 : far ops gi2 f.dst = true) (far4 : far ops fo g.dst = true)
    (hff : Flies P A fo f) (hgg : Flies P A gi2 g) (hAa : ∀ a w z, A a w → A a (w.alloc z)) (hS : ∀ a w, A a w → S w) (hR : ∀ a w, A a w → R ≤ w.heap.size)
    (h : ∀ a w p q, A a w → R ≤ p → R ≤ q → p ≠ q → w.heap[p]? = some f.x → w.heap[q]? = some g.x → wpAnyH P md ops Q S n ((L.setIfInBounds f.k true).setIfInBounds g.k true) ((a.put f.dst (f.val p)).put g.dst (g.val q)) w) : Flow2 P md ops Q S R f g n L A := by
  obtain ⟨hap3, hdd3⟩ := far_out far3
  obtain ⟨hap4, hdd4⟩ := far_out far4
  have one : ∀ a w p, A a w → R ≤ p → w.heap[p]? = some f.x → wpAnyH P md ops Q S (n + 1) (L.setIfInBounds f.k true) (a.put f.dst (f.val p)) w := fun a w p hA hp hx => by
    have hlt : p < w.heap.size := (Array.getElem?_eq_some_iff.1 hx).1
    refine wp_only hr1 fun j hj => ?_
    obtain rfl : j = g.k := by simpa using hj
    refine op_value hg (wanted_none gg _) (by rw [execOp_put gi2 (noSel_out sg) a f.dst _ hap3]; exact hgg a w hA) (by rw [dg]) ⟨hS _ _ (hAa _ _ _ hA), ?_⟩
    exact h _ _ _ _ (hAa _ _ _ hA) hp (hR _ _ hA) (by omega) (by first | exact (heap_alloc_old _ _ hlt).trans hx | exact (heap_alloc_old _ _ _ hlt).trans hx) (heap_alloc_new _ _)
  have two' : ∀ a w q, A a w → R ≤ q → w.heap[q]? = some g.x → wpAnyH P md ops Q S (n + 1) (L.setIfInBounds g.k true) (a.put g.dst (g.val q)) w := fun a w q hA hq hy => by
    have hlt : q < w.heap.size := (Array.getElem?_eq_some_iff.1 hy).1
    refine wp_only hr2 fun j hj => ?_
    obtain rfl : j = f.k := by simpa using hj
    refine op_value hf (wanted_none gf _) (by rw [execOp_put fo (noSel_out sf) a g.dst _ hap4]; exact hff a w hA) (by rw [df]) ⟨hS _ _ (hAa _ _ _ hA), ?_⟩
    rw [Array.setIfInBounds_comm _ _ (fun e => hfg e.symm), Act.put_comm (x := g.dst) (y := f.dst) a (g.val q) (f.val w.heap.size) (fun d hd e => hdd3 d e (dg.trans hd))]
    exact h _ _ _ _ (hAa _ _ _ hA) (hR _ _ hA) hq (by omega) (heap_alloc_new _ _) (by first | exact (heap_alloc_old _ _ hlt).trans hy | exact (heap_alloc_old _ _ _ hlt).trans hy)
  refine ⟨fun a w hA => wp_only hr fun j hj => ?_, one, two', h⟩
  simp only [List.mem_cons, List.not_mem_nil, or_false] at hj
  rcases hj with rfl | rfl
  · exact op_value hf (wanted_none gf _) (hff a w hA) (by rw [df]) ⟨hS _ _ (hAa _ _ _ hA), one _ _ _ (hAa _ _ _ hA) (hR _ _ hA) (heap_alloc_new _ _)⟩
  · exact op_value hg (wanted_none gg _) (hgg a w hA) (by rw [dg]) ⟨hS _ _ (hAa _ _ _ hA), two' _ _ _ (hAa _ _ _ hA) (hR _ _ hA) (heap_alloc_new _ _)⟩
end
end Go.HeldBy
