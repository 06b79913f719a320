/- A drawn region walked by hand, where an allocation may come up at any time beside a chain of calls and of what only computes. Of no program. -/
import Derived.Test.YtbgfccanbgpjiaaHeldAlloc
namespace Go.HeldBy
open Go Go.RowKit

section
variable {P : Program} {ops : Array Oper} {Q : Exit → Act → World → Prop} {md : Region.Mode} {S : World → Prop}

/-- From here on: whether the allocation k has come up or not, all goes well in every world that w0 may have become. -/
structure Goes (P : Program) (md : Region.Mode) (ops : Array Oper) (Q : Exit → Act → World → Prop) (S : World → Prop) (w0 : World) (k : Nat) (dk : Option Tmp) (x : Obj) (n : Nat) (L : Array Bool) (a : Act) : Prop where
  without : ∀ w, Below w0.heap.size w0 w → wpAnyH P md ops Q S (n + 1) L a w
  with_ : ∀ p w, w0.heap.size ≤ p → Below w0.heap.size w0 w → w.heap[p]? = some x → wpAnyH P md ops Q S n (L.setIfInBounds k true) (a.put dk (ptr p)) w

/-- It looks at nothing that the allocation puts, and puts elsewhere. -/
def far (ops : Array Oper) (oi : Oper) (dk : Option Tmp) : Bool :=
  match dk with
  | some d => !((oi.looksAt ops).contains d) && (oi.dst != some d)
  | none => true
def noSel (oi : Oper) : Bool := match oi.op with | .select _ _ => false | _ => true
theorem noSel_out {oi : Oper} (h : noSel oi = true) : ∀ cs b, oi.op ≠ .select cs b := fun cs b e => by
  unfold noSel at h
  rw [e] at h
  cases h
theorem far_out {oi : Oper} {dk : Option Tmp} (h : far ops oi dk = true) : (∀ d, dk = some d → d ∉ oi.looksAt ops) ∧ ∀ d, dk = some d → oi.dst ≠ some d := by
  cases dk with
  | none => exact ⟨(fun d hd => by cases hd), (fun d hd => by cases hd)⟩
  | some d =>
    unfold far at h
    simp only [Bool.and_eq_true, Bool.not_eq_true', bne_iff_ne] at h
    refine ⟨fun d' hd hm => ?_, fun d' hd => ?_⟩
    · cases hd
      have := List.contains_iff_mem.2 hm
      rw [h.1] at this
      cases this
    · cases hd
      exact h.2

variable {w0 : World} {k : Nat} {ok : Oper} {dk : Option Tmp} {x : Obj} {L L2 : Array Bool} {a a' : Act} {n : Nat} {i : Nat} {oi : Oper} {v : Value}

theorem Goes.nil {mk : Nat → Act} (hk : ops[k]? = some ok) (hd : ok.dst = dk) (hr : Region.ready md ops L = [k]) (gk : ok.guard = none) (hvk : Makes P ok x) (hS : ∀ w', Below w0.heap.size w0 w' → S w')
    (hl : L.setIfInBounds k true = L2) (ha : ∀ p, a.put dk (ptr p) = mk p)
    (h : ∀ p w, w0.heap.size ≤ p → Below w0.heap.size w0 w → w.heap[p]? = some x → wpAnyH P md ops Q S n L2 (mk p) w) : Goes P md ops Q S w0 k dk x n L a := by
  subst hd
  refine ⟨fun w hw => ?_, fun p w hp hw hx => by rw [hl, ha]; exact h p w hp hw hx⟩
  have hb : Below w0.heap.size w0 (w.alloc x) := hw.alloc hw.size x
  refine value hk hr (wanted_none gk _) (hvk a w) (ha _) (hS _ hb) ?_
  rw [hl]
  exact h _ _ hw.size hb (heap_alloc_new _ _)

theorem Goes.take (hi : ops[i]? = some oi) (hs : Region.noSelect ops = true) (hsi : noSel oi = true) (hf : Region.free md ops L i = true) (hf2 : Region.free md ops (L.setIfInBounds k true) i = true)
    (hr : (Region.ready md ops L).contains i = true) (hr2 : (Region.ready md ops (L.setIfInBounds k true)).contains i = true) (hQ : ∀ c a w, Q (.panic c) (a.put oi.dst v) w → Q (.panic c) a w)
    (gi : oi.guard = none) (hik : i ≠ k) (hap : far ops oi dk = true)
    (hv : ∀ w, S w → (execOp a.eval oi).run P w = .ok (.value v) w) (he : a.put oi.dst v = a') (hS : ∀ w', Below w0.heap.size w0 w' → S w')
    (h : Goes P md ops Q S w0 k dk x n (L.setIfInBounds i true) a') : Goes P md ops Q S w0 k dk x (n + 1) L a := by
  obtain ⟨hap, hdd⟩ := far_out hap
  have hQ2 : ∀ c (a : Act) w, Q (.panic c) (a.put oi.dst v) w → Q (.panic c) a w := hQ
  refine ⟨fun w hw => HeldBy.take hi hs hf hr hQ (wanted_none gi _) hv he (hS w hw) (h.without w hw), fun p w hp hw hx => ?_⟩
  refine HeldBy.take hi hs hf2 hr2 hQ2 (wanted_none gi _) (fun w hw => ?_) ?_ (hS w hw) (?_ : wpAnyH P md ops Q S n _ (a'.put dk (ptr p)) w)
  · rw [execOp_put oi (noSel_out hsi) a dk (ptr p) hap]
    exact hv w hw
  · rw [← Act.put_comm a v (ptr p) (fun d hd e => hdd d e hd), he]
  · rw [Array.setIfInBounds_comm _ _ (fun e => hik e.symm)]
    exact h.with_ p w hp hw hx

theorem Goes.callS {f : FuncId} {args : Array Value} (hi : ops[i]? = some oi) (hk : ops[k]? = some ok) (hd : ok.dst = dk) (gk : ok.guard = none) (hvk : Makes P ok x) (hsi : noSel oi = true) (hr : Region.ready md ops L = [i, k]) (hr2 : Region.ready md ops (L.setIfInBounds k true) = [i])
    (gi : oi.guard = none) (hik : i ≠ k) (hap : far ops oi dk = true)
    (hv : ∀ w, (execOp a.eval oi).run P w = .ok (.enter f args) w) (he : a.put oi.dst v = a') (hS : ∀ w', Below w0.heap.size w0 w' → S w')
    (hc : ∀ w, S w → Calls P f args w fun e w' => e = .returned v ∧ Below w.heap.size w w')
    (h : Goes P md ops Q S w0 k dk x n (L.setIfInBounds i true) a') : Goes P md ops Q S w0 k dk x (n + 1) L a := by
  subst hd
  obtain ⟨hap, hdd⟩ := far_out hap
  have late : ∀ p w, w0.heap.size ≤ p → Below w0.heap.size w0 w → w.heap[p]? = some x → wpAnyH P md ops Q S (n + 1) (L.setIfInBounds k true) (a.put ok.dst (ptr p)) w := fun p w hp hw hx => by
    refine HeldBy.call (a' := a'.put ok.dst (ptr p)) (v := v) (f := f) (args := args) hi hr2 (wanted_none gi _) ?_ ?_ ?_
    · rw [execOp_put oi (noSel_out hsi) a ok.dst (ptr p) hap]
      exact hv w
    · rw [← Act.put_comm a v (ptr p) (fun d hd e => hdd d e hd), he]
    · refine (hc w (hS w hw)).mono ?_
      rintro e w' ⟨rfl, hb⟩
      have hw' : Below w0.heap.size w0 w' := hw.trans (hb.mono hw.size)
      refine ⟨rfl, hS _ hw', ?_⟩
      rw [Array.setIfInBounds_comm _ _ (fun e => hik e.symm)]
      exact h.with_ p w' hp hw' ((hb.block p (Array.getElem?_eq_some_iff.1 hx).1).trans hx)
  refine ⟨fun w hw => ?_, late⟩
  refine two hr ?_ ?_
  · refine op_call hi (wanted_none gi _) (hv w) he ((hc w (hS w hw)).mono ?_)
    rintro e w' ⟨rfl, hb⟩
    have hw' : Below w0.heap.size w0 w' := hw.trans (hb.mono hw.size)
    exact ⟨rfl, hS _ hw', h.without w' hw'⟩
  · have hb : Below w0.heap.size w0 (w.alloc x) := hw.alloc hw.size x
    exact op_value hk (wanted_none gk _) (hvk a w) rfl ⟨hS _ hb, late _ _ hw.size hb (heap_alloc_new _ _)⟩
theorem Goes.call {f : FuncId} {args : Array Value} (hi : ops[i]? = some oi) (hk : ops[k]? = some ok) (hd : ok.dst = dk) (gk : ok.guard = none) (hvk : Makes P ok x) (hsi : noSel oi = true) (hr : Region.ready md ops L = [i, k]) (hr2 : Region.ready md ops (L.setIfInBounds k true) = [i])
    (gi : oi.guard = none) (hik : i ≠ k) (hap : far ops oi dk = true)
    (hv : ∀ w, (execOp a.eval oi).run P w = .ok (.enter f args) w) (he : a.put oi.dst v = a') (hS : ∀ w', Below w0.heap.size w0 w' → S w')
    (hc : ∀ w, Calls P f args w fun e w' => e = .returned v ∧ Below w.heap.size w w')
    (h : Goes P md ops Q S w0 k dk x n (L.setIfInBounds i true) a') : Goes P md ops Q S w0 k dk x (n + 1) L a :=
  Goes.callS hi hk hd gk hvk hsi hr hr2 gi hik hap hv he hS (fun w _ => hc w) h
end
end Go.HeldBy
