/- Inside a fence, in a round of a loop over an iterator or outside one: a region that draws its order, whose operations and callees keep to a class of worlds, walked once in the order of the text. Of no program. -/
import Derived.Sort.QuietThIn
import Derived.Sort.QuietTacIn
import Derived.RangeFuncNested
import Derived.RangeFuncFrom
namespace Go.StillIn
open Go Go.RowKit

def noDefer (o : Oper) : Bool := match o.op with
  | .defer _ => false
  | _ => true

section
variable {F : Fence} {n : Nat} {P : Program} {ops : Array Oper} {md : Region.Mode} {C : World → Prop}

theorem wpIn_of_class {o : Oper} {a : Act} {K : Act → Prop} {K' : Act → World → Prop} {Q' : Exit → Act → World → Prop} {w : World} (hd : noDefer o = true) (hw : C w) (h : ∀ a w', C w' → K a → K' a w')
    (ha : o.askedIn F P a C) (hh : o.quietIn F n P a C K) : o.wpIn F n P a w K' Q' := by
  obtain ⟨v, h1, h2⟩ := hh
  have h3 := h1 w hw
  unfold Oper.quietAtIn at h3
  unfold Oper.wpIn
  refine ⟨ha w hw, ?_⟩
  rw [Oper.semAt_eq F.round a.eval o (fun c e => by unfold noDefer at hd; rw [e] at hd; cases hd)]
  generalize (execOp a.eval o).run P w = r at *
  cases r with
  | ok x w' =>
    cases x <;> simp only [Oper.quietUponIn] at h3 <;> simp only [Oper.uponIn]
    case value u =>
      obtain ⟨e1, e2⟩ := h3
      rw [e1, e2]
      exact h _ _ hw h2
    case skip =>
      obtain ⟨e1, e2⟩ := h3
      rw [e1, ← e2]
      exact h _ _ hw h2
    case enter f args =>
      obtain ⟨e1, hdp, hc⟩ := h3
      rw [e1]
      exact ⟨hdp, hc.mono fun e w'' ⟨he, hw''⟩ => by subst he; exact h _ _ hw'' h2⟩
  | halt x w' => simp only [Oper.quietUponIn] at h3

theorem wpOpIn_of_class {i : Nat} {a : Act} {K : Act → Prop} {K' : Act → World → Prop} {Q' : Exit → Act → World → Prop} {w : World} (hd : ∀ o, ops[i]? = some o → noDefer o = true) (hC : C w) (h : ∀ a w', C w' → K a → K' a w')
    (hh : qOpIn F n P ops C i K a) : wpOpIn F n P ops Q' i K' a w := by
  unfold qOpIn at hh
  unfold wpOpIn
  split
  · rename_i ho; simp only [ho] at hh; exact h _ _ hC hh
  · rename_i o ho
    simp only [ho] at hh
    obtain ⟨ha, hh⟩ := hh
    split
    · rename_i hw; simp only [hw, if_true] at hh; exact wpIn_of_class (hd o ho) hC h ha hh
    · rename_i hw; simp only [hw] at hh; exact ⟨ha w hC, h _ _ hC hh⟩

theorem wpAnyIn_of_class {Q : Act → Prop} {Q' : Exit → Act → World → Prop} (hd : ∀ (i : Nat) o, ops[i]? = some o → noDefer o = true) (hQ : ∀ a w, C w → Q a → Q' .normal a w) : ∀ (fuel : Nat) (listed : Array Bool) (a : Act) (w : World), C w →
    wpAnyQIn F n P md ops C Q fuel listed a → wpAnyIn F n P md ops Q' fuel listed a w
  | 0, _, _, _, hw, h => ⟨h.1, hQ _ _ hw h.2⟩
  | fuel + 1, _, _, _, hw, h => ⟨fun h0 => hQ _ _ hw (h.1 h0), fun i hi => wpOpIn_of_class (hd i) hw (fun a' w' hw' => wpAnyIn_of_class hd hQ fuel _ a' w' hw') (h.2 i hi)⟩

/-- One walk of the order of the text serves every order; what stands behind is asked in every world of the class. -/
theorem wpIn_region_class (C : World → Prop) {id : Nat} {Q : Exit → Act → World → Prop} {a : Act} {w : World} {l : List Oper} (hd : l.all noDefer = true) (hm : P.follows .mixedOrders = true) (hB : Region.lexB .any l.toArray = true) (hC : C w.drew)
    (h : wpQuietIn F n P l.toArray C (fun a' => ∀ w', C w' → Q .normal a' w') l a) : (Code.region id l.toArray true).wpIn F n P Q a w := by
  simp only [Region.lexB, Bool.and_eq_true] at hB
  refine wpIn_region_any hm (wpAnyIn_of_class (C := C) (Q := fun a' => ∀ w', C w' → Q .normal a' w') (fun i o hi => List.all_eq_true.1 hd o (List.mem_of_getElem? (by simpa using hi))) (fun _ w' hw' h => h w' hw') _ _ _ w.drew hC ?_)
  have := wpAnyQIn_lex (F := F) (n := n) (C := C) (md := .any) hB.1 l 0 (Array.replicate l.toArray.size false) a (by simp) (by simpa using hB.2) h
  simpa using this

/-- A step: passed over. -/
theorem quiet_skip {Q : Act → Prop} {a : Act} {o : Oper} {rest : List Oper} (ha : o.askedIn F P a C) (hw : Region.wanted o (yielded ops a.tmps) = false) (h : wpQuietIn F n P ops C Q rest (a.put o.dst undef)) : wpQuietIn F n P ops C Q (o :: rest) a :=
  ⟨ha, by rw [hw]; exact h⟩
/-- A step: its value. -/
theorem quiet_take {Q : Act → Prop} {a : Act} {o : Oper} {rest : List Oper} (v : Value) (ha : o.askedIn F P a C) (hw : Region.wanted o (yielded ops a.tmps) = true) (hv : ∀ w, C w → o.quietAtIn F n P a C w v)
    (h : wpQuietIn F n P ops C Q rest (a.put o.dst v)) : wpQuietIn F n P ops C Q (o :: rest) a :=
  ⟨ha, by rw [hw]; exact ⟨v, hv, h⟩⟩
/-- What runs to a value and leaves the world. -/
theorem quietAt_of_run {o : Oper} {a : Act} {w : World} {v : Value} (h : (execOp a.eval o).run P w = .ok (.value v) w) : o.quietAtIn F n P a C w v := by
  unfold Oper.quietAtIn; rw [h]; exact ⟨rfl, rfl⟩
/-- What enters a function whose contract keeps to the class. -/
theorem quietAt_of_call {o : Oper} {a : Act} {w : World} {v : Value} {f : FuncId} {args : Array Value} (h : (execOp a.eval o).run P w = .ok (.enter f args) w) (hn : F.depth.isSome = true → 1 ≤ n)
    (hc : CallsIn F (n - 1) P f args w (fun e w'' => e = .returned v ∧ C w'')) : o.quietAtIn F n P a C w v := by
  unfold Oper.quietAtIn; rw [h]; exact ⟨rfl, hn, hc⟩
/-- Passed over, the state written out. -/
theorem quiet_skip_to {Q : Act → Prop} {a a' : Act} {o : Oper} {rest : List Oper} (ha : o.askedIn F P a C) (hw : Region.wanted o (yielded ops a.tmps) = false) (he : a.put o.dst undef = a') (h : wpQuietIn F n P ops C Q rest a') : wpQuietIn F n P ops C Q (o :: rest) a :=
  quiet_skip ha hw (he ▸ h)
/-- Its value, the state written out. -/
theorem quiet_take_to {Q : Act → Prop} {a a' : Act} {o : Oper} {rest : List Oper} {v : Value} (ha : o.askedIn F P a C) (hw : Region.wanted o (yielded ops a.tmps) = true) (hv : ∀ w, C w → o.quietAtIn F n P a C w v) (he : a.put o.dst v = a')
    (h : wpQuietIn F n P ops C Q rest a') : wpQuietIn F n P ops C Q (o :: rest) a :=
  quiet_take v ha hw hv (he ▸ h)
end
/-- In the wide fence every callee may be asked for. -/
theorem asked_wide {P : Program} {C : World → Prop} {l : Nat} {o : Oper} {a : Act} : o.askedIn (Fence.wide.inRound l) P a C := fun _ _ _ _ => trivial
theorem asked_wide0 {P : Program} {C : World → Prop} {o : Oper} {a : Act} : o.askedIn Fence.wide P a C := fun _ _ _ _ => trivial
end Go.StillIn
namespace Go
end Go
