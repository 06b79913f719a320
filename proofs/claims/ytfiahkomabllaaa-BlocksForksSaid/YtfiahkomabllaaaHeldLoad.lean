/- A drawn region walked by hand, where a load and an allocation may come up in either order. Of no program. -/
import Derived.Test.YtfiahkomabllaaaHeldTwo
namespace Go.HeldBy
open Go

section
variable {P : Program} {ops : Array Oper} {Q : Exit → Act → World → Prop} {md : Region.Mode} {S : World → Prop}
theorem wanted_free {oi : Oper} (h : oi.guard = none) (y : Nat → Option Bool) : Region.wanted oi y = true := by
  unfold Region.wanted
  rw [h]
theorem load_make {i k : Nat} {oi ok : Oper} {u v : Value} {fuel : Nat} {L L2 : Array Bool} {a a' : Act} {w w' : World} (hr : Region.ready md ops L = [i, k]) (h1 : Region.ready md ops (L.setIfInBounds i true) = [k]) (h2 : Region.ready md ops (L.setIfInBounds k true) = [i])
    (hi : ops[i]? = some oi) (hk : ops[k]? = some ok) (gi : oi.guard = none) (gk : ok.guard = none)
    (hvi : (execOp a.eval oi).run P w = .ok (.value u) w) (hvk : (execOp a.eval ok).run P w = .ok (.value v) w') (hvk' : (execOp (a.put oi.dst u).eval ok).run P w = .ok (.value v) w') (hvi' : (execOp (a.put ok.dst v).eval oi).run P w' = .ok (.value u) w')
    (hS : S w) (hS' : S w') (ha1 : (a.put oi.dst u).put ok.dst v = a') (ha2 : (a.put ok.dst v).put oi.dst u = a') (hl1 : (L.setIfInBounds i true).setIfInBounds k true = L2) (hl2 : (L.setIfInBounds k true).setIfInBounds i true = L2)
    (h : wpAnyH P md ops Q S fuel L2 a' w') : wpAnyH P md ops Q S (fuel + 2) L a w := by
  refine two hr ?_ ?_
  · refine op_value hi (wanted_free gi _) hvi rfl ⟨hS, ?_⟩
    refine value hk h1 (wanted_free gk _) hvk' ha1 hS' ?_
    rw [hl1]
    exact h
  · refine op_value hk (wanted_free gk _) hvk rfl ⟨hS', ?_⟩
    refine value hi h2 (wanted_free gi _) hvi' ha2 hS' ?_
    rw [hl2]
    exact h
end
end Go.HeldBy
namespace Go.HeldBy
open Go
section
variable {P : Program} {ops : Array Oper} {Q : Exit → Act → World → Prop} {md : Region.Mode} {S : World → Prop}
/-- A load and a call that leaves the world, in either order. -/
theorem load_call {i k : Nat} {oi ok : Oper} {u v : Value} {f : FuncId} {args : Array Value} {fuel : Nat} {L L2 : Array Bool} {a a' : Act} {w : World} (hr : Region.ready md ops L = [i, k]) (h1 : Region.ready md ops (L.setIfInBounds i true) = [k]) (h2 : Region.ready md ops (L.setIfInBounds k true) = [i])
    (hi : ops[i]? = some oi) (hk : ops[k]? = some ok) (gi : oi.guard = none) (gk : ok.guard = none)
    (hvi : (execOp a.eval oi).run P w = .ok (.value u) w) (hvk : (execOp a.eval ok).run P w = .ok (.enter f args) w) (hvk' : (execOp (a.put oi.dst u).eval ok).run P w = .ok (.enter f args) w) (hvi' : (execOp (a.put ok.dst v).eval oi).run P w = .ok (.value u) w)
    (hc : Calls P f args w fun e w' => e = .returned v ∧ w' = w)
    (hS : S w) (ha1 : (a.put oi.dst u).put ok.dst v = a') (ha2 : (a.put ok.dst v).put oi.dst u = a') (hl1 : (L.setIfInBounds i true).setIfInBounds k true = L2) (hl2 : (L.setIfInBounds k true).setIfInBounds i true = L2)
    (h : wpAnyH P md ops Q S fuel L2 a' w) : wpAnyH P md ops Q S (fuel + 2) L a w := by
  refine two hr ?_ ?_
  · refine op_value hi (wanted_free gi _) hvi rfl ⟨hS, ?_⟩
    refine call hk h1 (wanted_free gk _) hvk' ha1 (hc.mono ?_)
    rintro e w' ⟨rfl, rfl⟩
    refine ⟨rfl, hS, ?_⟩
    rw [hl1]
    exact h
  · refine op_call (v := v) (a' := a.put ok.dst v) hk (wanted_free gk _) hvk rfl (hc.mono ?_)
    rintro e w' ⟨rfl, rfl⟩
    refine ⟨rfl, hS, ?_⟩
    refine value hi h2 (wanted_free gi _) hvi' ha2 hS ?_
    rw [hl2]
    exact h
end
end Go.HeldBy
