/- A drawn region walked by hand, where two operations may come up: each of them first. Of no program. -/
import Derived.Test.YtfiahkomabllaaaHeldBy
namespace Go.HeldBy
open Go

section
variable {P : Program} {ops : Array Oper} {Q : Exit → Act → World → Prop} {md : Region.Mode} {S : World → Prop}

/-- Two may come up: each of them first. -/
theorem two {i j : Nat} {fuel : Nat} {listed : Array Bool} {a : Act} {w : World} (hr : Region.ready md ops listed = [i, j])
    (h1 : wpOp P ops Q i (fun a' w' => S w' ∧ wpAnyH P md ops Q S fuel (listed.setIfInBounds i true) a' w') a w)
    (h2 : wpOp P ops Q j (fun a' w' => S w' ∧ wpAnyH P md ops Q S fuel (listed.setIfInBounds j true) a' w') a w) : wpAnyH P md ops Q S (fuel + 1) listed a w := by
  refine wpAnyH_all hr (by simp) fun k hk => ?_
  simp only [List.mem_cons, List.not_mem_nil, or_false] at hk
  rcases hk with rfl | rfl
  · exact h1
  · exact h2
theorem op_value {i : Nat} {oi : Oper} {v : Value} {K : Act → World → Prop} {a a' : Act} {w w' : World} (hi : ops[i]? = some oi) (hw : Region.wanted oi (yielded ops a.tmps) = true)
    (hv : (execOp a.eval oi).run P w = .ok (.value v) w') (he : a.put oi.dst v = a') (h : K a' w') : wpOp P ops Q i K a w := by
  unfold wpOp
  simp only [hi, hw, if_true]
  refine .inl ?_
  unfold Oper.wp
  rw [hv]
  show K (a.put oi.dst v) w'
  rw [he]
  exact h
theorem op_call {i : Nat} {oi : Oper} {v : Value} {f : FuncId} {args : Array Value} {K : Act → World → Prop} {a a' : Act} {w : World} (hi : ops[i]? = some oi) (hw : Region.wanted oi (yielded ops a.tmps) = true)
    (hv : (execOp a.eval oi).run P w = .ok (.enter f args) w) (he : a.put oi.dst v = a') (h : Calls P f args w fun e w' => e = .returned v ∧ K a' w') : wpOp P ops Q i K a w := by
  unfold wpOp
  simp only [hi, hw, if_true]
  refine .inl ?_
  unfold Oper.wp
  rw [hv]
  exact h.mono fun e w' ⟨h1, h2⟩ => by
    subst h1
    show K (a.put oi.dst v) w'
    rw [he]
    exact h2
end
end Go.HeldBy
