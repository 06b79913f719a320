/- A drawn region walked by hand: a call that may panic. Of no program. -/
import Derived.Test.YtneogmcmkbhnaaaHeldBy
namespace Go.HeldBy
open Go

section
variable {P : Program} {ops : Array Oper} {Q : Exit → Act → World → Prop} {md : Region.Mode} {S : World → Prop}

/-- It alone may come up, and is a call, which may panic. -/
theorem callE {i : Nat} {oi : Oper} {f : FuncId} {args : Array Value} {fuel : Nat} {listed : Array Bool} {a : Act} {mk : Value → Act} {w : World} (hi : ops[i]? = some oi) (hr : Region.ready md ops listed = [i]) (hw : Region.wanted oi (yielded ops a.tmps) = true)
    (hv : (execOp a.eval oi).run P w = .ok (.enter f args) w) (he : ∀ v, a.put oi.dst v = mk v)
    (h : Calls P f args w fun e w' => (∃ v, e = .returned v ∧ S w' ∧ wpAnyH P md ops Q S fuel (listed.setIfInBounds i true) (mk v) w') ∨ ∃ c, e = .panicked c ∧ Q (.panic c) a w') : wpAnyH P md ops Q S (fuel + 1) listed a w := by
  refine wpAnyH_all hr (by simp) fun j hj => ?_
  obtain rfl : j = i := by simpa using hj
  unfold wpOp
  simp only [hi, hw, if_true]
  refine .inl ?_
  unfold Oper.wp
  rw [hv]
  refine h.mono fun e w' hh => ?_
  rcases hh with ⟨v, rfl, h2, h3⟩ | ⟨c, rfl, h2⟩
  · exact ⟨h2, (he v).symm ▸ h3⟩
  · exact h2
end
end Go.HeldBy
