/- A drawn region walked by hand: calls whose answers are not known ahead; what is reckoned of one while the next is called. Of no program. -/
import Derived.Test.YtfiahkomabllaaaHeldLate
namespace Go.HeldBy
open Go

section
variable {P : Program} {ops : Array Oper} {Q : Exit → Act → World → Prop} {md : Region.Mode} {S : World → Prop}
/-- It alone may come up, is wanted, and is a call whose answer is not known ahead. -/
theorem callW {i : Nat} {oi : Oper} {f : FuncId} {args : Array Value} {R : Value → World → Prop} {fuel : Nat} {listed : Array Bool} {a : Act} {w : World} (hi : ops[i]? = some oi) (hr : Region.ready md ops listed = [i]) (hw : Region.wanted oi (yielded ops a.tmps) = true)
    (hv : (execOp a.eval oi).run P w = .ok (.enter f args) w) (hc : Calls P f args w fun e w' => ∃ v, e = .returned v ∧ R v w')
    (h : ∀ v w', R v w' → S w' ∧ wpAnyH P md ops Q S fuel (listed.setIfInBounds i true) (a.put oi.dst v) w') : wpAnyH P md ops Q S (fuel + 1) listed a w := by
  refine wpAnyH_all hr (by simp) fun j hj => ?_
  obtain rfl : j = i := by simpa using hj
  unfold wpOp
  simp only [hi, hw, if_true]
  refine .inl ?_
  unfold Oper.wp
  rw [hv]
  exact hc.mono fun e w' ⟨v, h1, h2⟩ => by subst h1; exact h v w' h2
/-- The reckoning i; and the call k with the reckoning j of its answer. -/
theorem conv_call {i k j : Nat} {oi ok oj : Oper} {u x : Value} {f : FuncId} {args : Array Value} {R : Value → World → Prop} {fuel : Nat} {L L2 : Array Bool} {a : Act} {A : Value → Act} {w : World}
    (r0 : Region.ready md ops L = [i, k]) (r1 : Region.ready md ops (L.setIfInBounds i true) = [k]) (r2 : Region.ready md ops ((L.setIfInBounds i true).setIfInBounds k true) = [j])
    (r3 : Region.ready md ops (L.setIfInBounds k true) = [i, j]) (r4 : Region.ready md ops ((L.setIfInBounds k true).setIfInBounds i true) = [j]) (r5 : Region.ready md ops ((L.setIfInBounds k true).setIfInBounds j true) = [i])
    (hi : ops[i]? = some oi) (hk : ops[k]? = some ok) (hj : ops[j]? = some oj) (gi : oi.guard = none) (gk : ok.guard = none) (gj : oj.guard = none)
    (vi0 : (execOp a.eval oi).run P w = .ok (.value u) w) (vk0 : (execOp a.eval ok).run P w = .ok (.enter f args) w) (vk1 : (execOp (a.put oi.dst u).eval ok).run P w = .ok (.enter f args) w)
    (hcall : Calls P f args w fun e w' => ∃ v, e = .returned v ∧ R v w') (hS : S w) (hS' : ∀ v w', R v w' → S w')
    (vi1 : ∀ v w', R v w' → (execOp (a.put ok.dst v).eval oi).run P w' = .ok (.value u) w') (vi2 : ∀ v w', R v w' → (execOp ((a.put ok.dst v).put oj.dst x).eval oi).run P w' = .ok (.value u) w')
    (vj0 : ∀ v w', R v w' → (execOp ((a.put oi.dst u).put ok.dst v).eval oj).run P w' = .ok (.value x) w') (vj1 : ∀ v w', R v w' → (execOp ((a.put ok.dst v).put oi.dst u).eval oj).run P w' = .ok (.value x) w') (vj2 : ∀ v w', R v w' → (execOp (a.put ok.dst v).eval oj).run P w' = .ok (.value x) w')
    (e1 : ∀ v, ((a.put oi.dst u).put ok.dst v).put oj.dst x = A v) (e2 : ∀ v, ((a.put ok.dst v).put oi.dst u).put oj.dst x = A v) (e3 : ∀ v, ((a.put ok.dst v).put oj.dst x).put oi.dst u = A v)
    (l1 : ((L.setIfInBounds i true).setIfInBounds k true).setIfInBounds j true = L2) (l2 : ((L.setIfInBounds k true).setIfInBounds i true).setIfInBounds j true = L2) (l3 : ((L.setIfInBounds k true).setIfInBounds j true).setIfInBounds i true = L2)
    (h : ∀ v w', R v w' → wpAnyH P md ops Q S fuel L2 (A v) w') : wpAnyH P md ops Q S (fuel + 3) L a w := by
  refine two r0 ?_ ?_
  · refine op_value hi (wanted_free gi _) vi0 rfl ⟨hS, ?_⟩
    refine callE hk r1 gk vk1 hcall fun v w' hR => ⟨hS' v w' hR, ?_⟩
    refine value hj r2 (wanted_free gj _) (vj0 v w' hR) (e1 v) (hS' v w' hR) ?_
    rw [l1]
    exact h v w' hR
  · refine op_callE hk gk vk0 hcall fun v w' hR => ⟨hS' v w' hR, ?_⟩
    refine two r3 ?_ ?_
    · refine op_value hi (wanted_free gi _) (vi1 v w' hR) rfl ⟨hS' v w' hR, ?_⟩
      refine value hj r4 (wanted_free gj _) (vj1 v w' hR) (e2 v) (hS' v w' hR) ?_
      rw [l2]
      exact h v w' hR
    · refine op_value hj (wanted_free gj _) (vj2 v w' hR) rfl ⟨hS' v w' hR, ?_⟩
      refine value hi r5 (wanted_free gi _) (vi2 v w' hR) (e3 v) (hS' v w' hR) ?_
      rw [l3]
      exact h v w' hR
end
end Go.HeldBy
