/- A drawn region walked by hand: a load that may come up as late as behind a call, beside a load, a reckoning and the call that stand in a chain. Of no program. -/
import Derived.Test.YtfiahkomabllaaaHeldLoad
namespace Go.HeldBy
open Go

section
variable {P : Program} {ops : Array Oper} {Q : Exit → Act → World → Prop} {md : Region.Mode} {S : World → Prop}
/-- It alone may come up, and is a call whose answer is not known ahead. -/
theorem callE {i : Nat} {oi : Oper} {f : FuncId} {args : Array Value} {R : Value → World → Prop} {fuel : Nat} {listed : Array Bool} {a : Act} {w : World} (hi : ops[i]? = some oi) (hr : Region.ready md ops listed = [i]) (hg : oi.guard = none)
    (hv : (execOp a.eval oi).run P w = .ok (.enter f args) w) (hc : Calls P f args w fun e w' => ∃ v, e = .returned v ∧ R v w')
    (h : ∀ v w', R v w' → S w' ∧ wpAnyH P md ops Q S fuel (listed.setIfInBounds i true) (a.put oi.dst v) w') : wpAnyH P md ops Q S (fuel + 1) listed a w := by
  refine wpAnyH_all hr (by simp) fun j hj => ?_
  obtain rfl : j = i := by simpa using hj
  unfold wpOp
  simp only [hi, wanted_free hg, if_true]
  refine .inl ?_
  unfold Oper.wp
  rw [hv]
  exact hc.mono fun e w' ⟨v, h1, h2⟩ => by subst h1; exact h v w' h2
theorem op_callE {i : Nat} {oi : Oper} {f : FuncId} {args : Array Value} {R : Value → World → Prop} {K : Act → World → Prop} {a : Act} {w : World} (hi : ops[i]? = some oi) (hg : oi.guard = none)
    (hv : (execOp a.eval oi).run P w = .ok (.enter f args) w) (hc : Calls P f args w fun e w' => ∃ v, e = .returned v ∧ R v w') (h : ∀ v w', R v w' → K (a.put oi.dst v) w') : wpOp P ops Q i K a w := by
  unfold wpOp
  simp only [hi, wanted_free hg, if_true]
  refine .inl ?_
  unfold Oper.wp
  rw [hv]
  exact hc.mono fun e w' ⟨v, h1, h2⟩ => by subst h1; exact h v w' h2
/-- The load i; and the load j, the reckoning c, the call k, in this order. -/
theorem late_load {i j c k : Nat} {oi oj oc ok : Oper} {u x z : Value} {f : FuncId} {args : Array Value} {R : Value → World → Prop} {fuel : Nat} {L L2 : Array Bool} {a : Act} {A : Value → Act} {w : World}
    (hs : Region.noSelect ops = true) (r0 : Region.ready md ops L = [i, j]) (r1 : Region.ready md ops (L.setIfInBounds i true) = [j])
    (f1 : Region.free md ops ((L.setIfInBounds i true).setIfInBounds j true) c = true) (g1 : (Region.ready md ops ((L.setIfInBounds i true).setIfInBounds j true)).contains c = true) (r2 : Region.ready md ops (((L.setIfInBounds i true).setIfInBounds j true).setIfInBounds c true) = [k])
    (f2 : Region.free md ops (L.setIfInBounds j true) c = true) (g2 : (Region.ready md ops (L.setIfInBounds j true)).contains c = true) (r3 : Region.ready md ops ((L.setIfInBounds j true).setIfInBounds c true) = [i, k])
    (r4 : Region.ready md ops (((L.setIfInBounds j true).setIfInBounds c true).setIfInBounds i true) = [k]) (r5 : Region.ready md ops (((L.setIfInBounds j true).setIfInBounds c true).setIfInBounds k true) = [i])
    (hi : ops[i]? = some oi) (hj : ops[j]? = some oj) (hc : ops[c]? = some oc) (hk : ops[k]? = some ok) (gi : oi.guard = none) (gj : oj.guard = none) (gc : oc.guard = none) (gk : ok.guard = none)
    (hQ : ∀ d a w, Q (.panic d) (a.put oc.dst z) w → Q (.panic d) a w)
    (vi0 : (execOp a.eval oi).run P w = .ok (.value u) w) (vi2 : (execOp ((a.put oj.dst x).put oc.dst z).eval oi).run P w = .ok (.value u) w) (vi3 : ∀ v w', R v w' → (execOp (((a.put oj.dst x).put oc.dst z).put ok.dst v).eval oi).run P w' = .ok (.value u) w')
    (vj0 : (execOp a.eval oj).run P w = .ok (.value x) w) (vj1 : (execOp (a.put oi.dst u).eval oj).run P w = .ok (.value x) w)
    (vc1 : ∀ w, S w → (execOp ((a.put oi.dst u).put oj.dst x).eval oc).run P w = .ok (.value z) w) (vc2 : ∀ w, S w → (execOp (a.put oj.dst x).eval oc).run P w = .ok (.value z) w)
    (vk1 : (execOp (((a.put oi.dst u).put oj.dst x).put oc.dst z).eval ok).run P w = .ok (.enter f args) w) (vk2 : (execOp ((a.put oj.dst x).put oc.dst z).eval ok).run P w = .ok (.enter f args) w) (vk3 : (execOp (((a.put oj.dst x).put oc.dst z).put oi.dst u).eval ok).run P w = .ok (.enter f args) w)
    (hcall : Calls P f args w fun e w' => ∃ v, e = .returned v ∧ R v w') (hS : S w) (hS' : ∀ v w', R v w' → S w')
    (e1 : ∀ v, (((a.put oi.dst u).put oj.dst x).put oc.dst z).put ok.dst v = A v) (e2 : ∀ v, (((a.put oj.dst x).put oc.dst z).put oi.dst u).put ok.dst v = A v) (e3 : ∀ v, (((a.put oj.dst x).put oc.dst z).put ok.dst v).put oi.dst u = A v)
    (l1 : (((L.setIfInBounds i true).setIfInBounds j true).setIfInBounds c true).setIfInBounds k true = L2) (l2 : (((L.setIfInBounds j true).setIfInBounds c true).setIfInBounds i true).setIfInBounds k true = L2) (l3 : (((L.setIfInBounds j true).setIfInBounds c true).setIfInBounds k true).setIfInBounds i true = L2)
    (h : ∀ v w', R v w' → wpAnyH P md ops Q S fuel L2 (A v) w') : wpAnyH P md ops Q S (fuel + 4) L a w := by
  refine two r0 ?_ ?_
  · refine op_value hi (wanted_free gi _) vi0 rfl ⟨hS, ?_⟩
    refine value hj r1 (wanted_free gj _) vj1 rfl hS ?_
    refine take hc hs f1 g1 hQ (wanted_free gc _) vc1 rfl hS ?_
    refine callE hk r2 gk vk1 hcall fun v w' hR => ⟨hS' v w' hR, ?_⟩
    rw [e1, l1]
    exact h v w' hR
  · refine op_value hj (wanted_free gj _) vj0 rfl ⟨hS, ?_⟩
    refine take hc hs f2 g2 hQ (wanted_free gc _) vc2 rfl hS ?_
    refine two r3 ?_ ?_
    · refine op_value hi (wanted_free gi _) vi2 rfl ⟨hS, ?_⟩
      refine callE hk r4 gk vk3 hcall fun v w' hR => ⟨hS' v w' hR, ?_⟩
      rw [e2, l2]
      exact h v w' hR
    · refine op_callE hk gk vk2 hcall fun v w' hR => ⟨hS' v w' hR, ?_⟩
      refine value hi r5 (wanted_free gi _) (vi3 v w' hR) (e3 v) (hS' v w' hR) ?_
      rw [l3]
      exact h v w' hR
end
end Go.HeldBy
