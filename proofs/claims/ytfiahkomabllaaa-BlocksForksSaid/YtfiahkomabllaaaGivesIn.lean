/- Inside a fence: an operation that gives a value and whose run is known, whatever it lays; an append whose run is known (of no program). -/
import Derived.Test.YtfiahkomabllaaaKnownIn
import Derived.RangeFuncNested
import Derived.OwnWalkIn
namespace Go.KnownIn
open Go StillIn
variable {F : Fence} {n : Nat} {P : Program} {ops : Array Oper} {Q : Exit → Act → World → Prop} {a : Act} {w w' : World} {rest : List Oper} {o : Oper}

theorem gives {v : Value} (hg : o.guard = none) (hd : ∀ c, o.op ≠ .defer c) (ha : o.about P w a.eval = none) (hv : (execOp a.eval o).run P w = .ok (.value v) w') (hn : wpListIn F n P ops Q rest (a.put o.dst v) w') : wpListIn F n P ops Q (o :: rest) a w := by
  refine wpListIn_plain hg fun K hK => ?_
  refine ⟨(fun f hf => by rw [ha] at hf; cases hf), ?_⟩
  rw [Oper.semAt_eq _ _ o hd, hv]
  exact hK _ _ hn
theorem appends {v sl sr : Value} (hg : o.guard = none) (s x : Operand) (t : TypeId) (hop : o.op = Op.call { callee := Callee.builtin Builtin.append, args := #[s, x], argTypes := #[t, t] }) (hs : a.eval s = sl) (hx : a.eval x = sr)
    (hrun : (Builtin.append_ #[t, t] o.type #[sl, sr]).run P w = .ok v w') (hn : wpListIn F n P ops Q rest (a.put o.dst v) w') : wpListIn F n P ops Q (o :: rest) a w := by
  refine wpListIn_plain hg fun K hK' => ?_
  unfold Oper.wpIn
  refine ⟨?_, ?_⟩
  · simp [Oper.about, hop, resolve, Target.leads, Sem.run_pure]
  · rw [Oper.semAt_plain F _ _ (by rw [hop]; intro c hc'; cases hc')]
    simp [execOp, hop, resolve, invoke, builtin, hs, hx, hrun, Result.andThen]
    exact hK' _ _ hn
end Go.KnownIn
