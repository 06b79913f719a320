/- Inside a fence: an operation whose run is known (of no program). -/
import Derived.Test.YtfiahkomabllaaaStillIn
import Derived.TacticsInMore
namespace Go.KnownIn
open Go StillIn
variable {F : Fence} {n : Nat} {P : Program} {ops : Array Oper} {Q : Exit → Act → World → Prop} {a : Act} {w w' : World} {rest : List Oper} {o : Oper}

theorem value {v : Value} (hg : o.guard = none) (hp : plainOp o.op = true) (hv : (execOp a.eval o).run P w = .ok (.value v) w') (hn : wpListIn F n P ops Q rest (a.put o.dst v) w') : wpListIn F n P ops Q (o :: rest) a w := by
  refine wpListIn_plain hg fun K hK => ?_
  refine ⟨(fun f hf => by rw [plain_about hp] at hf; cases hf), ?_⟩
  rw [plain_semAt hp, hv]
  exact hK _ _ hn
theorem valueW {v : Value} (hw : Region.wanted o (yielded ops a.tmps) = true) (hp : plainOp o.op = true) (hv : (execOp a.eval o).run P w = .ok (.value v) w') (hn : wpListIn F n P ops Q rest (a.put o.dst v) w') : wpListIn F n P ops Q (o :: rest) a w := by
  simp only [wpListIn, hw, if_true]
  refine ⟨(fun f hf => by rw [plain_about hp] at hf; cases hf), ?_⟩
  rw [plain_semAt hp, hv]
  exact hn
theorem skip (hg : o.guard = none) (hd : ∀ c, o.op ≠ .defer c) (ha : o.about P w a.eval = none) (hv : (execOp a.eval o).run P w = .ok .skip w') (hn : wpListIn F n P ops Q rest (a.put o.dst undef) w') : wpListIn F n P ops Q (o :: rest) a w := by
  refine wpListIn_plain hg fun K hK => ?_
  refine ⟨(fun f hf => by rw [ha] at hf; cases hf), ?_⟩
  rw [Oper.semAt_eq _ _ o hd, hv]
  exact hK _ _ hn
theorem gen {l : List Oper} (G : World → Prop) (hG : G w) (h : ∀ W1, G W1 → wpListIn F n P ops Q l a W1) : wpListIn F n P ops Q l a w := h w hG
end Go.KnownIn
