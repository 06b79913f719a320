/- Two acts held against each other. -/
import Derived.Test.YtigoghhjncpgfaaKAct
namespace Go.Proofs.Ytigoghhjncpgfaa.O.B
open Go Go.RowKit Go.Shelf Go.Lib RangeMap KM

set_option maxRecDepth 100000 in
set_option maxHeartbeats 2000000 in
theorem eql_act (a b : Ac) (w : World) : (binOp .eql 42 (encA a) (encA b)).run Try.prog w = .ok (.bool (decide (a = b))) w := by
  obtain ⟨a0, ⟨a1, a2, a3, a4, a5, a6, a7, a8, a9, a10, a11, a12, a13, a14, a15, a16, a17, a18, a19, a20⟩, ⟨c1, c2, c3, c4, c5, c6, c7⟩⟩ := a
  obtain ⟨b0, ⟨b1, b2, b3, b4, b5, b6, b7, b8, b9, b10, b11, b12, b13, b14, b15, b16, b17, b18, b19, b20⟩, ⟨d1, d2, d3, d4, d5, d6, d7⟩⟩ := b
  unfold encA cellsA
  dsimp only
  go_simp
  simp only [eqT, Bool.and_assoc]
  iterate 27 refine and_if ?_
  exact last_if
theorem neq_act (a b : Ac) (w : World) : (binOp .neq 42 (encA a) (encA b)).run Try.prog w = .ok (.bool (!decide (a = b))) w := by
  have h := eql_act a b w
  unfold encA at *
  rw [run_eql_struct] at h
  rw [run_neq_struct]
  generalize (Op.equalIn 10000 42 _ _).run Try.prog w = r at *
  cases r with
  | ok b w1 =>
    simp only [Result.andThen, Result.ok.injEq, Value.bool.injEq] at h ⊢
    rw [h.1, h.2]; exact ⟨rfl, rfl⟩
  | halt a b => simp [Result.andThen] at h
set_option maxRecDepth 100000 in
set_option maxHeartbeats 2000000 in
theorem eql_call (a b : Cl) (w : World) : (binOp .eql 40 (encC a) (encC b)).run Try.prog w = .ok (.bool (decide (a = b))) w := by
  obtain ⟨c1, c2, c3, c4, c5, c6, c7⟩ := a
  obtain ⟨d1, d2, d3, d4, d5, d6, d7⟩ := b
  unfold encC cellsC
  dsimp only
  go_simp
  simp only [eqT]
  iterate 6 refine and_if ?_
  exact last_if
theorem neq_call (a b : Cl) (w : World) : (binOp .neq 40 (encC a) (encC b)).run Try.prog w = .ok (.bool (!decide (a = b))) w := by
  have h := eql_call a b w
  unfold encC at *
  rw [run_eql_struct] at h
  rw [run_neq_struct]
  generalize (Op.equalIn 10000 40 _ _).run Try.prog w = r at *
  cases r with
  | ok b w1 =>
    simp only [Result.andThen, Result.ok.injEq, Value.bool.injEq] at h ⊢
    rw [h.1, h.2]; exact ⟨rfl, rfl⟩
  | halt a b => simp [Result.andThen] at h
end Go.Proofs.Ytigoghhjncpgfaa.O.B
