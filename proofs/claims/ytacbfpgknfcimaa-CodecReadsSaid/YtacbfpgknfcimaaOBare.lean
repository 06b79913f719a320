/- Objects held against each other; what a kind names. -/
import Derived.Test.YtacbfpgknfcimaaOMany
import Derived.Laws.StructEq
import Derived.Deep.RegionHeld3
import Derived.BigRegion
import Derived.Outline
namespace Go.Proofs.Ytacbfpgknfcimaa.O
open Go.RowKit T
open Go.Lib hiding intOf

theorem eqB {a b : ByteArray} : (a.toList == b.toList) = decide (a = b) := by
  rw [Bool.eq_iff_iff, beq_iff_eq, decide_eq_true_iff, Lib.toList_data, Lib.toList_data]
  exact ⟨fun h => ba_ext h, fun h => by rw [h]⟩
theorem eqT {a b : ByteArray} : a.toList = b.toList ↔ a = b := by
  rw [Lib.toList_data, Lib.toList_data]
  exact ⟨fun h => ba_ext h, fun h => by rw [h]⟩
theorem and_if {P : Prop} [Decidable P] {X : Result Value} {b : Bool} {w : World} (h : X = .ok (.bool b) w) : (if P then X else .ok (.bool false) w) = .ok (.bool (decide P && b)) w := by
  by_cases hP : P <;> simp [hP, h]
theorem last_if {P : Prop} [Decidable P] {w : World} : (if P then (.ok (.bool true) w : Result Value) else .ok (.bool false) w) = .ok (.bool (decide P)) w := by
  by_cases hP : P <;> simp [hP]

set_option maxRecDepth 100000 in
set_option maxHeartbeats 1000000 in
theorem eql_obj (o p : Obj) (w : World) : (binOp .eql 27 (encO o) (encO p)).run Try.prog w = .ok (.bool (decide (o = p))) w := by
  obtain ⟨a1, a2, a3, a4, a5, a6, a7, a8, a9, a10, a11, a12, a13, a14, a15, a16, a17, a18, a19, a20⟩ := o
  obtain ⟨b1, b2, b3, b4, b5, b6, b7, b8, b9, b10, b11, b12, b13, b14, b15, b16, b17, b18, b19, b20⟩ := p
  unfold encO cellsO
  dsimp only
  go_simp
  simp only [eqT]
  iterate 19 refine and_if ?_
  exact last_if
theorem nand_if {P : Prop} [Decidable P] {X : Result Value} {b : Bool} {w : World} (h : X = .ok (.bool (!b)) w) : (if P then X else .ok (.bool true) w) = .ok (.bool (!(decide P && b))) w := by
  by_cases hP : P <;> simp [hP, h]
theorem nlast_if {P : Prop} [Decidable P] {w : World} : (if P then (.ok (.bool false) w : Result Value) else .ok (.bool true) w) = .ok (.bool (!decide P)) w := by
  by_cases hP : P <;> simp [hP]
theorem neq_obj (o p : Obj) (w : World) : (binOp .neq 27 (encO o) (encO p)).run Try.prog w = .ok (.bool (!decide (o = p))) w := by
  have h := eql_obj o p w
  unfold encO at *
  rw [run_eql_struct] at h
  rw [run_neq_struct]
  generalize (Op.equalIn 10000 27 _ _).run Try.prog w = r at *
  cases r with
  | ok b w1 =>
    simp only [Result.andThen, Result.ok.injEq, Value.bool.injEq] at h ⊢
    rw [h.1, h.2]; exact ⟨rfl, rfl⟩
  | halt a b => simp [Result.andThen] at h
end Go.Proofs.Ytacbfpgknfcimaa.O
