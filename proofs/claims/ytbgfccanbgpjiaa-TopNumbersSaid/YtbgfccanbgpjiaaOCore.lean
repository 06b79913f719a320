/- What the driver's texts need of object/XOCore: of no objects, for a program that holds none. -/
import Derived.Test.YtbgfccanbgpjiaaOPlain
import Derived.OwnWalk
import Derived.Outline
import Derived.WalkKit
import Derived.WalkSpells
import Derived.WalkLawsBesides
import Derived.KernelRfl
import Derived.Lib.Hide
import Derived.Lib.IndexBytes
import Derived.Laws.StructEq
import Derived.Deep.RegionHeld3
import Derived.BigRegion
import Derived.Laws.Tables
import Derived.Deep.WholeRow
import Derived.Laws.CopyOwn
import Derived.Great.BuildSlice
import Derived.Deep.Cut
import Derived.Test.YtbgfccanbgpjiaaProg
namespace Go.Proofs.Ytbgfccanbgpjiaa.O
open Go.RowKit T
open Go.Lib

theorem ret_str {a b : ByteArray} (h : a = b) : Ending.returned (.string a) = .returned (.string b) := by rw [h]

theorem eqB {a b : ByteArray} : (a.toList == b.toList) = decide (a = b) := by
  rw [Bool.eq_iff_iff, beq_iff_eq, decide_eq_true_iff, Lib.toList_data, Lib.toList_data]
  exact ⟨fun h => ba_ext h, fun h => by rw [h]⟩
theorem eqT {a b : ByteArray} : a.toList = b.toList ↔ a = b := by
  rw [Lib.toList_data, Lib.toList_data]
  exact ⟨fun h => ba_ext h, fun h => by rw [h]⟩
theorem and_if {P : Prop} [Decidable P] {X : Result Value} {b : Bool} {w : World} (h : X = .ok (.bool b) w) : (if P then X else .ok (.bool false) w) = .ok (.bool (decide P && b)) w := by
  by_cases hP : P <;> simp [hP, h]
theorem last_if {P : Prop} [Decidable P] {w : World} : (if P then (.ok (.bool true) w : Result Value) else .ok (.bool false) w) = .ok (.bool (decide P)) w := by
  by_cases hP : P <;> simp [hP]

theorem nand_if {P : Prop} [Decidable P] {X : Result Value} {b : Bool} {w : World} (h : X = .ok (.bool (!b)) w) : (if P then X else .ok (.bool true) w) = .ok (.bool (!(decide P && b))) w := by
  by_cases hP : P <;> simp [hP, h]
theorem nlast_if {P : Prop} [Decidable P] {w : World} : (if P then (.ok (.bool false) w : Result Value) else .ok (.bool true) w) = .ok (.bool (!decide P)) w := by
  by_cases hP : P <;> simp [hP]
theorem wp_gen {P : Program} {c : Code} {Q : Exit → Act → World → Prop} {a : Act} {W : World} (F : World → Prop) (hF : F W) (h : ∀ W1, F W1 → Code.wp P c Q a W1) : Code.wp P c Q a W := h W hF

theorem wpList_build_to {P : Program} {ops : Array Oper} {rest : List Oper} {o : Oper} {a : Act} {w : World} {Q : Exit → Act → World → Prop} (hg : o.guard = none) (t : TypeId) (parts : Array (Nat × Operand)) (ho : o.op = .build t parts) (cs : Array Value)
    (hf : P.built t (parts.toList.map fun (i, x) => (i, a.eval x)) = some cs) (h : wpList P ops Q rest (a.put o.dst (.agg cs)) w) : wpList P ops Q (o :: rest) a w :=
  wpList_build hg t parts ho (by rw [Array.toList_map, hf]; rfl) (by rw [Array.toList_map, hf]; exact h)
end Go.Proofs.Ytbgfccanbgpjiaa.O
