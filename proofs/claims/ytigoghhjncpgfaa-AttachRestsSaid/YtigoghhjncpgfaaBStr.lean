/- What the texts on objects lean on, where no number is printed. -/
import Derived.Test.YtigoghhjncpgfaaOCore
import Derived.Test.YtigoghhjncpgfaaBPlain
import Derived.Laws.IdiomStrings
import Derived.Sort.Row
import Derived.BigCall
import Derived.BigGuard
namespace Go.Proofs.Ytigoghhjncpgfaa.O.B
open Go Go.RowKit Go.Lib
open Go.Sort hiding Below

theorem below_row {α : Type} [Inhabited α] {enc : α → Value} {B : Nat} {w0 w : World} {g : Nat} {d : Array α} (h : Below B w0 w) (hg : B ≤ g) : Below B w0 (putRow enc w g 0 d) := by
  refine ⟨h.os, h.tape, h.output, by rw [size_putRow]; exact h.size, fun k hk => ?_⟩
  rw [← h.block k hk]
  unfold putRow mapBlock
  simp only [Array.getElem?_modify]
  rw [if_neg (by omega)]
end Go.Proofs.Ytigoghhjncpgfaa.O.B
