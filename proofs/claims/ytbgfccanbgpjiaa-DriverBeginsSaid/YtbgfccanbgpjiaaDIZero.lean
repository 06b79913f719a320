/- Own work. -/
import Derived.Test.YtbgfccanbgpjiaaDJIPerfN
import Derived.Test.YtbgfccanbgpjiaaDJIRBase
import Derived.Test.YtbgfccanbgpjiaaDJISnSeqN
namespace Go.Proofs.Ytbgfccanbgpjiaa.O.I
open Go Go.RowKit Go.Lib Go.Shelf RangeMap KM
attribute [local go_sem] Oper.semAt_some
theorem Sn.inOrder_any (mb : Option Nat) (w : World) : Calls Try.prog 47 #[.map mb] w fun e w' => e = .returned (.func (.func 66) #[] #[.pointer (some ⟨w.heap.size, 0, none⟩)]) ∧ w' = w.alloc (.cells #[.map mb] tS) := by
  go_enter Try.func47, Try.ntmps47
  go_wp2
  go_ret
  exact ⟨rfl, rfl⟩
end Go.Proofs.Ytbgfccanbgpjiaa.O.I
