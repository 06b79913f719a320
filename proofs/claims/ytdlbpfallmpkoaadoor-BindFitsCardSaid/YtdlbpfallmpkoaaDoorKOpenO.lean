/- An object as it comes in. -/
import Derived.Test.YtdlbpfallmpkoaaDoorKOpen
namespace Go.Proofs.YtdlbpfallmpkoaaDoor.O.B
open Go.ChangeShapes Go.WideShapes Go.RowKit Go.Deep Go.Lib
open Go.ChangeMaps (open_string)

theorem open_obj1 {H : Type} {enc : TypeId × Value → H} {w : World} {base : Nat} {spare : Nat → Bool} {held : Bool} {r : Reach} {b0 : Nat} {v : Value} {d : DataW H} {p : List MemPlace}
    (hv : Value.okWide Tryd.prog w r b0 28 v) (h : DataW.Trod enc Tryd.prog w base spare held 28 v d p) :
    ∃ o : Obj, v = encO o ∧ FitO o ∧ ((d.weights Tryd.prog 28).all (· ≤ reachBytes) = true → LenO o) := by
  obtain ⟨cs, rfl, hsz⟩ := okWide_struct undObj hv
  rw [cellsObj'] at hsz
  obtain ⟨fuel, hf⟩ := h
  obtain ⟨o, ho, h1, h2⟩ := obj_of_trod (l := cs.toList) (by simpa [Value.cells] using hf) (by simpa using hsz)
  exact ⟨o, by unfold encO; rw [← Array.toList_inj.1 ho], h1, h2⟩
end Go.Proofs.YtdlbpfallmpkoaaDoor.O.B
