/- A slice of terms that comes in has room for its elements. -/
import Derived.Test.YtneogmcmkbhnaaaTBothB
import Derived.Test.YtneogmcmkbhnaaaTOpen2
namespace Go.Proofs.Ytneogmcmkbhnaaa.T
open Go.RowKit Go.ChangeShapes Go.WideShapes
open Go.Lib hiding intOf

set_option maxRecDepth 100000 in
theorem cap_terms {H : Type} {enc : TypeId × Value → H} {w : World} {base : Nat} {spare : Nat → Bool} {held : Bool} {r : Reach} {b0 : Nat} {v : Value} {d : DataW H} {p : List MemPlace} (hv : Value.okWide Try.prog w r b0 22 v)
    (h : DataW.Trod enc Try.prog w base spare held 22 v d p) : CapOk v := by
  obtain ⟨a0, len, cap, rfl⟩ := okWide_slice Try.underlying22 hv
  obtain ⟨fuel, hf⟩ := h
  have hf2 : DataW.trod enc Try.prog w base spare held fuel 22 [.slice a0 len cap] = some (d, p) := hf
  rcases Go.Deep.open_slice_pairs Try.underlying22 Try.underlying60 (by kernel_rfl) rfl rfl (by kernel_rfl) (by kernel_rfl) hf2 with ⟨hcs, -⟩ | ⟨a, len', cap', m, k, V0, V1, D0, D1, P0, P1, hcs, -, hl, -⟩
  · have e : Value.slice a0 len cap = .slice none 0 0 := by simpa using hcs
    cases e
    exact ⟨_, _, _, rfl, Nat.le_refl _⟩
  · have e : Value.slice a0 len cap = .slice (some a) len' cap' := by simpa using hcs
    cases e
    exact ⟨_, _, _, rfl, hl⟩
end Go.Proofs.Ytneogmcmkbhnaaa.T
