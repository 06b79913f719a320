/- The document's own Right. Laid by mkref.py. -/
import Derived.Test.YtigoghhjncpgfaaR3J2
import Derived.Test.YtigoghhjncpgfaaR3J3

namespace Go.Proofs.Ytigoghhjncpgfaa.O
open Go.RowKit T
open Go.Lib

theorem refRight_any (o : Obj) (w : World) (hf : Fit o) :
    Calls Try.prog 23 #[encO o] w fun e w' => e = .returned (.bool (rightB o)) ∧ Below w.heap.size w w' := by
  have HF := Lib.hid hf
  have bad : rightB o = false → (Calls Try.prog 23 #[encO o] w fun e w' => e = .returned (.bool false) ∧ Below w.heap.size w w') → Calls Try.prog 23 #[encO o] w fun e w' => e = .returned (.bool (rightB o)) ∧ Below w.heap.size w w' := fun h hc => by rw [h]; exact hc
  cases b0 : nameB o.name.data.toList with
  | false => exact bad (by unfold rightB; simp only [inR_eq]; simp [b0]) (refRight_bad0 o w HF b0)
  | true =>
  cases b1 : decide (o = bareO o) with
  | false => exact bad (by unfold rightB; simp only [inR_eq]; simp [b0, b1]) (refRight_bad1 o w HF ⟨b0, b1⟩)
  | true =>
  cases b2 : textsB o with
  | false => exact bad (by unfold rightB; simp only [inR_eq]; simp [b0, b1, b2]) (refRight_bad2 o w HF ⟨b0, b1, b2⟩)
  | true =>
  cases b3 : decide (o.size < 0) with
  | true => exact bad (by unfold rightB; simp only [inR_eq]; simp [b0, b1, b2, b3]) (refRight_bad3 o w HF ⟨b0, b1, b2, b3⟩)
  | false =>
  cases b4 : decide (1125899906842624 < o.size) with
  | true => exact bad (by unfold rightB; simp only [inR_eq]; simp [b0, b1, b2, b3, b4]) (refRight_bad4 o w HF ⟨b0, b1, b2, b3, b4⟩)
  | false =>
  cases b5 : decide (o.got < 0) with
  | true => exact bad (by unfold rightB; simp only [inR_eq]; simp [b0, b1, b2, b3, b4, b5]) (refRight_bad5 o w HF ⟨b0, b1, b2, b3, b4, b5⟩)
  | false =>
  cases b6 : decide (1125899906842624 < o.got) with
  | true => exact bad (by unfold rightB; simp only [inR_eq]; simp [b0, b1, b2, b3, b4, b5, b6]) (refRight_bad6 o w HF ⟨b0, b1, b2, b3, b4, b5, b6⟩)
  | false =>
  have A : nameB o.name.data.toList = true ∧ decide (o = bareO o) = true ∧ textsB o = true ∧ decide (o.size < 0) = false ∧ decide (1125899906842624 < o.size) = false ∧ decide (o.got < 0) = false ∧ decide (1125899906842624 < o.got) = false := ⟨b0, b1, b2, b3, b4, b5, b6⟩
  by_cases k1 : o.kind = 1
  · exact refRight_kind1 o w HF ⟨A, k1⟩
  by_cases k2 : o.kind = 2
  · exact refRight_kind2 o w HF ⟨A, k1, k2⟩
  by_cases k3 : o.kind = 3
  · exact refRight_kind3 o w HF ⟨A, k1, k2, k3⟩
  by_cases k4 : o.kind = 4
  · exact refRight_kind4 o w HF ⟨A, k1, k2, k3, k4⟩
  by_cases k5 : o.kind = 5
  · exact refRight_kind5 o w HF ⟨A, k1, k2, k3, k4, k5⟩
  by_cases k6 : o.kind = 6
  · exact refRight_kind6 o w HF ⟨A, k1, k2, k3, k4, k5, k6⟩
  by_cases k7 : o.kind = 7
  · exact refRight_kind7 o w HF ⟨A, k1, k2, k3, k4, k5, k6, k7⟩
  exact refRight_kind8 o w HF ⟨A, k1, k2, k3, k4, k5, k6, k7⟩
end Go.Proofs.Ytigoghhjncpgfaa.O
