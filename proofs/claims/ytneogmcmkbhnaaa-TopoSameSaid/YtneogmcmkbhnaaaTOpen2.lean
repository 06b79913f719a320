/- Arrays of two slices, as they come in. -/
import Derived.Test.YtneogmcmkbhnaaaTSameR
namespace Go.Proofs.Ytneogmcmkbhnaaa.T
open Go.RowKit Go.Lib Go.ChangeShapes Go.WideShapes

section
variable {H : Type} {enc : TypeId × Value → H} {w : World} {base : Nat} {spare : Nat → Bool} {held : Bool}
set_option maxRecDepth 100000 in
theorem open_two {r : Reach} {b0 : Nat} {tt te el : TypeId} {v : Value} {d : DataW H} {ps : List MemPlace} (ht : Try.prog.underlying tt = some (.array 2 te)) (hce : Try.prog.cellsOf te = 1) (hct : Try.prog.cellsOf tt = 2)
    (hty : Try.prog.cellTypes Try.prog.depth tt = some [te, te]) (hte : Try.prog.underlying te = some (.slice el))
    (hv : Value.okWide Try.prog w r b0 tt v) (h : DataW.Trod enc Try.prog w base spare held tt v d ps) :
    ∃ va vb, v = .agg #[va, vb] ∧ Lies w va ∧ Lies w vb ∧ (∃ m y, DataW.trod enc Try.prog w base spare held m te [va] = some y) ∧ (∃ m y, DataW.trod enc Try.prog w base spare held m te [vb] = some y) := by
  unfold Value.okWide at hv
  rw [ht] at hv
  obtain ⟨cs, rfl, hsz, ts, hts, -, hrow⟩ := hv
  rw [hty] at hts
  cases hts
  obtain ⟨l⟩ := cs
  obtain ⟨fuel, hf⟩ := h
  obtain ⟨xs, m, -, -, hlen, hn, hi⟩ := DataW.trod_array ht hf
  rw [hce] at hi
  have hl2 : l.length = 2 := by rw [hct] at hsz; simpa using hsz
  match l, hl2 with
  | [c0, c1], _ =>
    have x0 : ∃ y, xs[0]? = some y := ⟨xs[0]'(by omega), List.getElem?_eq_getElem (by omega)⟩
    have x1 : ∃ y, xs[1]? = some y := ⟨xs[1]'(by omega), List.getElem?_eq_getElem (by omega)⟩
    obtain ⟨y0, e0⟩ := x0
    obtain ⟨y1, e1⟩ := x1
    have h0 := (hi 0 (by omega)).trans e0
    have h1 := (hi 1 (by omega)).trans e1
    obtain ⟨u0, g0, k0⟩ := hrow 0 c0 rfl
    obtain ⟨u1, g1, k1⟩ := hrow 1 c1 rfl
    cases g0
    cases g1
    exact ⟨c0, c1, rfl, lies_of_cell hte k0, lies_of_cell hte k1, ⟨m, y0, by simpa [Value.cells] using h0⟩, ⟨m, y1, by simpa [Value.cells] using h1⟩⟩

set_option maxRecDepth 100000 in
theorem open_terms2 {r : Reach} {b0 : Nat} {v : Value} {d : DataW H} {p : List MemPlace} (hv : Value.okWide Try.prog w r b0 51 v) (h : DataW.Trod enc Try.prog w base spare held 51 v d p) :
    ∃ (va vb : Value) (la lb : List TB), v = .agg #[va, vb] ∧ TermsIn w va la ∧ TermsIn w vb lb := by
  obtain ⟨va, vb, rfl, la, lb, ⟨m, y, h0⟩, ⟨m', y', h1⟩⟩ := open_two (te := 22) Try.underlying51 (by kernel_rfl) (by kernel_rfl) (by kernel_rfl) Try.underlying22 hv h
  obtain ⟨a, ha, -⟩ := terms_of_trod la h0
  obtain ⟨b, hb, -⟩ := terms_of_trod lb h1
  exact ⟨va, vb, a, b, rfl, ha, hb⟩
set_option maxRecDepth 100000 in
theorem open_labels2 {r : Reach} {b0 : Nat} {v : Value} {d : DataW H} {p : List MemPlace} (hv : Value.okWide Try.prog w r b0 52 v) (h : DataW.Trod enc Try.prog w base spare held 52 v d p) :
    ∃ (va vb : Value) (la lb : List LB), v = .agg #[va, vb] ∧ LabsIn w va la ∧ LabsIn w vb lb := by
  obtain ⟨va, vb, rfl, la, lb, ⟨m, y, h0⟩, ⟨m', y', h1⟩⟩ := open_two (te := 23) Try.underlying52 (by kernel_rfl) (by kernel_rfl) (by kernel_rfl) Try.underlying23 hv h
  obtain ⟨a, ha, -⟩ := labels_of_trod la h0
  obtain ⟨b, hb, -⟩ := labels_of_trod lb h1
  exact ⟨va, vb, a, b, rfl, ha, hb⟩
end
end Go.Proofs.Ytneogmcmkbhnaaa.T
