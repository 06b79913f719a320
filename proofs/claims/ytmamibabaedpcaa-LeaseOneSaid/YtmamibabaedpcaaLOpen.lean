/- Leases and askings as they come in. -/
import Derived.Test.YtmamibabaedpcaaLBase
import Derived.Test.YtmamibabaedpcaaLawEnd
import Derived.OpenShut
import Derived.SizedLaws
import Derived.Deep.SlicePairs
import Derived.Deep.Strs
namespace Go.Proofs.Ytmamibabaedpcaa.L
open Go.ChangeShapes Go.WideShapes Go.RowKit T O

theorem own : ownKnob Try.prog.godebug = none := by kernel_rfl
theorem laidOut : laidOutB Try.prog = true := by kernel_rfl

/-- Who asks, when, for how long. -/
structure Ask where
  who : ByteArray
  now : Int
  span : Int
deriving Inhabited
def encA (x : Ask) : Value := .agg #[.string x.who, .int .u64 x.now, .int .u64 x.span]
structure FitA (x : Ask) : Prop where
  who : x.who.size ≤ 9223372036854775807
  now : U64 x.now
  span : U64 x.span
section
variable {H : Type} {enc : TypeId × Value → H} {w : World} {base : Nat} {spare : Nat → Bool} {held : Bool}
theorem k9 : Try.prog.cellsOf 9 = 1 := by kernel_rfl
theorem k22 : Try.prog.cellsOf 22 = 1 := by kernel_rfl
theorem list3 {α : Type} {l : List α} (h : l.length = 3) : ∃ a b c, l = [a, b, c] := by
  match l, h with
  | [a, b, c], _ => exact ⟨a, b, c, rfl⟩
set_option maxRecDepth 100000 in
theorem three_of_trod {n : Nat} {t : TypeId} {cs : List Value} {x : DataW H × List MemPlace} {fs : Array Field} (ht : Try.prog.underlying t = some (.struct fs)) (ct : Try.prog.cellsOf t = 3)
    (hf : (fs.toList.map fun f => (f.type, f.offset)) = [(9, 0), (22, 1), (22, 2)])
    (h : DataW.trod enc Try.prog w base spare held n t cs = some x) :
    ∃ (s : ByteArray) (a b : Int), cs = [.string s, .int .u64 a, .int .u64 b] ∧ s.size ≤ 9223372036854775807 ∧ U64 a ∧ U64 b := by
  obtain ⟨fl⟩ := fs
  have hl3 : fl.length = 3 := by have := congrArg List.length hf; simpa using this
  obtain ⟨f0, f1, f2, rfl⟩ := list3 hl3
  simp only [List.map_cons, List.map_nil, List.cons.injEq, Prod.mk.injEq, and_true] at hf
  obtain ⟨⟨t0, o0⟩, ⟨t1, o1⟩, ⟨t2, o2⟩⟩ := hf
  obtain ⟨y0, y1, y2, m, -, hl, h0, h1, h2⟩ := Go.Deep.trod_struct3 ht h
  rw [ct] at hl
  obtain ⟨u0, u1, u2, rfl⟩ := list3 hl
  rw [t0, o0, k9] at h0
  rw [t1, o1, k22] at h1
  rw [t2, o2, k22] at h2
  obtain ⟨s, hs, -, zs⟩ := DataW.trod_string Try.underlying9 h0
  obtain ⟨a, ha, -, wa⟩ := DataW.trod_int Try.underlying22 h1
  obtain ⟨b, hb, -, wb⟩ := DataW.trod_int Try.underlying22 h2
  refine ⟨s, a, b, ?_, Nat.le_trans zs (by decide), bounds_u64 wa, bounds_u64 wb⟩
  simp at hs ha hb
  rw [hs, ha, hb]

set_option maxRecDepth 100000 in
theorem open_lz {r : Reach} {b0 : Nat} {v : Value} {d : DataW H} {p : List MemPlace} (hv : Value.okWide Try.prog w r b0 24 v) (h : DataW.Trod enc Try.prog w base spare held 24 v d p) : ∃ x, v = encL x ∧ FitL x := by
  obtain ⟨cs, rfl, hsz⟩ := okWide_struct Try.underlying24 hv
  obtain ⟨fuel, hf⟩ := h
  obtain ⟨s, a, b, hc, h1, h2, h3⟩ := three_of_trod Try.underlying24 (by kernel_rfl) (by rfl) hf
  refine ⟨⟨s, a, b⟩, ?_, ⟨h2, h3, h1⟩⟩
  have : cs.toList = [.string s, .int .u64 a, .int .u64 b] := by simpa [Value.cells] using hc
  unfold encL
  rw [← this]
set_option maxRecDepth 100000 in
theorem open_ask {r : Reach} {b0 : Nat} {v : Value} {d : DataW H} {p : List MemPlace} (hv : Value.okWide Try.prog w r b0 26 v) (h : DataW.Trod enc Try.prog w base spare held 26 v d p) : ∃ x, v = encA x ∧ FitA x := by
  obtain ⟨cs, rfl, hsz⟩ := okWide_struct Try.underlying26 hv
  obtain ⟨fuel, hf⟩ := h
  obtain ⟨s, a, b, hc, h1, h2, h3⟩ := three_of_trod Try.underlying26 (by kernel_rfl) (by rfl) hf
  refine ⟨⟨s, a, b⟩, ?_, ⟨h1, h2, h3⟩⟩
  have : cs.toList = [.string s, .int .u64 a, .int .u64 b] := by simpa [Value.cells] using hc
  unfold encA
  rw [← this]
end
end Go.Proofs.Ytmamibabaedpcaa.L
