/- Keys and deeds that come in. -/
import Derived.Test.YtjmiodbpebaajaaWOpen
namespace Go.Proofs.Ytjmiodbpebaajaa.W
open Go.ChangeShapes Go.WideShapes Go.RowKit

structure Deed where
  kind : Int
  k : Ky
  now : Int
def encD (x : Deed) : Value := .agg #[.int .i64 x.kind, .int .u8 x.k.k, .string x.k.n, .int .u64 x.now]
section
variable {H : Type} {enc : TypeId × Value → H} {w : World} {base : Nat} {spare : Nat → Bool} {held : Bool}
theorem k_string : Try.prog.cellsOf 9 = 1 := by kernel_rfl
theorem k_u64 : Try.prog.cellsOf 32 = 1 := by kernel_rfl
theorem k_int : Try.prog.cellsOf 3 = 1 := by kernel_rfl
theorem k_kind : Try.prog.cellsOf 23 = 1 := by kernel_rfl
theorem k_key : Try.prog.cellsOf 25 = 2 := by kernel_rfl
theorem k_deed : Try.prog.cellsOf 54 = 4 := by kernel_rfl
theorem list2 {α : Type} {l : List α} (h : l.length = 2) : ∃ a b, l = [a, b] := by
  match l, h with
  | [a, b], _ => exact ⟨a, b, rfl⟩
theorem list3 {α : Type} {l : List α} (h : l.length = 3) : ∃ a b c, l = [a, b, c] := by
  match l, h with
  | [a, b, c], _ => exact ⟨a, b, c, rfl⟩
theorem list4 {α : Type} {l : List α} (h : l.length = 4) : ∃ a b c d, l = [a, b, c, d] := by
  match l, h with
  | [a, b, c, d], _ => exact ⟨a, b, c, d, rfl⟩
theorem trod_struct2 {P : Program} {t : TypeId} {f0 f1 : Field} {fuel : Nat} {cs : List Value} {x : DataW H × List MemPlace} (ht : P.underlying t = some (.struct #[f0, f1])) (h : DataW.trod enc P w base spare held fuel t cs = some x) :
    ∃ y0 y1 n, x = (.agg [y0.1, y1.1], y0.2 ++ y1.2) ∧ cs.length = P.cellsOf t ∧ DataW.trod enc P w base spare held n f0.type ((cs.drop f0.offset).take (P.cellsOf f0.type)) = some y0 ∧
      DataW.trod enc P w base spare held n f1.type ((cs.drop f1.offset).take (P.cellsOf f1.type)) = some y1 := by
  obtain ⟨xs, n, _, rfl, hl, hlen, hf⟩ := DataW.trod_struct ht h
  match xs, hlen with
  | [y0, y1], _ => exact ⟨y0, y1, n, by simp, hl, by simpa using hf 0 f0 rfl, by simpa using hf 1 f1 rfl⟩
set_option maxRecDepth 100000 in
theorem key_of_trod {n : Nat} {cs : List Value} {x : DataW H × List MemPlace} (h : DataW.trod enc Try.prog w base spare held n 25 cs = some x) : ∃ k : Ky, cs = cellsK k ∧ k.n.size ≤ 9223372036854775807 := by
  obtain ⟨fs, ht⟩ : ∃ fs, Try.prog.underlying 25 = some (.struct fs) := ⟨_, Try.underlying25⟩
  have hf : (fs.toList.map fun f => (f.type, f.offset)) = [(23, 0), (9, 1)] := by
    have h1 : Try.prog.underlying 25 = some (.struct fs) := ht
    rw [Try.underlying25] at h1
    cases h1
    rfl
  obtain ⟨fl⟩ := fs
  have hl2 : fl.length = 2 := by have := congrArg List.length hf; simpa using this
  obtain ⟨f0, f1, rfl⟩ := list2 hl2
  simp only [List.map_cons, List.map_nil, List.cons.injEq, Prod.mk.injEq, and_true] at hf
  obtain ⟨⟨t0, o0⟩, ⟨t1, o1⟩⟩ := hf
  obtain ⟨y0, y1, m, -, hl, h0, h1⟩ := trod_struct2 ht h
  rw [k_key] at hl
  obtain ⟨u0, u1, rfl⟩ := list2 hl
  rw [t0, o0, k_kind] at h0
  rw [t1, o1, k_string] at h1
  obtain ⟨a, ha, -, wa⟩ := DataW.trod_int Try.underlying23 h0
  obtain ⟨s, hs, -, zs⟩ := DataW.trod_string Try.underlying9 h1
  refine ⟨⟨a, s⟩, ?_, Nat.le_trans zs (by decide)⟩
  simp at hs ha
  unfold cellsK
  rw [hs, ha]
set_option maxRecDepth 100000 in
theorem deed_of_trod {n : Nat} {cs : List Value} {x : DataW H × List MemPlace} (h : DataW.trod enc Try.prog w base spare held n 54 cs = some x) :
    ∃ y : Deed, cs = [.int .i64 y.kind, .int .u8 y.k.k, .string y.k.n, .int .u64 y.now] ∧ (0 ≤ y.now ∧ y.now ≤ 18446744073709551615) ∧ (-9223372036854775808 ≤ y.kind ∧ y.kind ≤ 9223372036854775807) := by
  obtain ⟨fs, ht⟩ : ∃ fs, Try.prog.underlying 54 = some (.struct fs) := ⟨_, Try.underlying54⟩
  have hf : (fs.toList.map fun f => (f.type, f.offset)) = [(3, 0), (25, 1), (32, 3)] := by
    have h1 : Try.prog.underlying 54 = some (.struct fs) := ht
    rw [Try.underlying54] at h1
    cases h1
    rfl
  obtain ⟨fl⟩ := fs
  have hl3 : fl.length = 3 := by have := congrArg List.length hf; simpa using this
  obtain ⟨f0, f1, f2, rfl⟩ := list3 hl3
  simp only [List.map_cons, List.map_nil, List.cons.injEq, Prod.mk.injEq, and_true] at hf
  obtain ⟨⟨t0, o0⟩, ⟨t1, o1⟩, ⟨t2, o2⟩⟩ := hf
  obtain ⟨y0, y1, y2, m, -, hl, h0, h1, h2⟩ := Go.Deep.trod_struct3 ht h
  rw [k_deed] at hl
  obtain ⟨u0, u1, u2, u3, rfl⟩ := list4 hl
  rw [t0, o0, k_int] at h0
  rw [t1, o1, k_key] at h1
  rw [t2, o2, k_u64] at h2
  obtain ⟨a, ha, -, wa⟩ := DataW.trod_int Try.underlying3 h0
  obtain ⟨k, hk, -⟩ := key_of_trod h1
  obtain ⟨b, hb, -, wb⟩ := DataW.trod_int Try.underlying32 h2
  refine ⟨⟨a, k, b⟩, ?_, bounds_u64 wb, bounds_i64 wa⟩
  simp at ha hb
  simp [cellsK] at hk
  rw [ha, hb, hk.1, hk.2]
set_option maxRecDepth 100000 in
theorem open_deed {r : Reach} {b0 : Nat} {v : Value} {d : DataW H} {p : List MemPlace} (hv : Value.okWide Try.prog w r b0 54 v) (h : DataW.Trod enc Try.prog w base spare held 54 v d p) :
    ∃ x, v = encD x ∧ (0 ≤ x.now ∧ x.now ≤ 18446744073709551615) ∧ (-9223372036854775808 ≤ x.kind ∧ x.kind ≤ 9223372036854775807) := by
  obtain ⟨cs, rfl, hsz⟩ := okWide_struct Try.underlying54 hv
  obtain ⟨fuel, hf⟩ := h
  obtain ⟨y, hc, h1⟩ := deed_of_trod hf
  refine ⟨y, ?_, h1⟩
  have : cs.toList = [.int .i64 y.kind, .int .u8 y.k.k, .string y.k.n, .int .u64 y.now] := by simpa [Value.cells] using hc
  unfold encD
  rw [← this]
set_option maxRecDepth 100000 in
theorem open_key {r : Reach} {b0 : Nat} {v : Value} {d : DataW H} {p : List MemPlace} (hv : Value.okWide Try.prog w r b0 25 v) (h : DataW.Trod enc Try.prog w base spare held 25 v d p) : ∃ x, v = encK x := by
  obtain ⟨cs, rfl, hsz⟩ := okWide_struct Try.underlying25 hv
  obtain ⟨fuel, hf⟩ := h
  obtain ⟨k, hc, -⟩ := key_of_trod hf
  refine ⟨k, ?_⟩
  have : cs.toList = [.int .u8 k.k, .string k.n] := by simpa [Value.cells, cellsK] using hc
  unfold encK
  rw [← this]
end
end Go.Proofs.Ytjmiodbpebaajaa.W
