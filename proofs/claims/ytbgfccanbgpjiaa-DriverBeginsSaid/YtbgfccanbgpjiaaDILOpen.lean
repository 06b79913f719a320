/- Own work. -/
import Derived.Test.YtbgfccanbgpjiaaDJIRTop
namespace Go.Proofs.Ytbgfccanbgpjiaa.O.I
open Go Go.ChangeShapes Go.WideShapes Go.RowKit Go.Deep Go.Lib
structure FitD (c : Cl) : Prop where
  fit : FitC c
  num : 0 ≤ c.num
section
variable {H : Type} {enc : TypeId × Value → H} {w : World} {base : Nat} {spare : Nat → Bool} {held : Bool}
theorem calOne : oneCellFields Try.prog (Try.prog.fieldsOf 27) = true := by kernel_rfl
theorem calUnd : Try.prog.underlying 27 = some (.struct (Try.prog.fieldsOf 27)) := by kernel_rfl
theorem calF0 : ((Try.prog.fieldsOf 27)[0]?).map (·.type) = some 24 := by kernel_rfl
theorem calF1 : ((Try.prog.fieldsOf 27)[1]?).map (·.type) = some 9 := by kernel_rfl
theorem calF2 : ((Try.prog.fieldsOf 27)[2]?).map (·.type) = some 25 := by kernel_rfl
theorem calF3 : ((Try.prog.fieldsOf 27)[3]?).map (·.type) = some 2 := by kernel_rfl
theorem calF4 : ((Try.prog.fieldsOf 27)[4]?).map (·.type) = some 9 := by kernel_rfl
theorem calF5 : ((Try.prog.fieldsOf 27)[5]?).map (·.type) = some 9 := by kernel_rfl
theorem calF6 : ((Try.prog.fieldsOf 27)[6]?).map (·.type) = some 9 := by kernel_rfl
set_option maxRecDepth 100000 in
theorem cal_of_trod {fuel : Nat} {l : List Value} {x : DataW H × List MemPlace}
    (hf : DataW.trod enc Try.prog w base spare held fuel 27 l = some x) (hl0 : l.length = 7) : ∃ c : Cl, l = (cellsC c).toList ∧ FitD c := by
  obtain ⟨xs, n, -, hx, -, hlen, hg⟩ := DataW.trod_struct calUnd hf
  obtain ⟨u0, l0, rfl, hl1⟩ := list_cons' hl0
  obtain ⟨u1, l1, rfl, hl2⟩ := list_cons' hl1
  obtain ⟨u2, l2, rfl, hl3⟩ := list_cons' hl2
  obtain ⟨u3, l3, rfl, hl4⟩ := list_cons' hl3
  obtain ⟨u4, l4, rfl, hl5⟩ := list_cons' hl4
  obtain ⟨u5, l5, rfl, hl6⟩ := list_cons' hl5
  obtain ⟨u6, l6, rfl, hl7⟩ := list_cons' hl6
  obtain rfl := list_nil' hl7
  obtain ⟨f0, hf0, ht0⟩ : ∃ f, (Try.prog.fieldsOf 27)[0]? = some f ∧ f.type = 24 := by have := calF0; rw [Option.map_eq_some_iff] at this; exact this
  obtain ⟨y0, hy0, hr0⟩ := field_at' calOne hlen hg 0 f0 hf0 u0 rfl
  rw [ht0] at hr0
  obtain ⟨x0, hc0, he0, wf0⟩ := DataW.trod_int Try.underlying24 hr0
  obtain rfl := List.head_eq_of_cons_eq hc0
  obtain ⟨f1, hf1, ht1⟩ : ∃ f, (Try.prog.fieldsOf 27)[1]? = some f ∧ f.type = 9 := by have := calF1; rw [Option.map_eq_some_iff] at this; exact this
  obtain ⟨y1, hy1, hr1⟩ := field_at' calOne hlen hg 1 f1 hf1 u1 rfl
  rw [ht1] at hr1
  obtain ⟨x1, hc1, he1, hs1⟩ := DataW.trod_string Try.underlying9 hr1
  obtain rfl := List.head_eq_of_cons_eq hc1
  obtain ⟨f2, hf2, ht2⟩ : ∃ f, (Try.prog.fieldsOf 27)[2]? = some f ∧ f.type = 25 := by have := calF2; rw [Option.map_eq_some_iff] at this; exact this
  obtain ⟨y2, hy2, hr2⟩ := field_at' calOne hlen hg 2 f2 hf2 u2 rfl
  rw [ht2] at hr2
  obtain ⟨x2, hc2, he2, wf2⟩ := DataW.trod_int Try.underlying25 hr2
  obtain rfl := List.head_eq_of_cons_eq hc2
  obtain ⟨f3, hf3, ht3⟩ : ∃ f, (Try.prog.fieldsOf 27)[3]? = some f ∧ f.type = 2 := by have := calF3; rw [Option.map_eq_some_iff] at this; exact this
  obtain ⟨y3, hy3, hr3⟩ := field_at' calOne hlen hg 3 f3 hf3 u3 rfl
  rw [ht3] at hr3
  obtain ⟨x3, hc3, he3, wf3⟩ := DataW.trod_int Try.underlying2 hr3
  obtain rfl := List.head_eq_of_cons_eq hc3
  obtain ⟨f4, hf4, ht4⟩ : ∃ f, (Try.prog.fieldsOf 27)[4]? = some f ∧ f.type = 9 := by have := calF4; rw [Option.map_eq_some_iff] at this; exact this
  obtain ⟨y4, hy4, hr4⟩ := field_at' calOne hlen hg 4 f4 hf4 u4 rfl
  rw [ht4] at hr4
  obtain ⟨x4, hc4, he4, hs4⟩ := DataW.trod_string Try.underlying9 hr4
  obtain rfl := List.head_eq_of_cons_eq hc4
  obtain ⟨f5, hf5, ht5⟩ : ∃ f, (Try.prog.fieldsOf 27)[5]? = some f ∧ f.type = 9 := by have := calF5; rw [Option.map_eq_some_iff] at this; exact this
  obtain ⟨y5, hy5, hr5⟩ := field_at' calOne hlen hg 5 f5 hf5 u5 rfl
  rw [ht5] at hr5
  obtain ⟨x5, hc5, he5, hs5⟩ := DataW.trod_string Try.underlying9 hr5
  obtain rfl := List.head_eq_of_cons_eq hc5
  obtain ⟨f6, hf6, ht6⟩ : ∃ f, (Try.prog.fieldsOf 27)[6]? = some f ∧ f.type = 9 := by have := calF6; rw [Option.map_eq_some_iff] at this; exact this
  obtain ⟨y6, hy6, hr6⟩ := field_at' calOne hlen hg 6 f6 hf6 u6 rfl
  rw [ht6] at hr6
  obtain ⟨x6, hc6, he6, hs6⟩ := DataW.trod_string Try.underlying9 hr6
  obtain rfl := List.head_eq_of_cons_eq hc6
  exact ⟨⟨x0, x1, x2, x3, x4, x5, x6⟩, rfl, ⟨Nat.le_trans hs1 (by decide), Nat.le_trans hs4 (by decide), Nat.le_trans hs5 (by decide), Nat.le_trans hs6 (by decide)⟩, (bounds_u64 wf2).1⟩
theorem dedUnd : Try.prog.underlying 65 = some (.struct (Try.prog.fieldsOf 65)) := by kernel_rfl
theorem dedCells : Try.prog.cellsOf 65 = 8 := by kernel_rfl
theorem dedSize : (Try.prog.fieldsOf 65).size = 2 := by kernel_rfl
theorem dedF0 : ((Try.prog.fieldsOf 65)[0]?).map (fun f => (f.type, f.offset)) = some (27, 0) := by kernel_rfl
theorem dedC0 : Try.prog.cellsOf 27 = 7 := by kernel_rfl
theorem dedF1 : ((Try.prog.fieldsOf 65)[1]?).map (fun f => (f.type, f.offset)) = some (25, 7) := by kernel_rfl
theorem dedC1 : Try.prog.cellsOf 25 = 1 := by kernel_rfl
set_option maxRecDepth 100000 in
theorem ded_of_trod {fuel : Nat} {l : List Value} {x : DataW H × List MemPlace} (hf : DataW.trod enc Try.prog w base spare held fuel 65 l = some x) (hl0 : l.length = 8) : ∃ x : Dd, l = (cellsX x).toList ∧ FitD x.c := by
  obtain ⟨xs, n, -, hx, -, hlen, hg⟩ := DataW.trod_struct dedUnd hf
  rw [dedSize] at hlen
  obtain ⟨u0, l0, rfl, hl1⟩ := list_cons' hl0
  obtain ⟨u1, l1, rfl, hl2⟩ := list_cons' hl1
  obtain ⟨u2, l2, rfl, hl3⟩ := list_cons' hl2
  obtain ⟨u3, l3, rfl, hl4⟩ := list_cons' hl3
  obtain ⟨u4, l4, rfl, hl5⟩ := list_cons' hl4
  obtain ⟨u5, l5, rfl, hl6⟩ := list_cons' hl5
  obtain ⟨u6, l6, rfl, hl7⟩ := list_cons' hl6
  obtain ⟨u7, l7, rfl, hl8⟩ := list_cons' hl7
  obtain rfl := list_nil' hl8
  have e0 : ∃ y, DataW.trod enc Try.prog w base spare held n 27 [u0, u1, u2, u3, u4, u5, u6] = some y := by
    obtain ⟨f, hf0, hp⟩ : ∃ f, (Try.prog.fieldsOf 65)[0]? = some f ∧ (f.type, f.offset) = (27, 0) := by have := dedF0; rw [Option.map_eq_some_iff] at this; exact this
    obtain ⟨h1, h2⟩ := Prod.mk.inj hp
    have h3 := hg 0 f hf0
    rw [h1, h2, dedC0] at h3
    exact ⟨xs[0]'(by omega), h3.trans (List.getElem?_eq_getElem (by omega))⟩
  obtain ⟨y0, e0⟩ := e0
  have e1 : ∃ y, DataW.trod enc Try.prog w base spare held n 25 [u7] = some y := by
    obtain ⟨f, hf0, hp⟩ : ∃ f, (Try.prog.fieldsOf 65)[1]? = some f ∧ (f.type, f.offset) = (25, 7) := by have := dedF1; rw [Option.map_eq_some_iff] at this; exact this
    obtain ⟨h1, h2⟩ := Prod.mk.inj hp
    have h3 := hg 1 f hf0
    rw [h1, h2, dedC1] at h3
    exact ⟨xs[1]'(by omega), h3.trans (List.getElem?_eq_getElem (by omega))⟩
  obtain ⟨y1, e1⟩ := e1
  obtain ⟨c, h0, hfc⟩ := cal_of_trod e0 rfl
  obtain ⟨t, ht, -, -⟩ := DataW.trod_int Try.underlying25 e1
  have h0' : [u0, u1, u2, u3, u4, u5, u6] = [.int .u8 c.verb, .string c.target, .int .u64 c.num, .int .i64 c.size, .string c.zone, .string c.node, .string c.source] := h0
  simp only [List.cons.injEq, and_true] at h0' ht
  obtain ⟨rfl, rfl, rfl, rfl, rfl, rfl, rfl⟩ := h0'
  subst ht
  exact ⟨⟨c, t⟩, rfl, hfc⟩
set_option maxRecDepth 100000 in
theorem open_deed10 {r : Reach} {b0 : Nat} {v : Value} {d : DataW H} {p : List MemPlace} (hv : Value.okWide Try.prog w r b0 65 v) (h : DataW.Trod enc Try.prog w base spare held 65 v d p) : ∃ x, v = encX x ∧ FitD x.c := by
  obtain ⟨cs, rfl, hsz⟩ := okWide_struct dedUnd hv
  rw [dedCells] at hsz
  obtain ⟨l⟩ := cs
  obtain ⟨fuel, hf⟩ := h
  obtain ⟨x, hx, hfx⟩ := ded_of_trod hf (show l.length = 8 from hsz)
  have hx' : l = (cellsX x).toList := hx
  exact ⟨x, by rw [hx']; rfl, hfx⟩
set_option maxRecDepth 100000 in
theorem open_call10 {r : Reach} {b0 : Nat} {v : Value} {d : DataW H} {p : List MemPlace} (hv : Value.okWide Try.prog w r b0 27 v) (h : DataW.Trod enc Try.prog w base spare held 27 v d p) : ∃ x, v = encC x ∧ FitD x := by
  obtain ⟨cs, rfl, hsz⟩ := okWide_struct calUnd hv
  rw [dedC0] at hsz
  obtain ⟨l⟩ := cs
  obtain ⟨fuel, hf⟩ := h
  obtain ⟨x, hx, hfx⟩ := cal_of_trod hf (show l.length = 7 from hsz)
  have hx' : l = (cellsC x).toList := hx
  exact ⟨x, by rw [hx']; rfl, hfx⟩
set_option maxRecDepth 100000 in
theorem open_u8x3 {r : Reach} {b0 : Nat} {v : Value} {d : DataW H} {p : List MemPlace} (hv : Value.okWide Try.prog w r b0 22 v) (h : DataW.Trod enc Try.prog w base spare held 22 v d p) : ∃ a b c, v = encN a b c ∧ U8 a ∧ U8 b ∧ U8 c := by
  have hce : Try.prog.cellsOf 5 = 1 := by kernel_rfl
  have hct : Try.prog.cellsOf 22 = 3 := by kernel_rfl
  simp only [Value.okWide, Try.underlying22] at hv
  obtain ⟨cs, rfl, hsz, -⟩ := hv
  obtain ⟨l⟩ := cs
  obtain ⟨fuel, hf⟩ := h
  obtain ⟨xs, m, -, -, hlen, hn, hi⟩ := DataW.trod_array Try.underlying22 hf
  rw [hce] at hi
  have hl3 : l.length = 3 := by rw [hct] at hsz; simpa using hsz
  obtain ⟨u0, l0, rfl, hl1⟩ := list_cons' hl3
  obtain ⟨u1, l1, rfl, hl2⟩ := list_cons' hl1
  obtain ⟨u2, l2, rfl, hl4⟩ := list_cons' hl2
  obtain rfl := list_nil' hl4
  have h0 := (hi 0 (by omega)).trans (List.getElem?_eq_getElem (show 0 < xs.length by omega))
  have h1 := (hi 1 (by omega)).trans (List.getElem?_eq_getElem (show 1 < xs.length by omega))
  have h2 := (hi 2 (by omega)).trans (List.getElem?_eq_getElem (show 2 < xs.length by omega))
  obtain ⟨a, ha, -, wa⟩ := DataW.trod_int Try.underlying5 h0
  obtain ⟨b, hb, -, wb⟩ := DataW.trod_int Try.underlying5 h1
  obtain ⟨c, hc, -, wc⟩ := DataW.trod_int Try.underlying5 h2
  simp [Value.cells] at ha hb hc
  have ba := bounds_u8 wa
  have bb := bounds_u8 wb
  have bc := bounds_u8 wc
  exact ⟨a, b, c, by rw [ha, hb, hc]; rfl, ⟨ba.1, by omega⟩, ⟨bb.1, by omega⟩, ⟨bc.1, by omega⟩⟩
end
instance : Inhabited Dd := ⟨⟨zeroC, 0⟩⟩
set_option maxRecDepth 100000 in
theorem open_deeds {H : Type} {enc : TypeId × Value → H} {w : World} {base : Nat} {spare : Nat → Bool} {held : Bool} {r : Reach} {b0 : Nat} {v : Value} {d : DataW H} {p : List MemPlace}
    (hv : Value.okWide Try.prog w r b0 23 v) (h : DataW.Trod enc Try.prog w base spare held 23 v d p) : ∃ l, DeedsIn w v l ∧ ∀ x ∈ l, FitC x.c := by
  obtain ⟨o, len, cap, rfl, hle, hx⟩ := open_rows Try.underlying23 dedCells hv h
  have each : ∀ i, i < len → ∃ y : Dd, (∃ g off, o = some ⟨g, off, none⟩ ∧ g < w.heap.size ∧ World.rangeAt w g (off + i * 8) (cellsX y).toList) ∧ FitC y.c := fun i hi => by
    obtain ⟨g, off, cs, fuel, x, h1, h2, h3, h4, h5⟩ := hx i hi
    obtain ⟨c, rfl, h6⟩ := ded_of_trod h5 h4
    exact ⟨c, ⟨g, off, h1, h2, h3⟩, h6.fit⟩
  obtain ⟨Y, hY⟩ := Go.Deep.choose_lt each
  have hll : ((List.range len).map Y).length = len := by simp
  refine ⟨(List.range len).map Y, ⟨o, cap, by rw [hll], by rw [hll]; omega, fun i hi => ?_⟩, fun z hz => ?_⟩
  · rw [hll] at hi
    simp only [List.getElem_map, List.getElem_range]
    exact (hY i hi).1
  · obtain ⟨i, hi, rfl⟩ := List.mem_map.1 hz
    exact (hY i (List.mem_range.1 hi)).2
end Go.Proofs.Ytbgfccanbgpjiaa.O.I
