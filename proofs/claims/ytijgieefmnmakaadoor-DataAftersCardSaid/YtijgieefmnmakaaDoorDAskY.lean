/- A reply as it comes in, and its call. -/
import Derived.Test.YtijgieefmnmakaaDoorKOpen
import Derived.Test.YtijgieefmnmakaaDoorDNext
import Derived.Test.YtijgieefmnmakaaDoorDRAfter0
namespace Go.Proofs.YtijgieefmnmakaaDoor.O.B
open Go.ChangeShapes Go.WideShapes Go.RowKit Go.Deep Go.Lib
open Go.ChangeMaps (open_string)

theorem keyOne : oneCellFields Tryd.prog (Tryd.prog.fieldsOf 41) = true := by kernel_rfl
theorem keyUnd : Tryd.prog.underlying 41 = some (.struct (Tryd.prog.fieldsOf 41)) := by kernel_rfl
theorem keyF0 : ((Tryd.prog.fieldsOf 41)[0]?).map (·.type) = some 27 := by kernel_rfl
theorem keyF1 : ((Tryd.prog.fieldsOf 41)[1]?).map (·.type) = some 9 := by kernel_rfl
theorem key_of_trod {H : Type} {enc : TypeId × Value → H} {w : World} {base : Nat} {spare : Nat → Bool} {held : Bool} {fuel : Nat} {l : List Value} {x : DataW H × List MemPlace}
    (hf : DataW.trod enc Tryd.prog w base spare held fuel 41 l = some x) (hl0 : l.length = 2) : ∃ k n, l = [.int .u8 k, .string n] := by
  obtain ⟨xs, n, -, hx, -, hlen, hg⟩ := DataW.trod_struct keyUnd hf
  obtain ⟨u0, l0, rfl, hl1⟩ := list_cons' hl0
  obtain ⟨u1, l1, rfl, hl2⟩ := list_cons' hl1
  obtain rfl := list_nil' hl2
  obtain ⟨f0, hf0, ht0⟩ : ∃ f, (Tryd.prog.fieldsOf 41)[0]? = some f ∧ f.type = 27 := by have := keyF0; rw [Option.map_eq_some_iff] at this; exact this
  obtain ⟨y0, hy0, hr0⟩ := field_at' keyOne hlen hg 0 f0 hf0 u0 rfl
  rw [ht0] at hr0
  obtain ⟨x0, hc0, he0, wf0⟩ := DataW.trod_int Tryd.underlying27 hr0
  obtain rfl := List.head_eq_of_cons_eq hc0
  obtain ⟨f1, hf1, ht1⟩ : ∃ f, (Tryd.prog.fieldsOf 41)[1]? = some f ∧ f.type = 9 := by have := keyF1; rw [Option.map_eq_some_iff] at this; exact this
  obtain ⟨y1, hy1, hr1⟩ := field_at' keyOne hlen hg 1 f1 hf1 u1 rfl
  rw [ht1] at hr1
  obtain ⟨x1, hc1, he1, hs1⟩ := DataW.trod_string Tryd.underlying9 hr1
  obtain rfl := List.head_eq_of_cons_eq hc1
  exact ⟨x0, x1, rfl⟩
theorem calOne : oneCellFields Tryd.prog (Tryd.prog.fieldsOf 34) = true := by kernel_rfl
theorem calUnd : Tryd.prog.underlying 34 = some (.struct (Tryd.prog.fieldsOf 34)) := by kernel_rfl
theorem calF0 : ((Tryd.prog.fieldsOf 34)[0]?).map (·.type) = some 32 := by kernel_rfl
theorem calF1 : ((Tryd.prog.fieldsOf 34)[1]?).map (·.type) = some 9 := by kernel_rfl
theorem calF2 : ((Tryd.prog.fieldsOf 34)[2]?).map (·.type) = some 23 := by kernel_rfl
theorem calF3 : ((Tryd.prog.fieldsOf 34)[3]?).map (·.type) = some 2 := by kernel_rfl
theorem calF4 : ((Tryd.prog.fieldsOf 34)[4]?).map (·.type) = some 9 := by kernel_rfl
theorem calF5 : ((Tryd.prog.fieldsOf 34)[5]?).map (·.type) = some 9 := by kernel_rfl
theorem calF6 : ((Tryd.prog.fieldsOf 34)[6]?).map (·.type) = some 9 := by kernel_rfl
theorem cal_of_trod {H : Type} {enc : TypeId × Value → H} {w : World} {base : Nat} {spare : Nat → Bool} {held : Bool} {fuel : Nat} {l : List Value} {x : DataW H × List MemPlace}
    (hf : DataW.trod enc Tryd.prog w base spare held fuel 34 l = some x) (hl0 : l.length = 7) : ∃ c : Cl, l = (cellsC c).toList := by
  obtain ⟨xs, n, -, hx, -, hlen, hg⟩ := DataW.trod_struct calUnd hf
  obtain ⟨u0, l0, rfl, hl1⟩ := list_cons' hl0
  obtain ⟨u1, l1, rfl, hl2⟩ := list_cons' hl1
  obtain ⟨u2, l2, rfl, hl3⟩ := list_cons' hl2
  obtain ⟨u3, l3, rfl, hl4⟩ := list_cons' hl3
  obtain ⟨u4, l4, rfl, hl5⟩ := list_cons' hl4
  obtain ⟨u5, l5, rfl, hl6⟩ := list_cons' hl5
  obtain ⟨u6, l6, rfl, hl7⟩ := list_cons' hl6
  obtain rfl := list_nil' hl7
  obtain ⟨f0, hf0, ht0⟩ : ∃ f, (Tryd.prog.fieldsOf 34)[0]? = some f ∧ f.type = 32 := by have := calF0; rw [Option.map_eq_some_iff] at this; exact this
  obtain ⟨y0, hy0, hr0⟩ := field_at' calOne hlen hg 0 f0 hf0 u0 rfl
  rw [ht0] at hr0
  obtain ⟨x0, hc0, he0, wf0⟩ := DataW.trod_int Tryd.underlying32 hr0
  obtain rfl := List.head_eq_of_cons_eq hc0
  obtain ⟨f1, hf1, ht1⟩ : ∃ f, (Tryd.prog.fieldsOf 34)[1]? = some f ∧ f.type = 9 := by have := calF1; rw [Option.map_eq_some_iff] at this; exact this
  obtain ⟨y1, hy1, hr1⟩ := field_at' calOne hlen hg 1 f1 hf1 u1 rfl
  rw [ht1] at hr1
  obtain ⟨x1, hc1, he1, hs1⟩ := DataW.trod_string Tryd.underlying9 hr1
  obtain rfl := List.head_eq_of_cons_eq hc1
  obtain ⟨f2, hf2, ht2⟩ : ∃ f, (Tryd.prog.fieldsOf 34)[2]? = some f ∧ f.type = 23 := by have := calF2; rw [Option.map_eq_some_iff] at this; exact this
  obtain ⟨y2, hy2, hr2⟩ := field_at' calOne hlen hg 2 f2 hf2 u2 rfl
  rw [ht2] at hr2
  obtain ⟨x2, hc2, he2, wf2⟩ := DataW.trod_int Tryd.underlying23 hr2
  obtain rfl := List.head_eq_of_cons_eq hc2
  obtain ⟨f3, hf3, ht3⟩ : ∃ f, (Tryd.prog.fieldsOf 34)[3]? = some f ∧ f.type = 2 := by have := calF3; rw [Option.map_eq_some_iff] at this; exact this
  obtain ⟨y3, hy3, hr3⟩ := field_at' calOne hlen hg 3 f3 hf3 u3 rfl
  rw [ht3] at hr3
  obtain ⟨x3, hc3, he3, wf3⟩ := DataW.trod_int Tryd.underlying2 hr3
  obtain rfl := List.head_eq_of_cons_eq hc3
  obtain ⟨f4, hf4, ht4⟩ : ∃ f, (Tryd.prog.fieldsOf 34)[4]? = some f ∧ f.type = 9 := by have := calF4; rw [Option.map_eq_some_iff] at this; exact this
  obtain ⟨y4, hy4, hr4⟩ := field_at' calOne hlen hg 4 f4 hf4 u4 rfl
  rw [ht4] at hr4
  obtain ⟨x4, hc4, he4, hs4⟩ := DataW.trod_string Tryd.underlying9 hr4
  obtain rfl := List.head_eq_of_cons_eq hc4
  obtain ⟨f5, hf5, ht5⟩ : ∃ f, (Tryd.prog.fieldsOf 34)[5]? = some f ∧ f.type = 9 := by have := calF5; rw [Option.map_eq_some_iff] at this; exact this
  obtain ⟨y5, hy5, hr5⟩ := field_at' calOne hlen hg 5 f5 hf5 u5 rfl
  rw [ht5] at hr5
  obtain ⟨x5, hc5, he5, hs5⟩ := DataW.trod_string Tryd.underlying9 hr5
  obtain rfl := List.head_eq_of_cons_eq hc5
  obtain ⟨f6, hf6, ht6⟩ : ∃ f, (Tryd.prog.fieldsOf 34)[6]? = some f ∧ f.type = 9 := by have := calF6; rw [Option.map_eq_some_iff] at this; exact this
  obtain ⟨y6, hy6, hr6⟩ := field_at' calOne hlen hg 6 f6 hf6 u6 rfl
  rw [ht6] at hr6
  obtain ⟨x6, hc6, he6, hs6⟩ := DataW.trod_string Tryd.underlying9 hr6
  obtain rfl := List.head_eq_of_cons_eq hc6
  exact ⟨⟨x0, x1, x2, x3, x4, x5, x6⟩, rfl⟩
theorem resOne : oneCellFields Tryd.prog (Tryd.prog.fieldsOf 44) = true := by kernel_rfl
theorem resUnd : Tryd.prog.underlying 44 = some (.struct (Tryd.prog.fieldsOf 44)) := by kernel_rfl
theorem resF0 : ((Tryd.prog.fieldsOf 44)[0]?).map (·.type) = some 42 := by kernel_rfl
theorem resF1 : ((Tryd.prog.fieldsOf 44)[1]?).map (·.type) = some 2 := by kernel_rfl
theorem resF2 : ((Tryd.prog.fieldsOf 44)[2]?).map (·.type) = some 9 := by kernel_rfl
theorem resF3 : ((Tryd.prog.fieldsOf 44)[3]?).map (·.type) = some 23 := by kernel_rfl
theorem res_of_trod {H : Type} {enc : TypeId × Value → H} {w : World} {base : Nat} {spare : Nat → Bool} {held : Bool} {fuel : Nat} {l : List Value} {x : DataW H × List MemPlace}
    (hf : DataW.trod enc Tryd.prog w base spare held fuel 44 l = some x) (hl0 : l.length = 4) : ∃ r : Rs, l = [.int .i64 r.err, .int .i64 r.size, .string r.zone, .int .u64 r.tag] := by
  obtain ⟨xs, n, -, hx, -, hlen, hg⟩ := DataW.trod_struct resUnd hf
  obtain ⟨u0, l0, rfl, hl1⟩ := list_cons' hl0
  obtain ⟨u1, l1, rfl, hl2⟩ := list_cons' hl1
  obtain ⟨u2, l2, rfl, hl3⟩ := list_cons' hl2
  obtain ⟨u3, l3, rfl, hl4⟩ := list_cons' hl3
  obtain rfl := list_nil' hl4
  obtain ⟨f0, hf0, ht0⟩ : ∃ f, (Tryd.prog.fieldsOf 44)[0]? = some f ∧ f.type = 42 := by have := resF0; rw [Option.map_eq_some_iff] at this; exact this
  obtain ⟨y0, hy0, hr0⟩ := field_at' resOne hlen hg 0 f0 hf0 u0 rfl
  rw [ht0] at hr0
  obtain ⟨x0, hc0, he0, wf0⟩ := DataW.trod_int Tryd.underlying42 hr0
  obtain rfl := List.head_eq_of_cons_eq hc0
  obtain ⟨f1, hf1, ht1⟩ : ∃ f, (Tryd.prog.fieldsOf 44)[1]? = some f ∧ f.type = 2 := by have := resF1; rw [Option.map_eq_some_iff] at this; exact this
  obtain ⟨y1, hy1, hr1⟩ := field_at' resOne hlen hg 1 f1 hf1 u1 rfl
  rw [ht1] at hr1
  obtain ⟨x1, hc1, he1, wf1⟩ := DataW.trod_int Tryd.underlying2 hr1
  obtain rfl := List.head_eq_of_cons_eq hc1
  obtain ⟨f2, hf2, ht2⟩ : ∃ f, (Tryd.prog.fieldsOf 44)[2]? = some f ∧ f.type = 9 := by have := resF2; rw [Option.map_eq_some_iff] at this; exact this
  obtain ⟨y2, hy2, hr2⟩ := field_at' resOne hlen hg 2 f2 hf2 u2 rfl
  rw [ht2] at hr2
  obtain ⟨x2, hc2, he2, hs2⟩ := DataW.trod_string Tryd.underlying9 hr2
  obtain rfl := List.head_eq_of_cons_eq hc2
  obtain ⟨f3, hf3, ht3⟩ : ∃ f, (Tryd.prog.fieldsOf 44)[3]? = some f ∧ f.type = 23 := by have := resF3; rw [Option.map_eq_some_iff] at this; exact this
  obtain ⟨y3, hy3, hr3⟩ := field_at' resOne hlen hg 3 f3 hf3 u3 rfl
  rw [ht3] at hr3
  obtain ⟨x3, hc3, he3, wf3⟩ := DataW.trod_int Tryd.underlying23 hr3
  obtain rfl := List.head_eq_of_cons_eq hc3
  exact ⟨⟨x0, x1, x2, x3⟩, rfl⟩

/-- A reply. -/
structure Rep where
  k : Int
  n : ByteArray
  c : Cl
  own : Bool
  r : Rs
def cellsY (y : Rep) : Array Value := #[.int .u8 y.k, .string y.n, .int .u8 y.c.verb, .string y.c.target, .int .u64 y.c.num, .int .i64 y.c.size, .string y.c.zone, .string y.c.node, .string y.c.source, .bool y.own, .int .i64 y.r.err, .int .i64 y.r.size, .string y.r.zone, .int .u64 y.r.tag]
def encY (y : Rep) : Value := .agg (cellsY y)
theorem repUnd : Tryd.prog.underlying 46 = some (.struct (Tryd.prog.fieldsOf 46)) := by kernel_rfl
theorem repCells : Tryd.prog.cellsOf 46 = 14 := by kernel_rfl
theorem repSize : (Tryd.prog.fieldsOf 46).size = 4 := by kernel_rfl
theorem repF0 : ((Tryd.prog.fieldsOf 46)[0]?).map (fun f => (f.type, f.offset)) = some (41, 0) := by kernel_rfl
theorem repC0 : Tryd.prog.cellsOf 41 = 2 := by kernel_rfl
theorem repF1 : ((Tryd.prog.fieldsOf 46)[1]?).map (fun f => (f.type, f.offset)) = some (34, 2) := by kernel_rfl
theorem repC1 : Tryd.prog.cellsOf 34 = 7 := by kernel_rfl
theorem repF2 : ((Tryd.prog.fieldsOf 46)[2]?).map (fun f => (f.type, f.offset)) = some (4, 9) := by kernel_rfl
theorem repC2 : Tryd.prog.cellsOf 4 = 1 := by kernel_rfl
theorem repF3 : ((Tryd.prog.fieldsOf 46)[3]?).map (fun f => (f.type, f.offset)) = some (44, 10) := by kernel_rfl
theorem repC3 : Tryd.prog.cellsOf 44 = 4 := by kernel_rfl

set_option maxRecDepth 100000 in
theorem open_reply {H : Type} {enc : TypeId × Value → H} {w : World} {base : Nat} {spare : Nat → Bool} {held : Bool} {r : Reach} {b0 : Nat} {v : Value} {d : DataW H} {p : List MemPlace}
    (hv : Value.okWide Tryd.prog w r b0 46 v) (h : DataW.Trod enc Tryd.prog w base spare held 46 v d p) : ∃ y : Rep, v = encY y := by
  obtain ⟨cs, rfl, hsz⟩ := okWide_struct repUnd hv
  rw [repCells] at hsz
  obtain ⟨l⟩ := cs
  obtain ⟨fuel, hf⟩ := h
  obtain ⟨xs, n, -, hx, -, hlen, hg⟩ := DataW.trod_struct repUnd hf
  rw [repSize] at hlen
  have hl0 : l.length = 14 := by simpa using hsz
  obtain ⟨u0, l0, rfl, hl1⟩ := list_cons' hl0
  obtain ⟨u1, l1, rfl, hl2⟩ := list_cons' hl1
  obtain ⟨u2, l2, rfl, hl3⟩ := list_cons' hl2
  obtain ⟨u3, l3, rfl, hl4⟩ := list_cons' hl3
  obtain ⟨u4, l4, rfl, hl5⟩ := list_cons' hl4
  obtain ⟨u5, l5, rfl, hl6⟩ := list_cons' hl5
  obtain ⟨u6, l6, rfl, hl7⟩ := list_cons' hl6
  obtain ⟨u7, l7, rfl, hl8⟩ := list_cons' hl7
  obtain ⟨u8, l8, rfl, hl9⟩ := list_cons' hl8
  obtain ⟨u9, l9, rfl, hl10⟩ := list_cons' hl9
  obtain ⟨u10, l10, rfl, hl11⟩ := list_cons' hl10
  obtain ⟨u11, l11, rfl, hl12⟩ := list_cons' hl11
  obtain ⟨u12, l12, rfl, hl13⟩ := list_cons' hl12
  obtain ⟨u13, l13, rfl, hl14⟩ := list_cons' hl13
  obtain rfl := list_nil' hl14
  have e0 : ∃ y, DataW.trod enc Tryd.prog w base spare held n 41 [u0, u1] = some y := by
    obtain ⟨f, hf0, hp⟩ : ∃ f, (Tryd.prog.fieldsOf 46)[0]? = some f ∧ (f.type, f.offset) = (41, 0) := by have := repF0; rw [Option.map_eq_some_iff] at this; exact this
    obtain ⟨h1, h2⟩ := Prod.mk.inj hp
    have h3 := hg 0 f hf0
    rw [h1, h2, repC0] at h3
    exact ⟨xs[0]'(by omega), h3.trans (List.getElem?_eq_getElem (by omega))⟩
  obtain ⟨y0, e0⟩ := e0
  have e1 : ∃ y, DataW.trod enc Tryd.prog w base spare held n 34 [u2, u3, u4, u5, u6, u7, u8] = some y := by
    obtain ⟨f, hf0, hp⟩ : ∃ f, (Tryd.prog.fieldsOf 46)[1]? = some f ∧ (f.type, f.offset) = (34, 2) := by have := repF1; rw [Option.map_eq_some_iff] at this; exact this
    obtain ⟨h1, h2⟩ := Prod.mk.inj hp
    have h3 := hg 1 f hf0
    rw [h1, h2, repC1] at h3
    exact ⟨xs[1]'(by omega), h3.trans (List.getElem?_eq_getElem (by omega))⟩
  obtain ⟨y1, e1⟩ := e1
  have e2 : ∃ y, DataW.trod enc Tryd.prog w base spare held n 4 [u9] = some y := by
    obtain ⟨f, hf0, hp⟩ : ∃ f, (Tryd.prog.fieldsOf 46)[2]? = some f ∧ (f.type, f.offset) = (4, 9) := by have := repF2; rw [Option.map_eq_some_iff] at this; exact this
    obtain ⟨h1, h2⟩ := Prod.mk.inj hp
    have h3 := hg 2 f hf0
    rw [h1, h2, repC2] at h3
    exact ⟨xs[2]'(by omega), h3.trans (List.getElem?_eq_getElem (by omega))⟩
  obtain ⟨y2, e2⟩ := e2
  have e3 : ∃ y, DataW.trod enc Tryd.prog w base spare held n 44 [u10, u11, u12, u13] = some y := by
    obtain ⟨f, hf0, hp⟩ : ∃ f, (Tryd.prog.fieldsOf 46)[3]? = some f ∧ (f.type, f.offset) = (44, 10) := by have := repF3; rw [Option.map_eq_some_iff] at this; exact this
    obtain ⟨h1, h2⟩ := Prod.mk.inj hp
    have h3 := hg 3 f hf0
    rw [h1, h2, repC3] at h3
    exact ⟨xs[3]'(by omega), h3.trans (List.getElem?_eq_getElem (by omega))⟩
  obtain ⟨y3, e3⟩ := e3
  obtain ⟨k, m, h0⟩ := key_of_trod e0 rfl
  obtain ⟨c, h1⟩ := cal_of_trod e1 rfl
  obtain ⟨own, hb, -⟩ := DataW.trod_bool Tryd.underlying4 e2
  obtain ⟨q, h3⟩ := res_of_trod e3 rfl
  have h1' : [u2, u3, u4, u5, u6, u7, u8] = [.int .u8 c.verb, .string c.target, .int .u64 c.num, .int .i64 c.size, .string c.zone, .string c.node, .string c.source] := h1
  simp only [List.cons.injEq, and_true] at h0 h1' hb h3
  refine ⟨⟨k, m, c, own, q⟩, ?_⟩
  unfold encY cellsY
  simp only [h0, h1', hb, h3]
end Go.Proofs.YtijgieefmnmakaaDoor.O.B
namespace Go.Proofs.YtijgieefmnmakaaDoor.O.B
open Go Go.RowKit Go.Shelf Go.Lib RangeMap KM
attribute [local go_sem] Oper.semAt_some

def BoxY (W : World) (b : Nat) (y : Rep) : Prop := W.heap[b]? = some (.cells (cellsY y) 46 (0, 0))
theorem BoxY.after {W W' : World} {b : Nat} {y : Rep} (h : BoxY W b y) (hb : Below W.heap.size W W') : BoxY W' b y := (hb.block b (Array.getElem?_eq_some_iff.1 h).1).trans h
theorem BoxY.lt {W : World} {b : Nat} {y : Rep} (h : BoxY W b y) : b < W.heap.size := (Array.getElem?_eq_some_iff.1 h).1
theorem BoxY.cells {W : World} {b : Nat} {y : Rep} (h : BoxY W b y) : W.cell? ⟨b, 0, none⟩ = some (.int .u8 y.k) ∧ W.cell? ⟨b, 1, none⟩ = some (.string y.n) ∧ W.cell? ⟨b, 9, none⟩ = some (.bool y.own) :=
  ⟨(cell_of_row W b 0 _ _ _ h).trans rfl, (cell_of_row W b 1 _ _ _ h).trans rfl, (cell_of_row W b 9 _ _ _ h).trans rfl⟩
theorem BoxY.callAt {W : World} {b : Nat} {y : Rep} (h : BoxY W b y) : W.rangeAt b 2 (cellsC y.c).toList := by
  have e : ((cellsY y).extract 2 (2 + 7)).toList = (cellsC y.c).toList := by kernel_rfl
  rw [← e]
  exact World.rangeAt_of_block h 2 7
theorem BoxY.keyAt {W : World} {b : Nat} {y : Rep} (h : BoxY W b y) : W.rangeAt b 0 (#[Value.int .u8 y.k, .string y.n]).toList := by
  have e : ((cellsY y).extract 0 (0 + 2)).toList = (#[Value.int .u8 y.k, .string y.n]).toList := by kernel_rfl
  rw [← e]
  exact World.rangeAt_of_block h 0 2
theorem BoxY.resAt {W : World} {b : Nat} {y : Rep} (h : BoxY W b y) : W.rangeAt b 10 (#[Value.int .i64 y.r.err, .int .i64 y.r.size, .string y.r.zone, .int .u64 y.r.tag]).toList := by
  have e : ((cellsY y).extract 10 (10 + 4)).toList = (#[Value.int .i64 y.r.err, .int .i64 y.r.size, .string y.r.zone, .int .u64 y.r.tag]).toList := by kernel_rfl
  rw [← e]
  exact World.rangeAt_of_block h 10 4
theorem undRes : Tryd.prog.underlying 44 = some (.struct (Tryd.prog.fieldsOf 44)) := by kernel_rfl
theorem sizeRes : (Tryd.prog.info? 44).map (·.size) = some 4 := by kernel_rfl
theorem sizeRep : (Tryd.prog.info? 46).map (·.size) = some 14 := by kernel_rfl
theorem load_keyAt {W : World} {b : Nat} {y : Rep} (h : BoxY W b y) {oi : Oper} {a : Act} {x : Operand} (ho : oi.op = .load 41 x) (hx : a.eval x = .pointer (some ⟨b, 0, none⟩)) :
    (execOp a.eval oi).run Tryd.prog W = .ok (.value (encK y.k y.n)) W := by
  have h1 := run_loadAt_mid (P := Tryd.prog) W b 0 41 _ _ h.keyAt undKey rfl sizeKey
  unfold execOp
  simp only [ho, hx, Sem.run_bind, h1, Result.andThen_ok, Sem.run_pure]
  rfl
theorem load_resAt {W : World} {b : Nat} {y : Rep} (h : BoxY W b y) {oi : Oper} {a : Act} {x : Operand} (ho : oi.op = .load 44 x) (hx : a.eval x = .pointer (some ⟨b, 10, none⟩)) :
    (execOp a.eval oi).run Tryd.prog W = .ok (.value (encR y.r)) W := by
  have h1 := run_loadAt_mid (P := Tryd.prog) W b 10 44 _ _ h.resAt undRes rfl sizeRes
  unfold execOp
  simp only [ho, hx, Sem.run_bind, h1, Result.andThen_ok, Sem.run_pure]
  rfl
theorem load_rep {W : World} {b : Nat} {y : Rep} (h : BoxY W b y) {oi : Oper} {a : Act} {x : Operand} (ho : oi.op = .load 46 x) (hx : a.eval x = .pointer (some ⟨b, 0, none⟩)) :
    (execOp a.eval oi).run Tryd.prog W = .ok (.value (encY y)) W := by
  unfold execOp
  simp only [ho, hx, Instr.loadAt, Instr.sureAddr, Sem.run_bind, Sem.run_pure, Result.andThen_ok, run_loadVar_row W b 46 46 (cellsY y) (0, 0) _ h repUnd rfl sizeRep]
  rfl
theorem one_cellsC' (c : Cl) : (cellsC c).all (·.oneCell') = true := by simp [cellsC, Value.oneCell']
theorem calling {W : World} {b : Nat} {p : Cl} (h : BoxC W b p) (x : Cl) : ∃ V, (∀ {oi : Oper} {a : Act} {r q : Operand}, oi.op = .store 34 r q → a.eval r = .pointer (some ⟨b, 0, none⟩) → a.eval q = encC x → (execOp a.eval oi).run Tryd.prog W = .ok .skip V) ∧
    BoxC V b x ∧ (∀ g, g ≠ b → V.heap[g]? = W.heap[g]?) ∧ (∀ B A, Below B A W → B ≤ b → Below B A V) :=
  ⟨W.setRow b (cellsC x), fun {oi a r q} ho hx hy => by
    have h1 := run_storeVar_row (P := Tryd.prog) W b 34 34 (cellsC p) (cellsC x) h sizeCall rfl (one_cellsC' x)
    unfold execOp
    have hy' : a.eval q = .agg (cellsC x) := hy
    simp [ho, hx, hy', Instr.storeAt, Instr.sureAddr, h1, Result.andThen], setRow_heap W b _ _ _ _ h, fun g hg => setRow_other W b g _ hg, fun _ _ h1 h2 => below_setRow h1 h2 _⟩
theorem exec_actcall {W : World} {A : Ac} {oi : Oper} {a : Act} {x : Operand} (ho : oi.op = .field 36 x 2) (hx : a.eval x = encA A) :
    (execOp a.eval oi).run Tryd.prog W = .ok (.value (encC A.call)) W := by
  unfold execOp
  simp only [ho, hx]
  kernel_rfl
def N0 : Cl := ⟨0, E0, 0, 0, E0, E0, E0⟩
def askedY (l : List Obj) (ver : Int) (y : Rep) : Cl := if y.own = false then y.c else if y.k = 3 then (claimD l ver y.n).call else (snapD l ver y.n).call

set_option maxRecDepth 100000 in
set_option maxHeartbeats 4000000 in
theorem askedY_any (l : List Obj) (v : Value) (ver : Int) (y : Rep) (w : World) (hl : ObjsIn w v l) (hlen : l.length < 100000) (ht : Tab w) (hall : ∀ s ∈ l, (0 ≤ s.born ∧ s.born ≤ 18446744073709551615) ∧ s.name.size ≤ 140737488351232) :
    Calls Tryd.prog 20 #[v, .int .u64 ver, encY y] w fun e w' => e = .returned (encC (askedY l ver y)) ∧ Below w.heap.size w w' := by
  obtain ⟨o, cp, rfl, -, -⟩ := id hl
  have HL := Lib.hid hl
  have HT := Lib.hid ht
  have HCC := Lib.hid (fun V (hV : ObjsIn V (.slice o l.length cp) l) => rclaimD_any l _ ver y.n V hV hlen)
  have HSS := Lib.hid (fun V (hV : ObjsIn V (.slice o l.length cp) l) (hT : Tab V) => rsnapD_any l _ ver y.n V hV hlen hT hall)
  clear hl ht hlen hall
  obtain ⟨x, hx⟩ : ∃ x, askedY l ver y = x := ⟨_, rfl⟩
  rw [hx]
  unfold askedY at hx
  generalize claimD l ver y.n = A at *
  generalize snapD l ver y.n = B at *
  have HXX := Lib.hid hx
  clear hx
  have HYE : Hid (encY y = .agg (cellsY y)) := rfl
  rw [HYE.out]
  unfold cellsY
  go_enter Tryd.func20, Tryd.ntmps20
  go_upto_region 1 with (fail)
  refine wp_gen (fun V => BoxY V w.heap.size y ∧ BoxC V (w.heap.size + 1) N0 ∧ Below w.heap.size w V) (chain2 w _ _) ?_
  rintro V ⟨hy, hc, hlw⟩
  obtain ⟨y0, y1, y9⟩ := hy.cells
  have hca := hy.callAt
  have HO := Lib.hid hc
  have HW := Lib.hid hlw
  have HLV := Lib.hid (HL.out.after hlw)
  have HTV := Lib.hid (HT.out.after hlw)
  clear hy hc hlw HL HT HYE
  by_cases ho : y.own = false
  · have HVV : Hid (x = y.c) := HXX.out.symm.trans (if_pos ho)
    rw [ho] at y9
    clear HXX ho HCC HSS HLV HTV
    obtain ⟨V8, hst8, ho8, -, hb8⟩ := calling HO.out y.c
    have HO8 := Lib.hid ho8
    have HX8 := Lib.hid (hb8 _ _ HW.out (by omega))
    clear ho8 hb8
    go_wp2_with (first | (refine wpList_got rfl (load_callAt hca rfl rfl) ?_) | (refine wpList_skip rfl (hst8 rfl rfl rfl) ?_))
    refine bodyPost_ret (v := encC y.c) (results_cell_row rfl _ _ (w.heap.size + 1) 34 (cellsC y.c) (0, 0) _ rfl HO8.out undCall rfl sizeCall) rfl ?_
    exact ⟨by rw [HVV.out], HX8.out⟩
  · have hx2 := HXX.out.symm.trans (if_neg ho)
    have ho' : y.own = true := by simpa using ho
    rw [ho'] at y9
    clear HXX ho ho'
    by_cases h3 : y.k = 3
    · have e3 : (y.k == 3) = true := by simpa using h3
      have HVV : Hid (x = A.call) := hx2.trans (if_pos h3)
      have HC := Lib.hid (HCC.out V HLV.out)
      clear hx2 h3 HCC HSS HLV HTV
      go_wp2_with (fail)
      refine HC.out.mono ?_
      rintro e W6 ⟨rfl, hb6⟩
      obtain ⟨V8, hst8, ho8, -, hb8⟩ := calling (show BoxC W6 (w.heap.size + 1) N0 from HO.out.after hb6) A.call
      have HO8 := Lib.hid ho8
      have HX8 := Lib.hid (hb8 _ _ (HW.out.trans (hb6.mono HW.out.size)) (by omega))
      clear ho8 hb8 HC HO HW hb6
      go_wp2_with (first | (refine wpList_got rfl (exec_actcall (A := A) rfl rfl) ?_) | (refine wpList_skip rfl (hst8 rfl rfl rfl) ?_))
      refine bodyPost_ret (v := encC A.call) (results_cell_row rfl _ _ (w.heap.size + 1) 34 (cellsC A.call) (0, 0) _ rfl HO8.out undCall rfl sizeCall) rfl ?_
      exact ⟨by rw [HVV.out], HX8.out⟩
    · have e3 : (y.k == 3) = false := by simpa using h3
      have HVV : Hid (x = B.call) := hx2.trans (if_neg h3)
      have HC := Lib.hid (HSS.out V HLV.out HTV.out)
      clear hx2 h3 HCC HSS HLV HTV
      go_wp2_with (fail)
      refine HC.out.mono ?_
      rintro e W6 ⟨rfl, hb6⟩
      obtain ⟨V8, hst8, ho8, -, hb8⟩ := calling (show BoxC W6 (w.heap.size + 1) N0 from HO.out.after hb6) B.call
      have HO8 := Lib.hid ho8
      have HX8 := Lib.hid (hb8 _ _ (HW.out.trans (hb6.mono HW.out.size)) (by omega))
      clear ho8 hb8 HC HO HW hb6
      go_wp2_with (first | (refine wpList_got rfl (exec_actcall (A := B) rfl rfl) ?_) | (refine wpList_skip rfl (hst8 rfl rfl rfl) ?_))
      refine bodyPost_ret (v := encC B.call) (results_cell_row rfl _ _ (w.heap.size + 1) 34 (cellsC B.call) (0, 0) _ rfl HO8.out undCall rfl sizeCall) rfl ?_
      exact ⟨by rw [HVV.out], HX8.out⟩
end Go.Proofs.YtijgieefmnmakaaDoor.O.B
