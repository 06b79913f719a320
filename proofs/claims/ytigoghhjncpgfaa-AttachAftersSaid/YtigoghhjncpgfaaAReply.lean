/- A reply as it comes in: a name, a call, whether it is the call that is asked, and what it came to. -/
import Derived.Test.YtigoghhjncpgfaaKOpen
import Derived.Test.YtigoghhjncpgfaaAAsked
namespace Go.Proofs.Ytigoghhjncpgfaa.O.B
open Go.ChangeShapes Go.WideShapes Go.RowKit Go.Deep Go.Lib
open Go.ChangeMaps (open_string)

theorem calOne : oneCellFields Try.prog (Try.prog.fieldsOf 40) = true := by kernel_rfl
theorem calUnd : Try.prog.underlying 40 = some (.struct (Try.prog.fieldsOf 40)) := by kernel_rfl
theorem calF0 : ((Try.prog.fieldsOf 40)[0]?).map (·.type) = some 38 := by kernel_rfl
theorem calF1 : ((Try.prog.fieldsOf 40)[1]?).map (·.type) = some 9 := by kernel_rfl
theorem calF2 : ((Try.prog.fieldsOf 40)[2]?).map (·.type) = some 31 := by kernel_rfl
theorem calF3 : ((Try.prog.fieldsOf 40)[3]?).map (·.type) = some 2 := by kernel_rfl
theorem calF4 : ((Try.prog.fieldsOf 40)[4]?).map (·.type) = some 9 := by kernel_rfl
theorem calF5 : ((Try.prog.fieldsOf 40)[5]?).map (·.type) = some 9 := by kernel_rfl
theorem calF6 : ((Try.prog.fieldsOf 40)[6]?).map (·.type) = some 9 := by kernel_rfl
theorem cal_of_trod {H : Type} {enc : TypeId × Value → H} {w : World} {base : Nat} {spare : Nat → Bool} {held : Bool} {fuel : Nat} {l : List Value} {x : DataW H × List MemPlace}
    (hf : DataW.trod enc Try.prog w base spare held fuel 40 l = some x) (hl0 : l.length = 7) : ∃ c : Cl, l = (cellsC c).toList := by
  obtain ⟨xs, n, -, hx, -, hlen, hg⟩ := DataW.trod_struct calUnd hf
  obtain ⟨u0, l0, rfl, hl1⟩ := list_cons' hl0
  obtain ⟨u1, l1, rfl, hl2⟩ := list_cons' hl1
  obtain ⟨u2, l2, rfl, hl3⟩ := list_cons' hl2
  obtain ⟨u3, l3, rfl, hl4⟩ := list_cons' hl3
  obtain ⟨u4, l4, rfl, hl5⟩ := list_cons' hl4
  obtain ⟨u5, l5, rfl, hl6⟩ := list_cons' hl5
  obtain ⟨u6, l6, rfl, hl7⟩ := list_cons' hl6
  obtain rfl := list_nil' hl7
  obtain ⟨f0, hf0, ht0⟩ : ∃ f, (Try.prog.fieldsOf 40)[0]? = some f ∧ f.type = 38 := by have := calF0; rw [Option.map_eq_some_iff] at this; exact this
  obtain ⟨y0, hy0, hr0⟩ := field_at' calOne hlen hg 0 f0 hf0 u0 rfl
  rw [ht0] at hr0
  obtain ⟨x0, hc0, he0, wf0⟩ := DataW.trod_int Try.underlying38 hr0
  obtain rfl := List.head_eq_of_cons_eq hc0
  obtain ⟨f1, hf1, ht1⟩ : ∃ f, (Try.prog.fieldsOf 40)[1]? = some f ∧ f.type = 9 := by have := calF1; rw [Option.map_eq_some_iff] at this; exact this
  obtain ⟨y1, hy1, hr1⟩ := field_at' calOne hlen hg 1 f1 hf1 u1 rfl
  rw [ht1] at hr1
  obtain ⟨x1, hc1, he1, hs1⟩ := DataW.trod_string Try.underlying9 hr1
  obtain rfl := List.head_eq_of_cons_eq hc1
  obtain ⟨f2, hf2, ht2⟩ : ∃ f, (Try.prog.fieldsOf 40)[2]? = some f ∧ f.type = 31 := by have := calF2; rw [Option.map_eq_some_iff] at this; exact this
  obtain ⟨y2, hy2, hr2⟩ := field_at' calOne hlen hg 2 f2 hf2 u2 rfl
  rw [ht2] at hr2
  obtain ⟨x2, hc2, he2, wf2⟩ := DataW.trod_int Try.underlying31 hr2
  obtain rfl := List.head_eq_of_cons_eq hc2
  obtain ⟨f3, hf3, ht3⟩ : ∃ f, (Try.prog.fieldsOf 40)[3]? = some f ∧ f.type = 2 := by have := calF3; rw [Option.map_eq_some_iff] at this; exact this
  obtain ⟨y3, hy3, hr3⟩ := field_at' calOne hlen hg 3 f3 hf3 u3 rfl
  rw [ht3] at hr3
  obtain ⟨x3, hc3, he3, wf3⟩ := DataW.trod_int Try.underlying2 hr3
  obtain rfl := List.head_eq_of_cons_eq hc3
  obtain ⟨f4, hf4, ht4⟩ : ∃ f, (Try.prog.fieldsOf 40)[4]? = some f ∧ f.type = 9 := by have := calF4; rw [Option.map_eq_some_iff] at this; exact this
  obtain ⟨y4, hy4, hr4⟩ := field_at' calOne hlen hg 4 f4 hf4 u4 rfl
  rw [ht4] at hr4
  obtain ⟨x4, hc4, he4, hs4⟩ := DataW.trod_string Try.underlying9 hr4
  obtain rfl := List.head_eq_of_cons_eq hc4
  obtain ⟨f5, hf5, ht5⟩ : ∃ f, (Try.prog.fieldsOf 40)[5]? = some f ∧ f.type = 9 := by have := calF5; rw [Option.map_eq_some_iff] at this; exact this
  obtain ⟨y5, hy5, hr5⟩ := field_at' calOne hlen hg 5 f5 hf5 u5 rfl
  rw [ht5] at hr5
  obtain ⟨x5, hc5, he5, hs5⟩ := DataW.trod_string Try.underlying9 hr5
  obtain rfl := List.head_eq_of_cons_eq hc5
  obtain ⟨f6, hf6, ht6⟩ : ∃ f, (Try.prog.fieldsOf 40)[6]? = some f ∧ f.type = 9 := by have := calF6; rw [Option.map_eq_some_iff] at this; exact this
  obtain ⟨y6, hy6, hr6⟩ := field_at' calOne hlen hg 6 f6 hf6 u6 rfl
  rw [ht6] at hr6
  obtain ⟨x6, hc6, he6, hs6⟩ := DataW.trod_string Try.underlying9 hr6
  obtain rfl := List.head_eq_of_cons_eq hc6
  exact ⟨⟨x0, x1, x2, x3, x4, x5, x6⟩, rfl⟩
theorem resOne : oneCellFields Try.prog (Try.prog.fieldsOf 47) = true := by kernel_rfl
theorem resUnd : Try.prog.underlying 47 = some (.struct (Try.prog.fieldsOf 47)) := by kernel_rfl
theorem resF0 : ((Try.prog.fieldsOf 47)[0]?).map (·.type) = some 45 := by kernel_rfl
theorem resF1 : ((Try.prog.fieldsOf 47)[1]?).map (·.type) = some 2 := by kernel_rfl
theorem resF2 : ((Try.prog.fieldsOf 47)[2]?).map (·.type) = some 9 := by kernel_rfl
theorem resF3 : ((Try.prog.fieldsOf 47)[3]?).map (·.type) = some 31 := by kernel_rfl
theorem res_of_trod {H : Type} {enc : TypeId × Value → H} {w : World} {base : Nat} {spare : Nat → Bool} {held : Bool} {fuel : Nat} {l : List Value} {x : DataW H × List MemPlace}
    (hf : DataW.trod enc Try.prog w base spare held fuel 47 l = some x) (hl0 : l.length = 4) : ∃ r : Rs, l = [.int .i64 r.err, .int .i64 r.size, .string r.zone, .int .u64 r.tag] := by
  obtain ⟨xs, n, -, hx, -, hlen, hg⟩ := DataW.trod_struct resUnd hf
  obtain ⟨u0, l0, rfl, hl1⟩ := list_cons' hl0
  obtain ⟨u1, l1, rfl, hl2⟩ := list_cons' hl1
  obtain ⟨u2, l2, rfl, hl3⟩ := list_cons' hl2
  obtain ⟨u3, l3, rfl, hl4⟩ := list_cons' hl3
  obtain rfl := list_nil' hl4
  obtain ⟨f0, hf0, ht0⟩ : ∃ f, (Try.prog.fieldsOf 47)[0]? = some f ∧ f.type = 45 := by have := resF0; rw [Option.map_eq_some_iff] at this; exact this
  obtain ⟨y0, hy0, hr0⟩ := field_at' resOne hlen hg 0 f0 hf0 u0 rfl
  rw [ht0] at hr0
  obtain ⟨x0, hc0, he0, wf0⟩ := DataW.trod_int Try.underlying45 hr0
  obtain rfl := List.head_eq_of_cons_eq hc0
  obtain ⟨f1, hf1, ht1⟩ : ∃ f, (Try.prog.fieldsOf 47)[1]? = some f ∧ f.type = 2 := by have := resF1; rw [Option.map_eq_some_iff] at this; exact this
  obtain ⟨y1, hy1, hr1⟩ := field_at' resOne hlen hg 1 f1 hf1 u1 rfl
  rw [ht1] at hr1
  obtain ⟨x1, hc1, he1, wf1⟩ := DataW.trod_int Try.underlying2 hr1
  obtain rfl := List.head_eq_of_cons_eq hc1
  obtain ⟨f2, hf2, ht2⟩ : ∃ f, (Try.prog.fieldsOf 47)[2]? = some f ∧ f.type = 9 := by have := resF2; rw [Option.map_eq_some_iff] at this; exact this
  obtain ⟨y2, hy2, hr2⟩ := field_at' resOne hlen hg 2 f2 hf2 u2 rfl
  rw [ht2] at hr2
  obtain ⟨x2, hc2, he2, hs2⟩ := DataW.trod_string Try.underlying9 hr2
  obtain rfl := List.head_eq_of_cons_eq hc2
  obtain ⟨f3, hf3, ht3⟩ : ∃ f, (Try.prog.fieldsOf 47)[3]? = some f ∧ f.type = 31 := by have := resF3; rw [Option.map_eq_some_iff] at this; exact this
  obtain ⟨y3, hy3, hr3⟩ := field_at' resOne hlen hg 3 f3 hf3 u3 rfl
  rw [ht3] at hr3
  obtain ⟨x3, hc3, he3, wf3⟩ := DataW.trod_int Try.underlying31 hr3
  obtain rfl := List.head_eq_of_cons_eq hc3
  exact ⟨⟨x0, x1, x2, x3⟩, rfl⟩

/-- A reply. -/
structure Rep where
  n : ByteArray
  c : Cl
  own : Bool
  r : Rs
def cellsY (y : Rep) : Array Value := #[.string y.n, .int .u8 y.c.verb, .string y.c.target, .int .u64 y.c.num, .int .i64 y.c.size, .string y.c.zone, .string y.c.node, .string y.c.source, .bool y.own, .int .i64 y.r.err, .int .i64 y.r.size, .string y.r.zone, .int .u64 y.r.tag]
def encY (y : Rep) : Value := .agg (cellsY y)
theorem repUnd : Try.prog.underlying 49 = some (.struct (Try.prog.fieldsOf 49)) := by kernel_rfl
theorem repCells : Try.prog.cellsOf 49 = 13 := by kernel_rfl
theorem repSize : (Try.prog.fieldsOf 49).size = 4 := by kernel_rfl
theorem repF0 : ((Try.prog.fieldsOf 49)[0]?).map (fun f => (f.type, f.offset)) = some (9, 0) := by kernel_rfl
theorem repC0 : Try.prog.cellsOf 9 = 1 := by kernel_rfl
theorem repF1 : ((Try.prog.fieldsOf 49)[1]?).map (fun f => (f.type, f.offset)) = some (40, 1) := by kernel_rfl
theorem repC1 : Try.prog.cellsOf 40 = 7 := by kernel_rfl
theorem repF2 : ((Try.prog.fieldsOf 49)[2]?).map (fun f => (f.type, f.offset)) = some (4, 8) := by kernel_rfl
theorem repC2 : Try.prog.cellsOf 4 = 1 := by kernel_rfl
theorem repF3 : ((Try.prog.fieldsOf 49)[3]?).map (fun f => (f.type, f.offset)) = some (47, 9) := by kernel_rfl
theorem repC3 : Try.prog.cellsOf 47 = 4 := by kernel_rfl

set_option maxRecDepth 100000 in
theorem open_reply {H : Type} {enc : TypeId × Value → H} {w : World} {base : Nat} {spare : Nat → Bool} {held : Bool} {r : Reach} {b0 : Nat} {v : Value} {d : DataW H} {p : List MemPlace}
    (hv : Value.okWide Try.prog w r b0 49 v) (h : DataW.Trod enc Try.prog w base spare held 49 v d p) : ∃ y : Rep, v = encY y := by
  obtain ⟨cs, rfl, hsz⟩ := okWide_struct repUnd hv
  rw [repCells] at hsz
  obtain ⟨l⟩ := cs
  obtain ⟨fuel, hf⟩ := h
  obtain ⟨xs, n, -, hx, -, hlen, hg⟩ := DataW.trod_struct repUnd hf
  rw [repSize] at hlen
  have hl0 : l.length = 13 := by simpa using hsz
  obtain ⟨u0, l0, rfl, hl1⟩ := list_cons' hl0
  obtain ⟨u1, l1, rfl, hl2⟩ := list_cons' hl1
  obtain ⟨u2, l2, rfl, hl3⟩ := list_cons' hl2
  obtain ⟨u3, l3, rfl, hl4⟩ := list_cons' hl3
  obtain ⟨u4, l4, rfl, hl5⟩ := list_cons' hl4
  obtain ⟨u5, l5, rfl, hl6⟩ := list_cons' hl5
  obtain ⟨u6, l6, rfl, hl7⟩ := list_cons' hl6
  obtain ⟨u7, l7, rfl, hl8⟩ := list_cons' hl7
  obtain ⟨u8, l8, rfl, hl9⟩ := list_cons' hl8
  obtain ⟨u9, l9, rfl, hl10⟩ := list_cons' hl9
  obtain ⟨u10, l10, rfl, hl11⟩ := list_cons' hl10
  obtain ⟨u11, l11, rfl, hl12⟩ := list_cons' hl11
  obtain ⟨u12, l12, rfl, hl13⟩ := list_cons' hl12
  obtain rfl := list_nil' hl13
  have e0 : ∃ y, DataW.trod enc Try.prog w base spare held n 9 [u0] = some y := by
    obtain ⟨f, hf0, hp⟩ : ∃ f, (Try.prog.fieldsOf 49)[0]? = some f ∧ (f.type, f.offset) = (9, 0) := by have := repF0; rw [Option.map_eq_some_iff] at this; exact this
    obtain ⟨h1, h2⟩ := Prod.mk.inj hp
    have h3 := hg 0 f hf0
    rw [h1, h2, repC0] at h3
    exact ⟨xs[0]'(by omega), h3.trans (List.getElem?_eq_getElem (by omega))⟩
  obtain ⟨y0, e0⟩ := e0
  have e1 : ∃ y, DataW.trod enc Try.prog w base spare held n 40 [u1, u2, u3, u4, u5, u6, u7] = some y := by
    obtain ⟨f, hf0, hp⟩ : ∃ f, (Try.prog.fieldsOf 49)[1]? = some f ∧ (f.type, f.offset) = (40, 1) := by have := repF1; rw [Option.map_eq_some_iff] at this; exact this
    obtain ⟨h1, h2⟩ := Prod.mk.inj hp
    have h3 := hg 1 f hf0
    rw [h1, h2, repC1] at h3
    exact ⟨xs[1]'(by omega), h3.trans (List.getElem?_eq_getElem (by omega))⟩
  obtain ⟨y1, e1⟩ := e1
  have e2 : ∃ y, DataW.trod enc Try.prog w base spare held n 4 [u8] = some y := by
    obtain ⟨f, hf0, hp⟩ : ∃ f, (Try.prog.fieldsOf 49)[2]? = some f ∧ (f.type, f.offset) = (4, 8) := by have := repF2; rw [Option.map_eq_some_iff] at this; exact this
    obtain ⟨h1, h2⟩ := Prod.mk.inj hp
    have h3 := hg 2 f hf0
    rw [h1, h2, repC2] at h3
    exact ⟨xs[2]'(by omega), h3.trans (List.getElem?_eq_getElem (by omega))⟩
  obtain ⟨y2, e2⟩ := e2
  have e3 : ∃ y, DataW.trod enc Try.prog w base spare held n 47 [u9, u10, u11, u12] = some y := by
    obtain ⟨f, hf0, hp⟩ : ∃ f, (Try.prog.fieldsOf 49)[3]? = some f ∧ (f.type, f.offset) = (47, 9) := by have := repF3; rw [Option.map_eq_some_iff] at this; exact this
    obtain ⟨h1, h2⟩ := Prod.mk.inj hp
    have h3 := hg 3 f hf0
    rw [h1, h2, repC3] at h3
    exact ⟨xs[3]'(by omega), h3.trans (List.getElem?_eq_getElem (by omega))⟩
  obtain ⟨y3, e3⟩ := e3
  obtain ⟨m, h0, -⟩ := DataW.trod_string Try.underlying9 e0
  obtain ⟨c, h1⟩ := cal_of_trod e1 rfl
  obtain ⟨own, hb, -⟩ := DataW.trod_bool Try.underlying4 e2
  obtain ⟨q, h3⟩ := res_of_trod e3 rfl
  have h1' : [u1, u2, u3, u4, u5, u6, u7] = [.int .u8 c.verb, .string c.target, .int .u64 c.num, .int .i64 c.size, .string c.zone, .string c.node, .string c.source] := h1
  simp only [List.cons.injEq, and_true] at h0 h1' hb h3
  refine ⟨⟨m, c, own, q⟩, ?_⟩
  unfold encY cellsY
  simp only [h0, h1', hb, h3]

def BoxY (W : World) (b : Nat) (y : Rep) : Prop := W.heap[b]? = some (.cells (cellsY y) 49 (0, 0))
theorem BoxY.after {W W' : World} {b : Nat} {y : Rep} (h : BoxY W b y) (hb : Below W.heap.size W W') : BoxY W' b y := (hb.block b (Array.getElem?_eq_some_iff.1 h).1).trans h
theorem BoxY.lt {W : World} {b : Nat} {y : Rep} (h : BoxY W b y) : b < W.heap.size := (Array.getElem?_eq_some_iff.1 h).1
theorem BoxY.cells {W : World} {b : Nat} {y : Rep} (h : BoxY W b y) : W.cell? ⟨b, 0, none⟩ = some (.string y.n) ∧ W.cell? ⟨b, 8, none⟩ = some (.bool y.own) :=
  ⟨(cell_of_row W b 0 _ _ _ h).trans rfl, (cell_of_row W b 8 _ _ _ h).trans rfl⟩
theorem BoxY.callAt {W : World} {b : Nat} {y : Rep} (h : BoxY W b y) : W.rangeAt b 1 (cellsC y.c).toList := by
  have e : ((cellsY y).extract 1 (1 + 7)).toList = (cellsC y.c).toList := by kernel_rfl
  rw [← e]
  exact World.rangeAt_of_block h 1 7
theorem BoxY.resAt {W : World} {b : Nat} {y : Rep} (h : BoxY W b y) : W.rangeAt b 9 (#[Value.int .i64 y.r.err, .int .i64 y.r.size, .string y.r.zone, .int .u64 y.r.tag]).toList := by
  have e : ((cellsY y).extract 9 (9 + 4)).toList = (#[Value.int .i64 y.r.err, .int .i64 y.r.size, .string y.r.zone, .int .u64 y.r.tag]).toList := by kernel_rfl
  rw [← e]
  exact World.rangeAt_of_block h 9 4
theorem sizeRep : (Try.prog.info? 49).map (·.size) = some 13 := by kernel_rfl
theorem load_resAt {W : World} {b : Nat} {y : Rep} (h : BoxY W b y) {oi : Oper} {a : Act} {x : Operand} (ho : oi.op = .load 47 x) (hx : a.eval x = .pointer (some ⟨b, 9, none⟩)) :
    (execOp a.eval oi).run Try.prog W = .ok (.value (encR y.r)) W := by
  have h1 := run_loadAt_mid (P := Try.prog) W b 9 47 _ _ h.resAt undRes rfl sizeRes
  unfold execOp
  simp only [ho, hx, Sem.run_bind, h1, Result.andThen_ok, Sem.run_pure]
  rfl
theorem load_rep {W : World} {b : Nat} {y : Rep} (h : BoxY W b y) {oi : Oper} {a : Act} {x : Operand} (ho : oi.op = .load 49 x) (hx : a.eval x = .pointer (some ⟨b, 0, none⟩)) :
    (execOp a.eval oi).run Try.prog W = .ok (.value (encY y)) W := by
  unfold execOp
  simp only [ho, hx, Instr.loadAt, Instr.sureAddr, Sem.run_bind, Sem.run_pure, Result.andThen_ok, run_loadVar_row W b 49 49 (cellsY y) (0, 0) _ h repUnd rfl sizeRep]
  rfl
theorem one_cellsC' (c : Cl) : (cellsC c).all (·.oneCell') = true := by simp [cellsC, Value.oneCell']
theorem calling {W : World} {b : Nat} {p : Cl} (h : BoxC W b p) (x : Cl) : ∃ V, (∀ {oi : Oper} {a : Act} {r q : Operand}, oi.op = .store 40 r q → a.eval r = .pointer (some ⟨b, 0, none⟩) → a.eval q = encC x → (execOp a.eval oi).run Try.prog W = .ok .skip V) ∧
    BoxC V b x ∧ (∀ g, g ≠ b → V.heap[g]? = W.heap[g]?) ∧ (∀ B A, Below B A W → B ≤ b → Below B A V) :=
  ⟨W.setRow b (cellsC x), fun {oi a r q} ho hx hy => by
    have h1 := run_storeVar_row (P := Try.prog) W b 40 40 (cellsC p) (cellsC x) h sizeCall rfl (one_cellsC' x)
    unfold execOp
    have hy' : a.eval q = .agg (cellsC x) := hy
    simp [ho, hx, hy', Instr.storeAt, Instr.sureAddr, h1, Result.andThen], setRow_heap W b _ _ _ _ h, fun g hg => setRow_other W b g _ hg, fun _ _ h1 h2 => below_setRow h1 h2 _⟩
theorem exec_actcall {W : World} {A : Ac} {oi : Oper} {a : Act} {x : Operand} (ho : oi.op = .field 42 x 2) (hx : a.eval x = encA A) :
    (execOp a.eval oi).run Try.prog W = .ok (.value (encC A.call)) W := by
  unfold execOp
  simp only [ho, hx]
  kernel_rfl
def N0 : Cl := ⟨0, E0, 0, 0, E0, E0, E0⟩

end Go.Proofs.Ytigoghhjncpgfaa.O.B
