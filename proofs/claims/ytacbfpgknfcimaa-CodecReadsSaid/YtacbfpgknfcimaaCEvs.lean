/- Objects and changes as they come in: their fields, and their bounds. A block that holds a change: what is read of it, and how it lasts. Two changes compared. -/
import Derived.Test.YtacbfpgknfcimaaORow
import Derived.Test.YtacbfpgknfcimaaCBase
import Derived.Test.YtacbfpgknfcimaaOUser
import Derived.Deep.MidRow
namespace Go.Proofs.Ytacbfpgknfcimaa.C
open Go.ChangeShapes Go.WideShapes Go.RowKit Go.Deep T O
open Go.ChangeMaps (open_string)

/-- What is known of an object that came in. -/
structure Fits (o : O.Obj) : Prop where
  name : o.name.size ≤ maxLen
  cls : o.cls.size ≤ maxLen
  zone : o.zone.size ≤ maxLen
  node : o.node.size ≤ maxLen
  claim : o.claim.size ≤ maxLen
  volume : o.volume.size ≤ maxLen
  source : o.source.size ≤ maxLen
  version : U64 o.version
  born : U64 o.born
  num : U64 o.num
  tag : U64 o.tag
theorem u64_wf {n : Int} (h : (Lit.int .u64 n).wf = true) : U64 n := by
  have := bounds_u64 h
  unfold U64
  omega
/-- Twenty cells that read as an object. -/
theorem cells_obj {H : Type} {enc : TypeId × Value → H} {w : World} {base : Nat} {spare : Nat → Bool} {held : Bool} {fuel : Nat} {l : List Value} {x : DataW H × List MemPlace} (hl0 : l.length = 20)
    (hf : DataW.trod enc Try.prog w base spare held fuel 27 l = some x) :
    ∃ o : O.Obj, l = (cellsO o).toList ∧ Fits o ∧ ((x.1.weights Try.prog 27).all (· ≤ reachBytes) = true → o.volume.size ≤ reachBytes ∧ o.node.size ≤ reachBytes) := by
  obtain ⟨xs, n, -, hx, -, hlen, hg⟩ := DataW.trod_struct undObj hf
  obtain ⟨u0, l0, rfl, hl1⟩ := list_cons hl0
  obtain ⟨u1, l1, rfl, hl2⟩ := list_cons hl1
  obtain ⟨u2, l2, rfl, hl3⟩ := list_cons hl2
  obtain ⟨u3, l3, rfl, hl4⟩ := list_cons hl3
  obtain ⟨u4, l4, rfl, hl5⟩ := list_cons hl4
  obtain ⟨u5, l5, rfl, hl6⟩ := list_cons hl5
  obtain ⟨u6, l6, rfl, hl7⟩ := list_cons hl6
  obtain ⟨u7, l7, rfl, hl8⟩ := list_cons hl7
  obtain ⟨u8, l8, rfl, hl9⟩ := list_cons hl8
  obtain ⟨u9, l9, rfl, hl10⟩ := list_cons hl9
  obtain ⟨u10, l10, rfl, hl11⟩ := list_cons hl10
  obtain ⟨u11, l11, rfl, hl12⟩ := list_cons hl11
  obtain ⟨u12, l12, rfl, hl13⟩ := list_cons hl12
  obtain ⟨u13, l13, rfl, hl14⟩ := list_cons hl13
  obtain ⟨u14, l14, rfl, hl15⟩ := list_cons hl14
  obtain ⟨u15, l15, rfl, hl16⟩ := list_cons hl15
  obtain ⟨u16, l16, rfl, hl17⟩ := list_cons hl16
  obtain ⟨u17, l17, rfl, hl18⟩ := list_cons hl17
  obtain ⟨u18, l18, rfl, hl19⟩ := list_cons hl18
  obtain ⟨u19, l19, rfl, hl20⟩ := list_cons hl19
  obtain rfl := list_nil hl20
  have hg' : ∀ (i : Nat) (f : Field), (Try.prog.fieldsOf 27)[i]? = some f → DataW.trod enc Try.prog w base spare held n f.type (([u0, u1, u2, u3, u4, u5, u6, u7, u8, u9, u10, u11, u12, u13, u14, u15, u16, u17, u18, u19].drop f.offset).take (Try.prog.cellsOf f.type)) = xs[i]? := fun i f hif => hg i f hif
  obtain ⟨f0, hf0, ht0⟩ : ∃ f, (Try.prog.fieldsOf 27)[0]? = some f ∧ f.type = 23 := by have := fld0; rw [Option.map_eq_some_iff] at this; exact this
  obtain ⟨y0, hy0, hr0⟩ := field_at oneObj hlen hg' 0 f0 hf0 u0 rfl
  rw [ht0] at hr0
  obtain ⟨x0, hc0, he0, -⟩ := DataW.trod_int Try.underlying23 hr0
  obtain rfl := List.head_eq_of_cons_eq hc0
  obtain ⟨f1, hf1, ht1⟩ : ∃ f, (Try.prog.fieldsOf 27)[1]? = some f ∧ f.type = 9 := by have := fld1; rw [Option.map_eq_some_iff] at this; exact this
  obtain ⟨y1, hy1, hr1⟩ := field_at oneObj hlen hg' 1 f1 hf1 u1 rfl
  rw [ht1] at hr1
  obtain ⟨x1, hc1, he1, hs1⟩ := DataW.trod_string Try.underlying9 hr1
  obtain rfl := List.head_eq_of_cons_eq hc1
  obtain ⟨f2, hf2, ht2⟩ : ∃ f, (Try.prog.fieldsOf 27)[2]? = some f ∧ f.type = 22 := by have := fld2; rw [Option.map_eq_some_iff] at this; exact this
  obtain ⟨y2, hy2, hr2⟩ := field_at oneObj hlen hg' 2 f2 hf2 u2 rfl
  rw [ht2] at hr2
  obtain ⟨x2, hc2, he2, wf2⟩ := DataW.trod_int Try.underlying22 hr2
  obtain rfl := List.head_eq_of_cons_eq hc2
  obtain ⟨f3, hf3, ht3⟩ : ∃ f, (Try.prog.fieldsOf 27)[3]? = some f ∧ f.type = 22 := by have := fld3; rw [Option.map_eq_some_iff] at this; exact this
  obtain ⟨y3, hy3, hr3⟩ := field_at oneObj hlen hg' 3 f3 hf3 u3 rfl
  rw [ht3] at hr3
  obtain ⟨x3, hc3, he3, wf3⟩ := DataW.trod_int Try.underlying22 hr3
  obtain rfl := List.head_eq_of_cons_eq hc3
  obtain ⟨f4, hf4, ht4⟩ : ∃ f, (Try.prog.fieldsOf 27)[4]? = some f ∧ f.type = 4 := by have := fld4; rw [Option.map_eq_some_iff] at this; exact this
  obtain ⟨y4, hy4, hr4⟩ := field_at oneObj hlen hg' 4 f4 hf4 u4 rfl
  rw [ht4] at hr4
  obtain ⟨x4, hc4, he4⟩ := DataW.trod_bool Try.underlying4 hr4
  obtain rfl := List.head_eq_of_cons_eq hc4
  obtain ⟨f5, hf5, ht5⟩ : ∃ f, (Try.prog.fieldsOf 27)[5]? = some f ∧ f.type = 4 := by have := fld5; rw [Option.map_eq_some_iff] at this; exact this
  obtain ⟨y5, hy5, hr5⟩ := field_at oneObj hlen hg' 5 f5 hf5 u5 rfl
  rw [ht5] at hr5
  obtain ⟨x5, hc5, he5⟩ := DataW.trod_bool Try.underlying4 hr5
  obtain rfl := List.head_eq_of_cons_eq hc5
  obtain ⟨f6, hf6, ht6⟩ : ∃ f, (Try.prog.fieldsOf 27)[6]? = some f ∧ f.type = 9 := by have := fld6; rw [Option.map_eq_some_iff] at this; exact this
  obtain ⟨y6, hy6, hr6⟩ := field_at oneObj hlen hg' 6 f6 hf6 u6 rfl
  rw [ht6] at hr6
  obtain ⟨x6, hc6, he6, hs6⟩ := DataW.trod_string Try.underlying9 hr6
  obtain rfl := List.head_eq_of_cons_eq hc6
  obtain ⟨f7, hf7, ht7⟩ : ∃ f, (Try.prog.fieldsOf 27)[7]? = some f ∧ f.type = 2 := by have := fld7; rw [Option.map_eq_some_iff] at this; exact this
  obtain ⟨y7, hy7, hr7⟩ := field_at oneObj hlen hg' 7 f7 hf7 u7 rfl
  rw [ht7] at hr7
  obtain ⟨x7, hc7, he7, -⟩ := DataW.trod_int Try.underlying2 hr7
  obtain rfl := List.head_eq_of_cons_eq hc7
  obtain ⟨f8, hf8, ht8⟩ : ∃ f, (Try.prog.fieldsOf 27)[8]? = some f ∧ f.type = 2 := by have := fld8; rw [Option.map_eq_some_iff] at this; exact this
  obtain ⟨y8, hy8, hr8⟩ := field_at oneObj hlen hg' 8 f8 hf8 u8 rfl
  rw [ht8] at hr8
  obtain ⟨x8, hc8, he8, -⟩ := DataW.trod_int Try.underlying2 hr8
  obtain rfl := List.head_eq_of_cons_eq hc8
  obtain ⟨f9, hf9, ht9⟩ : ∃ f, (Try.prog.fieldsOf 27)[9]? = some f ∧ f.type = 24 := by have := fld9; rw [Option.map_eq_some_iff] at this; exact this
  obtain ⟨y9, hy9, hr9⟩ := field_at oneObj hlen hg' 9 f9 hf9 u9 rfl
  rw [ht9] at hr9
  obtain ⟨x9, hc9, he9, -⟩ := DataW.trod_int Try.underlying24 hr9
  obtain rfl := List.head_eq_of_cons_eq hc9
  obtain ⟨f10, hf10, ht10⟩ : ∃ f, (Try.prog.fieldsOf 27)[10]? = some f ∧ f.type = 4 := by have := fld10; rw [Option.map_eq_some_iff] at this; exact this
  obtain ⟨y10, hy10, hr10⟩ := field_at oneObj hlen hg' 10 f10 hf10 u10 rfl
  rw [ht10] at hr10
  obtain ⟨x10, hc10, he10⟩ := DataW.trod_bool Try.underlying4 hr10
  obtain rfl := List.head_eq_of_cons_eq hc10
  obtain ⟨f11, hf11, ht11⟩ : ∃ f, (Try.prog.fieldsOf 27)[11]? = some f ∧ f.type = 4 := by have := fld11; rw [Option.map_eq_some_iff] at this; exact this
  obtain ⟨y11, hy11, hr11⟩ := field_at oneObj hlen hg' 11 f11 hf11 u11 rfl
  rw [ht11] at hr11
  obtain ⟨x11, hc11, he11⟩ := DataW.trod_bool Try.underlying4 hr11
  obtain rfl := List.head_eq_of_cons_eq hc11
  obtain ⟨f12, hf12, ht12⟩ : ∃ f, (Try.prog.fieldsOf 27)[12]? = some f ∧ f.type = 9 := by have := fld12; rw [Option.map_eq_some_iff] at this; exact this
  obtain ⟨y12, hy12, hr12⟩ := field_at oneObj hlen hg' 12 f12 hf12 u12 rfl
  rw [ht12] at hr12
  obtain ⟨x12, hc12, he12, hs12⟩ := DataW.trod_string Try.underlying9 hr12
  obtain rfl := List.head_eq_of_cons_eq hc12
  obtain ⟨f13, hf13, ht13⟩ : ∃ f, (Try.prog.fieldsOf 27)[13]? = some f ∧ f.type = 9 := by have := fld13; rw [Option.map_eq_some_iff] at this; exact this
  obtain ⟨y13, hy13, hr13⟩ := field_at oneObj hlen hg' 13 f13 hf13 u13 rfl
  rw [ht13] at hr13
  obtain ⟨x13, hc13, he13, hs13⟩ := DataW.trod_string Try.underlying9 hr13
  obtain rfl := List.head_eq_of_cons_eq hc13
  obtain ⟨f14, hf14, ht14⟩ : ∃ f, (Try.prog.fieldsOf 27)[14]? = some f ∧ f.type = 9 := by have := fld14; rw [Option.map_eq_some_iff] at this; exact this
  obtain ⟨y14, hy14, hr14⟩ := field_at oneObj hlen hg' 14 f14 hf14 u14 rfl
  rw [ht14] at hr14
  obtain ⟨x14, hc14, he14, hs14⟩ := DataW.trod_string Try.underlying9 hr14
  obtain rfl := List.head_eq_of_cons_eq hc14
  obtain ⟨f15, hf15, ht15⟩ : ∃ f, (Try.prog.fieldsOf 27)[15]? = some f ∧ f.type = 9 := by have := fld15; rw [Option.map_eq_some_iff] at this; exact this
  obtain ⟨y15, hy15, hr15⟩ := field_at oneObj hlen hg' 15 f15 hf15 u15 rfl
  rw [ht15] at hr15
  obtain ⟨x15, hc15, he15, hs15⟩ := DataW.trod_string Try.underlying9 hr15
  obtain rfl := List.head_eq_of_cons_eq hc15
  obtain ⟨f16, hf16, ht16⟩ : ∃ f, (Try.prog.fieldsOf 27)[16]? = some f ∧ f.type = 9 := by have := fld16; rw [Option.map_eq_some_iff] at this; exact this
  obtain ⟨y16, hy16, hr16⟩ := field_at oneObj hlen hg' 16 f16 hf16 u16 rfl
  rw [ht16] at hr16
  obtain ⟨x16, hc16, he16, hs16⟩ := DataW.trod_string Try.underlying9 hr16
  obtain rfl := List.head_eq_of_cons_eq hc16
  obtain ⟨f17, hf17, ht17⟩ : ∃ f, (Try.prog.fieldsOf 27)[17]? = some f ∧ f.type = 25 := by have := fld17; rw [Option.map_eq_some_iff] at this; exact this
  obtain ⟨y17, hy17, hr17⟩ := field_at oneObj hlen hg' 17 f17 hf17 u17 rfl
  rw [ht17] at hr17
  obtain ⟨x17, hc17, he17, -⟩ := DataW.trod_int Try.underlying25 hr17
  obtain rfl := List.head_eq_of_cons_eq hc17
  obtain ⟨f18, hf18, ht18⟩ : ∃ f, (Try.prog.fieldsOf 27)[18]? = some f ∧ f.type = 22 := by have := fld18; rw [Option.map_eq_some_iff] at this; exact this
  obtain ⟨y18, hy18, hr18⟩ := field_at oneObj hlen hg' 18 f18 hf18 u18 rfl
  rw [ht18] at hr18
  obtain ⟨x18, hc18, he18, wf18⟩ := DataW.trod_int Try.underlying22 hr18
  obtain rfl := List.head_eq_of_cons_eq hc18
  obtain ⟨f19, hf19, ht19⟩ : ∃ f, (Try.prog.fieldsOf 27)[19]? = some f ∧ f.type = 22 := by have := fld19; rw [Option.map_eq_some_iff] at this; exact this
  obtain ⟨y19, hy19, hr19⟩ := field_at oneObj hlen hg' 19 f19 hf19 u19 rfl
  rw [ht19] at hr19
  obtain ⟨x19, hc19, he19, wf19⟩ := DataW.trod_int Try.underlying22 hr19
  obtain rfl := List.head_eq_of_cons_eq hc19
  refine ⟨⟨x0, x1, x2, x3, x4, x5, x6, x7, x8, x9, x10, x11, x12, x13, x14, x15, x16, x17, x18, x19⟩, rfl, ⟨hs1, hs6, hs12, hs13, hs14, hs15, hs16, u64_wf wf2, u64_wf wf3, u64_wf wf18, u64_wf wf19⟩, fun hw => ?_⟩
  obtain rfl := hx
  have hw' : (DataW.weightsEach Try.prog ((Try.prog.fieldsOf 27).toList.map (·.type)) (xs.map (·.1))).all (· ≤ reachBytes) = true := by
    simpa only [DataW.weights, undObj] using hw
  have at_ : ∀ (j : Nat) (f : Field) (y : DataW H × List MemPlace) (s : ByteArray), (Try.prog.fieldsOf 27)[j]? = some f → f.type = 9 → xs[j]? = some y → y = (.lit (.string s.data.toList), []) → s.size ≤ reachBytes := fun j f y s h1 h2 h3 h4 => by
    have := sized_string (j := j) (t := 9) (bytes := s.data.toList) hw' (by rw [List.getElem?_map, Array.getElem?_toList, h1, Option.map_some, h2]) (by rw [List.getElem?_map, h3, Option.map_some, h4])
    simpa using this
  exact ⟨at_ 15 f15 y15 x15 hf15 ht15 hy15 he15, at_ 13 f13 y13 x13 hf13 ht13 hy13 he13⟩
/-- An object that comes in. -/
theorem open_obj2 {H : Type} {enc : TypeId × Value → H} {w : World} {base : Nat} {spare : Nat → Bool} {held : Bool} {r : Reach} {b0 : Nat} {v : Value} {d : DataW H} {p : List MemPlace}
    (hv : Value.okWide Try.prog w r b0 27 v) (h : DataW.Trod enc Try.prog w base spare held 27 v d p) :
    ∃ o : O.Obj, v = encO o ∧ Fits o ∧ ((d.weights Try.prog 27).all (· ≤ reachBytes) = true → o.volume.size ≤ reachBytes ∧ o.node.size ≤ reachBytes) := by
  obtain ⟨cs, rfl, hsz⟩ := okWide_struct undObj hv
  rw [cellsObj] at hsz
  obtain ⟨fuel, hf⟩ := h
  obtain ⟨o, ho, h1, h2⟩ := cells_obj (l := cs.toList) (by simpa using hsz) (by simpa [Value.cells] using hf)
  exact ⟨o, by unfold encO; rw [← Array.toList_inj.1 ho], h1, h2⟩

/-- A change as a value. -/
def cellsE (e : Ev) : Array Value := ⟨.int .u64 e.version :: .bool e.gone :: (cellsO e.object).toList⟩
def encE (e : Ev) : Value := .agg (cellsE e)
theorem undEv : Try.prog.underlying 29 = some (.struct (Try.prog.fieldsOf 29)) := by kernel_rfl
theorem cellsEv : Try.prog.cellsOf 29 = 22 := by kernel_rfl
theorem efld0 : ((Try.prog.fieldsOf 29)[0]?).map (fun f => (f.type, f.offset, Try.prog.cellsOf f.type)) = some (22, 0, 1) := by kernel_rfl
theorem efld1 : ((Try.prog.fieldsOf 29)[1]?).map (fun f => (f.type, f.offset, Try.prog.cellsOf f.type)) = some (4, 1, 1) := by kernel_rfl
theorem efld2 : ((Try.prog.fieldsOf 29)[2]?).map (fun f => (f.type, f.offset, Try.prog.cellsOf f.type)) = some (27, 2, 20) := by kernel_rfl
theorem esize : (Try.prog.fieldsOf 29).size = 3 := by kernel_rfl
/-- A change that comes in. -/
theorem open_ev {H : Type} {enc : TypeId × Value → H} {w : World} {base : Nat} {spare : Nat → Bool} {held : Bool} {r : Reach} {b0 : Nat} {v : Value} {d : DataW H} {p : List MemPlace}
    (hv : Value.okWide Try.prog w r b0 29 v) (h : DataW.Trod enc Try.prog w base spare held 29 v d p) :
    ∃ e : Ev, v = encE e ∧ U64 e.version ∧ Fits e.object := by
  obtain ⟨cs, rfl, hsz⟩ := okWide_struct undEv hv
  rw [cellsEv] at hsz
  obtain ⟨fuel, hf⟩ := h
  obtain ⟨xs, n, -, -, -, hlen, hg⟩ := DataW.trod_struct undEv hf
  rw [esize] at hlen
  obtain ⟨l⟩ := cs
  have hl0 : l.length = 22 := by simpa using hsz
  obtain ⟨u0, l0, rfl, hl1⟩ := list_cons hl0
  obtain ⟨u1, l1, rfl, hl2⟩ := list_cons hl1
  obtain ⟨f0, hf0, q0⟩ : ∃ f, (Try.prog.fieldsOf 29)[0]? = some f ∧ (f.type, f.offset, Try.prog.cellsOf f.type) = (22, 0, 1) := by have := efld0; rw [Option.map_eq_some_iff] at this; exact this
  obtain ⟨f1, hf1, q1⟩ : ∃ f, (Try.prog.fieldsOf 29)[1]? = some f ∧ (f.type, f.offset, Try.prog.cellsOf f.type) = (4, 1, 1) := by have := efld1; rw [Option.map_eq_some_iff] at this; exact this
  obtain ⟨f2, hf2, q2⟩ : ∃ f, (Try.prog.fieldsOf 29)[2]? = some f ∧ (f.type, f.offset, Try.prog.cellsOf f.type) = (27, 2, 20) := by have := efld2; rw [Option.map_eq_some_iff] at this; exact this
  simp only [Prod.mk.injEq] at q0 q1 q2
  have g0 := hg 0 f0 hf0
  have g1 := hg 1 f1 hf1
  have g2 := hg 2 f2 hf2
  rw [q0.2.2, q0.2.1, q0.1, List.getElem?_eq_getElem (by omega)] at g0
  rw [q1.2.2, q1.2.1, q1.1, List.getElem?_eq_getElem (by omega)] at g1
  rw [q2.2.2, q2.2.1, q2.1, List.getElem?_eq_getElem (by omega)] at g2
  obtain ⟨x0, hc0, -, wf0⟩ := DataW.trod_int Try.underlying22 g0
  obtain ⟨x1, hc1, -⟩ := DataW.trod_bool Try.underlying4 g1
  obtain ⟨o, ho, fo, -⟩ := cells_obj (by show (l1.take 20).length = 20; rw [List.length_take]; omega) g2
  have e0 : u0 = .int .u64 x0 := List.head_eq_of_cons_eq hc0
  have e1 : u1 = .bool x1 := List.head_eq_of_cons_eq hc1
  have e2 : l1 = (cellsO o).toList := by
    rw [← ho]
    show l1 = l1.take 20
    exact (List.take_of_length_le (by omega)).symm
  subst e0 e1 e2
  exact ⟨⟨x0, x1, o⟩, rfl, u64_wf wf0, fo⟩
end Go.Proofs.Ytacbfpgknfcimaa.C
namespace Go.Proofs.Ytacbfpgknfcimaa.C
open Go.RowKit T O
open Go.Lib hiding intOf

def objE (e : Ev) : Go.Obj := .cells (cellsE e) 29 (0, 0)
def BoxE (W : World) (b : Nat) (e : Ev) : Prop := W.heap[b]? = some (objE e)
section
variable {W W' : World} {b : Nat} {e : Ev}
theorem BoxE.lt (h : BoxE W b e) : b < W.heap.size := (Array.getElem?_eq_some_iff.1 h).1
theorem BoxE.after (h : BoxE W b e) (hb : Below W.heap.size W W') : BoxE W' b e := (hb.block b h.lt).trans h
theorem BoxE.below {B : Nat} (h : BoxE W b e) (hb : Below B W W') (hB : b < B) : BoxE W' b e := (hb.block b hB).trans h
theorem BoxE.alloc (h : BoxE W b e) (x : Go.Obj) : BoxE (W.alloc x) b e := (Below.heap_alloc W x b h.lt).trans h
theorem BoxE.drew (h : BoxE W b e) : BoxE W.drew b e := h
theorem BoxE.new (W : World) (e : Ev) : BoxE (W.alloc (objE e)) W.heap.size e := heap_alloc_new W _
theorem BoxE.at (h : BoxE W b e) (i : Nat) : W.cell? ⟨b, i, none⟩ = (cellsE e)[i]? := cell_of_row W b i _ _ _ h
theorem BoxE.c0 (h : BoxE W b e) : W.cell? ⟨b, 0, none⟩ = some (.int .u64 e.version) := (h.at 0).trans rfl
theorem BoxE.c1 (h : BoxE W b e) : W.cell? ⟨b, 1, none⟩ = some (.bool e.gone) := (h.at 1).trans rfl
theorem ext_ev (e : Ev) : ((cellsE e).extract 2 (2 + 20)).toList = (cellsO e.object).toList := by kernel_rfl
theorem BoxE.obj (h : BoxE W b e) : W.rangeAt b 2 (cellsO e.object).toList := by
  have := World.rangeAt_of_block (w := W) h 2 20
  rwa [ext_ev] at this
end
theorem sizeEv : (Try.prog.info? 29).map (·.size) = some 22 := by kernel_rfl
theorem load_ev {W : World} {b : Nat} {e : Ev} (h : BoxE W b e) {oi : Oper} {a : Act} {x : Operand} (ho : oi.op = .load 29 x) (hx : a.eval x = .pointer (some ⟨b, 0, none⟩)) :
    (execOp a.eval oi).run Try.prog W = .ok (.value (encE e)) W := by
  unfold execOp
  simp only [ho, hx, Instr.loadAt, Instr.sureAddr, Sem.run_bind, Sem.run_pure, Result.andThen_ok, run_loadVar_row W b 29 29 (cellsE e) (0, 0) _ h undEv rfl sizeEv]
  rfl
theorem load_evo {W : World} {b : Nat} {e : Ev} (h : BoxE W b e) {oi : Oper} {a : Act} {x : Operand} (ho : oi.op = .load 27 x) (hx : a.eval x = .pointer (some ⟨b, 2, none⟩)) :
    (execOp a.eval oi).run Try.prog W = .ok (.value (encO e.object)) W := by
  unfold execOp
  simp only [ho, hx, Instr.loadAt, Instr.sureAddr, Sem.run_bind, Sem.run_pure, Result.andThen_ok, run_loadVar_mid W b 2 27 (cellsO e.object).toList _ h.obj undObj rfl sizeObj]
  rfl
theorem wpList_load_ev {ops : Array Oper} {rest : List Oper} {oi : Oper} {a : Act} {W : World} {Q : Exit → Act → World → Prop} {x : Operand} {b : Nat} {e : Ev} (hw : Region.wanted oi (yielded ops a.tmps) = true) (ho : oi.op = .load 29 x)
    (hx : a.eval x = .pointer (some ⟨b, 0, none⟩)) (h : BoxE W b e) (hn : wpList Try.prog ops Q rest (a.put oi.dst (encE e)) W) : wpList Try.prog ops Q (oi :: rest) a W := by
  unfold wpList
  rw [if_pos hw]
  refine .inl ?_
  unfold Oper.wp
  rw [load_ev h ho hx]
  exact hn
theorem wpList_load_evo {ops : Array Oper} {rest : List Oper} {oi : Oper} {a : Act} {W : World} {Q : Exit → Act → World → Prop} {x : Operand} {b : Nat} {e : Ev} (hw : Region.wanted oi (yielded ops a.tmps) = true) (ho : oi.op = .load 27 x)
    (hx : a.eval x = .pointer (some ⟨b, 2, none⟩)) (h : BoxE W b e) (hn : wpList Try.prog ops Q rest (a.put oi.dst (encO e.object)) W) : wpList Try.prog ops Q (oi :: rest) a W := by
  unfold wpList
  rw [if_pos hw]
  refine .inl ?_
  unfold Oper.wp
  rw [load_evo h ho hx]
  exact hn
end Go.Proofs.Ytacbfpgknfcimaa.C
namespace Go.Proofs.Ytacbfpgknfcimaa.C
open Go.RowKit T O
open Go.Lib hiding intOf

set_option maxRecDepth 100000 in
set_option maxHeartbeats 1000000 in
theorem eql_ev (x y : Ev) (w : World) : (binOp .eql 29 (encE x) (encE y)).run Try.prog w = .ok (.bool (decide (x = y))) w := by
  obtain ⟨v1, g1, a1, a2, a3, a4, a5, a6, a7, a8, a9, a10, a11, a12, a13, a14, a15, a16, a17, a18, a19, a20⟩ := x
  obtain ⟨v2, g2, b1, b2, b3, b4, b5, b6, b7, b8, b9, b10, b11, b12, b13, b14, b15, b16, b17, b18, b19, b20⟩ := y
  unfold encE cellsE cellsO
  dsimp only
  go_simp
  simp only [eqT]
  iterate 21 refine and_if ?_
  exact last_if
theorem neq_ev (x y : Ev) (w : World) : (binOp .neq 29 (encE x) (encE y)).run Try.prog w = .ok (.bool (!decide (x = y))) w := by
  have h := eql_ev x y w
  unfold encE at *
  rw [run_eql_struct] at h
  rw [run_neq_struct]
  generalize (Op.equalIn 10000 29 _ _).run Try.prog w = r at *
  cases r with
  | ok b w1 =>
    simp only [Result.andThen, Result.ok.injEq, Value.bool.injEq] at h ⊢
    rw [h.1, h.2]; exact ⟨rfl, rfl⟩
  | halt a b => simp [Result.andThen] at h
theorem eql_evs {oi : Oper} {a : Act} {x y : Operand} {p q : Ev} {v : Bool} {W : World} (ho : oi.op = .binOp .eql 29 x y 29) (hx : a.eval x = encE p) (hy : a.eval y = encE q) (hv : decide (p = q) = v) :
    (execOp a.eval oi).run Try.prog W = .ok (.value (.bool v)) W := by
  have hq : (eqGuard .eql 29 x y (encE p) (encE q)).run Try.prog W = .ok () W := run_eqGuard_agg W .eql 29 x y (cellsE p) (cellsE q) (by kernel_rfl)
  unfold execOp
  simp only [ho, hx, hy, Sem.run_bind, hq, Result.andThen_ok, eql_ev, hv, Sem.run_pure]
theorem neq_evs {oi : Oper} {a : Act} {x y : Operand} {p q : Ev} {v : Bool} {W : World} (ho : oi.op = .binOp .neq 29 x y 29) (hx : a.eval x = encE p) (hy : a.eval y = encE q) (hv : (!decide (p = q)) = v) :
    (execOp a.eval oi).run Try.prog W = .ok (.value (.bool v)) W := by
  have hq : (eqGuard .neq 29 x y (encE p) (encE q)).run Try.prog W = .ok () W := run_eqGuard_agg W .neq 29 x y (cellsE p) (cellsE q) (by kernel_rfl)
  unfold execOp
  simp only [ho, hx, hy, Sem.run_bind, hq, Result.andThen_ok, neq_ev, hv, Sem.run_pure]
theorem neq_objs {oi : Oper} {a : Act} {x y : Operand} {p q : O.Obj} {v : Bool} {W : World} (ho : oi.op = .binOp .neq 27 x y 27) (hx : a.eval x = encO p) (hy : a.eval y = encO q) (hv : (!decide (p = q)) = v) :
    (execOp a.eval oi).run Try.prog W = .ok (.value (.bool v)) W := by
  have hq : (eqGuard .neq 27 x y (encO p) (encO q)).run Try.prog W = .ok () W := run_eqGuard_agg W .neq 27 x y (cellsO p) (cellsO q) (by kernel_rfl)
  unfold execOp
  simp only [ho, hx, hy, Sem.run_bind, hq, Result.andThen_ok, neq_obj, hv, Sem.run_pure]
/-- An operation whose value is known, in a list. -/
theorem wpList_known {ops : Array Oper} {rest : List Oper} {oi : Oper} {a : Act} {W : World} {Q : Exit → Act → World → Prop} {v : Value} (hw : Region.wanted oi (yielded ops a.tmps) = true)
    (hv : (execOp a.eval oi).run Try.prog W = .ok (.value v) W) (hn : wpList Try.prog ops Q rest (a.put oi.dst v) W) : wpList Try.prog ops Q (oi :: rest) a W := by
  unfold wpList
  rw [if_pos hw]
  refine .inl ?_
  unfold Oper.wp
  rw [hv]
  exact hn
end Go.Proofs.Ytacbfpgknfcimaa.C
