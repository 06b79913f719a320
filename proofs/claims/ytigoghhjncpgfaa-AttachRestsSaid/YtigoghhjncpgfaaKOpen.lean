/- Objects as they come in, in a row. -/
import Derived.Test.YtigoghhjncpgfaaBObjs
import Derived.Test.YtigoghhjncpgfaaLawEnd
import Derived.Deep.Fields
import Derived.Deep.Slices
import Derived.Deep.Strs
import Derived.OpenShut
import Derived.SizedLaws
namespace Go.Proofs.Ytigoghhjncpgfaa.O.B
open Go.ChangeShapes Go.WideShapes Go.RowKit Go.Deep Go.Lib
open Go.ChangeMaps (open_string)

/-- The bounds of an object's numbers. -/
structure FitO (o : Obj) : Prop where
  kind : 0 ≤ o.kind ∧ o.kind ≤ 255
  version : 0 ≤ o.version ∧ o.version ≤ 18446744073709551615
  born : 0 ≤ o.born ∧ o.born ≤ 18446744073709551615
  size : -9223372036854775808 ≤ o.size ∧ o.size ≤ 9223372036854775807
  got : -9223372036854775808 ≤ o.got ∧ o.got ≤ 9223372036854775807
  mode : 0 ≤ o.mode ∧ o.mode ≤ 255
  phase : 0 ≤ o.phase ∧ o.phase ≤ 255
  num : 0 ≤ o.num ∧ o.num ≤ 18446744073709551615
  tag : 0 ≤ o.tag ∧ o.tag ≤ 18446744073709551615
/-- How long an object's texts are. -/
structure LenO (o : Obj) : Prop where
  name : o.name.size ≤ 140737488351232
  cls : o.cls.size ≤ 140737488351232
  zone : o.zone.size ≤ 140737488351232
  node : o.node.size ≤ 140737488351232
  claim : o.claim.size ≤ 140737488351232
  volume : o.volume.size ≤ 140737488351232
  source : o.source.size ≤ 140737488351232
theorem fits_in {l : List Obj} (hf : ∀ o ∈ l, FitO o) (hl : ∀ o ∈ l, LenO o) : ∀ s ∈ l, (0 ≤ s.born ∧ s.born ≤ 18446744073709551615) ∧ s.name.size ≤ 140737488351232 := fun s hs => ⟨(hf s hs).born, (hl s hs).name⟩
theorem list_cons' {α : Type} {n : Nat} {l : List α} (h : l.length = n + 1) : ∃ a t, l = a :: t ∧ t.length = n := by
  cases l with
  | nil => simp at h
  | cons a t => exact ⟨a, t, rfl, by simpa using h⟩
theorem list_nil' {α : Type} {l : List α} (h : l.length = 0) : l = [] := List.length_eq_zero_iff.1 h

section
variable {H : Type} {enc : TypeId × Value → H} {P : Program} {w : World} {base : Nat} {spare : Nat → Bool} {held : Bool}
theorem field_at' {fs : Array Field} {l : List Value} {xs : List (DataW H × List MemPlace)} {n : Nat} (hone : oneCellFields P fs = true) (hlen : xs.length = fs.size)
    (hg : ∀ (i : Nat) (f : Field), fs[i]? = some f → DataW.trod enc P w base spare held n f.type ((l.drop f.offset).take (P.cellsOf f.type)) = xs[i]?)
    (j : Nat) (f : Field) (hf : fs[j]? = some f) (u : Value) (hu : l[j]? = some u) : ∃ y, xs[j]? = some y ∧ DataW.trod enc P w base spare held n f.type [u] = some y := by
  obtain ⟨ho, hk⟩ := hone_of hone j f hf
  have hjl : j < fs.size := (Array.getElem?_eq_some_iff.1 hf).1
  have h1 := hg j f hf
  rw [ho, hk] at h1
  have hd : (l.drop j).take 1 = [u] := by
    obtain ⟨hlt, he⟩ := List.getElem?_eq_some_iff.1 hu
    rw [List.drop_eq_getElem_cons hlt, he]; rfl
  rw [hd] at h1
  exact ⟨xs[j]'(by omega), List.getElem?_eq_getElem (by omega), h1.trans (List.getElem?_eq_getElem (by omega))⟩
theorem weights_all {e : TypeId} : ∀ {l : List (DataW H)} {d : DataW H}, d ∈ l → ∀ n ∈ d.weights P e, n ∈ DataW.weightsAll P e l
  | [], _, h => by cases h
  | x :: l, d, h => fun n hn => by
    unfold DataW.weightsAll
    rcases List.mem_cons.1 h with rfl | h
    · exact List.mem_append_left _ hn
    · exact List.mem_append_right _ (weights_all h n hn)
theorem weights_elem {t e : TypeId} {elems rest : List (DataW H)} (ht : P.underlying t = some (.slice e)) {d : DataW H} (hd : d ∈ elems) : ∀ n ∈ d.weights P e, n ∈ (DataW.slice elems rest).weights P t := fun n hn => by
  unfold DataW.weights
  rw [ht]
  exact List.mem_cons_of_mem _ (List.mem_append_left _ (weights_all hd n hn))
end

theorem oneObj' : oneCellFields Try.prog (Try.prog.fieldsOf 37) = true := by kernel_rfl
theorem cellsObj' : Try.prog.cellsOf 37 = 20 := by kernel_rfl
theorem fieldsSize' : (Try.prog.fieldsOf 37).size = 20 := by kernel_rfl
theorem fld0' : ((Try.prog.fieldsOf 37)[0]?).map (·.type) = some 33 := by kernel_rfl
theorem fld1' : ((Try.prog.fieldsOf 37)[1]?).map (·.type) = some 9 := by kernel_rfl
theorem fld2' : ((Try.prog.fieldsOf 37)[2]?).map (·.type) = some 31 := by kernel_rfl
theorem fld3' : ((Try.prog.fieldsOf 37)[3]?).map (·.type) = some 31 := by kernel_rfl
theorem fld4' : ((Try.prog.fieldsOf 37)[4]?).map (·.type) = some 4 := by kernel_rfl
theorem fld5' : ((Try.prog.fieldsOf 37)[5]?).map (·.type) = some 4 := by kernel_rfl
theorem fld6' : ((Try.prog.fieldsOf 37)[6]?).map (·.type) = some 9 := by kernel_rfl
theorem fld7' : ((Try.prog.fieldsOf 37)[7]?).map (·.type) = some 2 := by kernel_rfl
theorem fld8' : ((Try.prog.fieldsOf 37)[8]?).map (·.type) = some 2 := by kernel_rfl
theorem fld9' : ((Try.prog.fieldsOf 37)[9]?).map (·.type) = some 34 := by kernel_rfl
theorem fld10' : ((Try.prog.fieldsOf 37)[10]?).map (·.type) = some 4 := by kernel_rfl
theorem fld11' : ((Try.prog.fieldsOf 37)[11]?).map (·.type) = some 4 := by kernel_rfl
theorem fld12' : ((Try.prog.fieldsOf 37)[12]?).map (·.type) = some 9 := by kernel_rfl
theorem fld13' : ((Try.prog.fieldsOf 37)[13]?).map (·.type) = some 9 := by kernel_rfl
theorem fld14' : ((Try.prog.fieldsOf 37)[14]?).map (·.type) = some 9 := by kernel_rfl
theorem fld15' : ((Try.prog.fieldsOf 37)[15]?).map (·.type) = some 9 := by kernel_rfl
theorem fld16' : ((Try.prog.fieldsOf 37)[16]?).map (·.type) = some 9 := by kernel_rfl
theorem fld17' : ((Try.prog.fieldsOf 37)[17]?).map (·.type) = some 35 := by kernel_rfl
theorem fld18' : ((Try.prog.fieldsOf 37)[18]?).map (·.type) = some 31 := by kernel_rfl
theorem fld19' : ((Try.prog.fieldsOf 37)[19]?).map (·.type) = some 31 := by kernel_rfl

set_option maxRecDepth 100000 in
theorem obj_of_trod {H : Type} {enc : TypeId × Value → H} {w : World} {base : Nat} {spare : Nat → Bool} {held : Bool} {fuel : Nat} {l : List Value} {x : DataW H × List MemPlace}
    (hf : DataW.trod enc Try.prog w base spare held fuel 37 l = some x) (hl0 : l.length = 20) :
    ∃ o : Obj, l = (cellsO o).toList ∧ FitO o ∧ ((x.1.weights Try.prog 37).all (· ≤ reachBytes) = true → LenO o) := by
  obtain ⟨xs, n, -, hx, -, hlen, hg⟩ := DataW.trod_struct undObj hf
  obtain ⟨u0, l0, rfl, hl1⟩ := list_cons' hl0
  obtain ⟨u1, l1, rfl, hl2⟩ := list_cons' hl1
  obtain ⟨u2, l2, rfl, hl3⟩ := list_cons' hl2
  obtain ⟨u3, l3, rfl, hl4⟩ := list_cons' hl3
  obtain ⟨u4, l4, rfl, hl5⟩ := list_cons' hl4
  obtain ⟨u5, l5, rfl, hl6⟩ := list_cons' hl5
  obtain ⟨u6, l6, rfl, hl7⟩ := list_cons' hl6
  obtain ⟨u7, l7, rfl, hl8⟩ := list_cons' hl7
  obtain ⟨u8, l8, rfl, hl9⟩ := list_cons' hl8
  obtain ⟨u9, l9, rfl, hl10⟩ := list_cons' hl9
  obtain ⟨u10, l10, rfl, hl11⟩ := list_cons' hl10
  obtain ⟨u11, l11, rfl, hl12⟩ := list_cons' hl11
  obtain ⟨u12, l12, rfl, hl13⟩ := list_cons' hl12
  obtain ⟨u13, l13, rfl, hl14⟩ := list_cons' hl13
  obtain ⟨u14, l14, rfl, hl15⟩ := list_cons' hl14
  obtain ⟨u15, l15, rfl, hl16⟩ := list_cons' hl15
  obtain ⟨u16, l16, rfl, hl17⟩ := list_cons' hl16
  obtain ⟨u17, l17, rfl, hl18⟩ := list_cons' hl17
  obtain ⟨u18, l18, rfl, hl19⟩ := list_cons' hl18
  obtain ⟨u19, l19, rfl, hl20⟩ := list_cons' hl19
  obtain rfl := list_nil' hl20
  obtain ⟨f0, hf0, ht0⟩ : ∃ f, (Try.prog.fieldsOf 37)[0]? = some f ∧ f.type = 33 := by have := fld0'; rw [Option.map_eq_some_iff] at this; exact this
  obtain ⟨y0, hy0, hr0⟩ := field_at' oneObj' hlen hg 0 f0 hf0 u0 rfl
  rw [ht0] at hr0
  obtain ⟨x0, hc0, he0, wf0⟩ := DataW.trod_int Try.underlying33 hr0
  obtain rfl := List.head_eq_of_cons_eq hc0
  obtain ⟨f1, hf1, ht1⟩ : ∃ f, (Try.prog.fieldsOf 37)[1]? = some f ∧ f.type = 9 := by have := fld1'; rw [Option.map_eq_some_iff] at this; exact this
  obtain ⟨y1, hy1, hr1⟩ := field_at' oneObj' hlen hg 1 f1 hf1 u1 rfl
  rw [ht1] at hr1
  obtain ⟨x1, hc1, he1, hs1⟩ := DataW.trod_string Try.underlying9 hr1
  obtain rfl := List.head_eq_of_cons_eq hc1
  obtain ⟨f2, hf2, ht2⟩ : ∃ f, (Try.prog.fieldsOf 37)[2]? = some f ∧ f.type = 31 := by have := fld2'; rw [Option.map_eq_some_iff] at this; exact this
  obtain ⟨y2, hy2, hr2⟩ := field_at' oneObj' hlen hg 2 f2 hf2 u2 rfl
  rw [ht2] at hr2
  obtain ⟨x2, hc2, he2, wf2⟩ := DataW.trod_int Try.underlying31 hr2
  obtain rfl := List.head_eq_of_cons_eq hc2
  obtain ⟨f3, hf3, ht3⟩ : ∃ f, (Try.prog.fieldsOf 37)[3]? = some f ∧ f.type = 31 := by have := fld3'; rw [Option.map_eq_some_iff] at this; exact this
  obtain ⟨y3, hy3, hr3⟩ := field_at' oneObj' hlen hg 3 f3 hf3 u3 rfl
  rw [ht3] at hr3
  obtain ⟨x3, hc3, he3, wf3⟩ := DataW.trod_int Try.underlying31 hr3
  obtain rfl := List.head_eq_of_cons_eq hc3
  obtain ⟨f4, hf4, ht4⟩ : ∃ f, (Try.prog.fieldsOf 37)[4]? = some f ∧ f.type = 4 := by have := fld4'; rw [Option.map_eq_some_iff] at this; exact this
  obtain ⟨y4, hy4, hr4⟩ := field_at' oneObj' hlen hg 4 f4 hf4 u4 rfl
  rw [ht4] at hr4
  obtain ⟨x4, hc4, he4⟩ := DataW.trod_bool Try.underlying4 hr4
  obtain rfl := List.head_eq_of_cons_eq hc4
  obtain ⟨f5, hf5, ht5⟩ : ∃ f, (Try.prog.fieldsOf 37)[5]? = some f ∧ f.type = 4 := by have := fld5'; rw [Option.map_eq_some_iff] at this; exact this
  obtain ⟨y5, hy5, hr5⟩ := field_at' oneObj' hlen hg 5 f5 hf5 u5 rfl
  rw [ht5] at hr5
  obtain ⟨x5, hc5, he5⟩ := DataW.trod_bool Try.underlying4 hr5
  obtain rfl := List.head_eq_of_cons_eq hc5
  obtain ⟨f6, hf6, ht6⟩ : ∃ f, (Try.prog.fieldsOf 37)[6]? = some f ∧ f.type = 9 := by have := fld6'; rw [Option.map_eq_some_iff] at this; exact this
  obtain ⟨y6, hy6, hr6⟩ := field_at' oneObj' hlen hg 6 f6 hf6 u6 rfl
  rw [ht6] at hr6
  obtain ⟨x6, hc6, he6, hs6⟩ := DataW.trod_string Try.underlying9 hr6
  obtain rfl := List.head_eq_of_cons_eq hc6
  obtain ⟨f7, hf7, ht7⟩ : ∃ f, (Try.prog.fieldsOf 37)[7]? = some f ∧ f.type = 2 := by have := fld7'; rw [Option.map_eq_some_iff] at this; exact this
  obtain ⟨y7, hy7, hr7⟩ := field_at' oneObj' hlen hg 7 f7 hf7 u7 rfl
  rw [ht7] at hr7
  obtain ⟨x7, hc7, he7, wf7⟩ := DataW.trod_int Try.underlying2 hr7
  obtain rfl := List.head_eq_of_cons_eq hc7
  obtain ⟨f8, hf8, ht8⟩ : ∃ f, (Try.prog.fieldsOf 37)[8]? = some f ∧ f.type = 2 := by have := fld8'; rw [Option.map_eq_some_iff] at this; exact this
  obtain ⟨y8, hy8, hr8⟩ := field_at' oneObj' hlen hg 8 f8 hf8 u8 rfl
  rw [ht8] at hr8
  obtain ⟨x8, hc8, he8, wf8⟩ := DataW.trod_int Try.underlying2 hr8
  obtain rfl := List.head_eq_of_cons_eq hc8
  obtain ⟨f9, hf9, ht9⟩ : ∃ f, (Try.prog.fieldsOf 37)[9]? = some f ∧ f.type = 34 := by have := fld9'; rw [Option.map_eq_some_iff] at this; exact this
  obtain ⟨y9, hy9, hr9⟩ := field_at' oneObj' hlen hg 9 f9 hf9 u9 rfl
  rw [ht9] at hr9
  obtain ⟨x9, hc9, he9, wf9⟩ := DataW.trod_int Try.underlying34 hr9
  obtain rfl := List.head_eq_of_cons_eq hc9
  obtain ⟨f10, hf10, ht10⟩ : ∃ f, (Try.prog.fieldsOf 37)[10]? = some f ∧ f.type = 4 := by have := fld10'; rw [Option.map_eq_some_iff] at this; exact this
  obtain ⟨y10, hy10, hr10⟩ := field_at' oneObj' hlen hg 10 f10 hf10 u10 rfl
  rw [ht10] at hr10
  obtain ⟨x10, hc10, he10⟩ := DataW.trod_bool Try.underlying4 hr10
  obtain rfl := List.head_eq_of_cons_eq hc10
  obtain ⟨f11, hf11, ht11⟩ : ∃ f, (Try.prog.fieldsOf 37)[11]? = some f ∧ f.type = 4 := by have := fld11'; rw [Option.map_eq_some_iff] at this; exact this
  obtain ⟨y11, hy11, hr11⟩ := field_at' oneObj' hlen hg 11 f11 hf11 u11 rfl
  rw [ht11] at hr11
  obtain ⟨x11, hc11, he11⟩ := DataW.trod_bool Try.underlying4 hr11
  obtain rfl := List.head_eq_of_cons_eq hc11
  obtain ⟨f12, hf12, ht12⟩ : ∃ f, (Try.prog.fieldsOf 37)[12]? = some f ∧ f.type = 9 := by have := fld12'; rw [Option.map_eq_some_iff] at this; exact this
  obtain ⟨y12, hy12, hr12⟩ := field_at' oneObj' hlen hg 12 f12 hf12 u12 rfl
  rw [ht12] at hr12
  obtain ⟨x12, hc12, he12, hs12⟩ := DataW.trod_string Try.underlying9 hr12
  obtain rfl := List.head_eq_of_cons_eq hc12
  obtain ⟨f13, hf13, ht13⟩ : ∃ f, (Try.prog.fieldsOf 37)[13]? = some f ∧ f.type = 9 := by have := fld13'; rw [Option.map_eq_some_iff] at this; exact this
  obtain ⟨y13, hy13, hr13⟩ := field_at' oneObj' hlen hg 13 f13 hf13 u13 rfl
  rw [ht13] at hr13
  obtain ⟨x13, hc13, he13, hs13⟩ := DataW.trod_string Try.underlying9 hr13
  obtain rfl := List.head_eq_of_cons_eq hc13
  obtain ⟨f14, hf14, ht14⟩ : ∃ f, (Try.prog.fieldsOf 37)[14]? = some f ∧ f.type = 9 := by have := fld14'; rw [Option.map_eq_some_iff] at this; exact this
  obtain ⟨y14, hy14, hr14⟩ := field_at' oneObj' hlen hg 14 f14 hf14 u14 rfl
  rw [ht14] at hr14
  obtain ⟨x14, hc14, he14, hs14⟩ := DataW.trod_string Try.underlying9 hr14
  obtain rfl := List.head_eq_of_cons_eq hc14
  obtain ⟨f15, hf15, ht15⟩ : ∃ f, (Try.prog.fieldsOf 37)[15]? = some f ∧ f.type = 9 := by have := fld15'; rw [Option.map_eq_some_iff] at this; exact this
  obtain ⟨y15, hy15, hr15⟩ := field_at' oneObj' hlen hg 15 f15 hf15 u15 rfl
  rw [ht15] at hr15
  obtain ⟨x15, hc15, he15, hs15⟩ := DataW.trod_string Try.underlying9 hr15
  obtain rfl := List.head_eq_of_cons_eq hc15
  obtain ⟨f16, hf16, ht16⟩ : ∃ f, (Try.prog.fieldsOf 37)[16]? = some f ∧ f.type = 9 := by have := fld16'; rw [Option.map_eq_some_iff] at this; exact this
  obtain ⟨y16, hy16, hr16⟩ := field_at' oneObj' hlen hg 16 f16 hf16 u16 rfl
  rw [ht16] at hr16
  obtain ⟨x16, hc16, he16, hs16⟩ := DataW.trod_string Try.underlying9 hr16
  obtain rfl := List.head_eq_of_cons_eq hc16
  obtain ⟨f17, hf17, ht17⟩ : ∃ f, (Try.prog.fieldsOf 37)[17]? = some f ∧ f.type = 35 := by have := fld17'; rw [Option.map_eq_some_iff] at this; exact this
  obtain ⟨y17, hy17, hr17⟩ := field_at' oneObj' hlen hg 17 f17 hf17 u17 rfl
  rw [ht17] at hr17
  obtain ⟨x17, hc17, he17, wf17⟩ := DataW.trod_int Try.underlying35 hr17
  obtain rfl := List.head_eq_of_cons_eq hc17
  obtain ⟨f18, hf18, ht18⟩ : ∃ f, (Try.prog.fieldsOf 37)[18]? = some f ∧ f.type = 31 := by have := fld18'; rw [Option.map_eq_some_iff] at this; exact this
  obtain ⟨y18, hy18, hr18⟩ := field_at' oneObj' hlen hg 18 f18 hf18 u18 rfl
  rw [ht18] at hr18
  obtain ⟨x18, hc18, he18, wf18⟩ := DataW.trod_int Try.underlying31 hr18
  obtain rfl := List.head_eq_of_cons_eq hc18
  obtain ⟨f19, hf19, ht19⟩ : ∃ f, (Try.prog.fieldsOf 37)[19]? = some f ∧ f.type = 31 := by have := fld19'; rw [Option.map_eq_some_iff] at this; exact this
  obtain ⟨y19, hy19, hr19⟩ := field_at' oneObj' hlen hg 19 f19 hf19 u19 rfl
  rw [ht19] at hr19
  obtain ⟨x19, hc19, he19, wf19⟩ := DataW.trod_int Try.underlying31 hr19
  obtain rfl := List.head_eq_of_cons_eq hc19
  refine ⟨⟨x0, x1, x2, x3, x4, x5, x6, x7, x8, x9, x10, x11, x12, x13, x14, x15, x16, x17, x18, x19⟩, rfl, ⟨bounds_u8 wf0, bounds_u64 wf2, bounds_u64 wf3, bounds_i64 wf7, bounds_i64 wf8, bounds_u8 wf9, bounds_u8 wf17, bounds_u64 wf18, bounds_u64 wf19⟩, fun hw => ?_⟩
  obtain ⟨d, ps⟩ := x
  obtain ⟨hd, -⟩ := Prod.mk.inj hx
  simp only at hw
  rw [hd] at hw
  have hw' : (DataW.weightsEach Try.prog ((Try.prog.fieldsOf 37).toList.map (·.type)) (xs.map (·.1))).all (· ≤ reachBytes) = true := by
    simpa only [DataW.weights, undObj] using hw
  have at_ : ∀ (j : Nat) (f : Field) (y : DataW H × List MemPlace) (s : ByteArray), (Try.prog.fieldsOf 37)[j]? = some f → f.type = 9 → xs[j]? = some y → y = (.lit (.string s.data.toList), []) → s.size ≤ 140737488351232 := fun j f y s h1 h2 h3 h4 => by
    have := sized_string (j := j) (t := 9) (bytes := s.data.toList) hw' (by rw [List.getElem?_map, Array.getElem?_toList, h1, Option.map_some, h2]) (by rw [List.getElem?_map, h3, Option.map_some, h4])
    simpa [reachBytes] using this
  exact ⟨at_ 1 f1 y1 x1 hf1 ht1 hy1 he1, at_ 6 f6 y6 x6 hf6 ht6 hy6 he6, at_ 12 f12 y12 x12 hf12 ht12 hy12 he12, at_ 13 f13 y13 x13 hf13 ht13 hy13 he13, at_ 14 f14 y14 x14 hf14 ht14 hy14 he14, at_ 15 f15 y15 x15 hf15 ht15 hy15 he15, at_ 16 f16 y16 x16 hf16 ht16 hy16 he16⟩

/-- Where a slice that comes in lies. -/
theorem spot_add' {W : World} {b off : Nat} {sp : Option Nat} {i : Nat} {v : Value} (h : W.cell? ((⟨b, off, sp⟩ : Addr).add i) = some v) : W.cell? ⟨b, off + i, none⟩ = some v := by
  unfold Addr.add at h
  split at h
  · subst_vars
    unfold World.cell? at h ⊢
    cases hb : W.heap[b]? with
    | none => rw [hb] at h; cases h
    | some o =>
      rw [hb] at h
      cases o with
      | cells c t f =>
        cases sp with
        | none => simpa using h
        | some s => simp at h
      | _ => cases h
  · exact h
set_option maxRecDepth 100000 in
theorem lies_slice' {r : Reach} {b0 : Nat} {t e : TypeId} {w : World} {a : Addr} {n c : Nat} (ht : Try.prog.underlying t = some (.slice e)) (hv : Value.okWide Try.prog w r b0 t (.slice (some a) n c)) : a.spot = none ∧ a.block < w.heap.size := by
  unfold Value.okWide at hv
  rw [ht] at hv
  unfold Cell.okWide Cell.ok at hv
  rw [ht] at hv
  obtain ⟨-, -, -, hsp, row, cells, hsh, -⟩ := hv
  refine ⟨hsp, ?_⟩
  unfold World.shape? at hsh
  rcases Nat.lt_or_ge a.block w.heap.size with hh | hh
  · exact hh
  · rw [Array.getElem?_eq_none hh] at hsh; cases hsh
instance : Inhabited Obj := ⟨O0⟩
set_option maxRecDepth 100000 in
theorem open_objs {H : Type} {enc : TypeId × Value → H} {w : World} {base : Nat} {spare : Nat → Bool} {held : Bool} {r : Reach} {b0 : Nat} {v : Value} {d : DataW H} {p : List MemPlace}
    (hv : Value.okWide Try.prog w r b0 22 v) (h : DataW.Trod enc Try.prog w base spare held 22 v d p) :
    ∃ l : List Obj, ObjsIn w v l ∧ (∀ o ∈ l, FitO o) ∧ ((d.weights Try.prog 22).all (· ≤ reachBytes) = true → ∀ o ∈ l, LenO o) ∧ (∀ o n c, v = .slice o n c → n ≤ c) := by
  have hv2 := hv
  obtain ⟨a0, len, cap, rfl⟩ := okWide_slice Try.underlying22 hv
  obtain ⟨fuel, hf⟩ := h
  rcases Go.Deep.open_slice Try.underlying22 hf with ⟨hcs, -⟩ | ⟨a, len', cap', m, n, D, Pl, hcs, -, hl, hm, hmm, hxx, hx⟩
  · refine ⟨[], ⟨none, 0, ?_, by simp, fun i hi => absurd hi (by simp)⟩, fun o ho => (by cases ho), fun _ o ho => (by cases ho), fun o n c h => ?_⟩
    · simpa [Value.cells] using hcs
    · have e : (Value.slice a0 len cap) = .slice none 0 0 := by simpa [Value.cells] using hcs
      rw [e] at h
      cases h
      exact Nat.le_refl _
  · have e : (Value.slice a0 len cap) = .slice (some a) len' cap' := by simpa [Value.cells] using hcs
    cases e
    obtain ⟨hsp, hlt⟩ := lies_slice' Try.underlying22 hv2
    obtain ⟨b, off, spot⟩ := a
    obtain rfl : spot = none := hsp
    have hmx : maxLen = 9223372036854775807 := rfl
    have hlm : len ≤ m := by rw [hmm]; split <;> omega
    have hdd : d = .slice ((List.range len).map D) ((List.range (m - len)).map fun j => D (len + j)) := (Prod.mk.inj hxx).1
    have each : ∀ i, i < len → ∃ y : Obj, w.rangeAt b (off + i * 20) (cellsO y).toList ∧ FitO y ∧ (((D i).weights Try.prog 37).all (· ≤ reachBytes) = true → LenO y) := fun i hi => by
      obtain ⟨cs, h1, h2⟩ := hx i (by omega)
      rw [cellsObj'] at h1
      obtain ⟨-, hlen, hcell⟩ := World.cells?_some h1
      obtain ⟨y, rfl, q1, q2⟩ := obj_of_trod h2 hlen
      refine ⟨y, fun j u hu => ?_, q1, q2⟩
      have hj : j < (cellsO y).toList.length := (List.getElem?_eq_some_iff.1 hu).1
      have e0 := hcell j hj
      have add_add : ((⟨b, off, none⟩ : Addr).add (i * 20)).add j = ⟨b, off + i * 20 + j, none⟩ := by
        unfold Addr.add
        split <;> split <;> simp_all
      rw [add_add] at e0
      rw [e0]
      simpa using hu
    obtain ⟨Y, hY⟩ := Go.Deep.choose_lt each
    have hll : ((List.range len).map Y).length = len := by simp
    refine ⟨(List.range len).map Y, ⟨some ⟨b, off, none⟩, cap, by rw [hll], by rw [hll]; omega, fun i hi => ?_⟩, fun o ho => ?_, fun hw o ho => ?_, fun o n c h => by cases h; exact hl⟩
    · rw [hll] at hi
      simp only [List.getElem_map, List.getElem_range]
      exact ⟨b, off, rfl, hlt, (hY i hi).1⟩
    · obtain ⟨i, hi, rfl⟩ := List.mem_map.1 ho
      exact (hY i (List.mem_range.1 hi)).2.1
    · obtain ⟨i, hi, rfl⟩ := List.mem_map.1 ho
      refine (hY i (List.mem_range.1 hi)).2.2 ?_
      rw [hdd] at hw
      exact List.all_eq_true.2 fun n hn => List.all_eq_true.1 hw n (weights_elem Try.underlying22 (List.mem_map.2 ⟨i, hi, rfl⟩) n hn)
set_option maxRecDepth 100000 in
theorem open_obj1 {H : Type} {enc : TypeId × Value → H} {w : World} {base : Nat} {spare : Nat → Bool} {held : Bool} {r : Reach} {b0 : Nat} {v : Value} {d : DataW H} {p : List MemPlace}
    (hv : Value.okWide Try.prog w r b0 37 v) (h : DataW.Trod enc Try.prog w base spare held 37 v d p) :
    ∃ o : Obj, v = encO o ∧ FitO o ∧ ((d.weights Try.prog 37).all (· ≤ reachBytes) = true → LenO o) := by
  obtain ⟨cs, rfl, hsz⟩ := okWide_struct undObj hv
  rw [cellsObj'] at hsz
  obtain ⟨fuel, hf⟩ := h
  obtain ⟨o, ho, h1, h2⟩ := obj_of_trod (l := cs.toList) (by simpa [Value.cells] using hf) (by simpa using hsz)
  exact ⟨o, by unfold encO; rw [← Array.toList_inj.1 ho], h1, h2⟩
end Go.Proofs.Ytigoghhjncpgfaa.O.B
