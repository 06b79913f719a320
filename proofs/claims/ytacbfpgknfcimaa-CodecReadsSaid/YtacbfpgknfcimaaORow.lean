/- An object as it comes in: its fields, and how long its texts are. -/
import Derived.Test.YtacbfpgknfcimaaOBox
import Derived.Test.YtacbfpgknfcimaaLawEnd
import Derived.Deep.Fields
import Derived.OpenShut
import Derived.SizedLaws
namespace Go.Proofs.Ytacbfpgknfcimaa.O
open Go.ChangeShapes Go.WideShapes Go.RowKit Go.Deep
open Go.ChangeMaps (open_string)

theorem own : ownKnob Try.prog.godebug = none := by kernel_rfl
theorem laidOut : laidOutB Try.prog = true := by kernel_rfl

theorem list_cons {α : Type} {n : Nat} {l : List α} (h : l.length = n + 1) : ∃ a t, l = a :: t ∧ t.length = n := by
  cases l with
  | nil => simp at h
  | cons a t => exact ⟨a, t, rfl, by simpa using h⟩
theorem list_nil {α : Type} {l : List α} (h : l.length = 0) : l = [] := List.length_eq_zero_iff.1 h

section
variable {H : Type} {enc : TypeId × Value → H} {P : Program} {w : World} {base : Nat} {spare : Nat → Bool} {held : Bool}
/-- One field of a struct of one-cell fields. -/
theorem field_at {fs : Array Field} {l : List Value} {xs : List (DataW H × List MemPlace)} {n : Nat} (hone : oneCellFields P fs = true) (hlen : xs.length = fs.size)
    (hg : ∀ (i : Nat) (f : Field), fs[i]? = some f → DataW.trod enc P w base spare held n f.type ((l.drop f.offset).take (P.cellsOf f.type)) = xs[i]?)
    (j : Nat) (f : Field) (hf : fs[j]? = some f) (u : Value) (hu : l[j]? = some u) : ∃ y, xs[j]? = some y ∧ DataW.trod enc P w base spare held n f.type [u] = some y := by
  obtain ⟨ho, hk⟩ := hone_of hone j f hf
  have hjl : j < fs.size := (Array.getElem?_eq_some_iff.1 hf).1
  have h1 := hg j f hf
  rw [ho, hk] at h1
  have hd : (l.drop j).take 1 = [u] := by
    obtain ⟨hlt, he⟩ := List.getElem?_eq_some_iff.1 hu
    rw [List.drop_eq_getElem_cons hlt, he]; rfl
  rw [hd] at h1
  exact ⟨xs[j]'(by omega), List.getElem?_eq_getElem (by omega), h1.trans (List.getElem?_eq_getElem (by omega))⟩
end

theorem oneObj : oneCellFields Try.prog (Try.prog.fieldsOf 27) = true := by kernel_rfl
theorem cellsObj : Try.prog.cellsOf 27 = 20 := by kernel_rfl
theorem fieldsSize : (Try.prog.fieldsOf 27).size = 20 := by kernel_rfl
theorem fld0 : ((Try.prog.fieldsOf 27)[0]?).map (·.type) = some 23 := by kernel_rfl
theorem fld1 : ((Try.prog.fieldsOf 27)[1]?).map (·.type) = some 9 := by kernel_rfl
theorem fld2 : ((Try.prog.fieldsOf 27)[2]?).map (·.type) = some 22 := by kernel_rfl
theorem fld3 : ((Try.prog.fieldsOf 27)[3]?).map (·.type) = some 22 := by kernel_rfl
theorem fld4 : ((Try.prog.fieldsOf 27)[4]?).map (·.type) = some 4 := by kernel_rfl
theorem fld5 : ((Try.prog.fieldsOf 27)[5]?).map (·.type) = some 4 := by kernel_rfl
theorem fld6 : ((Try.prog.fieldsOf 27)[6]?).map (·.type) = some 9 := by kernel_rfl
theorem fld7 : ((Try.prog.fieldsOf 27)[7]?).map (·.type) = some 2 := by kernel_rfl
theorem fld8 : ((Try.prog.fieldsOf 27)[8]?).map (·.type) = some 2 := by kernel_rfl
theorem fld9 : ((Try.prog.fieldsOf 27)[9]?).map (·.type) = some 24 := by kernel_rfl
theorem fld10 : ((Try.prog.fieldsOf 27)[10]?).map (·.type) = some 4 := by kernel_rfl
theorem fld11 : ((Try.prog.fieldsOf 27)[11]?).map (·.type) = some 4 := by kernel_rfl
theorem fld12 : ((Try.prog.fieldsOf 27)[12]?).map (·.type) = some 9 := by kernel_rfl
theorem fld13 : ((Try.prog.fieldsOf 27)[13]?).map (·.type) = some 9 := by kernel_rfl
theorem fld14 : ((Try.prog.fieldsOf 27)[14]?).map (·.type) = some 9 := by kernel_rfl
theorem fld15 : ((Try.prog.fieldsOf 27)[15]?).map (·.type) = some 9 := by kernel_rfl
theorem fld16 : ((Try.prog.fieldsOf 27)[16]?).map (·.type) = some 9 := by kernel_rfl
theorem fld17 : ((Try.prog.fieldsOf 27)[17]?).map (·.type) = some 25 := by kernel_rfl
theorem fld18 : ((Try.prog.fieldsOf 27)[18]?).map (·.type) = some 22 := by kernel_rfl
theorem fld19 : ((Try.prog.fieldsOf 27)[19]?).map (·.type) = some 22 := by kernel_rfl

/-- An object that comes in. -/
theorem open_obj {H : Type} {enc : TypeId × Value → H} {w : World} {base : Nat} {spare : Nat → Bool} {held : Bool} {r : Reach} {b0 : Nat} {v : Value} {d : DataW H} {p : List MemPlace}
    (hv : Value.okWide Try.prog w r b0 27 v) (h : DataW.Trod enc Try.prog w base spare held 27 v d p) :
    ∃ o : Obj, v = encO o ∧ (o.name.size ≤ maxLen ∧ o.cls.size ≤ maxLen ∧ o.zone.size ≤ maxLen ∧ o.node.size ≤ maxLen ∧ o.claim.size ≤ maxLen ∧ o.volume.size ≤ maxLen ∧ o.source.size ≤ maxLen) ∧
      ((d.weights Try.prog 27).all (· ≤ reachBytes) = true → o.volume.size ≤ reachBytes ∧ o.node.size ≤ reachBytes) := by
  obtain ⟨cs, rfl, hsz⟩ := okWide_struct undObj hv
  rw [cellsObj] at hsz
  obtain ⟨l⟩ := cs
  obtain ⟨fuel, hf⟩ := h
  obtain ⟨xs, n, -, hx, -, hlen, hg⟩ := DataW.trod_struct undObj hf
  have hl0 : l.length = 20 := by simpa using hsz
  obtain ⟨u0, l0, rfl, hl1⟩ := list_cons hl0
  obtain ⟨u1, l1, rfl, hl2⟩ := list_cons hl1
  obtain ⟨u2, l2, rfl, hl3⟩ := list_cons hl2
  obtain ⟨u3, l3, rfl, hl4⟩ := list_cons hl3
  obtain ⟨u4, l4, rfl, hl5⟩ := list_cons hl4
  obtain ⟨u5, l5, rfl, hl6⟩ := list_cons hl5
  obtain ⟨u6, l6, rfl, hl7⟩ := list_cons hl6
  obtain ⟨u7, l7, rfl, hl8⟩ := list_cons hl7
  obtain ⟨u8, l8, rfl, hl9⟩ := list_cons hl8
  obtain ⟨u9, l9, rfl, hl10⟩ := list_cons hl9
  obtain ⟨u10, l10, rfl, hl11⟩ := list_cons hl10
  obtain ⟨u11, l11, rfl, hl12⟩ := list_cons hl11
  obtain ⟨u12, l12, rfl, hl13⟩ := list_cons hl12
  obtain ⟨u13, l13, rfl, hl14⟩ := list_cons hl13
  obtain ⟨u14, l14, rfl, hl15⟩ := list_cons hl14
  obtain ⟨u15, l15, rfl, hl16⟩ := list_cons hl15
  obtain ⟨u16, l16, rfl, hl17⟩ := list_cons hl16
  obtain ⟨u17, l17, rfl, hl18⟩ := list_cons hl17
  obtain ⟨u18, l18, rfl, hl19⟩ := list_cons hl18
  obtain ⟨u19, l19, rfl, hl20⟩ := list_cons hl19
  obtain rfl := list_nil hl20
  have hg' : ∀ (i : Nat) (f : Field), (Try.prog.fieldsOf 27)[i]? = some f → DataW.trod enc Try.prog w base spare held n f.type (([u0, u1, u2, u3, u4, u5, u6, u7, u8, u9, u10, u11, u12, u13, u14, u15, u16, u17, u18, u19].drop f.offset).take (Try.prog.cellsOf f.type)) = xs[i]? := fun i f hif => by simpa [Value.cells] using hg i f hif
  obtain ⟨f0, hf0, ht0⟩ : ∃ f, (Try.prog.fieldsOf 27)[0]? = some f ∧ f.type = 23 := by have := fld0; rw [Option.map_eq_some_iff] at this; exact this
  obtain ⟨y0, hy0, hr0⟩ := field_at oneObj hlen hg' 0 f0 hf0 u0 rfl
  rw [ht0] at hr0
  obtain ⟨x0, hc0, he0, -⟩ := DataW.trod_int Try.underlying23 hr0
  obtain rfl := List.head_eq_of_cons_eq hc0
  obtain ⟨f1, hf1, ht1⟩ : ∃ f, (Try.prog.fieldsOf 27)[1]? = some f ∧ f.type = 9 := by have := fld1; rw [Option.map_eq_some_iff] at this; exact this
  obtain ⟨y1, hy1, hr1⟩ := field_at oneObj hlen hg' 1 f1 hf1 u1 rfl
  rw [ht1] at hr1
  obtain ⟨x1, hc1, he1, hs1⟩ := DataW.trod_string Try.underlying9 hr1
  obtain rfl := List.head_eq_of_cons_eq hc1
  obtain ⟨f2, hf2, ht2⟩ : ∃ f, (Try.prog.fieldsOf 27)[2]? = some f ∧ f.type = 22 := by have := fld2; rw [Option.map_eq_some_iff] at this; exact this
  obtain ⟨y2, hy2, hr2⟩ := field_at oneObj hlen hg' 2 f2 hf2 u2 rfl
  rw [ht2] at hr2
  obtain ⟨x2, hc2, he2, -⟩ := DataW.trod_int Try.underlying22 hr2
  obtain rfl := List.head_eq_of_cons_eq hc2
  obtain ⟨f3, hf3, ht3⟩ : ∃ f, (Try.prog.fieldsOf 27)[3]? = some f ∧ f.type = 22 := by have := fld3; rw [Option.map_eq_some_iff] at this; exact this
  obtain ⟨y3, hy3, hr3⟩ := field_at oneObj hlen hg' 3 f3 hf3 u3 rfl
  rw [ht3] at hr3
  obtain ⟨x3, hc3, he3, -⟩ := DataW.trod_int Try.underlying22 hr3
  obtain rfl := List.head_eq_of_cons_eq hc3
  obtain ⟨f4, hf4, ht4⟩ : ∃ f, (Try.prog.fieldsOf 27)[4]? = some f ∧ f.type = 4 := by have := fld4; rw [Option.map_eq_some_iff] at this; exact this
  obtain ⟨y4, hy4, hr4⟩ := field_at oneObj hlen hg' 4 f4 hf4 u4 rfl
  rw [ht4] at hr4
  obtain ⟨x4, hc4, he4⟩ := DataW.trod_bool Try.underlying4 hr4
  obtain rfl := List.head_eq_of_cons_eq hc4
  obtain ⟨f5, hf5, ht5⟩ : ∃ f, (Try.prog.fieldsOf 27)[5]? = some f ∧ f.type = 4 := by have := fld5; rw [Option.map_eq_some_iff] at this; exact this
  obtain ⟨y5, hy5, hr5⟩ := field_at oneObj hlen hg' 5 f5 hf5 u5 rfl
  rw [ht5] at hr5
  obtain ⟨x5, hc5, he5⟩ := DataW.trod_bool Try.underlying4 hr5
  obtain rfl := List.head_eq_of_cons_eq hc5
  obtain ⟨f6, hf6, ht6⟩ : ∃ f, (Try.prog.fieldsOf 27)[6]? = some f ∧ f.type = 9 := by have := fld6; rw [Option.map_eq_some_iff] at this; exact this
  obtain ⟨y6, hy6, hr6⟩ := field_at oneObj hlen hg' 6 f6 hf6 u6 rfl
  rw [ht6] at hr6
  obtain ⟨x6, hc6, he6, hs6⟩ := DataW.trod_string Try.underlying9 hr6
  obtain rfl := List.head_eq_of_cons_eq hc6
  obtain ⟨f7, hf7, ht7⟩ : ∃ f, (Try.prog.fieldsOf 27)[7]? = some f ∧ f.type = 2 := by have := fld7; rw [Option.map_eq_some_iff] at this; exact this
  obtain ⟨y7, hy7, hr7⟩ := field_at oneObj hlen hg' 7 f7 hf7 u7 rfl
  rw [ht7] at hr7
  obtain ⟨x7, hc7, he7, -⟩ := DataW.trod_int Try.underlying2 hr7
  obtain rfl := List.head_eq_of_cons_eq hc7
  obtain ⟨f8, hf8, ht8⟩ : ∃ f, (Try.prog.fieldsOf 27)[8]? = some f ∧ f.type = 2 := by have := fld8; rw [Option.map_eq_some_iff] at this; exact this
  obtain ⟨y8, hy8, hr8⟩ := field_at oneObj hlen hg' 8 f8 hf8 u8 rfl
  rw [ht8] at hr8
  obtain ⟨x8, hc8, he8, -⟩ := DataW.trod_int Try.underlying2 hr8
  obtain rfl := List.head_eq_of_cons_eq hc8
  obtain ⟨f9, hf9, ht9⟩ : ∃ f, (Try.prog.fieldsOf 27)[9]? = some f ∧ f.type = 24 := by have := fld9; rw [Option.map_eq_some_iff] at this; exact this
  obtain ⟨y9, hy9, hr9⟩ := field_at oneObj hlen hg' 9 f9 hf9 u9 rfl
  rw [ht9] at hr9
  obtain ⟨x9, hc9, he9, -⟩ := DataW.trod_int Try.underlying24 hr9
  obtain rfl := List.head_eq_of_cons_eq hc9
  obtain ⟨f10, hf10, ht10⟩ : ∃ f, (Try.prog.fieldsOf 27)[10]? = some f ∧ f.type = 4 := by have := fld10; rw [Option.map_eq_some_iff] at this; exact this
  obtain ⟨y10, hy10, hr10⟩ := field_at oneObj hlen hg' 10 f10 hf10 u10 rfl
  rw [ht10] at hr10
  obtain ⟨x10, hc10, he10⟩ := DataW.trod_bool Try.underlying4 hr10
  obtain rfl := List.head_eq_of_cons_eq hc10
  obtain ⟨f11, hf11, ht11⟩ : ∃ f, (Try.prog.fieldsOf 27)[11]? = some f ∧ f.type = 4 := by have := fld11; rw [Option.map_eq_some_iff] at this; exact this
  obtain ⟨y11, hy11, hr11⟩ := field_at oneObj hlen hg' 11 f11 hf11 u11 rfl
  rw [ht11] at hr11
  obtain ⟨x11, hc11, he11⟩ := DataW.trod_bool Try.underlying4 hr11
  obtain rfl := List.head_eq_of_cons_eq hc11
  obtain ⟨f12, hf12, ht12⟩ : ∃ f, (Try.prog.fieldsOf 27)[12]? = some f ∧ f.type = 9 := by have := fld12; rw [Option.map_eq_some_iff] at this; exact this
  obtain ⟨y12, hy12, hr12⟩ := field_at oneObj hlen hg' 12 f12 hf12 u12 rfl
  rw [ht12] at hr12
  obtain ⟨x12, hc12, he12, hs12⟩ := DataW.trod_string Try.underlying9 hr12
  obtain rfl := List.head_eq_of_cons_eq hc12
  obtain ⟨f13, hf13, ht13⟩ : ∃ f, (Try.prog.fieldsOf 27)[13]? = some f ∧ f.type = 9 := by have := fld13; rw [Option.map_eq_some_iff] at this; exact this
  obtain ⟨y13, hy13, hr13⟩ := field_at oneObj hlen hg' 13 f13 hf13 u13 rfl
  rw [ht13] at hr13
  obtain ⟨x13, hc13, he13, hs13⟩ := DataW.trod_string Try.underlying9 hr13
  obtain rfl := List.head_eq_of_cons_eq hc13
  obtain ⟨f14, hf14, ht14⟩ : ∃ f, (Try.prog.fieldsOf 27)[14]? = some f ∧ f.type = 9 := by have := fld14; rw [Option.map_eq_some_iff] at this; exact this
  obtain ⟨y14, hy14, hr14⟩ := field_at oneObj hlen hg' 14 f14 hf14 u14 rfl
  rw [ht14] at hr14
  obtain ⟨x14, hc14, he14, hs14⟩ := DataW.trod_string Try.underlying9 hr14
  obtain rfl := List.head_eq_of_cons_eq hc14
  obtain ⟨f15, hf15, ht15⟩ : ∃ f, (Try.prog.fieldsOf 27)[15]? = some f ∧ f.type = 9 := by have := fld15; rw [Option.map_eq_some_iff] at this; exact this
  obtain ⟨y15, hy15, hr15⟩ := field_at oneObj hlen hg' 15 f15 hf15 u15 rfl
  rw [ht15] at hr15
  obtain ⟨x15, hc15, he15, hs15⟩ := DataW.trod_string Try.underlying9 hr15
  obtain rfl := List.head_eq_of_cons_eq hc15
  obtain ⟨f16, hf16, ht16⟩ : ∃ f, (Try.prog.fieldsOf 27)[16]? = some f ∧ f.type = 9 := by have := fld16; rw [Option.map_eq_some_iff] at this; exact this
  obtain ⟨y16, hy16, hr16⟩ := field_at oneObj hlen hg' 16 f16 hf16 u16 rfl
  rw [ht16] at hr16
  obtain ⟨x16, hc16, he16, hs16⟩ := DataW.trod_string Try.underlying9 hr16
  obtain rfl := List.head_eq_of_cons_eq hc16
  obtain ⟨f17, hf17, ht17⟩ : ∃ f, (Try.prog.fieldsOf 27)[17]? = some f ∧ f.type = 25 := by have := fld17; rw [Option.map_eq_some_iff] at this; exact this
  obtain ⟨y17, hy17, hr17⟩ := field_at oneObj hlen hg' 17 f17 hf17 u17 rfl
  rw [ht17] at hr17
  obtain ⟨x17, hc17, he17, -⟩ := DataW.trod_int Try.underlying25 hr17
  obtain rfl := List.head_eq_of_cons_eq hc17
  obtain ⟨f18, hf18, ht18⟩ : ∃ f, (Try.prog.fieldsOf 27)[18]? = some f ∧ f.type = 22 := by have := fld18; rw [Option.map_eq_some_iff] at this; exact this
  obtain ⟨y18, hy18, hr18⟩ := field_at oneObj hlen hg' 18 f18 hf18 u18 rfl
  rw [ht18] at hr18
  obtain ⟨x18, hc18, he18, -⟩ := DataW.trod_int Try.underlying22 hr18
  obtain rfl := List.head_eq_of_cons_eq hc18
  obtain ⟨f19, hf19, ht19⟩ : ∃ f, (Try.prog.fieldsOf 27)[19]? = some f ∧ f.type = 22 := by have := fld19; rw [Option.map_eq_some_iff] at this; exact this
  obtain ⟨y19, hy19, hr19⟩ := field_at oneObj hlen hg' 19 f19 hf19 u19 rfl
  rw [ht19] at hr19
  obtain ⟨x19, hc19, he19, -⟩ := DataW.trod_int Try.underlying22 hr19
  obtain rfl := List.head_eq_of_cons_eq hc19
  refine ⟨⟨x0, x1, x2, x3, x4, x5, x6, x7, x8, x9, x10, x11, x12, x13, x14, x15, x16, x17, x18, x19⟩, rfl, ⟨hs1, hs6, hs12, hs13, hs14, hs15, hs16⟩, fun hw => ?_⟩
  obtain ⟨hd, -⟩ := Prod.mk.inj hx
  rw [hd] at hw
  have hw' : (DataW.weightsEach Try.prog ((Try.prog.fieldsOf 27).toList.map (·.type)) (xs.map (·.1))).all (· ≤ reachBytes) = true := by
    simpa only [DataW.weights, undObj] using hw
  have at_ : ∀ (j : Nat) (f : Field) (y : DataW H × List MemPlace) (s : ByteArray), (Try.prog.fieldsOf 27)[j]? = some f → f.type = 9 → xs[j]? = some y → y = (.lit (.string s.data.toList), []) → s.size ≤ reachBytes := fun j f y s h1 h2 h3 h4 => by
    have := sized_string (j := j) (t := 9) (bytes := s.data.toList) hw' (by rw [List.getElem?_map, Array.getElem?_toList, h1, Option.map_some, h2]) (by rw [List.getElem?_map, h3, Option.map_some, h4])
    simpa using this
  exact ⟨at_ 15 f15 y15 x15 hf15 ht15 hy15 he15, at_ 13 f13 y13 x13 hf13 ht13 hy13 he13⟩
end Go.Proofs.Ytacbfpgknfcimaa.O
