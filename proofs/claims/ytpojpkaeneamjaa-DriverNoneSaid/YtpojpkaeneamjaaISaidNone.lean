/- DriverNone: for every input the law answers true, and its arguments read as they did. -/
import Derived.Test.YtpojpkaeneamjaaRows
import Derived.Test.YtpojpkaeneamjaaLawEnd
import Derived.Test.YtpojpkaeneamjaaINone
import Derived.Test.YtpojpkaeneamjaaChecked
import Derived.OpenShut
import Derived.SizedLaws
import Derived.Deep.Fields
import Derived.Deep.Slices
import Derived.Deep.Strs
namespace Go.Proofs.Ytpojpkaeneamjaa.O.I
open Go.ChangeShapes Go.WideShapes Go.RowKit Go.Deep

theorem own : ownKnob Try.prog.godebug = none := by kernel_rfl
theorem laidOut : laidOutB Try.prog = true := by kernel_rfl
section
variable {H : Type} {enc : TypeId × Value → H} {w : World} {base : Nat} {spare : Nat → Bool} {held : Bool}
theorem list_cons' {α : Type} {l : List α} {n : Nat} (h : l.length = n + 1) : ∃ a t, l = a :: t ∧ t.length = n := by
  cases l with
  | nil => simp at h
  | cons a t => exact ⟨a, t, rfl, by simpa using h⟩
theorem list_nil' {α : Type} {l : List α} (h : l.length = 0) : l = [] := by
  cases l with
  | nil => rfl
  | cons a t => simp at h
theorem field_at' {P : Program} {fs : Array Field} {l : List Value} {xs : List (DataW H × List MemPlace)} {n : Nat} (hone : oneCellFields P fs = true) (hlen : xs.length = fs.size)
    (hg : ∀ (i : Nat) (f : Field), fs[i]? = some f → DataW.trod enc P w base spare held n f.type ((l.drop f.offset).take (P.cellsOf f.type)) = xs[i]?)
    (j : Nat) (f : Field) (hf : fs[j]? = some f) (u : Value) (hu : l[j]? = some u) : ∃ y, xs[j]? = some y ∧ DataW.trod enc P w base spare held n f.type [u] = some y := by
  obtain ⟨ho, hk⟩ := hone_of hone j f hf
  have hjl : j < fs.size := (Array.getElem?_eq_some_iff.1 hf).1
  have h1 := hg j f hf
  rw [ho, hk] at h1
  have hd : (l.drop j).take 1 = [u] := by
    obtain ⟨hlt, he⟩ := List.getElem?_eq_some_iff.1 hu
    rw [List.drop_eq_getElem_cons hlt, he]; rfl
  rw [hd] at h1
  exact ⟨xs[j]'(by omega), List.getElem?_eq_getElem (by omega), h1.trans (List.getElem?_eq_getElem (by omega))⟩
theorem calOne : oneCellFields Try.prog (Try.prog.fieldsOf 49) = true := by kernel_rfl
theorem calUnd : Try.prog.underlying 49 = some (.struct (Try.prog.fieldsOf 49)) := by kernel_rfl
theorem calF0 : ((Try.prog.fieldsOf 49)[0]?).map (·.type) = some 47 := by kernel_rfl
theorem calF1 : ((Try.prog.fieldsOf 49)[1]?).map (·.type) = some 9 := by kernel_rfl
theorem calF2 : ((Try.prog.fieldsOf 49)[2]?).map (·.type) = some 24 := by kernel_rfl
theorem calF3 : ((Try.prog.fieldsOf 49)[3]?).map (·.type) = some 2 := by kernel_rfl
theorem calF4 : ((Try.prog.fieldsOf 49)[4]?).map (·.type) = some 9 := by kernel_rfl
theorem calF5 : ((Try.prog.fieldsOf 49)[5]?).map (·.type) = some 9 := by kernel_rfl
theorem calF6 : ((Try.prog.fieldsOf 49)[6]?).map (·.type) = some 9 := by kernel_rfl
theorem cal_of_trod {H : Type} {enc : TypeId × Value → H} {w : World} {base : Nat} {spare : Nat → Bool} {held : Bool} {fuel : Nat} {l : List Value} {x : DataW H × List MemPlace}
    (hf : DataW.trod enc Try.prog w base spare held fuel 49 l = some x) (hl0 : l.length = 7) : ∃ c : Cl, l = (cellsC c).toList := by
  obtain ⟨xs, n, -, hx, -, hlen, hg⟩ := DataW.trod_struct calUnd hf
  obtain ⟨u0, l0, rfl, hl1⟩ := list_cons' hl0
  obtain ⟨u1, l1, rfl, hl2⟩ := list_cons' hl1
  obtain ⟨u2, l2, rfl, hl3⟩ := list_cons' hl2
  obtain ⟨u3, l3, rfl, hl4⟩ := list_cons' hl3
  obtain ⟨u4, l4, rfl, hl5⟩ := list_cons' hl4
  obtain ⟨u5, l5, rfl, hl6⟩ := list_cons' hl5
  obtain ⟨u6, l6, rfl, hl7⟩ := list_cons' hl6
  obtain rfl := list_nil' hl7
  obtain ⟨f0, hf0, ht0⟩ : ∃ f, (Try.prog.fieldsOf 49)[0]? = some f ∧ f.type = 47 := by have := calF0; rw [Option.map_eq_some_iff] at this; exact this
  obtain ⟨y0, hy0, hr0⟩ := field_at' calOne hlen hg 0 f0 hf0 u0 rfl
  rw [ht0] at hr0
  obtain ⟨x0, hc0, he0, wf0⟩ := DataW.trod_int Try.underlying47 hr0
  obtain rfl := List.head_eq_of_cons_eq hc0
  obtain ⟨f1, hf1, ht1⟩ : ∃ f, (Try.prog.fieldsOf 49)[1]? = some f ∧ f.type = 9 := by have := calF1; rw [Option.map_eq_some_iff] at this; exact this
  obtain ⟨y1, hy1, hr1⟩ := field_at' calOne hlen hg 1 f1 hf1 u1 rfl
  rw [ht1] at hr1
  obtain ⟨x1, hc1, he1, hs1⟩ := DataW.trod_string Try.underlying9 hr1
  obtain rfl := List.head_eq_of_cons_eq hc1
  obtain ⟨f2, hf2, ht2⟩ : ∃ f, (Try.prog.fieldsOf 49)[2]? = some f ∧ f.type = 24 := by have := calF2; rw [Option.map_eq_some_iff] at this; exact this
  obtain ⟨y2, hy2, hr2⟩ := field_at' calOne hlen hg 2 f2 hf2 u2 rfl
  rw [ht2] at hr2
  obtain ⟨x2, hc2, he2, wf2⟩ := DataW.trod_int Try.underlying24 hr2
  obtain rfl := List.head_eq_of_cons_eq hc2
  obtain ⟨f3, hf3, ht3⟩ : ∃ f, (Try.prog.fieldsOf 49)[3]? = some f ∧ f.type = 2 := by have := calF3; rw [Option.map_eq_some_iff] at this; exact this
  obtain ⟨y3, hy3, hr3⟩ := field_at' calOne hlen hg 3 f3 hf3 u3 rfl
  rw [ht3] at hr3
  obtain ⟨x3, hc3, he3, wf3⟩ := DataW.trod_int Try.underlying2 hr3
  obtain rfl := List.head_eq_of_cons_eq hc3
  obtain ⟨f4, hf4, ht4⟩ : ∃ f, (Try.prog.fieldsOf 49)[4]? = some f ∧ f.type = 9 := by have := calF4; rw [Option.map_eq_some_iff] at this; exact this
  obtain ⟨y4, hy4, hr4⟩ := field_at' calOne hlen hg 4 f4 hf4 u4 rfl
  rw [ht4] at hr4
  obtain ⟨x4, hc4, he4, hs4⟩ := DataW.trod_string Try.underlying9 hr4
  obtain rfl := List.head_eq_of_cons_eq hc4
  obtain ⟨f5, hf5, ht5⟩ : ∃ f, (Try.prog.fieldsOf 49)[5]? = some f ∧ f.type = 9 := by have := calF5; rw [Option.map_eq_some_iff] at this; exact this
  obtain ⟨y5, hy5, hr5⟩ := field_at' calOne hlen hg 5 f5 hf5 u5 rfl
  rw [ht5] at hr5
  obtain ⟨x5, hc5, he5, hs5⟩ := DataW.trod_string Try.underlying9 hr5
  obtain rfl := List.head_eq_of_cons_eq hc5
  obtain ⟨f6, hf6, ht6⟩ : ∃ f, (Try.prog.fieldsOf 49)[6]? = some f ∧ f.type = 9 := by have := calF6; rw [Option.map_eq_some_iff] at this; exact this
  obtain ⟨y6, hy6, hr6⟩ := field_at' calOne hlen hg 6 f6 hf6 u6 rfl
  rw [ht6] at hr6
  obtain ⟨x6, hc6, he6, hs6⟩ := DataW.trod_string Try.underlying9 hr6
  obtain rfl := List.head_eq_of_cons_eq hc6
  exact ⟨⟨x0, x1, x2, x3, x4, x5, x6⟩, rfl⟩
theorem dedUnd : Try.prog.underlying 51 = some (.struct (Try.prog.fieldsOf 51)) := by kernel_rfl
theorem dedCells : Try.prog.cellsOf 51 = 8 := by kernel_rfl
theorem dedSize : (Try.prog.fieldsOf 51).size = 2 := by kernel_rfl
theorem dedF0 : ((Try.prog.fieldsOf 51)[0]?).map (fun f => (f.type, f.offset)) = some (49, 0) := by kernel_rfl
theorem dedC0 : Try.prog.cellsOf 49 = 7 := by kernel_rfl
theorem dedF1 : ((Try.prog.fieldsOf 51)[1]?).map (fun f => (f.type, f.offset)) = some (24, 7) := by kernel_rfl
theorem dedC1 : Try.prog.cellsOf 24 = 1 := by kernel_rfl
set_option maxRecDepth 100000 in
theorem open_deed {r : Reach} {b0 : Nat} {v : Value} {d : DataW H} {p : List MemPlace} (hv : Value.okWide Try.prog w r b0 51 v) (h : DataW.Trod enc Try.prog w base spare held 51 v d p) : ∃ x, v = encX x := by
  obtain ⟨cs, rfl, hsz⟩ := okWide_struct dedUnd hv
  rw [dedCells] at hsz
  obtain ⟨l⟩ := cs
  obtain ⟨fuel, hf⟩ := h
  obtain ⟨xs, n, -, hx, -, hlen, hg⟩ := DataW.trod_struct dedUnd hf
  rw [dedSize] at hlen
  have hl0 : l.length = 8 := by simpa using hsz
  obtain ⟨u0, l0, rfl, hl1⟩ := list_cons' hl0
  obtain ⟨u1, l1, rfl, hl2⟩ := list_cons' hl1
  obtain ⟨u2, l2, rfl, hl3⟩ := list_cons' hl2
  obtain ⟨u3, l3, rfl, hl4⟩ := list_cons' hl3
  obtain ⟨u4, l4, rfl, hl5⟩ := list_cons' hl4
  obtain ⟨u5, l5, rfl, hl6⟩ := list_cons' hl5
  obtain ⟨u6, l6, rfl, hl7⟩ := list_cons' hl6
  obtain ⟨u7, l7, rfl, hl8⟩ := list_cons' hl7
  obtain rfl := list_nil' hl8
  have e0 : ∃ y, DataW.trod enc Try.prog w base spare held n 49 [u0, u1, u2, u3, u4, u5, u6] = some y := by
    obtain ⟨f, hf0, hp⟩ : ∃ f, (Try.prog.fieldsOf 51)[0]? = some f ∧ (f.type, f.offset) = (49, 0) := by have := dedF0; rw [Option.map_eq_some_iff] at this; exact this
    obtain ⟨h1, h2⟩ := Prod.mk.inj hp
    have h3 := hg 0 f hf0
    rw [h1, h2, dedC0] at h3
    exact ⟨xs[0]'(by omega), h3.trans (List.getElem?_eq_getElem (by omega))⟩
  obtain ⟨y0, e0⟩ := e0
  have e1 : ∃ y, DataW.trod enc Try.prog w base spare held n 24 [u7] = some y := by
    obtain ⟨f, hf0, hp⟩ : ∃ f, (Try.prog.fieldsOf 51)[1]? = some f ∧ (f.type, f.offset) = (24, 7) := by have := dedF1; rw [Option.map_eq_some_iff] at this; exact this
    obtain ⟨h1, h2⟩ := Prod.mk.inj hp
    have h3 := hg 1 f hf0
    rw [h1, h2, dedC1] at h3
    exact ⟨xs[1]'(by omega), h3.trans (List.getElem?_eq_getElem (by omega))⟩
  obtain ⟨y1, e1⟩ := e1
  obtain ⟨c, h0⟩ := cal_of_trod e0 rfl
  obtain ⟨t, ht, -, -⟩ := DataW.trod_int Try.underlying24 e1
  have h0' : [u0, u1, u2, u3, u4, u5, u6] = [.int .u8 c.verb, .string c.target, .int .u64 c.num, .int .i64 c.size, .string c.zone, .string c.node, .string c.source] := h0
  simp only [List.cons.injEq, and_true] at h0' ht
  obtain ⟨rfl, rfl, rfl, rfl, rfl, rfl, rfl⟩ := h0'
  subst ht
  exact ⟨⟨c, t⟩, rfl⟩
end
end Go.Proofs.Ytpojpkaeneamjaa.O.I
namespace Go.Proofs.Ytpojpkaeneamjaa.DriverNone
open Go.ChangeShapes Go.WideShapes Go.ChangeAt Go.RowKit O.I

set_option maxRecDepth 100000 in
theorem contract (H : Type) (enc : TypeId × Value → H) (W : World) (base : Nat) (args : Array Value) (ds gs : List (DataW H)) (before : List MemPlace)
    (hval : ∀ (j : Nat) t v, Try.f4.params[j]? = some t → args[j]? = some v → Value.okWide Try.prog W .any base t v)
    (hW : DataW.Whole enc Try.prog Try.f4.params.toList Rows.driverNoneSpec.vars false W args.toList ds gs before) :
    Calls Try.prog 4 args W fun e W' => ∃ v, e = .returned v ∧ Rows.driverNoneSpec.post enc Try.prog Try.f4 false true false false W args v W' := by
  have hW' := hW
  obtain ⟨p, q, hA0, hV, rfl, hfz, hnd⟩ := hW
  have hA : DataW.TrodAll enc Try.prog W 0 (fun _ => true) true Try.f4.params.toList args.toList ds p := hA0
  rw [Try.params4] at hA hval
  obtain ⟨v0, vs0, d0, ds0, p0, q0, hargs, rfl, rfl, h0, r0⟩ := trodAll_cons hA
  obtain ⟨rfl, rfl, rfl⟩ := trodAll_nil r0
  obtain rfl : args = #[v0] := by cases args; simp_all
  obtain ⟨x0, rfl⟩ := open_deed (hval 0 51 v0 rfl rfl) h0
  refine (driverNone_any x0 W).mono fun e W' ⟨he, hb⟩ => ?_
  subst he
  exact ⟨_, rfl, LawEnd.post_true laidOut (by kernel_rfl) rfl Try.underlying4 rfl hW' rfl hb⟩

set_option maxRecDepth 100000 in
theorem lifted (os : Os) (started : os.Started) (H : Type) (enc : TypeId × Value → H) :
    ReturnsInHanded {} Try.checked os 4 .any (Rows.driverNoneSpec.pre6 enc Try.prog Try.f4 Rows.driverNoneRow.domain false) (Rows.driverNoneSpec.post enc Try.prog Try.f4 false true false false) := by
  refine returnsInHanded_of_change_sized (C := Try.checked) own started (by kernel_rfl) Try.func4
    (ChangeSpec.witness6 (enc := enc) (C := Try.checked) false ⟨#[], #[.agg #[.int .u8 0, .string ⟨#[]⟩, .int .u64 0, .int .i64 0, .string ⟨#[]⟩, .string ⟨#[]⟩, .string ⟨#[]⟩, .int .u64 0]], []⟩ 8 (by kernel_rfl) (by kernel_rfl) (by kernel_rfl) (by kernel_rfl)) ?_
  intro W base args ds gs before hval hW _ hsz _
  exact contract H enc W base args ds gs before hval hW

theorem said : Rows.DriverNoneSaid :=
  OpenClaim.holds_of_wide 4 Try.f4 rfl rfl rfl rfl rfl rfl rfl ⟨rfl, rfl, rfl, rfl, rfl⟩ rfl rfl rfl rfl rfl (by kernel_rfl) Try.func4 (by kernel_rfl)
    (of_decide_eq_true (by kernel_rfl)) (by unfold Func.isWrapper; first | (rw [if_pos (by decide +kernel)]; kernel_rfl) | (rw [if_neg (by decide +kernel)]; exact ⟨rfl, rfl⟩))
    (fun os started H enc _ => lifted os started H enc)
end Go.Proofs.Ytpojpkaeneamjaa.DriverNone
