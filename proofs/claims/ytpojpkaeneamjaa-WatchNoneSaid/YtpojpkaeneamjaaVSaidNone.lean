/- WatchNone: for every input the law answers true, and its arguments read as they did. -/
import Derived.Test.YtpojpkaeneamjaaRows
import Derived.Test.YtpojpkaeneamjaaLawEnd
import Derived.Test.YtpojpkaeneamjaaVNone
import Derived.Test.YtpojpkaeneamjaaChecked
import Derived.OpenShut
import Derived.SizedLaws
import Derived.Deep.Fields
import Derived.Deep.Slices
import Derived.Deep.Strs
namespace Go.Proofs.Ytpojpkaeneamjaa.O.V
open Go.ChangeShapes Go.WideShapes Go.RowKit Go.Deep

theorem own : ownKnob Try.prog.godebug = none := by kernel_rfl
theorem laidOut : laidOutB Try.prog = true := by kernel_rfl
section
variable {H : Type} {enc : TypeId × Value → H} {w : World} {base : Nat} {spare : Nat → Bool} {held : Bool}
theorem list_cons' {α : Type} {l : List α} {n : Nat} (h : l.length = n + 1) : ∃ a t, l = a :: t ∧ t.length = n := by
  cases l with
  | nil => simp at h
  | cons a t => exact ⟨a, t, rfl, by simpa using h⟩
theorem list_nil' {α : Type} {l : List α} (h : l.length = 0) : l = [] := by
  cases l with
  | nil => rfl
  | cons a t => simp at h
theorem field_at' {P : Program} {fs : Array Field} {l : List Value} {xs : List (DataW H × List MemPlace)} {n : Nat} (hone : oneCellFields P fs = true) (hlen : xs.length = fs.size)
    (hg : ∀ (i : Nat) (f : Field), fs[i]? = some f → DataW.trod enc P w base spare held n f.type ((l.drop f.offset).take (P.cellsOf f.type)) = xs[i]?)
    (j : Nat) (f : Field) (hf : fs[j]? = some f) (u : Value) (hu : l[j]? = some u) : ∃ y, xs[j]? = some y ∧ DataW.trod enc P w base spare held n f.type [u] = some y := by
  obtain ⟨ho, hk⟩ := hone_of hone j f hf
  have hjl : j < fs.size := (Array.getElem?_eq_some_iff.1 hf).1
  have h1 := hg j f hf
  rw [ho, hk] at h1
  have hd : (l.drop j).take 1 = [u] := by
    obtain ⟨hlt, he⟩ := List.getElem?_eq_some_iff.1 hu
    rw [List.drop_eq_getElem_cons hlt, he]; rfl
  rw [hd] at h1
  exact ⟨xs[j]'(by omega), List.getElem?_eq_getElem (by omega), h1.trans (List.getElem?_eq_getElem (by omega))⟩
theorem deedOne : oneCellFields Try.prog (Try.prog.fieldsOf 26) = true := by kernel_rfl
theorem deedUnd : Try.prog.underlying 26 = some (.struct (Try.prog.fieldsOf 26)) := by kernel_rfl
theorem deedCells : Try.prog.cellsOf 26 = 5 := by kernel_rfl
theorem deedF0 : ((Try.prog.fieldsOf 26)[0]?).map (·.type) = some 3 := by kernel_rfl
theorem deedF1 : ((Try.prog.fieldsOf 26)[1]?).map (·.type) = some 4 := by kernel_rfl
theorem deedF2 : ((Try.prog.fieldsOf 26)[2]?).map (·.type) = some 22 := by kernel_rfl
theorem deedF3 : ((Try.prog.fieldsOf 26)[3]?).map (·.type) = some 23 := by kernel_rfl
theorem deedF4 : ((Try.prog.fieldsOf 26)[4]?).map (·.type) = some 24 := by kernel_rfl
theorem keyOne : oneCellFields Try.prog (Try.prog.fieldsOf 29) = true := by kernel_rfl
theorem keyCells : Try.prog.cellsOf 29 = 2 := by kernel_rfl
theorem keyF0 : ((Try.prog.fieldsOf 29)[0]?).map (·.type) = some 27 := by kernel_rfl
theorem keyF1 : ((Try.prog.fieldsOf 29)[1]?).map (·.type) = some 9 := by kernel_rfl
theorem slice_in {t e : TypeId} {n : Nat} {u : Value} {x : DataW H × List MemPlace} (ht : Try.prog.underlying t = some (.slice e)) (h : DataW.trod enc Try.prog w base spare held n t [u] = some x) : ∃ a m c, u = .slice a m c := by
  rcases Go.Deep.open_slice ht h with ⟨hcs, -⟩ | ⟨a, len, cap, m, n, D, Pl, hcs, -⟩
  · exact ⟨none, 0, 0, by simpa using hcs⟩
  · exact ⟨some a, len, cap, by simpa using hcs⟩
theorem type_at {T t : TypeId} {j : Nat} (h : ((Try.prog.fieldsOf T)[j]?).map (·.type) = some t) : ∃ f, (Try.prog.fieldsOf T)[j]? = some f ∧ f.type = t := by
  rw [Option.map_eq_some_iff] at h
  exact h
set_option maxRecDepth 100000 in
theorem open_deed {r : Reach} {b0 : Nat} {v : Value} {d : DataW H} {p : List MemPlace} (hv : Value.okWide Try.prog w r b0 26 v) (h : DataW.Trod enc Try.prog w base spare held 26 v d p) : ∃ x, v = encD x := by
  obtain ⟨cs, rfl, hsz⟩ := okWide_struct deedUnd hv
  rw [deedCells] at hsz
  obtain ⟨l⟩ := cs
  obtain ⟨fuel, hf⟩ := h
  obtain ⟨xs, n, -, hx, -, hlen, hg⟩ := DataW.trod_struct deedUnd hf
  have hl0 : l.length = 5 := by simpa using hsz
  obtain ⟨u0, l0, rfl, hl1⟩ := list_cons' hl0
  obtain ⟨u1, l1, rfl, hl2⟩ := list_cons' hl1
  obtain ⟨u2, l2, rfl, hl3⟩ := list_cons' hl2
  obtain ⟨u3, l3, rfl, hl4⟩ := list_cons' hl3
  obtain ⟨u4, l4, rfl, hl5⟩ := list_cons' hl4
  obtain rfl := list_nil' hl5
  obtain ⟨f0, hf0, ht0⟩ := type_at deedF0
  obtain ⟨y0, -, hr0⟩ := field_at' deedOne hlen hg 0 f0 hf0 u0 rfl
  rw [ht0] at hr0
  obtain ⟨x0, hc0, -, -⟩ := DataW.trod_int Try.underlying3 hr0
  obtain ⟨f1, hf1, ht1⟩ := type_at deedF1
  obtain ⟨y1, -, hr1⟩ := field_at' deedOne hlen hg 1 f1 hf1 u1 rfl
  rw [ht1] at hr1
  obtain ⟨x1, hc1, -⟩ := DataW.trod_bool Try.underlying4 hr1
  obtain ⟨f2, hf2, ht2⟩ := type_at deedF2
  obtain ⟨y2, -, hr2⟩ := field_at' deedOne hlen hg 2 f2 hf2 u2 rfl
  rw [ht2] at hr2
  obtain ⟨a2, m2, c2, rfl⟩ := slice_in Try.underlying22 hr2
  obtain ⟨f3, hf3, ht3⟩ := type_at deedF3
  obtain ⟨y3, -, hr3⟩ := field_at' deedOne hlen hg 3 f3 hf3 u3 rfl
  rw [ht3] at hr3
  obtain ⟨a3, m3, c3, rfl⟩ := slice_in Try.underlying23 hr3
  obtain ⟨f4, hf4, ht4⟩ := type_at deedF4
  obtain ⟨y4, -, hr4⟩ := field_at' deedOne hlen hg 4 f4 hf4 u4 rfl
  rw [ht4] at hr4
  obtain ⟨x4, hc4, -, -⟩ := DataW.trod_int Try.underlying24 hr4
  obtain rfl := List.head_eq_of_cons_eq hc0
  obtain rfl := List.head_eq_of_cons_eq hc1
  obtain rfl := List.head_eq_of_cons_eq hc4
  exact ⟨⟨x0, x1, a2, m2, c2, a3, m3, c3, x4⟩, rfl⟩
set_option maxRecDepth 100000 in
theorem open_key {r : Reach} {b0 : Nat} {v : Value} {d : DataW H} {p : List MemPlace} (hv : Value.okWide Try.prog w r b0 29 v) (h : DataW.Trod enc Try.prog w base spare held 29 v d p) : ∃ x, v = encK x := by
  obtain ⟨cs, rfl, hsz⟩ := okWide_struct undKey hv
  rw [keyCells] at hsz
  obtain ⟨l⟩ := cs
  obtain ⟨fuel, hf⟩ := h
  obtain ⟨xs, n, -, hx, -, hlen, hg⟩ := DataW.trod_struct undKey hf
  have hl0 : l.length = 2 := by simpa using hsz
  obtain ⟨u0, l0, rfl, hl1⟩ := list_cons' hl0
  obtain ⟨u1, l1, rfl, hl2⟩ := list_cons' hl1
  obtain rfl := list_nil' hl2
  obtain ⟨f0, hf0, ht0⟩ := type_at keyF0
  obtain ⟨y0, -, hr0⟩ := field_at' keyOne hlen hg 0 f0 hf0 u0 rfl
  rw [ht0] at hr0
  obtain ⟨x0, hc0, -, -⟩ := DataW.trod_int Try.underlying27 hr0
  obtain ⟨f1, hf1, ht1⟩ := type_at keyF1
  obtain ⟨y1, -, hr1⟩ := field_at' keyOne hlen hg 1 f1 hf1 u1 rfl
  rw [ht1] at hr1
  obtain ⟨x1, hc1, -, -⟩ := DataW.trod_string Try.underlying9 hr1
  obtain rfl := List.head_eq_of_cons_eq hc0
  obtain rfl := List.head_eq_of_cons_eq hc1
  exact ⟨⟨x0, x1⟩, rfl⟩
end
end Go.Proofs.Ytpojpkaeneamjaa.O.V
namespace Go.Proofs.Ytpojpkaeneamjaa.WatchNone
open Go.ChangeShapes Go.WideShapes Go.ChangeAt Go.RowKit O.V

set_option maxRecDepth 100000 in
theorem contract (H : Type) (enc : TypeId × Value → H) (W : World) (base : Nat) (args : Array Value) (ds gs : List (DataW H)) (before : List MemPlace)
    (hval : ∀ (j : Nat) t v, Try.f3.params[j]? = some t → args[j]? = some v → Value.okWide Try.prog W .any base t v)
    (hW : DataW.Whole enc Try.prog Try.f3.params.toList Rows.watchNoneSpec.vars false W args.toList ds gs before) :
    Calls Try.prog 3 args W fun e W' => ∃ v, e = .returned v ∧ Rows.watchNoneSpec.post enc Try.prog Try.f3 false true false false W args v W' := by
  have hW' := hW
  obtain ⟨p, q, hA0, hV, rfl, hfz, hnd⟩ := hW
  have hA : DataW.TrodAll enc Try.prog W 0 (fun _ => true) true Try.f3.params.toList args.toList ds p := hA0
  rw [Try.params3] at hA hval
  obtain ⟨v0, vs0, d0, ds0, p0, q0, hargs, rfl, rfl, h0, r0⟩ := trodAll_cons hA
  obtain ⟨v1, vs1, d1, ds1, p1, q1, rfl, rfl, rfl, h1, r1⟩ := trodAll_cons r0
  obtain ⟨rfl, rfl, rfl⟩ := trodAll_nil r1
  obtain rfl : args = #[v0, v1] := by cases args; simp_all
  obtain ⟨x0, rfl⟩ := open_deed (hval 0 26 v0 rfl rfl) h0
  obtain ⟨x1, rfl⟩ := open_key (hval 1 29 v1 rfl rfl) h1
  refine (watchNone_any x0 x1 W).mono fun e W' ⟨he, hb⟩ => ?_
  subst he
  exact ⟨_, rfl, LawEnd.post_true laidOut (by kernel_rfl) rfl Try.underlying4 rfl hW' rfl hb⟩

set_option maxRecDepth 100000 in
theorem lifted (os : Os) (started : os.Started) (H : Type) (enc : TypeId × Value → H) :
    ReturnsInHanded {} Try.checked os 3 .any (Rows.watchNoneSpec.pre6 enc Try.prog Try.f3 Rows.watchNoneRow.domain false) (Rows.watchNoneSpec.post enc Try.prog Try.f3 false true false false) := by
  refine returnsInHanded_of_change_sized (C := Try.checked) own started (by kernel_rfl) Try.func3
    (ChangeSpec.witness6 (enc := enc) (C := Try.checked) false ⟨#[], #[.agg #[.int .i64 0, .bool false, .slice none 0 0, .slice none 0 0, .int .u64 0], .agg #[.int .u8 0, .string ⟨#[]⟩]], []⟩ 8 (by kernel_rfl) (by kernel_rfl) (by kernel_rfl) (by kernel_rfl)) ?_
  intro W base args ds gs before hval hW _ hsz _
  exact contract H enc W base args ds gs before hval hW

theorem said : Rows.WatchNoneSaid :=
  OpenClaim.holds_of_wide 3 Try.f3 rfl rfl rfl rfl rfl rfl rfl ⟨rfl, rfl, rfl, rfl, rfl⟩ rfl rfl rfl rfl rfl (by kernel_rfl) Try.func3 (by kernel_rfl)
    (of_decide_eq_true (by kernel_rfl)) (by unfold Func.isWrapper; first | (rw [if_pos (by decide +kernel)]; kernel_rfl) | (rw [if_neg (by decide +kernel)]; exact ⟨rfl, rfl⟩))
    (fun os started H enc _ => lifted os started H enc)
end Go.Proofs.Ytpojpkaeneamjaa.WatchNone
