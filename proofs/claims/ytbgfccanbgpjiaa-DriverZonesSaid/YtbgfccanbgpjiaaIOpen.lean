/- Rows of structures that come in: zones. -/
import Derived.Test.YtbgfccanbgpjiaaIU8
namespace Go.Proofs.Ytbgfccanbgpjiaa.O.I
open Go Go.ChangeShapes Go.WideShapes Go.RowKit Go.Deep Go.Lib

section
variable {H : Type} {enc : TypeId × Value → H} {w : World} {base : Nat} {spare : Nat → Bool} {held : Bool}
theorem list_cons' {α : Type} {l : List α} {n : Nat} (h : l.length = n + 1) : ∃ a t, l = a :: t ∧ t.length = n := by
  cases l with
  | nil => simp at h
  | cons a t => exact ⟨a, t, rfl, by simpa using h⟩
theorem list_nil' {α : Type} {l : List α} (h : l.length = 0) : l = [] := by
  cases l with
  | nil => rfl
  | cons a t => simp at h
theorem field_at' {P : Program} {fs : Array Field} {l : List Value} {xs : List (DataW H × List MemPlace)} {n : Nat} (hone : oneCellFields P fs = true) (hlen : xs.length = fs.size)
    (hg : ∀ (i : Nat) (f : Field), fs[i]? = some f → DataW.trod enc P w base spare held n f.type ((l.drop f.offset).take (P.cellsOf f.type)) = xs[i]?)
    (j : Nat) (f : Field) (hf : fs[j]? = some f) (u : Value) (hu : l[j]? = some u) : ∃ y, xs[j]? = some y ∧ DataW.trod enc P w base spare held n f.type [u] = some y := by
  obtain ⟨ho, hk⟩ := hone_of hone j f hf
  have hjl : j < fs.size := (Array.getElem?_eq_some_iff.1 hf).1
  have h1 := hg j f hf
  rw [ho, hk] at h1
  have hd : (l.drop j).take 1 = [u] := by
    obtain ⟨hlt, he⟩ := List.getElem?_eq_some_iff.1 hu
    rw [List.drop_eq_getElem_cons hlt, he]; rfl
  rw [hd] at h1
  exact ⟨xs[j]'(by omega), List.getElem?_eq_getElem (by omega), h1.trans (List.getElem?_eq_getElem (by omega))⟩
set_option maxRecDepth 100000 in
/-- A slice of structures: each lies there, in its cells. -/
theorem open_rows {t e : TypeId} {k : Nat} (ht : Try.prog.underlying t = some (.slice e)) (hk : Try.prog.cellsOf e = k) {r : Reach} {b0 : Nat} {v : Value} {d : DataW H} {p : List MemPlace}
    (hv : Value.okWide Try.prog w r b0 t v) (h : DataW.Trod enc Try.prog w base spare held t v d p) :
    ∃ o len cap, v = .slice o len cap ∧ len ≤ 9223372036854775807 ∧ ∀ i, i < len → ∃ g off cs fuel x, o = some ⟨g, off, none⟩ ∧ g < w.heap.size ∧ World.rangeAt w g (off + i * k) cs ∧ cs.length = k ∧ DataW.trod enc Try.prog w base spare held fuel e cs = some x := by
  have hv2 := hv
  obtain ⟨a0, len, cap, rfl⟩ := okWide_slice ht hv
  obtain ⟨fuel, hf⟩ := h
  rcases Go.Deep.open_slice ht hf with ⟨hcs, -⟩ | ⟨a, len', cap', m, n, D, Pl, hcs, -, hl, hm, hmm, -, hx⟩
  · have e0 : (Value.slice a0 len cap) = .slice none 0 0 := by simpa [Value.cells] using hcs
    cases e0
    exact ⟨none, 0, 0, rfl, by omega, fun i hi => absurd hi (by omega)⟩
  · have e0 : (Value.slice a0 len cap) = .slice (some a) len' cap' := by simpa [Value.cells] using hcs
    cases e0
    obtain ⟨hsp, hlt⟩ := lies_slice' ht hv2
    obtain ⟨b, off, spot⟩ := a
    obtain rfl : spot = none := hsp
    have hmx : maxLen = 9223372036854775807 := rfl
    have hlm : len ≤ m := by rw [hmm]; split <;> omega
    refine ⟨_, len, cap, rfl, by omega, fun i hi => ?_⟩
    obtain ⟨cs, h1, h2⟩ := hx i (by omega)
    rw [hk] at h1
    obtain ⟨-, hlen, hcell⟩ := World.cells?_some h1
    refine ⟨b, off, cs, _, _, rfl, hlt, fun j u hu => ?_, hlen, h2⟩
    have hj : j < k := by
      have := (List.getElem?_eq_some_iff.1 hu).1
      omega
    have h3 := (hcell j hj).trans hu
    have add_add : ((⟨b, off, none⟩ : Addr).add (i * k)).add j = ⟨b, off + i * k + j, none⟩ := by
      rw [Addr.add_mid, Addr.add_mid]
    rwa [add_add] at h3
theorem zonOne : oneCellFields Try.prog (Try.prog.fieldsOf 42) = true := by kernel_rfl
theorem zonUnd : Try.prog.underlying 42 = some (.struct (Try.prog.fieldsOf 42)) := by kernel_rfl
theorem zonF0 : ((Try.prog.fieldsOf 42)[0]?).map (·.type) = some 9 := by kernel_rfl
theorem zonF1 : ((Try.prog.fieldsOf 42)[1]?).map (·.type) = some 2 := by kernel_rfl
set_option maxRecDepth 100000 in
theorem zon_of_trod {fuel : Nat} {l : List Value} {x : DataW H × List MemPlace}
    (hf : DataW.trod enc Try.prog w base spare held fuel 42 l = some x) (hl0 : l.length = 2) : ∃ c : Zn, l = (cellsZ c).toList ∧ c.name.size ≤ 9223372036854775807 ∧ -9223372036854775808 ≤ c.room ∧ c.room ≤ 9223372036854775807 := by
  obtain ⟨xs, n, -, hx, -, hlen, hg⟩ := DataW.trod_struct zonUnd hf
  obtain ⟨u0, l0, rfl, hl1⟩ := list_cons' hl0
  obtain ⟨u1, l1, rfl, hl2⟩ := list_cons' hl1
  obtain rfl := list_nil' hl2
  obtain ⟨f0, hf0, ht0⟩ : ∃ f, (Try.prog.fieldsOf 42)[0]? = some f ∧ f.type = 9 := by have := zonF0; rw [Option.map_eq_some_iff] at this; exact this
  obtain ⟨y0, hy0, hr0⟩ := field_at' zonOne hlen hg 0 f0 hf0 u0 rfl
  rw [ht0] at hr0
  obtain ⟨x0, hc0, he0, hs0⟩ := DataW.trod_string Try.underlying9 hr0
  obtain rfl := List.head_eq_of_cons_eq hc0
  obtain ⟨f1, hf1, ht1⟩ : ∃ f, (Try.prog.fieldsOf 42)[1]? = some f ∧ f.type = 2 := by have := zonF1; rw [Option.map_eq_some_iff] at this; exact this
  obtain ⟨y1, hy1, hr1⟩ := field_at' zonOne hlen hg 1 f1 hf1 u1 rfl
  rw [ht1] at hr1
  obtain ⟨x1, hc1, he1, wf1⟩ := DataW.trod_int Try.underlying2 hr1
  obtain rfl := List.head_eq_of_cons_eq hc1
  exact ⟨⟨x0, x1⟩, rfl, Nat.le_trans hs0 (by decide), bounds_i64 wf1⟩
end
/-- Zones that lie in a slice. -/
def ZonesIn (W : World) (v : Value) (l : List Zn) : Prop := ∃ o c, v = .slice o l.length c ∧ l.length ≤ 9223372036854775807 ∧ ∀ i (h : i < l.length), ∃ g off, o = some ⟨g, off, none⟩ ∧ g < W.heap.size ∧ World.rangeAt W g (off + i * 2) (cellsZ l[i]).toList
theorem ZonesIn.after {W W' : World} {v : Value} {l : List Zn} (h : ZonesIn W v l) (hb : Below W.heap.size W W') : ZonesIn W' v l := by
  obtain ⟨o, c, h1, h2, h3⟩ := h
  refine ⟨o, c, h1, h2, fun i hi => ?_⟩
  obtain ⟨g, off, h4, h5, h6⟩ := h3 i hi
  exact ⟨g, off, h4, Nat.lt_of_lt_of_le h5 hb.size, fun j u hu => (hb.cell (p := ⟨g, off + i * 2 + j, none⟩) h5).trans (h6 j u hu)⟩
instance : Inhabited Zn := ⟨⟨E0, 0⟩⟩
def FitZ (z : Zn) : Prop := z.name.size ≤ 9223372036854775807 ∧ -9223372036854775808 ≤ z.room ∧ z.room ≤ 9223372036854775807
set_option maxRecDepth 100000 in
theorem open_zones {H : Type} {enc : TypeId × Value → H} {w : World} {base : Nat} {spare : Nat → Bool} {held : Bool} {r : Reach} {b0 : Nat} {v : Value} {d : DataW H} {p : List MemPlace}
    (hv : Value.okWide Try.prog w r b0 36 v) (h : DataW.Trod enc Try.prog w base spare held 36 v d p) : ∃ l, ZonesIn w v l ∧ ∀ z ∈ l, FitZ z := by
  obtain ⟨o, len, cap, rfl, hle, hx⟩ := open_rows Try.underlying36 (show Try.prog.cellsOf 42 = 2 by kernel_rfl) hv h
  have each : ∀ i, i < len → ∃ y : Zn, (∃ g off, o = some ⟨g, off, none⟩ ∧ g < w.heap.size ∧ World.rangeAt w g (off + i * 2) (cellsZ y).toList) ∧ FitZ y := fun i hi => by
    obtain ⟨g, off, cs, fuel, x, h1, h2, h3, h4, h5⟩ := hx i hi
    obtain ⟨c, rfl, h6⟩ := zon_of_trod h5 h4
    exact ⟨c, ⟨g, off, h1, h2, h3⟩, h6⟩
  obtain ⟨Y, hY⟩ := Go.Deep.choose_lt each
  have hll : ((List.range len).map Y).length = len := by simp
  refine ⟨(List.range len).map Y, ⟨o, cap, by rw [hll], by rw [hll]; omega, fun i hi => ?_⟩, fun z hz => ?_⟩
  · rw [hll] at hi
    simp only [List.getElem_map, List.getElem_range]
    exact (hY i hi).1
  · obtain ⟨i, hi, rfl⟩ := List.mem_map.1 hz
    exact (hY i (List.mem_range.1 hi)).2
set_option maxRecDepth 100000 in
theorem loadZ_at {W : World} {g k : Nat} {x : Zn} (h : World.rangeAt W g k (cellsZ x).toList) {oi : Oper} {a : Act} {p : Operand} (ho : oi.op = .load 42 p) (hx : a.eval p = .pointer (some ⟨g, k, none⟩)) :
    (execOp a.eval oi).run Try.prog W = .ok (.value (encZ x)) W := by
  have h1 := run_loadAt_mid (P := Try.prog) W g k 42 (cellsZ x).toList _ h zonUnd rfl (by kernel_rfl)
  unfold execOp
  simp only [ho, hx, Sem.run_bind, h1, Result.andThen_ok, Sem.run_pure]
  rfl
end Go.Proofs.Ytbgfccanbgpjiaa.O.I
