/- What comes in: bytes, a deed, deeds. -/
import Derived.Test.YtfiahkomabllaaaLNone
import Derived.OpenShut
import Derived.SizedLaws
import Derived.Deep.Fields
import Derived.Deep.Slices
import Derived.Deep.Strs
namespace Go.Proofs.Ytfiahkomabllaaa.L
open Go.ChangeShapes Go.WideShapes Go.RowKit Go.Deep

section
variable {H : Type} {enc : TypeId × Value → H} {w : World} {base : Nat} {spare : Nat → Bool} {held : Bool}
set_option maxRecDepth 100000 in
theorem open_bytes {r : Reach} {b0 : Nat} {v : Value} {d : DataW H} {p : List MemPlace}
    (hv : Value.okWide Try.prog w r b0 30 v) (h : DataW.Trod enc Try.prog w base spare held 30 v d p) : ∃ l, BytesIn w v l := by
  have hv2 := hv
  obtain ⟨a0, len, cap, rfl⟩ := okWide_slice Try.underlying30 hv
  obtain ⟨fuel, hf⟩ := h
  rcases open_ints Try.underlying30 Try.underlying5 (by kernel_rfl) hf with ⟨hcs, -⟩ | ⟨a, len', cap', zs, hcs, -, hl, hm, hz, -, hcell, hwz⟩
  · refine ⟨[], .inl ⟨0, ?_, rfl⟩⟩
    simpa [Value.cells] using hcs
  · have e : (Value.slice a0 len cap) = .slice (some a) len' cap' := by simpa [Value.cells] using hcs
    cases e
    unfold Value.okWide at hv2
    rw [Try.underlying30] at hv2
    unfold Cell.okWide Cell.ok at hv2
    rw [Try.underlying30] at hv2
    obtain ⟨-, -, -, hsp, row, cells, hsh, -⟩ := hv2
    have hlt : a.block < w.heap.size := by
      unfold World.shape? at hsh
      rcases Nat.lt_or_ge a.block w.heap.size with hh | hh
      · exact hh
      · rw [Array.getElem?_eq_none hh] at hsh; cases hsh
    obtain ⟨b, off, spot⟩ := a
    obtain rfl : spot = none := hsp
    have hzl : len ≤ zs.length := by
      rw [hz]
      split <;> omega
    have hll : ((zs.take len).map (fun n => UInt8.ofNat n.toNat)).length = len := by rw [List.length_map, List.length_take]; omega
    refine ⟨(zs.take len).map (fun n => UInt8.ofNat n.toNat), .inr ⟨b, off, cap, by rw [hll], by omega, hm, hlt, fun i hi => ?_⟩⟩
    rw [hll] at hi
    have hc := hcell i (by omega)
    rw [add_lit'] at hc
    rw [hc]
    have hb := bounds_u8 (hwz zs[i] (List.getElem_mem (by omega)))
    have hg : zs.getD i 0 = zs[i] := by simp [List.getD, List.getElem?_eq_getElem (show i < zs.length by omega)]
    rw [hg]
    simp only [List.getElem_map, List.getElem_take]
    unfold bv
    rw [UInt8.toNat_ofNat', Nat.mod_eq_of_lt (by omega), Int.toNat_of_nonneg hb.1]
theorem list_cons' {α : Type} {l : List α} {n : Nat} (h : l.length = n + 1) : ∃ a t, l = a :: t ∧ t.length = n := by
  cases l with
  | nil => simp at h
  | cons a t => exact ⟨a, t, rfl, by simpa using h⟩
theorem list_nil' {α : Type} {l : List α} (h : l.length = 0) : l = [] := by
  cases l with
  | nil => rfl
  | cons a t => simp at h
theorem field_at' {P : Program} {fs : Array Field} {l : List Value} {xs : List (DataW H × List MemPlace)} {n : Nat} (hone : oneCellFields P fs = true) (hlen : xs.length = fs.size)
    (hg : ∀ (i : Nat) (f : Field), fs[i]? = some f → DataW.trod enc P w base spare held n f.type ((l.drop f.offset).take (P.cellsOf f.type)) = xs[i]?)
    (j : Nat) (f : Field) (hf : fs[j]? = some f) (u : Value) (hu : l[j]? = some u) : ∃ y, xs[j]? = some y ∧ DataW.trod enc P w base spare held n f.type [u] = some y := by
  obtain ⟨ho, hk⟩ := hone_of hone j f hf
  have hjl : j < fs.size := (Array.getElem?_eq_some_iff.1 hf).1
  have h1 := hg j f hf
  rw [ho, hk] at h1
  have hd : (l.drop j).take 1 = [u] := by
    obtain ⟨hlt, he⟩ := List.getElem?_eq_some_iff.1 hu
    rw [List.drop_eq_getElem_cons hlt, he]; rfl
  rw [hd] at h1
  exact ⟨xs[j]'(by omega), List.getElem?_eq_getElem (by omega), h1.trans (List.getElem?_eq_getElem (by omega))⟩
theorem deedOne : oneCellFields Try.prog (Try.prog.fieldsOf tD) = true := by kernel_rfl
theorem deedUnd : Try.prog.underlying tD = some (.struct (Try.prog.fieldsOf tD)) := by kernel_rfl
theorem deedCells : Try.prog.cellsOf tD = 4 := by kernel_rfl
theorem deedF0 : ((Try.prog.fieldsOf tD)[0]?).map (·.type) = some 3 := by kernel_rfl
theorem deedF1 : ((Try.prog.fieldsOf tD)[1]?).map (·.type) = some 3 := by kernel_rfl
theorem deedF2 : ((Try.prog.fieldsOf tD)[2]?).map (·.type) = some 3 := by kernel_rfl
theorem deedF3 : ((Try.prog.fieldsOf tD)[3]?).map (·.type) = some 30 := by kernel_rfl
theorem slice_in {t e : TypeId} {n : Nat} {u : Value} {x : DataW H × List MemPlace} (ht : Try.prog.underlying t = some (.slice e)) (h : DataW.trod enc Try.prog w base spare held n t [u] = some x) : ∃ a m c, u = .slice a m c := by
  rcases Go.Deep.open_slice ht h with ⟨hcs, -⟩ | ⟨a, len, cap, m, n, D, Pl, hcs, -⟩
  · exact ⟨none, 0, 0, by simpa using hcs⟩
  · exact ⟨some a, len, cap, by simpa using hcs⟩
theorem type_at {T t : TypeId} {j : Nat} (h : ((Try.prog.fieldsOf T)[j]?).map (·.type) = some t) : ∃ f, (Try.prog.fieldsOf T)[j]? = some f ∧ f.type = t := by
  rw [Option.map_eq_some_iff] at h
  exact h
set_option maxRecDepth 100000 in
/-- A deed as it is, whatever its bytes. -/
theorem open_deed0 {r : Reach} {b0 : Nat} {v : Value} {d : DataW H} {p : List MemPlace} (hv : Value.okWide Try.prog w r b0 tD v) (h : DataW.Trod enc Try.prog w base spare held tD v d p) : ∃ kd kp tn sv, v = .agg #[.int .i64 kd, .int .i64 kp, .int .i64 tn, sv] := by
  obtain ⟨cs, rfl, hsz⟩ := okWide_struct deedUnd hv
  rw [deedCells] at hsz
  obtain ⟨l⟩ := cs
  obtain ⟨fuel, hf⟩ := h
  obtain ⟨xs, n, -, hx, -, hlen, hg⟩ := DataW.trod_struct deedUnd hf
  have hl0 : l.length = 4 := by simpa using hsz
  obtain ⟨u0, l0, rfl, hl1⟩ := list_cons' hl0
  obtain ⟨u1, l1, rfl, hl2⟩ := list_cons' hl1
  obtain ⟨u2, l2, rfl, hl3⟩ := list_cons' hl2
  obtain ⟨u3, l3, rfl, hl4⟩ := list_cons' hl3
  obtain rfl := list_nil' hl4
  obtain ⟨f0, hf0, ht0⟩ := type_at deedF0
  obtain ⟨y0, -, hr0⟩ := field_at' deedOne hlen hg 0 f0 hf0 u0 rfl
  rw [ht0] at hr0
  obtain ⟨x0, hc0, -, -⟩ := DataW.trod_int Try.underlying3 hr0
  obtain ⟨f1, hf1, ht1⟩ := type_at deedF1
  obtain ⟨y1, -, hr1⟩ := field_at' deedOne hlen hg 1 f1 hf1 u1 rfl
  rw [ht1] at hr1
  obtain ⟨x1, hc1, -, -⟩ := DataW.trod_int Try.underlying3 hr1
  obtain ⟨f2, hf2, ht2⟩ := type_at deedF2
  obtain ⟨y2, -, hr2⟩ := field_at' deedOne hlen hg 2 f2 hf2 u2 rfl
  rw [ht2] at hr2
  obtain ⟨x2, hc2, -, -⟩ := DataW.trod_int Try.underlying3 hr2
  obtain rfl := List.head_eq_of_cons_eq hc0
  obtain rfl := List.head_eq_of_cons_eq hc1
  obtain rfl := List.head_eq_of_cons_eq hc2
  exact ⟨x0, x1, x2, u3, rfl⟩
end
end Go.Proofs.Ytfiahkomabllaaa.L
