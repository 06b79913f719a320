/- Labels and terms as they come in. -/
import Derived.Test.YtneogmcmkbhnaaaTRef
import Derived.OpenShut
import Derived.Deep.SlicePairs
import Derived.Deep.Strs
namespace Go.Proofs.Ytneogmcmkbhnaaa.T
open Go.RowKit Go.Lib Go.ChangeShapes Go.WideShapes

theorem own : ownKnob Try.prog.godebug = none := by kernel_rfl
theorem laidOut : laidOutB Try.prog = true := by kernel_rfl
section
variable {H : Type} {enc : TypeId × Value → H} {w : World} {base : Nat} {spare : Nat → Bool} {held : Bool}
theorem addr_spot {W : World} {b off : Nat} {sp : Option Nat} {i : Nat} {v : Value} (h : W.cell? ((⟨b, off, sp⟩ : Addr).add i) = some v) : W.cell? ⟨b, off + i, none⟩ = some v := by
  unfold Addr.add at h
  split at h
  · subst_vars
    unfold World.cell? at h ⊢
    cases hb : W.heap[b]? with
    | none => rw [hb] at h; cases h
    | some o =>
      rw [hb] at h
      cases o with
      | cells c t f =>
        cases sp with
        | none => simpa using h
        | some s => simp at h
      | _ => cases h
  · exact h
theorem addr_none {W : World} {b off : Nat} {sp : Option Nat} {v : Value} (h : W.cell? ((⟨b, off, sp⟩ : Addr).add 0) = some v) : sp = none := by
  unfold Addr.add at h
  rw [if_pos rfl] at h
  unfold World.cell? at h
  cases hb : W.heap[b]? with
  | none => rw [hb] at h; cases h
  | some o =>
    rw [hb] at h
    cases o with
    | cells c t f =>
      cases sp with
      | none => rfl
      | some s => simp at h
    | _ => cases h

set_option maxRecDepth 100000 in
/-- Texts that lie in a slice, as it is read. -/
theorem strs_of_trod {n : Nat} {v : Value} {x : DataW H × List MemPlace} (h : DataW.trod enc Try.prog w base spare held n 58 [v] = some x) : ∃ l, StrsIn w v l ∧ ∀ y ∈ l, y.length ≤ 9223372036854775807 := by
  rcases Go.Deep.open_strs Try.underlying58 Try.underlying9 (by kernel_rfl) h with ⟨hcs, -⟩ | ⟨a, len, cap, m, Sx, hcs, -, hl, hm, hmm, -, hx⟩
  · exact ⟨[], .inl ⟨none, 0, by simpa using hcs, rfl⟩, fun y hy => by cases hy⟩
  · obtain rfl : v = .slice (some a) len cap := by simpa using hcs
    have hlm : len ≤ m := by rw [hmm]; split <;> omega
    rcases Nat.eq_zero_or_pos len with rfl | hpos
    · exact ⟨[], .inl ⟨_, _, rfl, rfl⟩, fun y hy => by cases hy⟩
    · obtain ⟨b, off, sp⟩ := a
      obtain rfl : sp = none := addr_none (hx 0 (by omega)).1
      have hmx : maxLen = 9223372036854775807 := rfl
      have hll : ((List.range len).map fun i => (Sx i).data.toList).length = len := by simp
      refine ⟨(List.range len).map fun i => (Sx i).data.toList, .inr ⟨b, off, cap, by rw [hll], by rw [hll]; omega, fun i hi => ?_, by rw [hll]; exact hl⟩, fun y hy => ?_⟩
      · rw [hll] at hi
        rw [addr_spot (hx i (by omega)).1]
        simp [encS_self]
      · obtain ⟨i, hi, rfl⟩ := List.mem_map.1 hy
        have := (hx i (by have := List.mem_range.1 hi; omega)).2
        simp only [Array.length_toList]
        exact Nat.le_trans this (by omega)

/-- Where a slice that comes in lies. -/
def Lies (w : World) (v : Value) : Prop := ∀ a n c, v = .slice (some a) n c → a.spot = none ∧ a.block < w.heap.size
set_option maxRecDepth 100000 in
theorem lies_of_cell {r : Reach} {b0 : Nat} {t e : TypeId} {v : Value} (ht : Try.prog.underlying t = some (.slice e)) (hv : Cell.okWide Try.prog w r b0 t v) : Lies w v := by
  intro a n c hc
  subst hc
  unfold Cell.okWide Cell.ok at hv
  rw [ht] at hv
  obtain ⟨-, -, -, hsp, row, cells, hsh, -⟩ := hv
  refine ⟨hsp, ?_⟩
  unfold World.shape? at hsh
  rcases Nat.lt_or_ge a.block w.heap.size with hh | hh
  · exact hh
  · rw [Array.getElem?_eq_none hh] at hsh; cases hsh
set_option maxRecDepth 100000 in
theorem lies_of_value {r : Reach} {b0 : Nat} {t e : TypeId} {v : Value} (ht : Try.prog.underlying t = some (.slice e)) (hv : Value.okWide Try.prog w r b0 t v) : Lies w v := by
  have h2 : Cell.okWide Try.prog w r b0 t v := by
    unfold Value.okWide at hv
    rw [ht] at hv
    exact hv
  exact lies_of_cell ht h2

set_option maxRecDepth 100000 in
theorem labels_of_trod {n : Nat} {v : Value} {x : DataW H × List MemPlace} (hs : Lies w v) (h : DataW.trod enc Try.prog w base spare held n 23 [v] = some x) :
    ∃ l, LabsIn w v l ∧ ∀ y ∈ l, y.1.length ≤ 9223372036854775807 ∧ y.2.length ≤ 9223372036854775807 := by
  rcases Go.Deep.open_slice_pairs Try.underlying23 Try.underlying70 (by kernel_rfl) rfl rfl (by kernel_rfl) (by kernel_rfl) h with ⟨hcs, -⟩ | ⟨a, len, cap, m, k, V0, V1, D0, D1, P0, P1, hcs, -, hl, hm, hmm, -, hx⟩
  · exact ⟨[], .inl ⟨0, by simpa using hcs, rfl⟩, fun y hy => by cases hy⟩
  · obtain rfl : v = .slice (some a) len cap := by simpa using hcs
    have hlm : len ≤ m := by rw [hmm]; split <;> omega
    obtain ⟨hsp, hlt⟩ := hs a len cap rfl
    obtain ⟨b, off, sp⟩ := a
    obtain rfl : sp = none := hsp
    have hmx : maxLen = 9223372036854775807 := rfl
    have each : ∀ i, i < len → ∃ y : LB, w.cell? ⟨b, off + i * 2, none⟩ = some (encS y.1) ∧ w.cell? ⟨b, off + i * 2 + 1, none⟩ = some (encS y.2) ∧ y.1.length ≤ 9223372036854775807 ∧ y.2.length ≤ 9223372036854775807 := fun i hi => by
      obtain ⟨h1, h2, h3, h4⟩ := hx i (by omega)
      obtain ⟨s, e1, -, z1⟩ := DataW.trod_string Try.underlying9 h3
      obtain ⟨u, e2, -, z2⟩ := DataW.trod_string Try.underlying9 h4
      refine ⟨(s.data.toList, u.data.toList), ?_, ?_, ?_, ?_⟩
      · rw [addr_spot h1, encS_self]; simpa using e1
      · rw [Nat.add_assoc, addr_spot h2, encS_self]; simpa using e2
      · simp only [Array.length_toList]; exact Nat.le_trans z1 (by omega)
      · simp only [Array.length_toList]; exact Nat.le_trans z2 (by omega)
    obtain ⟨Y, hY⟩ := Go.Deep.choose_lt each
    have hll : ((List.range len).map Y).length = len := by simp
    refine ⟨(List.range len).map Y, .inr ⟨b, off, cap, by rw [hll], by rw [hll]; omega, hlt, fun i hi => ?_⟩, fun y hy => ?_⟩
    · rw [hll] at hi
      have := hY i hi
      simp only [List.getElem_map, List.getElem_range]
      exact ⟨this.1, this.2.1⟩
    · obtain ⟨i, hi, rfl⟩ := List.mem_map.1 hy
      exact (hY i (List.mem_range.1 hi)).2.2

set_option maxRecDepth 100000 in
theorem terms_of_trod {n : Nat} {v : Value} {x : DataW H × List MemPlace} (hs : Lies w v) (h : DataW.trod enc Try.prog w base spare held n 22 [v] = some x) :
    ∃ l : List TB, TermsIn w v l ∧ ∀ y ∈ l, y.1.1.length ≤ 9223372036854775807 ∧ ∀ z ∈ y.1.2, z.length ≤ 9223372036854775807 := by
  rcases Go.Deep.open_slice_pairs Try.underlying22 Try.underlying60 (by kernel_rfl) rfl rfl (by kernel_rfl) (by kernel_rfl) h with ⟨hcs, -⟩ | ⟨a, len, cap, m, k, V0, V1, D0, D1, P0, P1, hcs, -, hl, hm, hmm, -, hx⟩
  · exact ⟨[], ⟨fun y hy => (by cases hy), .inl ⟨0, by simpa using hcs, rfl⟩⟩, fun y hy => by cases hy⟩
  · obtain rfl : v = .slice (some a) len cap := by simpa using hcs
    have hlm : len ≤ m := by rw [hmm]; split <;> omega
    obtain ⟨hsp, hlt⟩ := hs a len cap rfl
    obtain ⟨b, off, sp⟩ := a
    obtain rfl : sp = none := hsp
    have hmx : maxLen = 9223372036854775807 := rfl
    have each : ∀ i, i < len → ∃ y : TB, (w.cell? ⟨b, off + i * 2, none⟩ = some (encS y.1.1) ∧ w.cell? ⟨b, off + i * 2 + 1, none⟩ = some y.2) ∧ StrsIn w y.2 y.1.2 ∧ y.1.1.length ≤ 9223372036854775807 ∧ ∀ z ∈ y.1.2, z.length ≤ 9223372036854775807 := fun i hi => by
      obtain ⟨h1, h2, h3, h4⟩ := hx i (by omega)
      obtain ⟨s, e1, -, z1⟩ := DataW.trod_string Try.underlying9 h3
      obtain ⟨l, hS, z2⟩ := strs_of_trod h4
      refine ⟨((s.data.toList, l), V1 i), ⟨?_, ?_⟩, hS, ?_, z2⟩
      · rw [addr_spot h1, encS_self]; simpa using e1
      · rw [Nat.add_assoc, addr_spot h2]
      · simp only [Array.length_toList]; exact Nat.le_trans z1 (by omega)
    obtain ⟨Y, hY⟩ := Go.Deep.choose_lt each
    have hll : ((List.range len).map Y).length = len := by simp
    refine ⟨(List.range len).map Y, ⟨fun y hy => ?_, .inr ⟨b, off, cap, by rw [hll], by rw [hll]; omega, hlt, fun i hi => ?_⟩⟩, fun y hy => ?_⟩
    · obtain ⟨i, hi, rfl⟩ := List.mem_map.1 hy
      exact (hY i (List.mem_range.1 hi)).2.1
    · rw [hll] at hi
      have := (hY i hi).1
      simp only [List.getElem_map, List.getElem_range]
      exact this
    · obtain ⟨i, hi, rfl⟩ := List.mem_map.1 hy
      exact (hY i (List.mem_range.1 hi)).2.2

set_option maxRecDepth 100000 in
theorem open_labels {r : Reach} {b0 : Nat} {v : Value} {d : DataW H} {p : List MemPlace} (hv : Value.okWide Try.prog w r b0 23 v) (h : DataW.Trod enc Try.prog w base spare held 23 v d p) :
    ∃ l, LabsIn w v l ∧ ∀ y ∈ l, y.1.length ≤ 9223372036854775807 ∧ y.2.length ≤ 9223372036854775807 := by
  have hs := lies_of_value Try.underlying23 hv
  obtain ⟨a0, len, cap, rfl⟩ := okWide_slice Try.underlying23 hv
  obtain ⟨fuel, hf⟩ := h
  exact labels_of_trod hs hf
set_option maxRecDepth 100000 in
theorem open_terms {r : Reach} {b0 : Nat} {v : Value} {d : DataW H} {p : List MemPlace} (hv : Value.okWide Try.prog w r b0 22 v) (h : DataW.Trod enc Try.prog w base spare held 22 v d p) :
    ∃ l : List TB, TermsIn w v l ∧ ∀ y ∈ l, y.1.1.length ≤ 9223372036854775807 ∧ ∀ z ∈ y.1.2, z.length ≤ 9223372036854775807 := by
  have hs := lies_of_value Try.underlying22 hv
  obtain ⟨a0, len, cap, rfl⟩ := okWide_slice Try.underlying22 hv
  obtain ⟨fuel, hf⟩ := h
  exact terms_of_trod hs hf
end
end Go.Proofs.Ytneogmcmkbhnaaa.T
