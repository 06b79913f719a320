/- Askings and numbers that come in, in a row. -/
import Derived.Test.YtmamibabaedpcaaLOpen
namespace Go.Proofs.Ytmamibabaedpcaa.L
open Go.ChangeShapes Go.WideShapes Go.RowKit T O

theorem spot_add {W : World} {b off : Nat} {sp : Option Nat} {i : Nat} {v : Value} (h : W.cell? ((⟨b, off, sp⟩ : Addr).add i) = some v) : W.cell? ⟨b, off + i, none⟩ = some v := by
  unfold Addr.add at h
  split at h
  · subst_vars
    unfold World.cell? at h ⊢
    cases hb : W.heap[b]? with
    | none => rw [hb] at h; cases h
    | some o =>
      rw [hb] at h
      cases o with
      | cells c t f =>
        cases sp with
        | none => simpa using h
        | some s => simp at h
      | _ => cases h
  · exact h
set_option maxRecDepth 100000 in
theorem lies_slice {r : Reach} {b0 : Nat} {t e : TypeId} {w : World} {a : Addr} {n c : Nat} (ht : Try.prog.underlying t = some (.slice e)) (hv : Value.okWide Try.prog w r b0 t (.slice (some a) n c)) : a.spot = none ∧ a.block < w.heap.size := by
  unfold Value.okWide at hv
  rw [ht] at hv
  unfold Cell.okWide Cell.ok at hv
  rw [ht] at hv
  obtain ⟨-, -, -, hsp, row, cells, hsh, -⟩ := hv
  refine ⟨hsp, ?_⟩
  unfold World.shape? at hsh
  rcases Nat.lt_or_ge a.block w.heap.size with hh | hh
  · exact hh
  · rw [Array.getElem?_eq_none hh] at hsh; cases hsh

/-- Askings that lie in a slice. -/
def AsksIn (W : World) (v : Value) (l : List Ask) : Prop := ∃ o c, v = .slice o l.length c ∧ l.length ≤ 9223372036854775807 ∧ ∀ i (h : i < l.length), ∃ g off, o = some ⟨g, off, none⟩ ∧ g < W.heap.size ∧
  W.cell? ⟨g, off + i * 3, none⟩ = some (.string l[i].who) ∧ W.cell? ⟨g, off + i * 3 + 1, none⟩ = some (.int .u64 l[i].now) ∧ W.cell? ⟨g, off + i * 3 + 2, none⟩ = some (.int .u64 l[i].span) ∧ FitA l[i]
/-- Numbers of 64 bits that lie in a slice. -/
def U64sIn (W : World) (v : Value) (l : List Int) : Prop := ∃ o c, v = .slice o l.length c ∧ l.length ≤ 9223372036854775807 ∧ ∀ i (h : i < l.length), ∃ g off, o = some ⟨g, off, none⟩ ∧ g < W.heap.size ∧ W.cell? ⟨g, off + i, none⟩ = some (.int .u64 l[i]) ∧ U64 l[i]

set_option maxRecDepth 100000 in
theorem open_u64s {H : Type} {enc : TypeId × Value → H} {w : World} {base : Nat} {spare : Nat → Bool} {held : Bool} {r : Reach} {b0 : Nat} {v : Value} {d : DataW H} {p : List MemPlace}
    (hv : Value.okWide Try.prog w r b0 42 v) (h : DataW.Trod enc Try.prog w base spare held 42 v d p) : ∃ l, U64sIn w v l := by
  have hv2 := hv
  obtain ⟨a0, len, cap, rfl⟩ := okWide_slice Try.underlying42 hv
  obtain ⟨fuel, hf⟩ := h
  rcases open_ints Try.underlying42 Try.underlying22 (by kernel_rfl) hf with ⟨hcs, -⟩ | ⟨a, len', cap', zs, hcs, -, hl, hm, hz, -, hcell, hwz⟩
  · refine ⟨[], none, 0, ?_, by simp, fun i hi => absurd hi (by simp)⟩
    simpa [Value.cells] using hcs
  · have e : (Value.slice a0 len cap) = .slice (some a) len' cap' := by simpa [Value.cells] using hcs
    cases e
    obtain ⟨hsp, hlt⟩ := lies_slice Try.underlying42 hv2
    obtain ⟨b, off, spot⟩ := a
    obtain rfl : spot = none := hsp
    have hmx : maxLen = 9223372036854775807 := rfl
    have hzl : len ≤ zs.length := by
      rw [hz]
      split <;> omega
    have hll : (zs.take len).length = len := by rw [List.length_take]; omega
    refine ⟨zs.take len, some ⟨b, off, none⟩, cap, by rw [hll], by rw [hll]; omega, fun i hi => ?_⟩
    rw [hll] at hi
    have hc := spot_add (hcell i (by omega))
    have hb := bounds_u64 (hwz zs[i] (List.getElem_mem (by omega)))
    have hg : zs.getD i 0 = zs[i] := by simp [List.getD, List.getElem?_eq_getElem (show i < zs.length by omega)]
    rw [hg] at hc
    simp only [List.getElem_take]
    exact ⟨b, off, rfl, hlt, hc, hb.1, hb.2⟩

theorem kAsk : Try.prog.cellsOf 26 = 3 := by kernel_rfl
set_option maxRecDepth 100000 in
theorem open_asks {H : Type} {enc : TypeId × Value → H} {w : World} {base : Nat} {spare : Nat → Bool} {held : Bool} {r : Reach} {b0 : Nat} {v : Value} {d : DataW H} {p : List MemPlace}
    (hv : Value.okWide Try.prog w r b0 40 v) (h : DataW.Trod enc Try.prog w base spare held 40 v d p) : ∃ l, AsksIn w v l := by
  have hv2 := hv
  obtain ⟨a0, len, cap, rfl⟩ := okWide_slice Try.underlying40 hv
  obtain ⟨fuel, hf⟩ := h
  rcases Go.Deep.open_slice Try.underlying40 hf with ⟨hcs, -⟩ | ⟨a, len', cap', m, n, D, Pl, hcs, -, hl, hm, hmm, -, hx⟩
  · refine ⟨[], none, 0, ?_, by simp, fun i hi => absurd hi (by simp)⟩
    simpa [Value.cells] using hcs
  · have e : (Value.slice a0 len cap) = .slice (some a) len' cap' := by simpa [Value.cells] using hcs
    cases e
    obtain ⟨hsp, hlt⟩ := lies_slice Try.underlying40 hv2
    obtain ⟨b, off, spot⟩ := a
    obtain rfl : spot = none := hsp
    have hmx : maxLen = 9223372036854775807 := rfl
    have hlm : len ≤ m := by rw [hmm]; split <;> omega
    have each : ∀ i, i < len → ∃ y : Ask, w.cell? ⟨b, off + i * 3, none⟩ = some (.string y.who) ∧ w.cell? ⟨b, off + i * 3 + 1, none⟩ = some (.int .u64 y.now) ∧ w.cell? ⟨b, off + i * 3 + 2, none⟩ = some (.int .u64 y.span) ∧ FitA y := fun i hi => by
      obtain ⟨cs, h1, h2⟩ := hx i (by omega)
      rw [kAsk] at h1
      obtain ⟨-, hlen, hcell⟩ := World.cells?_some h1
      obtain ⟨s, x, y, rfl, q1, q2, q3⟩ := three_of_trod Try.underlying26 kAsk (by rfl) h2
      have add_add : ∀ j, ((⟨b, off, none⟩ : Addr).add (i * 3)).add j = ⟨b, off + i * 3 + j, none⟩ := fun j => by
        unfold Addr.add
        split <;> split <;> simp_all
      have e0 := hcell 0 (by simp)
      have e1 := hcell 1 (by simp)
      have e2 := hcell 2 (by simp)
      rw [add_add] at e0 e1 e2
      exact ⟨⟨s, x, y⟩, by simpa using e0, by simpa using e1, by simpa using e2, ⟨q1, q2, q3⟩⟩
    obtain ⟨Y, hY⟩ := Go.Deep.choose_lt each
    have hll : ((List.range len).map Y).length = len := by simp
    refine ⟨(List.range len).map Y, some ⟨b, off, none⟩, cap, by rw [hll], by rw [hll]; omega, fun i hi => ?_⟩
    rw [hll] at hi
    simp only [List.getElem_map, List.getElem_range]
    exact ⟨b, off, rfl, hlt, hY i hi⟩
end Go.Proofs.Ytmamibabaedpcaa.L
