/- What comes in: a row of bytes. -/
import Derived.Test.YtfiahkomabllaaaLOpen
namespace Go.Proofs.Ytfiahkomabllaaa.L
open Go.ChangeShapes Go.WideShapes Go.RowKit Go.Deep

/-- An element of a row that comes in: one without bytes may lie anywhere. -/
def ArgEl (W : World) (g k : Nat) (x : Value) (l : Bytes) : Prop := g < W.heap.size ∧ W.cell? ⟨g, k, none⟩ = some x ∧ (∃ p c, x = .slice p l.length c) ∧ (l ≠ [] → BytesIn W x l)
theorem ArgEl.after {W W' : World} {g k : Nat} {x : Value} {l : Bytes} (h : ArgEl W g k x l) (hb : Below W.heap.size W W') : ArgEl W' g k x l :=
  ⟨Nat.lt_of_lt_of_le h.1 hb.size, (hb.cell (p := ⟨g, k, none⟩) h.1).trans h.2.1, h.2.2.1, fun e => (h.2.2.2 e).after hb⟩
def ArgRows (W : World) (a : Option Addr) (n : Nat) : Prop := n ≤ maxLen ∧ ∀ i, i < n → ∃ g off x l, a = some ⟨g, off, none⟩ ∧ ArgEl W g (off + i) x l
theorem ArgRows.after {W W' : World} {a : Option Addr} {n : Nat} (h : ArgRows W a n) (hb : Below W.heap.size W W') : ArgRows W' a n :=
  ⟨h.1, fun i hi => let ⟨g, off, x, l, e, h1⟩ := h.2 i hi; ⟨g, off, x, l, e, h1.after hb⟩⟩
theorem addr_none {W : World} {b off i : Nat} {sp : Option Nat} {v : Value} (h : W.cell? ((⟨b, off, sp⟩ : Addr).add i) = some v) (h0 : i = 0) : sp = none := by
  subst h0
  have h1 : W.cell? ⟨b, off, sp⟩ = some v := h
  unfold World.cell? at h1
  cases sp with
  | none => rfl
  | some s =>
    exfalso
    revert h1
    cases W.heap[b]? with
    | none => intro h1; cases h1
    | some o => cases o <;> intro h1 <;> cases h1
theorem cell_lt {W : World} {b off : Nat} {v : Value} (h : W.cell? ⟨b, off, none⟩ = some v) : b < W.heap.size := by
  unfold World.cell? at h
  rcases Nat.lt_or_ge b W.heap.size with hh | hh
  · exact hh
  · rw [Array.getElem?_eq_none hh] at h; cases h
section
variable {H : Type} {enc : TypeId × Value → H} {w : World} {base : Nat} {spare : Nat → Bool} {held : Bool}
set_option maxRecDepth 100000 in
theorem bytes_of_trod {n : Nat} {u : Value} {x : DataW H × List MemPlace} (h : DataW.trod enc Try.prog w base spare held n 30 [u] = some x) : ∃ l : Bytes, (∃ p c, u = .slice p l.length c) ∧ (l ≠ [] → BytesIn w u l) := by
  rcases open_ints Try.underlying30 Try.underlying5 (by kernel_rfl) h with ⟨hcs, -⟩ | ⟨a, len, cap, zs, hcs, -, hl, hm, hz, -, hcell, hwz⟩
  · exact ⟨[], ⟨none, 0, by simpa using hcs⟩, fun e => absurd rfl e⟩
  · obtain rfl : u = .slice (some a) len cap := by simpa using hcs
    have hzl : len ≤ zs.length := by
      rw [hz]
      split <;> omega
    have hll : ((zs.take len).map (fun n => UInt8.ofNat n.toNat)).length = len := by rw [List.length_map, List.length_take]; omega
    refine ⟨(zs.take len).map (fun n => UInt8.ofNat n.toNat), ⟨some a, cap, by rw [hll]⟩, fun e => ?_⟩
    have hpos : 0 < len := by
      rcases Nat.eq_zero_or_pos len with h0 | h0
      · exact absurd (List.length_eq_zero_iff.1 (hll.trans h0)) e
      · exact h0
    obtain ⟨b, off, sp⟩ := a
    obtain rfl : sp = none := addr_none (hcell 0 (by omega)) rfl
    have hlt : b < w.heap.size := cell_lt (hcell 0 (by omega))
    refine .inr ⟨b, off, cap, by rw [hll], by omega, hm, hlt, fun i hi => ?_⟩
    rw [hll] at hi
    have hc := hcell i (by omega)
    rw [add_lit'] at hc
    rw [hc]
    have hb := bounds_u8 (hwz zs[i] (List.getElem_mem (by omega)))
    have hg : zs.getD i 0 = zs[i] := by simp [List.getD, List.getElem?_eq_getElem (show i < zs.length by omega)]
    rw [hg]
    simp only [List.getElem_map, List.getElem_take]
    unfold bv
    rw [UInt8.toNat_ofNat', Nat.mod_eq_of_lt (by omega), Int.toNat_of_nonneg hb.1]
set_option maxRecDepth 100000 in
theorem open_rows {r : Reach} {b0 : Nat} {v : Value} {d : DataW H} {p : List MemPlace} (hv : Value.okWide Try.prog w r b0 tRs v) (h : DataW.Trod enc Try.prog w base spare held tRs v d p) : ∃ a n c, v = .slice a n c ∧ ArgRows w a n := by
  obtain ⟨a0, len, cap, rfl⟩ := okWide_slice Try.underlying39 hv
  obtain ⟨fuel, hf⟩ := h
  rcases open_slice1 Try.underlying39 (by kernel_rfl) hf with ⟨hcs, -⟩ | ⟨a, len', cap', m, n, V, D, Pl, hcs, -, hl, hm, hmm, -, hx⟩
  · have e : (Value.slice a0 len cap) = .slice none 0 0 := by simpa [Value.cells] using hcs
    cases e
    exact ⟨none, 0, 0, rfl, Nat.zero_le _, fun i hi => by omega⟩
  · have e : (Value.slice a0 len cap) = .slice (some a) len' cap' := by simpa [Value.cells] using hcs
    cases e
    refine ⟨some a, len, cap, rfl, Nat.le_trans hl hm, fun i hi => ?_⟩
    have hlm : len ≤ m := by rw [hmm]; split <;> omega
    obtain ⟨b, off, sp⟩ := a
    obtain rfl : sp = none := addr_none (hx 0 (by omega)).1 rfl
    obtain ⟨h1, h2⟩ := hx i (by omega)
    rw [add_lit'] at h1
    obtain ⟨l, h3, h4⟩ := bytes_of_trod h2
    exact ⟨b, off, V i, l, rfl, cell_lt h1, h1, h3, h4⟩
end
end Go.Proofs.Ytfiahkomabllaaa.L
