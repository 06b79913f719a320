/- Numbers of one byte, as they come in: at a seat without objects. -/
import Derived.Test.YtbgfccanbgpjiaaIBase
import Derived.Test.YtbgfccanbgpjiaaLawEnd
import Derived.Deep.Fields
import Derived.Deep.Slices
import Derived.Deep.Strs
import Derived.OpenShut
import Derived.SizedLaws
namespace Go.Proofs.Ytbgfccanbgpjiaa.O.I
open Go Go.ChangeShapes Go.WideShapes Go.RowKit Go.Deep Go.Lib

/-- Where a slice that comes in lies. -/
theorem spot_add' {W : World} {b off : Nat} {sp : Option Nat} {i : Nat} {v : Value} (h : W.cell? ((⟨b, off, sp⟩ : Addr).add i) = some v) : W.cell? ⟨b, off + i, none⟩ = some v := by
  unfold Addr.add at h
  split at h
  · subst_vars
    unfold World.cell? at h ⊢
    cases hb : W.heap[b]? with
    | none => rw [hb] at h; cases h
    | some o =>
      rw [hb] at h
      cases o with
      | cells c t f =>
        cases sp with
        | none => simpa using h
        | some s => simp at h
      | _ => cases h
  · exact h
set_option maxRecDepth 100000 in
theorem lies_slice' {r : Reach} {b0 : Nat} {t e : TypeId} {w : World} {a : Addr} {n c : Nat} (ht : Try.prog.underlying t = some (.slice e)) (hv : Value.okWide Try.prog w r b0 t (.slice (some a) n c)) : a.spot = none ∧ a.block < w.heap.size := by
  unfold Value.okWide at hv
  rw [ht] at hv
  unfold Cell.okWide Cell.ok at hv
  rw [ht] at hv
  obtain ⟨-, -, -, hsp, row, cells, hsh, -⟩ := hv
  refine ⟨hsp, ?_⟩
  unfold World.shape? at hsh
  rcases Nat.lt_or_ge a.block w.heap.size with hh | hh
  · exact hh
  · rw [Array.getElem?_eq_none hh] at hsh; cases hsh
/-- Numbers of one byte that lie in a slice. -/
def U8In (W : World) (v : Value) (l : List Int) : Prop := ∃ o c, v = .slice o l.length c ∧ l.length ≤ 9223372036854775807 ∧ ∀ i (h : i < l.length), ∃ g off, o = some ⟨g, off, none⟩ ∧ g < W.heap.size ∧ W.cell? ⟨g, off + i, none⟩ = some (.int .u8 l[i]) ∧ 0 ≤ l[i] ∧ l[i] ≤ 255

set_option maxRecDepth 100000 in
theorem open_u8s {H : Type} {enc : TypeId × Value → H} {w : World} {base : Nat} {spare : Nat → Bool} {held : Bool} {r : Reach} {b0 : Nat} {v : Value} {d : DataW H} {p : List MemPlace}
    (hv : Value.okWide Try.prog w r b0 72 v) (h : DataW.Trod enc Try.prog w base spare held 72 v d p) : ∃ l, U8In w v l := by
  have hv2 := hv
  obtain ⟨a0, len, cap, rfl⟩ := okWide_slice Try.underlying72 hv
  obtain ⟨fuel, hf⟩ := h
  rcases open_ints Try.underlying72 Try.underlying5 (by kernel_rfl) hf with ⟨hcs, -⟩ | ⟨a, len', cap', zs, hcs, -, hl, hm, hz, -, hcell, hwz⟩
  · refine ⟨[], none, 0, ?_, by simp, fun i hi => absurd hi (by simp)⟩
    simpa [Value.cells] using hcs
  · have e : (Value.slice a0 len cap) = .slice (some a) len' cap' := by simpa [Value.cells] using hcs
    cases e
    obtain ⟨hsp, hlt⟩ := lies_slice' Try.underlying72 hv2
    obtain ⟨b, off, spot⟩ := a
    obtain rfl : spot = none := hsp
    have hmx : maxLen = 9223372036854775807 := rfl
    have hzl : len ≤ zs.length := by
      rw [hz]
      split <;> omega
    have hll : (zs.take len).length = len := by rw [List.length_take]; omega
    refine ⟨zs.take len, some ⟨b, off, none⟩, cap, by rw [hll], by rw [hll]; omega, fun i hi => ?_⟩
    rw [hll] at hi
    have hc := spot_add' (hcell i (by omega))
    have hb := bounds_u8 (hwz zs[i] (List.getElem_mem (by omega)))
    have hg : zs.getD i 0 = zs[i] := by simp [List.getD, List.getElem?_eq_getElem (show i < zs.length by omega)]
    rw [hg] at hc
    simp only [List.getElem_take]
    exact ⟨b, off, rfl, hlt, hc, hb.1, by omega⟩
end Go.Proofs.Ytbgfccanbgpjiaa.O.I
