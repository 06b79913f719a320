/- Maps whose keys are texts, or any keys that are found (of no program). -/
import Derived.Test.YtbgfccanbgpjiaaKeyMap
import Derived.Lib.IndexBytes
namespace Go.KeyS
open Go KM

/-- What a key's type must be: its values may be keys, are found where they are, and stay as they are. -/
structure Key (P : Program) (kt : TypeId) {κ : Type} [DecidableEq κ] (enc : κ → Value) : Prop where
  check : ∀ (em : Bool) (w : World) (x : κ), (Instr.checkKey em 10000 kt (enc x)).run P w = .ok () w
  find : ∀ (x : κ) (w : World) (es : List MapEntry) (m : List (κ × Value)), KM.Holds enc es m → (Instr.findKey kt (enc x) es).run P w = .ok (seek x m 0) w
  stays : ∀ x, Instr.sameBits 10000 (enc x) (enc x) = true
variable {P : Program} {kt : TypeId} {κ : Type} [DecidableEq κ] {enc : κ → Value}
variable {t e : TypeId} {b : Nat} {m : List (κ × Value)} {w : World}
theorem run_lookup_ok (K : Key P kt enc) (ht : P.underlying t = some (.map kt e)) (h : IsMap enc w b m) (x : κ) {v : Value} (hv : get x m = some v) : (Instr.lookup t (.map (some b)) (enc x) true).run P w = .ok (.tuple #[v, .bool true]) w := by
  obtain ⟨es, clock, hb, hh⟩ := h
  have hs := seek_get x m 0
  rw [hv] at hs
  obtain ⟨⟨j, u⟩, hj, rfl⟩ := Option.map_eq_some_iff.1 hs
  simp [Instr.lookup, run_underlying ht, MapKept.run_getObj_map hb, K.check, K.find x w _ _ hh, hj, Result.andThen]
theorem run_lookup_no (K : Key P kt enc) (ht : P.underlying t = some (.map kt e)) {z : Value} (hz : (zeroValue e).run P w = .ok z w) (h : IsMap enc w b m) (x : κ) (hv : get x m = none) : (Instr.lookup t (.map (some b)) (enc x) true).run P w = .ok (.tuple #[z, .bool false]) w := by
  obtain ⟨es, clock, hb, hh⟩ := h
  have hs := seek_get x m 0
  rw [hv] at hs
  have hj := Option.map_eq_none_iff.1 hs
  simp [Instr.lookup, run_underlying ht, MapKept.run_getObj_map hb, K.check, K.find x w _ _ hh, hj, hz, Result.andThen]
theorem run_lookup1_ok (K : Key P kt enc) (ht : P.underlying t = some (.map kt e)) (h : IsMap enc w b m) (x : κ) {v : Value} (hv : get x m = some v) : (Instr.lookup t (.map (some b)) (enc x) false).run P w = .ok v w := by
  obtain ⟨es, clock, hb, hh⟩ := h
  have hs := seek_get x m 0
  rw [hv] at hs
  obtain ⟨⟨j, u⟩, hj, rfl⟩ := Option.map_eq_some_iff.1 hs
  simp [Instr.lookup, run_underlying ht, MapKept.run_getObj_map hb, K.check, K.find x w _ _ hh, hj, Result.andThen]
theorem run_lookup1_no (K : Key P kt enc) (ht : P.underlying t = some (.map kt e)) {z : Value} (hz : (zeroValue e).run P w = .ok z w) (h : IsMap enc w b m) (x : κ) (hv : get x m = none) : (Instr.lookup t (.map (some b)) (enc x) false).run P w = .ok z w := by
  obtain ⟨es, clock, hb, hh⟩ := h
  have hs := seek_get x m 0
  rw [hv] at hs
  have hj := Option.map_eq_none_iff.1 hs
  simp [Instr.lookup, run_underlying ht, MapKept.run_getObj_map hb, K.check, K.find x w _ _ hh, hj, hz, Result.andThen]
theorem run_update (K : Key P kt enc) (ht : P.underlying t = some (.map kt e)) (h : IsMap enc w b m) (x : κ) (v : Value) : ∃ w', (Instr.mapUpdate t (.map (some b)) (enc x) v).run P w = .ok () w' ∧ IsMap enc w' b (put x v m) ∧ Turned w w' b := by
  obtain ⟨es, clock, hb, hh⟩ := h
  have hf := K.find x w _ _ hh
  cases hs : seek x m 0 with
  | none =>
    rw [hs] at hf
    refine ⟨_, by simp [Instr.mapUpdate, run_underlying ht, MapKept.run_getObj_map hb, K.check, hf, MapKept.run_setObj_map _ hb, Result.andThen]; rfl, ⟨_, _, (MapKept.heap_set hb).1, ?_⟩, turned_set hb _⟩
    rw [(seek_none (v := v) hs).1]
    unfold Holds at hh ⊢
    simp [hh]
  | some q =>
    obtain ⟨j, u⟩ := q
    rw [hs] at hf
    obtain ⟨n, q1, q2, ⟨e0, q3, q4⟩, q5, -⟩ := seek_some (v := v) hs hh
    have hjn : j = n := by omega
    subst hjn
    have hget : es[j]? = some e0 := by simpa using q3
    have hst : (Instr.keyThatStays (enc x) (enc x)).run P w = .ok (enc x) w := by
      unfold Instr.keyThatStays
      rw [if_pos (K.stays x)]
      rfl
    refine ⟨_, by simp [Instr.mapUpdate, run_underlying ht, MapKept.run_getObj_map hb, K.check, hf, hget, q4, hst, MapKept.run_setObj_map _ hb, Result.andThen]; rfl, ⟨_, _, (MapKept.heap_set hb).1, ?_⟩, turned_set hb _⟩
    have := q5 { e0 with key := enc x, val := v } rfl rfl
    unfold Holds at this ⊢
    rw [← this]
    congr 1
    apply List.ext_getElem?
    intro i
    simp only [Array.toList_modify, List.getElem?_modify]
    by_cases hi : j = i
    · subst hi
      simp [hget]
    · simp [hi]
theorem beq_ba (a b : ByteArray) : (a == b) = decide (a = b) := by
  rw [beq_toListBytes, Bool.eq_iff_iff, beq_iff_eq, decide_eq_true_eq, Lib.toList_data, Lib.toList_data]
  exact ⟨fun h => ByteArray.ext (Array.ext' h), fun h => by rw [h]⟩
/-- Texts: each entry is held against the text at once. -/
theorem find_now (x : ByteArray) : ∀ (es : List MapEntry) (m : List (ByteArray × Value)) (i : Nat), KM.Holds (fun s : ByteArray => Value.string s) es m → Instr.findNow .string (.string x) es i = some (seek x m i)
  | [], m, i, h => by
    rw [h.nil]
    rfl
  | e :: es, m, i, h => by
    obtain ⟨p, r, rfl, ⟨h1, h2⟩, h3⟩ := h.cons_inv
    unfold Instr.findNow
    have ih := find_now x es r (i + 1) h3
    by_cases hx : x = p.1
    · simp [h1, Instr.sameNow, hx, seek, h2, beq_ba]
    · simp [h1, Instr.sameNow, hx, seek, ih, beq_ba]
end Go.KeyS
