/- Maps whose keys are structs: what a lookup, a store and a deletion do. Of no program. -/
import Derived.Maps.OwnSet
import Derived.Below
set_option linter.unusedSectionVars false
namespace Go.KM
open Go Go.RowKit

section plain
variable {κ V : Type} [DecidableEq κ]
def get (x : κ) : List (κ × V) → Option V
  | [] => none
  | p :: r => if x = p.1 then some p.2 else get x r
def put (x : κ) (v : V) : List (κ × V) → List (κ × V)
  | [] => [(x, v)]
  | p :: r => if x = p.1 then (x, v) :: r else p :: put x v r
def del (x : κ) : List (κ × V) → List (κ × V)
  | [] => []
  | p :: r => if x = p.1 then r else p :: del x r
def seek (x : κ) : List (κ × V) → Nat → Option (Nat × V)
  | [], _ => none
  | p :: r, i => if x = p.1 then some (i, p.2) else seek x r (i + 1)
/-- No key twice. -/
def Once (m : List (κ × V)) : Prop := (m.map (·.1)).Nodup

theorem get_put (x y : κ) (v : V) : ∀ m : List (κ × V), get y (put x v m) = if y = x then some v else get y m
  | [] => by simp [put, get]
  | p :: r => by
    by_cases h : x = p.1
    · by_cases h2 : y = x <;> simp_all [put, get]
    · by_cases h2 : y = p.1
      · have h3 : y ≠ x := fun e => h (e ▸ h2)
        simp [put, get, h, h2]
        intro h4
        exact absurd (h4.symm ▸ rfl : x = p.1) h
      · simp [put, get, h, h2, get_put x y v r]
theorem get_mem {x : κ} {v : V} : ∀ {m : List (κ × V)}, get x m = some v → (x, v) ∈ m
  | p :: r, h => by
    unfold get at h
    split at h
    · rename_i e
      cases h
      subst e
      exact .head _
    · exact .tail _ (get_mem h)
theorem get_none_iff {x : κ} : ∀ {m : List (κ × V)}, get x m = none ↔ x ∉ m.map (·.1)
  | [] => by simp [get]
  | p :: r => by
    by_cases h : x = p.1
    · simp [get, h]
    · simp [get, h, get_none_iff (m := r)]
theorem put_keys (x : κ) (v : V) : ∀ m : List (κ × V), ∀ y, y ∈ (put x v m).map (·.1) ↔ y = x ∨ y ∈ m.map (·.1)
  | [], y => by simp [put]
  | p :: r, y => by
    by_cases h : x = p.1
    · simp [put, h]
    · have := put_keys x v r y
      simp only [put, h, if_false, List.map_cons, List.mem_cons, this]
      constructor
      · rintro (h | h | h)
        · exact .inr (.inl h)
        · exact .inl h
        · exact .inr (.inr h)
      · rintro (h | h | h)
        · exact .inr (.inl h)
        · exact .inl h
        · exact .inr (.inr h)
theorem Once.put {x : κ} {v : V} : ∀ {m : List (κ × V)}, Once m → Once (put x v m)
  | [], _ => by simp [KM.put, Once]
  | p :: r, h => by
    obtain ⟨h1, h2⟩ := List.nodup_cons.1 (show (p.1 :: r.map (·.1)).Nodup from h)
    by_cases hx : x = p.1
    · simp only [KM.put, hx, if_true]
      exact List.nodup_cons.2 ⟨h1, h2⟩
    · simp only [KM.put, hx, if_false]
      refine List.nodup_cons.2 ⟨fun hm => ?_, Once.put (m := r) h2⟩
      rcases (put_keys x v r p.1).1 hm with e | e
      · exact hx e.symm
      · exact h1 e
theorem del_keys (x : κ) : ∀ m : List (κ × V), ∀ y, y ∈ (del x m).map (·.1) → y ∈ m.map (·.1)
  | [], y, h => h
  | p :: r, y, h => by
    by_cases hx : x = p.1
    · simp only [del, hx, if_true] at h
      exact .tail _ h
    · simp only [del, hx, if_false] at h
      rcases List.mem_cons.1 h with e | e
      · exact e ▸ .head _
      · exact .tail _ (del_keys x r y e)
theorem Once.del {x : κ} : ∀ {m : List (κ × V)}, Once m → Once (del x m)
  | [], h => h
  | p :: r, h => by
    obtain ⟨h1, h2⟩ := List.nodup_cons.1 (show (p.1 :: r.map (·.1)).Nodup from h)
    by_cases hx : x = p.1
    · simp only [KM.del, hx, if_true]
      exact h2
    · simp only [KM.del, hx, if_false]
      exact List.nodup_cons.2 ⟨fun hm => h1 (del_keys x r p.1 hm), Once.del (m := r) h2⟩
theorem get_del {x : κ} (y : κ) : ∀ {m : List (κ × V)}, Once m → get y (KM.del x m) = if y = x then none else get y m
  | [], _ => by simp [KM.del, get]
  | p :: r, h => by
    obtain ⟨h1, h2⟩ := List.nodup_cons.1 (show (p.1 :: r.map (·.1)).Nodup from h)
    by_cases hx : x = p.1
    · simp only [KM.del, hx, if_true]
      by_cases hy : y = p.1
      · simp only [hy, if_true]
        exact get_none_iff.2 h1
      · simp [get, hy]
    · simp only [KM.del, hx, if_false]
      by_cases hy : y = p.1
      · have : y ≠ x := fun e => hx (e ▸ hy)
        simp only [get, hy, if_true]
        rw [if_neg (fun e => hx e.symm)]
      · simp only [get, hy, if_false]
        exact get_del y (m := r) h2
theorem seek_get (x : κ) : ∀ (m : List (κ × V)) (i : Nat), (seek x m i).map (·.2) = get x m
  | [], _ => rfl
  | p :: r, i => by
    by_cases h : x = p.1
    · simp [seek, get, h]
    · simp only [seek, get, h, if_false]
      exact seek_get x r (i + 1)
end plain

/-- What a key's type must be. -/
structure KeyT (P : Program) (kt : TypeId) {κ : Type} [DecidableEq κ] (enc : κ → Value) : Prop where
  check : ∀ (em : Bool) (w : World) (x : κ), (Instr.checkKey em 10000 kt (enc x)).run P w = .ok () w
  eq : ∀ (w : World) (x y : κ), (Op.equal kt (enc x) (enc y)).run P w = .ok (decide (x = y)) w
  now : ∃ fs, P.underlying kt = some (.struct fs)
  stays : ∀ x, Instr.sameBits 10000 (enc x) (enc x) = true

section
variable {P : Program} {kt : TypeId} {κ : Type} [DecidableEq κ] {enc : κ → Value}

def Holds (enc : κ → Value) (es : List MapEntry) (m : List (κ × Value)) : Prop := es.map (fun e => (e.key, e.val)) = m.map (fun p => (enc p.1, p.2))
theorem Holds.cons {e : MapEntry} {es : List MapEntry} {p : κ × Value} {m : List (κ × Value)} : Holds enc (e :: es) (p :: m) ↔ (e.key = enc p.1 ∧ e.val = p.2) ∧ Holds enc es m := by
  unfold Holds
  simp
theorem Holds.nil {m : List (κ × Value)} (h : Holds enc [] m) : m = [] := by
  cases m with
  | nil => rfl
  | cons p r => unfold Holds at h; simp at h
theorem Holds.cons_inv {e : MapEntry} {es : List MapEntry} {m : List (κ × Value)} (h : Holds enc (e :: es) m) : ∃ p r, m = p :: r ∧ (e.key = enc p.1 ∧ e.val = p.2) ∧ Holds enc es r := by
  cases m with
  | nil => unfold Holds at h; simp at h
  | cons p r => exact ⟨p, r, rfl, Holds.cons.1 h⟩
theorem Holds.length {es : List MapEntry} {m : List (κ × Value)} (h : Holds enc es m) : es.length = m.length := by
  have := congrArg List.length h
  simpa using this

theorem run_asking (K : KeyT P kt enc) (x : κ) (w : World) : ∀ (es : List MapEntry) (m : List (κ × Value)) (i : Nat), Holds enc es m → (Instr.findAsking kt (enc x) es i).run P w = .ok (seek x m i) w
  | [], m, i, h => by
    rw [h.nil]
    rfl
  | e :: es, m, i, h => by
    obtain ⟨p, r, rfl, ⟨h1, h2⟩, h3⟩ := h.cons_inv
    unfold Instr.findAsking
    simp only [Sem.run_bind, h1, K.eq, Result.andThen]
    by_cases hx : x = p.1
    · simp [hx, seek, h2]
    · simp only [hx, decide_false, Bool.false_eq_true, if_false, seek]
      exact run_asking K x w es r (i + 1) h3
theorem run_find (K : KeyT P kt enc) (x : κ) (w : World) {es : List MapEntry} {m : List (κ × Value)} (h : Holds enc es m) : (Instr.findKey kt (enc x) es).run P w = .ok (seek x m 0) w := by
  obtain ⟨fs, hf⟩ := K.now
  cases es with
  | nil =>
    rw [h.nil]
    simp [Instr.findKey, run_underlying hf, Result.andThen, Instr.findNow, seek]
  | cons e es =>
    have : Instr.findNow (.struct fs) (enc x) (e :: es) 0 = none := by
      unfold Instr.findNow Instr.sameNow
      rfl
    simp only [Instr.findKey, Sem.run_bind, run_underlying hf, Result.andThen, this]
    exact run_asking K x w _ m 0 h

/-- The map lies in that block. -/
def IsMap (enc : κ → Value) (W : World) (b : Nat) (m : List (κ × Value)) : Prop := ∃ es clock, W.heap[b]? = some (.map es clock) ∧ Holds enc es.toList m
theorem IsMap.lt {W : World} {b : Nat} {m : List (κ × Value)} (h : IsMap enc W b m) : b < W.heap.size := by
  obtain ⟨es, clock, hb, -⟩ := h
  exact (Array.getElem?_eq_some_iff.1 hb).1
theorem IsMap.of_heap {W W' : World} {b : Nat} {m : List (κ × Value)} (h : IsMap enc W b m) (he : W'.heap[b]? = W.heap[b]?) : IsMap enc W' b m := by
  obtain ⟨es, clock, hb, hh⟩ := h
  exact ⟨es, clock, he.trans hb, hh⟩
theorem IsMap.after {W W' : World} {b : Nat} {m : List (κ × Value)} (h : IsMap enc W b m) (hb : Below W.heap.size W W') : IsMap enc W' b m := h.of_heap (hb.block b h.lt)
/-- Another block than that one is as it was; nothing else has turned. -/
structure Turned (w w' : World) (b : Nat) : Prop where
  os : w'.os = w.os
  tape : w'.tape = w.tape
  output : w'.output = w.output
  size : w'.heap.size = w.heap.size
  block : ∀ k, k ≠ b → w'.heap[k]? = w.heap[k]?
theorem Turned.below {w w' : World} {b B : Nat} (h : Turned w w' b) (hB : B ≤ b) : Below B w w' := ⟨h.os, h.tape, h.output, by rw [h.size]; exact Nat.le_refl _, fun k hk => h.block k (by omega)⟩
theorem turned_set {w : World} {b : Nat} {es : Array MapEntry} {clock : Nat} (hb : w.heap[b]? = some (.map es clock)) (o : Obj) : Turned w { w with heap := w.heap.setIfInBounds b o } b :=
  ⟨rfl, rfl, rfl, by simp, (MapKept.heap_set hb).2⟩

variable {t e : TypeId} {b : Nat} {m : List (κ × Value)} {w : World}
theorem run_lookup_ok (K : KeyT P kt enc) (ht : P.underlying t = some (.map kt e)) (h : IsMap enc w b m) (x : κ) {v : Value} (hv : get x m = some v) : (Instr.lookup t (.map (some b)) (enc x) true).run P w = .ok (.tuple #[v, .bool true]) w := by
  obtain ⟨es, clock, hb, hh⟩ := h
  have hs := seek_get x m 0
  rw [hv] at hs
  obtain ⟨⟨j, u⟩, hj, rfl⟩ := Option.map_eq_some_iff.1 hs
  simp [Instr.lookup, run_underlying ht, MapKept.run_getObj_map hb, K.check, run_find K x w hh, hj, Result.andThen]
theorem run_lookup_no (K : KeyT P kt enc) (ht : P.underlying t = some (.map kt e)) {z : Value} (hz : (zeroValue e).run P w = .ok z w) (h : IsMap enc w b m) (x : κ) (hv : get x m = none) : (Instr.lookup t (.map (some b)) (enc x) true).run P w = .ok (.tuple #[z, .bool false]) w := by
  obtain ⟨es, clock, hb, hh⟩ := h
  have hs := seek_get x m 0
  rw [hv] at hs
  have hj := Option.map_eq_none_iff.1 hs
  simp [Instr.lookup, run_underlying ht, MapKept.run_getObj_map hb, K.check, run_find K x w hh, hj, hz, Result.andThen]
theorem run_lookup1_ok (K : KeyT P kt enc) (ht : P.underlying t = some (.map kt e)) (h : IsMap enc w b m) (x : κ) {v : Value} (hv : get x m = some v) : (Instr.lookup t (.map (some b)) (enc x) false).run P w = .ok v w := by
  obtain ⟨es, clock, hb, hh⟩ := h
  have hs := seek_get x m 0
  rw [hv] at hs
  obtain ⟨⟨j, u⟩, hj, rfl⟩ := Option.map_eq_some_iff.1 hs
  simp [Instr.lookup, run_underlying ht, MapKept.run_getObj_map hb, K.check, run_find K x w hh, hj, Result.andThen]
theorem run_lookup1_no (K : KeyT P kt enc) (ht : P.underlying t = some (.map kt e)) {z : Value} (hz : (zeroValue e).run P w = .ok z w) (h : IsMap enc w b m) (x : κ) (hv : get x m = none) : (Instr.lookup t (.map (some b)) (enc x) false).run P w = .ok z w := by
  obtain ⟨es, clock, hb, hh⟩ := h
  have hs := seek_get x m 0
  rw [hv] at hs
  have hj := Option.map_eq_none_iff.1 hs
  simp [Instr.lookup, run_underlying ht, MapKept.run_getObj_map hb, K.check, run_find K x w hh, hj, hz, Result.andThen]
/-- The map with no entry: nil. -/
theorem run_lookup_nil (K : KeyT P kt enc) (ht : P.underlying t = some (.map kt e)) {z : Value} (hz : (zeroValue e).run P w = .ok z w) (x : κ) (ok : Bool) : (Instr.lookup t (.map none) (enc x) ok).run P w = .ok (if ok then .tuple #[z, .bool false] else z) w := by
  have hf := run_find K x w (es := []) (m := []) rfl
  cases ok <;> simp [Instr.lookup, run_underlying ht, K.check, hf, seek, hz, Result.andThen]

theorem seek_some {x : κ} {v : Value} : ∀ {m : List (κ × Value)} {i j : Nat} {u : Value}, seek x m i = some (j, u) → ∀ {es : List MapEntry}, Holds enc es m →
    ∃ n, j = i + n ∧ n < es.length ∧ (∃ e, es[n]? = some e ∧ e.key = enc x) ∧ (∀ e : MapEntry, e.key = enc x → e.val = v → Holds enc (es.modify n fun _ => e) (put x v m)) ∧ Holds enc (es.eraseIdx n) (del x m)
  | [], i, j, u, h, es, hh => by cases h
  | p :: r, i, j, u, h, es, hh => by
    cases es with
    | nil => exact absurd hh.nil (by simp)
    | cons e es =>
      obtain ⟨⟨h1, h2⟩, h3⟩ := Holds.cons.1 hh
      unfold seek at h
      split at h
      · rename_i hx
        cases h
        refine ⟨0, rfl, by simp, ⟨e, rfl, by rw [h1, hx]⟩, fun e' k1 k2 => ?_, ?_⟩
        · simp only [List.modify_zero_cons, put, hx, if_true]
          exact Holds.cons.2 ⟨⟨by rw [k1, hx], k2⟩, h3⟩
        · simp only [List.eraseIdx_zero, List.tail_cons, del, hx, if_true]
          exact h3
      · rename_i hx
        obtain ⟨n, q1, q2, ⟨e0, q3, q4⟩, q5, q6⟩ := seek_some (v := v) h h3
        refine ⟨n + 1, by omega, by simpa using q2, ⟨e0, by simpa using q3, q4⟩, fun e' k1 k2 => ?_, ?_⟩
        · simp only [List.modify_succ_cons, put, hx, if_false]
          exact Holds.cons.2 ⟨⟨h1, h2⟩, q5 e' k1 k2⟩
        · simp only [List.eraseIdx_cons_succ, del, hx, if_false]
          exact Holds.cons.2 ⟨⟨h1, h2⟩, q6⟩
theorem seek_none {x : κ} {v : Value} : ∀ {m : List (κ × Value)} {i : Nat}, seek x m i = none → put x v m = m ++ [(x, v)] ∧ del x m = m
  | [], _, _ => ⟨rfl, rfl⟩
  | p :: r, i, h => by
    unfold seek at h
    split at h
    · cases h
    · rename_i hx
      obtain ⟨h1, h2⟩ := seek_none (v := v) h
      simp [put, del, hx, h1, h2]

theorem run_update (K : KeyT P kt enc) (ht : P.underlying t = some (.map kt e)) (h : IsMap enc w b m) (x : κ) (v : Value) : ∃ w', (Instr.mapUpdate t (.map (some b)) (enc x) v).run P w = .ok () w' ∧ IsMap enc w' b (put x v m) ∧ Turned w w' b := by
  obtain ⟨es, clock, hb, hh⟩ := h
  have hf := run_find K x w hh
  cases hs : seek x m 0 with
  | none =>
    rw [hs] at hf
    refine ⟨_, by simp [Instr.mapUpdate, run_underlying ht, MapKept.run_getObj_map hb, K.check, hf, MapKept.run_setObj_map _ hb, Result.andThen]; rfl, ⟨_, _, (MapKept.heap_set hb).1, ?_⟩, turned_set hb _⟩
    rw [(seek_none (v := v) hs).1]
    unfold Holds at hh ⊢
    simp [hh]
  | some q =>
    obtain ⟨j, u⟩ := q
    rw [hs] at hf
    obtain ⟨n, q1, q2, ⟨e0, q3, q4⟩, q5, -⟩ := seek_some (v := v) hs hh
    have hjn : j = n := by omega
    subst hjn
    have hget : es[j]? = some e0 := by simpa using q3
    have hst : (Instr.keyThatStays (enc x) (enc x)).run P w = .ok (enc x) w := by
      unfold Instr.keyThatStays
      rw [if_pos (K.stays x)]
      rfl
    refine ⟨_, by simp [Instr.mapUpdate, run_underlying ht, MapKept.run_getObj_map hb, K.check, hf, hget, q4, hst, MapKept.run_setObj_map _ hb, Result.andThen]; rfl, ⟨_, _, (MapKept.heap_set hb).1, ?_⟩, turned_set hb _⟩
    have := q5 { e0 with key := enc x, val := v } rfl rfl
    unfold Holds at this ⊢
    rw [← this]
    congr 1
    apply List.ext_getElem?
    intro i
    simp only [Array.toList_modify, List.getElem?_modify]
    by_cases hi : j = i
    · subst hi
      simp [hget]
    · simp [hi]
theorem run_delete {kt' : TypeId} (K : KeyT P kt enc) (ht : P.underlying t = some (.map kt e)) (h : IsMap enc w b m) (x : κ) (ty : TypeId) : ∃ w', (Builtin.delete_ #[t, kt'] ty #[.map (some b), enc x]).run P w = .ok (.tuple #[]) w' ∧ IsMap enc w' b (del x m) ∧ Turned w w' b := by
  obtain ⟨es, clock, hb, hh⟩ := h
  have hf := run_find K x w hh
  cases hs : seek x m 0 with
  | none =>
    rw [hs] at hf
    refine ⟨_, by simp [Builtin.delete_, run_underlying ht, MapKept.run_getObj_map hb, K.check, hf, MapKept.run_setObj_map _ hb, Result.andThen]; rfl, ⟨_, _, (MapKept.heap_set hb).1, ?_⟩, turned_set hb _⟩
    rw [(seek_none (v := .nilIface) hs).2]
    exact hh
  | some q =>
    obtain ⟨j, u⟩ := q
    rw [hs] at hf
    obtain ⟨n, q1, q2, -, -, q6⟩ := seek_some (v := .nilIface) hs hh
    have hjn : j = n := by omega
    subst hjn
    refine ⟨_, by simp [Builtin.delete_, run_underlying ht, MapKept.run_getObj_map hb, K.check, hf, MapKept.run_setObj_map _ hb, Result.andThen]; rfl, ⟨_, _, (MapKept.heap_set hb).1, ?_⟩, turned_set hb _⟩
    have e1 : (es.eraseIdxIfInBounds j).toList = es.toList.eraseIdx j := by
      unfold Array.eraseIdxIfInBounds
      split
      · simp
      · rw [List.eraseIdx_of_length_le (by simpa using Nat.le_of_not_lt (by assumption))]
    rw [e1]
    exact q6
theorem isMap_new (w : World) : IsMap enc (w.alloc (.map #[] 0)) w.heap.size [] := ⟨#[], 0, (MapKept.heap_alloc w _).1, rfl⟩
theorem isMap_alloc {w : World} {b : Nat} {m : List (κ × Value)} (h : IsMap enc w b m) (o : Obj) : IsMap enc (w.alloc o) b m := h.of_heap ((MapKept.heap_alloc w o).2 b h.lt)
end
end Go.KM
