/- Own work. -/
import Derived.Maps.OwnSet
import Derived.Below
import Derived.Laws.AppendOwn
import Derived.OwnWalk
import Derived.KernelRfl
import Derived.Outline
import Derived.WalkArith
import Derived.Maps.AppendAt
import Derived.Lib.AppendStr
import Derived.Test.YtfndiocohaploaaTLJSZCBase
import Derived.Test.YtfndiocohaploaaTLJLawEnd
import Derived.Laws.IdiomStrings
import Derived.Deep.AppendLies
import Derived.OpenShut
import Derived.SizedLaws
import Derived.WalkLawsBesides
import Derived.RangeFuncBox
import Derived.Deep.RegionHeld3
import Derived.Deep.Cut
import Derived.Test.YtfndiocohaploaaTLJSZHeldBy
set_option linter.unusedSectionVars false
namespace Go.KM
open Go Go.RowKit
section plain
variable {κ V : Type} [DecidableEq κ]
def get (x : κ) : List (κ × V) → Option V
  | [] => none
  | p :: r => if x = p.1 then some p.2 else get x r
def put (x : κ) (v : V) : List (κ × V) → List (κ × V)
  | [] => [(x, v)]
  | p :: r => if x = p.1 then (x, v) :: r else p :: put x v r
def del (x : κ) : List (κ × V) → List (κ × V)
  | [] => []
  | p :: r => if x = p.1 then r else p :: del x r
def seek (x : κ) : List (κ × V) → Nat → Option (Nat × V)
  | [], _ => none
  | p :: r, i => if x = p.1 then some (i, p.2) else seek x r (i + 1)
def Once (m : List (κ × V)) : Prop := (m.map (·.1)).Nodup
theorem get_mem {x : κ} {v : V} : ∀ {m : List (κ × V)}, get x m = some v → (x, v) ∈ m
  | p :: r, h => by
    unfold get at h
    split at h
    · rename_i e
      cases h
      subst e
      exact .head _
    · exact .tail _ (get_mem h)
theorem put_keys (x : κ) (v : V) : ∀ m : List (κ × V), ∀ y, y ∈ (put x v m).map (·.1) ↔ y = x ∨ y ∈ m.map (·.1)
  | [], y => by simp [put]
  | p :: r, y => by
    by_cases h : x = p.1
    · simp [put, h]
    · have := put_keys x v r y
      simp only [put, h, if_false, List.map_cons, List.mem_cons, this]
      constructor
      · rintro (h | h | h)
        · exact .inr (.inl h)
        · exact .inl h
        · exact .inr (.inr h)
      · rintro (h | h | h)
        · exact .inr (.inl h)
        · exact .inl h
        · exact .inr (.inr h)
theorem Once.put {x : κ} {v : V} : ∀ {m : List (κ × V)}, Once m → Once (put x v m)
  | [], _ => by simp [KM.put, Once]
  | p :: r, h => by
    obtain ⟨h1, h2⟩ := List.nodup_cons.1 (show (p.1 :: r.map (·.1)).Nodup from h)
    by_cases hx : x = p.1
    · simp only [KM.put, hx, if_true]
      exact List.nodup_cons.2 ⟨h1, h2⟩
    · simp only [KM.put, hx, if_false]
      refine List.nodup_cons.2 ⟨fun hm => ?_, Once.put (m := r) h2⟩
      rcases (put_keys x v r p.1).1 hm with e | e
      · exact hx e.symm
      · exact h1 e
theorem del_keys (x : κ) : ∀ m : List (κ × V), ∀ y, y ∈ (del x m).map (·.1) → y ∈ m.map (·.1)
  | [], y, h => h
  | p :: r, y, h => by
    by_cases hx : x = p.1
    · simp only [del, hx, if_true] at h
      exact .tail _ h
    · simp only [del, hx, if_false] at h
      rcases List.mem_cons.1 h with e | e
      · exact e ▸ .head _
      · exact .tail _ (del_keys x r y e)
theorem Once.del {x : κ} : ∀ {m : List (κ × V)}, Once m → Once (del x m)
  | [], h => h
  | p :: r, h => by
    obtain ⟨h1, h2⟩ := List.nodup_cons.1 (show (p.1 :: r.map (·.1)).Nodup from h)
    by_cases hx : x = p.1
    · simp only [KM.del, hx, if_true]
      exact h2
    · simp only [KM.del, hx, if_false]
      exact List.nodup_cons.2 ⟨fun hm => h1 (del_keys x r p.1 hm), Once.del (m := r) h2⟩
theorem seek_get (x : κ) : ∀ (m : List (κ × V)) (i : Nat), (seek x m i).map (·.2) = get x m
  | [], _ => rfl
  | p :: r, i => by
    by_cases h : x = p.1
    · simp [seek, get, h]
    · simp only [seek, get, h, if_false]
      exact seek_get x r (i + 1)
end plain
structure KeyT (P : Program) (kt : TypeId) {κ : Type} [DecidableEq κ] (enc : κ → Value) : Prop where
  check : ∀ (em : Bool) (w : World) (x : κ), (Instr.checkKey em 10000 kt (enc x)).run P w = .ok () w
  eq : ∀ (w : World) (x y : κ), (Op.equal kt (enc x) (enc y)).run P w = .ok (decide (x = y)) w
  now : ∃ fs, P.underlying kt = some (.struct fs)
  stays : ∀ x, Instr.sameBits 10000 (enc x) (enc x) = true
section
variable {P : Program} {kt : TypeId} {κ : Type} [DecidableEq κ] {enc : κ → Value}
def Holds (enc : κ → Value) (es : List MapEntry) (m : List (κ × Value)) : Prop := es.map (fun e => (e.key, e.val)) = m.map (fun p => (enc p.1, p.2))
theorem Holds.cons {e : MapEntry} {es : List MapEntry} {p : κ × Value} {m : List (κ × Value)} : Holds enc (e :: es) (p :: m) ↔ (e.key = enc p.1 ∧ e.val = p.2) ∧ Holds enc es m := by
  unfold Holds
  simp
theorem Holds.nil {m : List (κ × Value)} (h : Holds enc [] m) : m = [] := by
  cases m with
  | nil => rfl
  | cons p r => unfold Holds at h; simp at h
theorem Holds.cons_inv {e : MapEntry} {es : List MapEntry} {m : List (κ × Value)} (h : Holds enc (e :: es) m) : ∃ p r, m = p :: r ∧ (e.key = enc p.1 ∧ e.val = p.2) ∧ Holds enc es r := by
  cases m with
  | nil => unfold Holds at h; simp at h
  | cons p r => exact ⟨p, r, rfl, Holds.cons.1 h⟩
theorem Holds.length {es : List MapEntry} {m : List (κ × Value)} (h : Holds enc es m) : es.length = m.length := by
  have := congrArg List.length h
  simpa using this
theorem run_asking (K : KeyT P kt enc) (x : κ) (w : World) : ∀ (es : List MapEntry) (m : List (κ × Value)) (i : Nat), Holds enc es m → (Instr.findAsking kt (enc x) es i).run P w = .ok (seek x m i) w
  | [], m, i, h => by
    rw [h.nil]
    rfl
  | e :: es, m, i, h => by
    obtain ⟨p, r, rfl, ⟨h1, h2⟩, h3⟩ := h.cons_inv
    unfold Instr.findAsking
    simp only [Sem.run_bind, h1, K.eq, Result.andThen]
    by_cases hx : x = p.1
    · simp [hx, seek, h2]
    · simp only [hx, decide_false, Bool.false_eq_true, if_false, seek]
      exact run_asking K x w es r (i + 1) h3
theorem run_find (K : KeyT P kt enc) (x : κ) (w : World) {es : List MapEntry} {m : List (κ × Value)} (h : Holds enc es m) : (Instr.findKey kt (enc x) es).run P w = .ok (seek x m 0) w := by
  obtain ⟨fs, hf⟩ := K.now
  cases es with
  | nil =>
    rw [h.nil]
    simp [Instr.findKey, run_underlying hf, Result.andThen, Instr.findNow, seek]
  | cons e es =>
    have : Instr.findNow (.struct fs) (enc x) (e :: es) 0 = none := by
      unfold Instr.findNow Instr.sameNow
      rfl
    simp only [Instr.findKey, Sem.run_bind, run_underlying hf, Result.andThen, this]
    exact run_asking K x w _ m 0 h
def IsMap (enc : κ → Value) (W : World) (b : Nat) (m : List (κ × Value)) : Prop := ∃ es clock, W.heap[b]? = some (.map es clock) ∧ Holds enc es.toList m
theorem IsMap.lt {W : World} {b : Nat} {m : List (κ × Value)} (h : IsMap enc W b m) : b < W.heap.size := by
  obtain ⟨es, clock, hb, -⟩ := h
  exact (Array.getElem?_eq_some_iff.1 hb).1
theorem IsMap.of_heap {W W' : World} {b : Nat} {m : List (κ × Value)} (h : IsMap enc W b m) (he : W'.heap[b]? = W.heap[b]?) : IsMap enc W' b m := by
  obtain ⟨es, clock, hb, hh⟩ := h
  exact ⟨es, clock, he.trans hb, hh⟩
theorem IsMap.after {W W' : World} {b : Nat} {m : List (κ × Value)} (h : IsMap enc W b m) (hb : Below W.heap.size W W') : IsMap enc W' b m := h.of_heap (hb.block b h.lt)
structure Turned (w w' : World) (b : Nat) : Prop where
  os : w'.os = w.os
  tape : w'.tape = w.tape
  output : w'.output = w.output
  size : w'.heap.size = w.heap.size
  block : ∀ k, k ≠ b → w'.heap[k]? = w.heap[k]?
theorem Turned.below {w w' : World} {b B : Nat} (h : Turned w w' b) (hB : B ≤ b) : Below B w w' := ⟨h.os, h.tape, h.output, by rw [h.size]; exact Nat.le_refl _, fun k hk => h.block k (by omega)⟩
theorem turned_set {w : World} {b : Nat} {es : Array MapEntry} {clock : Nat} (hb : w.heap[b]? = some (.map es clock)) (o : Obj) : Turned w { w with heap := w.heap.setIfInBounds b o } b :=
  ⟨rfl, rfl, rfl, by simp, (MapKept.heap_set hb).2⟩
variable {t e : TypeId} {b : Nat} {m : List (κ × Value)} {w : World}
theorem run_lookup_ok (K : KeyT P kt enc) (ht : P.underlying t = some (.map kt e)) (h : IsMap enc w b m) (x : κ) {v : Value} (hv : get x m = some v) : (Instr.lookup t (.map (some b)) (enc x) true).run P w = .ok (.tuple #[v, .bool true]) w := by
  obtain ⟨es, clock, hb, hh⟩ := h
  have hs := seek_get x m 0
  rw [hv] at hs
  obtain ⟨⟨j, u⟩, hj, rfl⟩ := Option.map_eq_some_iff.1 hs
  simp [Instr.lookup, run_underlying ht, MapKept.run_getObj_map hb, K.check, run_find K x w hh, hj, Result.andThen]
theorem run_lookup_no (K : KeyT P kt enc) (ht : P.underlying t = some (.map kt e)) {z : Value} (hz : (zeroValue e).run P w = .ok z w) (h : IsMap enc w b m) (x : κ) (hv : get x m = none) : (Instr.lookup t (.map (some b)) (enc x) true).run P w = .ok (.tuple #[z, .bool false]) w := by
  obtain ⟨es, clock, hb, hh⟩ := h
  have hs := seek_get x m 0
  rw [hv] at hs
  have hj := Option.map_eq_none_iff.1 hs
  simp [Instr.lookup, run_underlying ht, MapKept.run_getObj_map hb, K.check, run_find K x w hh, hj, hz, Result.andThen]
theorem seek_some {x : κ} {v : Value} : ∀ {m : List (κ × Value)} {i j : Nat} {u : Value}, seek x m i = some (j, u) → ∀ {es : List MapEntry}, Holds enc es m →
    ∃ n, j = i + n ∧ n < es.length ∧ (∃ e, es[n]? = some e ∧ e.key = enc x) ∧ (∀ e : MapEntry, e.key = enc x → e.val = v → Holds enc (es.modify n fun _ => e) (put x v m)) ∧ Holds enc (es.eraseIdx n) (del x m)
  | [], i, j, u, h, es, hh => by cases h
  | p :: r, i, j, u, h, es, hh => by
    cases es with
    | nil => exact absurd hh.nil (by simp)
    | cons e es =>
      obtain ⟨⟨h1, h2⟩, h3⟩ := Holds.cons.1 hh
      unfold seek at h
      split at h
      · rename_i hx
        cases h
        refine ⟨0, rfl, by simp, ⟨e, rfl, by rw [h1, hx]⟩, fun e' k1 k2 => ?_, ?_⟩
        · simp only [List.modify_zero_cons, put, hx, if_true]
          exact Holds.cons.2 ⟨⟨by rw [k1, hx], k2⟩, h3⟩
        · simp only [List.eraseIdx_zero, List.tail_cons, del, hx, if_true]
          exact h3
      · rename_i hx
        obtain ⟨n, q1, q2, ⟨e0, q3, q4⟩, q5, q6⟩ := seek_some (v := v) h h3
        refine ⟨n + 1, by omega, by simpa using q2, ⟨e0, by simpa using q3, q4⟩, fun e' k1 k2 => ?_, ?_⟩
        · simp only [List.modify_succ_cons, put, hx, if_false]
          exact Holds.cons.2 ⟨⟨h1, h2⟩, q5 e' k1 k2⟩
        · simp only [List.eraseIdx_cons_succ, del, hx, if_false]
          exact Holds.cons.2 ⟨⟨h1, h2⟩, q6⟩
theorem seek_none {x : κ} {v : Value} : ∀ {m : List (κ × Value)} {i : Nat}, seek x m i = none → put x v m = m ++ [(x, v)] ∧ del x m = m
  | [], _, _ => ⟨rfl, rfl⟩
  | p :: r, i, h => by
    unfold seek at h
    split at h
    · cases h
    · rename_i hx
      obtain ⟨h1, h2⟩ := seek_none (v := v) h
      simp [put, del, hx, h1, h2]
theorem run_update (K : KeyT P kt enc) (ht : P.underlying t = some (.map kt e)) (h : IsMap enc w b m) (x : κ) (v : Value) : ∃ w', (Instr.mapUpdate t (.map (some b)) (enc x) v).run P w = .ok () w' ∧ IsMap enc w' b (put x v m) ∧ Turned w w' b := by
  obtain ⟨es, clock, hb, hh⟩ := h
  have hf := run_find K x w hh
  cases hs : seek x m 0 with
  | none =>
    rw [hs] at hf
    refine ⟨_, by simp [Instr.mapUpdate, run_underlying ht, MapKept.run_getObj_map hb, K.check, hf, MapKept.run_setObj_map _ hb, Result.andThen]; rfl, ⟨_, _, (MapKept.heap_set hb).1, ?_⟩, turned_set hb _⟩
    rw [(seek_none (v := v) hs).1]
    unfold Holds at hh ⊢
    simp [hh]
  | some q =>
    obtain ⟨j, u⟩ := q
    rw [hs] at hf
    obtain ⟨n, q1, q2, ⟨e0, q3, q4⟩, q5, -⟩ := seek_some (v := v) hs hh
    have hjn : j = n := by omega
    subst hjn
    have hget : es[j]? = some e0 := by simpa using q3
    have hst : (Instr.keyThatStays (enc x) (enc x)).run P w = .ok (enc x) w := by
      unfold Instr.keyThatStays
      rw [if_pos (K.stays x)]
      rfl
    refine ⟨_, by simp [Instr.mapUpdate, run_underlying ht, MapKept.run_getObj_map hb, K.check, hf, hget, q4, hst, MapKept.run_setObj_map _ hb, Result.andThen]; rfl, ⟨_, _, (MapKept.heap_set hb).1, ?_⟩, turned_set hb _⟩
    have := q5 { e0 with key := enc x, val := v } rfl rfl
    unfold Holds at this ⊢
    rw [← this]
    congr 1
    apply List.ext_getElem?
    intro i
    simp only [Array.toList_modify, List.getElem?_modify]
    by_cases hi : j = i
    · subst hi
      simp [hget]
    · simp [hi]
theorem run_delete {kt' : TypeId} (K : KeyT P kt enc) (ht : P.underlying t = some (.map kt e)) (h : IsMap enc w b m) (x : κ) (ty : TypeId) : ∃ w', (Builtin.delete_ #[t, kt'] ty #[.map (some b), enc x]).run P w = .ok (.tuple #[]) w' ∧ IsMap enc w' b (del x m) ∧ Turned w w' b := by
  obtain ⟨es, clock, hb, hh⟩ := h
  have hf := run_find K x w hh
  cases hs : seek x m 0 with
  | none =>
    rw [hs] at hf
    refine ⟨_, by simp [Builtin.delete_, run_underlying ht, MapKept.run_getObj_map hb, K.check, hf, MapKept.run_setObj_map _ hb, Result.andThen]; rfl, ⟨_, _, (MapKept.heap_set hb).1, ?_⟩, turned_set hb _⟩
    rw [(seek_none (v := .nilIface) hs).2]
    exact hh
  | some q =>
    obtain ⟨j, u⟩ := q
    rw [hs] at hf
    obtain ⟨n, q1, q2, -, -, q6⟩ := seek_some (v := .nilIface) hs hh
    have hjn : j = n := by omega
    subst hjn
    refine ⟨_, by simp [Builtin.delete_, run_underlying ht, MapKept.run_getObj_map hb, K.check, hf, MapKept.run_setObj_map _ hb, Result.andThen]; rfl, ⟨_, _, (MapKept.heap_set hb).1, ?_⟩, turned_set hb _⟩
    have e1 : (es.eraseIdxIfInBounds j).toList = es.toList.eraseIdx j := by
      unfold Array.eraseIdxIfInBounds
      split
      · simp
      · rw [List.eraseIdx_of_length_le (by simpa using Nat.le_of_not_lt (by assumption))]
    rw [e1]
    exact q6
end
end Go.KM
namespace Go.Proofs.Ytfndiocohaploaa.C
open Go.RowKit T O
def bv (b : UInt8) : Value := .int .u8 b.toNat
def Held (W : World) (B : Nat) (v : Value) (l : Bytes) : Prop := W.ownsRow B 5 1 v l.length (l.map bv)
theorem Held.nil (W : World) (B : Nat) : Held W B (.slice none 0 0) [] := World.ownsRow_nil W B _ _
structure Grew (W : World) (v : Value) (W' : World) (v' : Value) : Prop where
  by_ : W.grownBy W' v.ownBlock
  at_ : v'.ownBlock = v.ownBlock ∨ ∃ k, v'.ownBlock = some k ∧ W.heap.size ≤ k
theorem Grew.refl (W : World) (v : Value) : Grew W v W v := ⟨⟨rfl, rfl, rfl, Nat.le_refl _, fun _ _ _ => rfl⟩, .inl rfl⟩
theorem Grew.trans {W W1 W2 : World} {v v1 v2 : Value} (h : Grew W v W1 v1) (k : Grew W1 v1 W2 v2) : Grew W v W2 v2 where
  by_ := by
    refine ⟨k.by_.os.trans h.by_.os, k.by_.tape.trans h.by_.tape, k.by_.output.trans h.by_.output, Nat.le_trans h.by_.size k.by_.size, fun j hj hne => ?_⟩
    have hs := h.by_.size
    refine (k.by_.block j (by omega) ?_).trans (h.by_.block j hj hne)
    rcases h.at_ with e | ⟨m, e, hm⟩
    · rw [e]; exact hne
    · rw [e]; intro hx; cases hx; omega
  at_ := by
    have hs := h.by_.size
    rcases k.at_ with e | ⟨m, e, hm⟩
    · rw [e]; exact h.at_
    · exact .inr ⟨m, e, by omega⟩
theorem Grew.below {W W' : World} {v v' : Value} {B : Nat} {l : Bytes} (h : Grew W v W' v') (hH : Held W B v l) (hB : B ≤ W.heap.size) : Below B W W' :=
  ⟨h.by_.os, h.by_.tape, h.by_.output, h.by_.size, fun k hk => h.by_.block k (by omega) (fun e => by have := World.ownsRow.lt hH k e.symm; omega)⟩
theorem Held.alloc {W : World} {B : Nat} {v : Value} {l : Bytes} (h : Held W B v l) (x : Go.Obj) : Held (W.alloc x) B v l := World.ownsRow.alloc h x
theorem Held.kept {W W' : World} {B : Nat} {v u : Value} {l : Bytes} (h : Held W B v l) {u' : Value} (hg : Grew W u W' u') (hne : v.ownBlock = none ∨ v.ownBlock ≠ u.ownBlock) : Held W' B v l := World.ownsRow.kept h hg.by_ hne
theorem Held.rebase {W : World} {B : Nat} {v : Value} {l : Bytes} (h : Held W B v l) {C : Nat} (hC : ∀ k, v.ownBlock = some k → C ≤ k) : Held W C v l := by
  refine ⟨h.1, ?_⟩
  rcases h.2 with hn | ⟨g, cap, cur, hv, -, rest⟩
  · exact .inl hn
  · exact .inr ⟨g, cap, cur, hv, hC g (by rw [hv]; rfl), rest⟩
theorem infoByte : (Try.prog.info? 5).map (fun i => (i.zero, i.size, i.bytes)) = some (some (.int .u8 0), 1, 1) := by kernel_rfl
theorem run_append_held (W : World) (ty : TypeId) (B : Nat) (v : Value) (l : Bytes) (hH : Held W B v l) (ad : Addr) (c : Nat) (m : Bytes) (hm : ∀ j u, (m.map bv)[j]? = some u → W.cell? (ad.add j) = some u)
    (hlen : l.length + m.length ≤ 1000000000000) (hB : B ≤ W.heap.size) :
    ∃ v' W', (Builtin.append_ #[48, 48] ty #[v, .slice (some ad) m.length c]).run Try.prog W = .ok v' W' ∧ Held W' B v' (l ++ m) ∧ Grew W v W' v' := by
  obtain ⟨i, hi, hz, hs, hb⟩ := info_parts infoByte
  have hl : (m.map bv).length = m.length * 1 := by simp
  have h1 : ∀ u ∈ m.map bv, u.oneCell' = true := by
    intro u hu
    obtain ⟨b, -, rfl⟩ := List.mem_map.1 hu
    rfl
  have h63 : l.length + m.length ≤ maxLen := by unfold maxLen; omega
  obtain ⟨v', W', hr, hown, hgrow, hnil⟩ := run_append_own (P := Try.prog) W B 48 ty 5 i (.int .u8 0) 1 1 Try.underlying48 hi hz hs hb rfl (by decide) v l.length (l.map bv) hH ad m.length c (m.map bv) hl hm h1 h63 (by omega) hB
  refine ⟨v', W', hr, by unfold Held; rw [List.length_append, List.map_append]; exact hown, hgrow, ?_⟩
  rcases hH.2 with ⟨rfl, hn⟩ | ⟨g, cap, cur, rfl, hbg, hg, hnc, hcm, hcs, htake⟩
  · by_cases h0 : m.length = 0
    · rw [hnil.2 ⟨rfl, h0⟩]
      exact .inl rfl
    · have hr2 := run_append_nil (P := Try.prog) W 48 ty 5 i (.int .u8 0) Try.underlying48 hi hz ad m.length c (m.map bv) (by rw [hs]; exact hl) hm (by omega) (by omega) (by rw [hb]; omega)
      rw [hr2] at hr
      cases hr
      exact .inr ⟨_, rfl, Nat.le_refl _⟩
  · by_cases hroom : l.length + m.length ≤ cap
    · have hr2 := run_append_room (P := Try.prog) W 48 ty 5 i Try.underlying48 hi g l.length cap cur hg ad m.length c (m.map bv) (by rw [hs]; exact hl) hm h1 hroom (by rw [hs, hl, hcs]; omega)
      rw [hr2] at hr
      cases hr
      exact .inl rfl
    · have hr2 := run_append_grow (P := Try.prog) W 48 ty 5 i (.int .u8 0) Try.underlying48 hi hz ⟨g, 0, none⟩ l.length cap (l.map bv) (by rw [hs]; exact hH.1) (World.ownsRow.cells (g := g) hH rfl) ad m.length c (m.map bv) (by rw [hs]; exact hl) hm (by omega) (by omega) (growslice_fits (by omega) (by rw [hb]; omega))
      rw [hr2] at hr
      cases hr
      exact .inr ⟨_, rfl, Nat.le_refl _⟩
end Go.Proofs.Ytfndiocohaploaa.C
namespace Go.Proofs.Ytfndiocohaploaa.C
open Go.RowKit T O
open Go.Lib hiding intOf
theorem or_byte : ∀ x : Nat, x < 256 → bits .or .u8 (x : Int) 128 = ((x % 128 + 128 : Nat) : Int) := by decide +kernel
theorem more_byte (m : Int) (h : 0 ≤ m) : bits .or .u8 (m % 256) 128 = ((UInt8.ofNat (m.toNat % 128 + 128)).toNat : Int) := by
  rw [show m % 256 = ((m.toNat % 256 : Nat) : Int) by omega, or_byte _ (by omega), toNat_ofNat (by omega)]
  omega
theorem last_byte (m : Int) (h : 0 ≤ m) (h2 : m < 128) : m % 256 = ((UInt8.ofNat m.toNat).toNat : Int) := by
  rw [toNat_ofNat (by omega)]
  omega
theorem wpList_append_one {ops : Array Oper} {rest : List Oper} {o : Oper} {a : Act} {W : World} {Q : Exit → Act → World → Prop} (hgd : o.guard = none) (s x : Operand)
    (ho : o.op = .call { callee := .builtin .append, args := #[s, x], argTypes := #[48, 48] })
    (B : Nat) (v : Value) (l : Bytes) (hs : a.eval s = v) (hH : Held W B v l) (g c : Nat) (b : UInt8) (hx : a.eval x = .slice (some ⟨g, 0, none⟩) 1 c) (hc : W.cell? ⟨g, 0, none⟩ = some (bv b))
    (hlen : l.length + 1 ≤ 1000000000000) (hB : B ≤ W.heap.size) (h : ∀ v' W', Held W' B v' (l ++ [b]) → Grew W v W' v' → wpList Try.prog ops Q rest (a.put o.dst v') W') : wpList Try.prog ops Q (o :: rest) a W := by
  obtain ⟨v', W', hr, hH', hG⟩ := run_append_held W o.type B v l hH ⟨g, 0, none⟩ c [b] (fun j u hj => by
    match j, hj with
    | 0, hj => obtain rfl : bv b = u := by simpa using hj
               exact hc) hlen hB
  refine wpList_plain hgd fun _ hK => ?_
  unfold Oper.wp execOp
  simp only [ho, resolve, invoke, builtin, Sem.run_bind, Sem.run_pure, Result.andThen_ok, List.map_toArray, List.map_cons, List.map_nil, hs, hx]
  rw [show (1 : Nat) = [b].length from rfl, hr]
  exact hK _ _ (h v' W' hH' hG)
theorem flat_snoc {ns : List Int} {k : Nat} (h : k < ns.length) : (ns.take (k + 1)).flatMap intB = (ns.take k).flatMap intB ++ intB ns[k] := by
  rw [List.take_add_one, List.getElem?_eq_getElem h, List.flatMap_append]
  simp
theorem intB_more {m : Int} (h1 : 128 ≤ m) : intB m = UInt8.ofNat (m.toNat % 128 + 128) :: intB (m / 128) := by
  unfold intB
  rw [numB_big (by omega), show (m / 128).toNat = m.toNat / 128 by omega]
theorem intB_last {m : Int} (h1 : m < 128) : intB m = [UInt8.ofNat m.toNat] := by
  unfold intB
  rw [numB_small (by omega)]
theorem flat_len : ∀ (ns : List Int), (∀ n ∈ ns, 0 ≤ n ∧ n < 18446744073709551616) → (ns.flatMap intB).length ≤ 10 * ns.length
  | [], _ => by simp
  | n :: ns, h => by
    have h1 := flat_len ns (fun m hm => h m (List.mem_cons_of_mem _ hm))
    have h2 := intB_ten (h n (List.mem_cons_self))
    rw [List.flatMap_cons, List.length_append, List.length_cons]
    omega
structure Half (W : World) (B : Nat) (v0 : Value) (W1 : World) (v1 : Value) (pre : Bytes) (n m : Int) : Prop where
  lo : 0 ≤ m
  hi : m < 18446744073709551616
  held : ∃ done, Held W1 B v1 (pre ++ done) ∧ done ++ intB m = intB n
  grew : Grew W v0 W1 v1
theorem Half.more {W : World} {B : Nat} {v0 : Value} {W1 W2 : World} {v1 v2 : Value} {pre done : Bytes} {n m : Int} (h : Half W B v0 W1 v1 pre n m) (hm : 128 ≤ m) (hd : done ++ intB m = intB n)
    (hH : Held W2 B v2 ((pre ++ done) ++ [UInt8.ofNat (m.toNat % 128 + 128)])) (hG : Grew W1 v1 W2 v2) : Half W B v0 W2 v2 pre n (m / 128) :=
  ⟨by have := h.lo; omega, by have := h.hi; omega, ⟨done ++ [UInt8.ofNat (m.toNat % 128 + 128)], by rw [← List.append_assoc]; exact hH, by rw [← hd, intB_more hm, List.append_assoc]; rfl⟩, h.grew.trans hG⟩
theorem Half.last {W : World} {B : Nat} {v0 : Value} {W1 W2 : World} {v1 v2 : Value} {pre done : Bytes} {n m : Int} (h : Half W B v0 W1 v1 pre n m) (hm : m < 128) (hd : done ++ intB m = intB n)
    (hH : Held W2 B v2 ((pre ++ done) ++ [UInt8.ofNat m.toNat])) (hG : Grew W1 v1 W2 v2) : Held W2 B v2 (pre ++ intB n) ∧ Grew W v0 W2 v2 :=
  ⟨by rw [← hd, intB_last hm, ← List.append_assoc]; exact hH, h.grew.trans hG⟩
theorem Grew.alloc {W W1 : World} {v v1 : Value} {x : Go.Obj} (h : Grew (W.alloc x) v W1 v1) : Grew W v W1 v1 := by
  have hb : W.grownBy (W.alloc x) v.ownBlock := World.grownBy_alloc W x _
  exact Grew.trans (W1 := W.alloc x) (v1 := v) ⟨hb, .inl rfl⟩ h
theorem Half.start {W : World} {B : Nat} {v0 : Value} {W1 : World} {v1 : Value} {pre : Bytes} {n : Int} (h : 0 ≤ n ∧ n < 18446744073709551616) (hH : Held W1 B v1 pre) (hG : Grew W v0 W1 v1) : Half W B v0 W1 v1 pre n n :=
  ⟨h.1, h.2, ⟨[], by simpa using hH, rfl⟩, hG⟩
set_option maxRecDepth 100000 in
set_option maxHeartbeats 1000000 in
theorem appendNumbers_any (ns : List Int) (hns : ∀ n ∈ ns, 0 ≤ n ∧ n < 18446744073709551616) (g : Nat) (v : Value) (l : Bytes) (B : Nat) (W : World) (hH : Held W B v l) (hB : B ≤ W.heap.size) (hg : g < W.heap.size) (hgv : some g ≠ v.ownBlock)
    (hc : ∀ i (h : i < ns.length), W.cell? ⟨g, i, none⟩ = some (.int .u64 ns[i])) (hlen : l.length + 10 * ns.length ≤ 1000000000) :
    Calls Try.prog 79 #[v, .slice (some ⟨g, 0, none⟩) ns.length ns.length] W fun e W' => ∃ v', e = .returned v' ∧ Held W' B v' (l ++ ns.flatMap intB) ∧ Grew W v W' v' := by
  have HC := Lib.hid hc
  have HN := Lib.hid hns
  have HL := Lib.hid hlen
  have HH := Lib.hid hH
  have HV := Lib.hid hgv
  have hnl : ns.length ≤ 1000000000 := by omega
  clear hc hns hlen hH hgv
  go_enter Try.func79, Try.ntmps79
  go_wp2
  go_loopw [0, 9] (fun v1 i wr => ∃ k : Nat, k ≤ ns.length ∧ i = .int .i64 k ∧ Hid (Held wr B v1 (l ++ (ns.take k).flatMap intB)) ∧ Grew W v wr v1) (fun _ i _ => ns.length - (intOf i).toNat)
  case atStart => exact ⟨0, Nat.zero_le _, rfl, by show Held _ _ _ _; simpa using HH.out, Grew.refl _ _⟩
  case round =>
    obtain ⟨k, hk, rfl, hH1, hG1⟩ := hrel
    by_cases hp : k < ns.length
    · have hcell := (World.cell?_of_block (a := ⟨g, k, none⟩) (hG1.by_.block g hg HV.out)).trans (HC.out k hp)
      go_wp2
      have hn := HN.out ns[k] (List.getElem_mem hp)
      have HS := Half.start (W := W) (v0 := v) hn hH1.out hG1
      clear hcell hH1 hG1
      go_loopw [0, 6] (fun v2 n w2 => ∃ m : Int, n = .int .u64 m ∧ Half W B v w2 v2 (l ++ (ns.take k).flatMap intB) ns[k] m) (fun _ n _ => (intOf n).toNat)
      case atStart => exact ⟨_, rfl, HS⟩
      case round =>
        obtain ⟨m, rfl, HM⟩ := hrel
        obtain ⟨done, hHd, hd⟩ := HM.held
        have hpl := flat_len (ns.take k) (fun n hn => HN.out n (List.mem_of_mem_take hn))
        have hdl : done.length ≤ 10 := by
          have h1 := intB_ten hn
          rw [← hd, List.length_append] at h1
          omega
        have hB2 : B ≤ wr.heap.size := Nat.le_trans hB HM.grew.by_.size
        have HX : Hid (((l ++ (ns.take k).flatMap intB) ++ done).length + 1 ≤ 1000000000000) := by
          show _ ≤ _
          have := HL.out
          rw [List.length_append, List.length_append]
          rw [List.length_take] at hpl
          omega
        have HD := Lib.hid hd
        have HHd := Lib.hid hHd
        have HHM := Lib.hid HM
        clear hpl hdl hd hHd HM
        by_cases hm : 128 ≤ m
        · go_wp2_with (at_builtin; refine wpList_append_one rfl (.tmp 17) (.tmp 21) rfl B u0 ((l ++ (ns.take k).flatMap intB) ++ done) ?_ (HHd.out.alloc _) wr.heap.size 1 (UInt8.ofNat (m.toNat % 128 + 128)) ?_ ?_ ?_ ?_ ?_; rfl; rfl; (focus exact (cell_one_new _ _ _ 0 _ rfl).trans (by rw [more_byte m HHM.out.lo]; rfl)); exact HX.out; (focus (simp; omega)); intro v3 w3 hH3 hG3)
          have HM3 := HHM.out.more hm HD.out hH3 hG3.alloc
          clear hH3 hG3
          go_wp2
          go_roundw
          case rel => exact ⟨m / 128, by go_num, HM3⟩
          case measure => simp [intOf]; omega
        · have hm' : m < 128 := by omega
          have HM' := Lib.hid hm'
          go_wp2_with (at_builtin; refine wpList_append_one rfl (.tmp 23) (.tmp 26) rfl B u0 ((l ++ (ns.take k).flatMap intB) ++ done) ?_ (HHd.out.alloc _) wr.heap.size 1 (UInt8.ofNat m.toNat) ?_ ?_ ?_ ?_ ?_; rfl; rfl; (focus exact (cell_one_new _ _ _ 0 _ rfl).trans (by rw [last_byte m HHM.out.lo HM'.out]; rfl)); exact HX.out; (focus (simp; omega)); intro v3 w3 hH3 hG3)
          have HM3 := HHM.out.last HM'.out HD.out hH3 hG3.alloc
          clear hH3 hG3
          go_wp2
          go_roundw
          case rel => exact ⟨k + 1, by omega, by go_num, by show Held _ _ _ _; rw [flat_snoc hp, ← List.append_assoc]; exact HM3.1, HM3.2⟩
          case measure => simp [intOf]; omega
    · have hk' : k = ns.length := by omega
      have HE : Held wr B u0 (l ++ ns.flatMap intB) := by
        have := hH1.out
        rw [hk', List.take_length] at this
        exact this
      have HE' := Lib.hid HE
      clear hH1 HE
      go_wp2
      go_ret
      exact ⟨_, rfl, HE'.out, hG1⟩
end Go.Proofs.Ytfndiocohaploaa.C
namespace Go.Proofs.Ytfndiocohaploaa.C
open Go.RowKit T O
open Go.Lib hiding intOf
theorem run_append_str (W : World) (ty : TypeId) (B : Nat) (v : Value) (l : Bytes) (hH : Held W B v l) (s : ByteArray) (hlen : l.length + s.size ≤ 1000000000000) (hB : B ≤ W.heap.size) :
    ∃ v' W', (Builtin.append_ #[48, 9] ty #[v, .string s]).run Try.prog W = .ok v' W' ∧ Held W' B v' (l ++ s.data.toList) ∧ Grew W v W' v' := by
  obtain ⟨i, hi, hz, hs, hb⟩ := info_parts infoByte
  have hsl : s.data.toList.length = s.size := size_list s
  have h63 : l.length + s.size ≤ maxLen := by unfold maxLen; omega
  obtain ⟨v', W', hr, hown, hgrow, hnil⟩ := run_append_own_string (P := Try.prog) W B 48 9 ty 5 i Try.underlying48 Try.underlying9 hi hz hs hb v l.length (l.map bv) hH s h63 (by omega) hB
  refine ⟨v', W', hr, by unfold Held; rw [List.length_append, List.map_append, hsl]; exact hown, hgrow, ?_⟩
  rcases hH.2 with ⟨rfl, hn⟩ | ⟨g, cap, cur, rfl, hbg, hg, hnc, hcm, hcs, htake⟩
  · by_cases h0 : s.size = 0
    · rw [hnil.2 ⟨rfl, h0⟩]
      exact .inl rfl
    · have hr2 := run_append_nil_string (P := Try.prog) W 48 9 ty 5 i (.int .u8 0) Try.underlying48 Try.underlying9 hi hz s (by omega) (by omega) (by rw [hb]; omega)
      rw [hr2] at hr
      cases hr
      exact .inr ⟨_, rfl, Nat.le_refl _⟩
  · by_cases hroom : l.length + s.size ≤ cap
    · have hr2 := run_append_room_string (P := Try.prog) W 48 9 ty 5 i Try.underlying48 Try.underlying9 hi hs g l.length cap cur hg s hroom (by omega)
      rw [hr2] at hr
      cases hr
      exact .inl rfl
    · have hr2 := run_append_grow_string (P := Try.prog) W 48 9 ty 5 i (.int .u8 0) Try.underlying48 Try.underlying9 hi hz ⟨g, 0, none⟩ l.length cap (l.map bv) (by rw [hs]; exact hH.1) (World.ownsRow.cells (g := g) hH rfl) s (by omega) (by omega) (by rw [hb]; exact growslice_fits (by omega) (by omega))
      rw [hr2] at hr
      cases hr
      exact .inr ⟨_, rfl, Nat.le_refl _⟩
theorem wpList_append_str {ops : Array Oper} {rest : List Oper} {o : Oper} {a : Act} {W : World} {Q : Exit → Act → World → Prop} (hgd : o.guard = none) (s x : Operand)
    (ho : o.op = .call { callee := .builtin .append, args := #[s, x], argTypes := #[48, 9] })
    (B : Nat) (v : Value) (l : Bytes) (hs : a.eval s = v) (hH : Held W B v l) (b : ByteArray) (hx : a.eval x = .string b)
    (hlen : l.length + b.size ≤ 1000000000000) (hB : B ≤ W.heap.size) (h : ∀ v' W', Held W' B v' (l ++ b.data.toList) → Grew W v W' v' → wpList Try.prog ops Q rest (a.put o.dst v') W') : wpList Try.prog ops Q (o :: rest) a W := by
  obtain ⟨v', W', hr, hH', hG⟩ := run_append_str W o.type B v l hH b hlen hB
  refine wpList_plain hgd fun _ hK => ?_
  unfold Oper.wp execOp
  simp only [ho, resolve, invoke, builtin, Sem.run_bind, Sem.run_pure, Result.andThen_ok, List.map_toArray, List.map_cons, List.map_nil, hs, hx]
  rw [hr]
  exact hK _ _ (h v' W' hH' hG)
theorem flatT_snoc {ss : List ByteArray} {k : Nat} (h : k < ss.length) : (ss.take (k + 1)).flatMap txtB = (ss.take k).flatMap txtB ++ txtB ss[k] := by
  rw [List.take_add_one, List.getElem?_eq_getElem h, List.flatMap_append]
  simp
theorem flatT_len : ∀ (ss : List ByteArray), (∀ s ∈ ss, s.size ≤ 40) → (ss.flatMap txtB).length ≤ 41 * ss.length
  | [], _ => by simp
  | s :: ss, h => by
    have h1 := flatT_len ss (fun m hm => h m (List.mem_cons_of_mem _ hm))
    have h2 := txtB_len (h s (List.mem_cons_self))
    rw [List.flatMap_cons, List.length_append, List.length_cons]
    omega
theorem intB_size (s : ByteArray) : intB (s.size : Int) = numB s.size := rfl
set_option maxRecDepth 100000 in
set_option maxHeartbeats 1000000 in
theorem appendTexts_any (ss : List ByteArray) (hss : ∀ s ∈ ss, s.size ≤ 40) (g : Nat) (v : Value) (l : Bytes) (B : Nat) (W : World) (hH : Held W B v l) (hB : B ≤ W.heap.size) (hg : g < W.heap.size) (hgv : some g ≠ v.ownBlock)
    (hc : ∀ i (h : i < ss.length), W.cell? ⟨g, i, none⟩ = some (.string ss[i])) (hlen : l.length + 50 * ss.length ≤ 1000000000) :
    Calls Try.prog 85 #[v, .slice (some ⟨g, 0, none⟩) ss.length ss.length] W fun e W' => ∃ v', e = .returned v' ∧ Held W' B v' (l ++ ss.flatMap txtB) ∧ Grew W v W' v' := by
  have HC := Lib.hid hc
  have HN := Lib.hid hss
  have HL := Lib.hid hlen
  have HH := Lib.hid hH
  have HV := Lib.hid hgv
  have hnl : ss.length ≤ 1000000000 := by omega
  clear hc hss hlen hH hgv
  go_enter Try.func85, Try.ntmps85
  go_wp2
  go_loopw [0, 9] (fun v1 i wr => ∃ k : Nat, k ≤ ss.length ∧ i = .int .i64 k ∧ Hid (Held wr B v1 (l ++ (ss.take k).flatMap txtB)) ∧ Grew W v wr v1) (fun _ i _ => ss.length - (intOf i).toNat)
  case atStart => exact ⟨0, Nat.zero_le _, rfl, by show Held _ _ _ _; simpa using HH.out, Grew.refl _ _⟩
  case round =>
    obtain ⟨k, hk, rfl, hH1, hG1⟩ := hrel
    by_cases hp : k < ss.length
    · have hcell := (World.cell?_of_block (a := ⟨g, k, none⟩) (hG1.by_.block g hg HV.out)).trans (HC.out k hp)
      have hn := HN.out ss[k] (List.getElem_mem hp)
      have hfl := flatT_len (ss.take k) (fun n hn => HN.out n (List.mem_of_mem_take hn))
      have HX : Hid ((l ++ (ss.take k).flatMap txtB).length + 50 ≤ 1000000000) := by
        show _ ≤ _
        have := HL.out
        rw [List.length_append]
        rw [List.length_take] at hfl
        omega
      clear hfl
      go_wp2_with fail
      refine (appendNumbers_any [(ss[k].size : Int)] (fun n hn => ?_) wr.heap.size u0 _ B _ (hH1.out.alloc _) (by have := hG1.by_.size; simp; omega) (by simp) ?_ ?_ (by have := HX.out; simp only [List.length_singleton]; omega)).mono ?_
      · obtain rfl : n = (ss[k].size : Int) := by simpa using hn
        exact ⟨by omega, by omega⟩
      · intro e
        have := World.ownsRow.lt hH1.out _ e.symm
        omega
      · intro i hi
        obtain rfl : i = 0 := by simpa using hi
        exact cell_one_new _ _ _ 0 _ rfl
      rintro e w1 ⟨v1, rfl, hH2, hG2⟩
      have hG3 := hG1.trans hG2.alloc
      have HH2 := Lib.hid hH2
      have HX2 : Hid ((l ++ (ss.take k).flatMap txtB ++ [(ss[k].size : Int)].flatMap intB).length + ss[k].size ≤ 1000000000000) := by
        show _ ≤ _
        have h1 := HX.out
        have h2 := intB_ten (n := (ss[k].size : Int)) (by omega)
        rw [List.length_append, List.flatMap_cons, List.flatMap_nil, List.append_nil]
        omega
      have hB2 : B ≤ w1.heap.size := Nat.le_trans hB hG3.by_.size
      clear hH2 hG2 hH1 hG1 hcell
      go_wp2_with (at_builtin; refine wpList_append_str rfl (.tmp 19) (.tmp 20) rfl B v1 _ ?_ HH2.out ss[k] ?_ HX2.out hB2 ?_; rfl; rfl; intro v3 w3 hH3 hG4)
      have HG := Lib.hid (hG3.trans hG4)
      have HH3 : Hid (Held w3 B v3 (l ++ (ss.take (k + 1)).flatMap txtB)) := by
        show Held _ _ _ _
        rw [flatT_snoc hp]
        have := hH3
        rw [List.flatMap_cons, List.flatMap_nil, List.append_nil, intB_size, List.append_assoc, List.append_assoc] at this
        exact this
      clear hH3 hG4 hG3
      go_wp2
      go_roundw
      case rel => exact ⟨k + 1, by omega, by go_num, HH3, HG.out⟩
      case measure => simp [intOf]; omega
    · have hk' : k = ss.length := by omega
      have HE : Held wr B u0 (l ++ ss.flatMap txtB) := by
        have := hH1.out
        rw [hk', List.take_length] at this
        exact this
      have HE' := Lib.hid HE
      clear hH1 HE
      go_wp2
      go_ret
      exact ⟨_, rfl, HE'.out, hG1⟩
end Go.Proofs.Ytfndiocohaploaa.C
namespace Go.HeldBy
open Go
section
variable {P : Program} {ops : Array Oper} {Q : Exit → Act → World → Prop} {md : Region.Mode} {S : World → Prop}
theorem callE {i : Nat} {oi : Oper} {f : FuncId} {args : Array Value} {fuel : Nat} {listed : Array Bool} {a : Act} {mk : Value → Act} {w : World} (hi : ops[i]? = some oi) (hr : Region.ready md ops listed = [i]) (hw : Region.wanted oi (yielded ops a.tmps) = true)
    (hv : (execOp a.eval oi).run P w = .ok (.enter f args) w) (he : ∀ v, a.put oi.dst v = mk v)
    (h : Calls P f args w fun e w' => (∃ v, e = .returned v ∧ S w' ∧ wpAnyH P md ops Q S fuel (listed.setIfInBounds i true) (mk v) w') ∨ ∃ c, e = .panicked c ∧ Q (.panic c) a w') : wpAnyH P md ops Q S (fuel + 1) listed a w := by
  refine wpAnyH_all hr (by simp) fun j hj => ?_
  obtain rfl : j = i := by simpa using hj
  unfold wpOp
  simp only [hi, hw, if_true]
  refine .inl ?_
  unfold Oper.wp
  rw [hv]
  refine h.mono fun e w' hh => ?_
  rcases hh with ⟨v, rfl, h2, h3⟩ | ⟨c, rfl, h2⟩
  · exact ⟨h2, (he v).symm ▸ h3⟩
  · exact h2
end
end Go.HeldBy
namespace Go.Proofs.Ytfndiocohaploaa.C
open Go.RowKit T O
def BytesIn (W : World) (v : Value) (l : Bytes) : Prop :=
  (∃ c, v = .slice none 0 c ∧ l = []) ∨ ∃ g off cap, v = .slice (some ⟨g, off, none⟩) l.length cap ∧ l.length ≤ cap ∧ cap ≤ maxLen ∧ g < W.heap.size ∧ ∀ i (h : i < l.length), W.cell? ⟨g, off + i, none⟩ = some (bv l[i])
section
variable {W W' : World} {v : Value} {l : Bytes} {B r : Nat}
theorem BytesIn.kept (h : BytesIn W v l) {row : Option Nat} (hg : W.grownBy W' row) (hne : v.ownBlock = none ∨ v.ownBlock ≠ row) : BytesIn W' v l := by
  rcases h with h | ⟨g, off, cap, rfl, h1, h2, h3, h4⟩
  · exact .inl h
  · exact .inr ⟨g, off, cap, rfl, h1, h2, Nat.lt_of_lt_of_le h3 hg.size, fun i hi => hg.cell (h4 i hi) (by simpa [Value.ownBlock] using hne)⟩
theorem BytesIn.lt (h : BytesIn W v l) {k : Nat} (hk : v.ownBlock = some k) : k < W.heap.size := by
  rcases h with ⟨c, rfl, -⟩ | ⟨g, off, cap, rfl, h1, h2, h3, h4⟩
  · cases hk
  · simp [Value.ownBlock] at hk
    omega
theorem BytesIn.below (h : BytesIn W v l) (hb : Below B W W') (hB : ∀ k, v.ownBlock = some k → k < B) : BytesIn W' v l := by
  rcases h with h | ⟨g, off, cap, rfl, h1, h2, h3, h4⟩
  · exact .inl h
  · exact .inr ⟨g, off, cap, rfl, h1, h2, Nat.lt_of_lt_of_le h3 hb.size, fun i hi => (hb.cell (p := ⟨g, off + i, none⟩) (hB g rfl)).trans (h4 i hi)⟩
theorem BytesIn.after (h : BytesIn W v l) (hb : Below W.heap.size W W') : BytesIn W' v l := h.below hb (fun _ hk => h.lt hk)
theorem BytesIn.shape (h : BytesIn W v l) : ∃ a k c, v = .slice a k c := by
  rcases h with ⟨c, rfl, -⟩ | ⟨g, off, cap, rfl, -⟩
  · exact ⟨_, _, _, rfl⟩
  · exact ⟨_, _, _, rfl⟩
theorem BytesIn.alloc (h : BytesIn W v l) (x : Go.Obj) : BytesIn (W.alloc x) v l := h.kept (World.grownBy_alloc W x none) (by cases v.ownBlock <;> simp)
theorem Held.bytes (h : Held W B v l) : BytesIn W v l := by
  have hcells := fun g (hg : v.ownBlock = some g) => World.ownsRow.cells (g := g) h hg
  obtain ⟨h1, h2⟩ := h
  rcases h2 with ⟨rfl, hn⟩ | ⟨g, cap, cur, rfl, hb, hg, hnc, hcm, hcs, ht⟩
  · exact .inl ⟨0, rfl, List.length_eq_zero_iff.1 hn⟩
  · refine .inr ⟨g, 0, cap, rfl, hnc, hcm, (Array.getElem?_eq_some_iff.1 hg).1, fun i hi => ?_⟩
    have := hcells g rfl i (bv l[i]) (by rw [List.getElem?_map, List.getElem?_eq_getElem hi]; rfl)
    have hadd : (⟨g, 0, none⟩ : Addr).add i = ⟨g, 0 + i, none⟩ := by unfold Addr.add; split <;> simp_all
    rw [hadd] at this
    exact this
theorem BytesIn.str (h : BytesIn W v l) (dst : TypeId) (hd : Try.prog.underlying dst = some .string) : (convert 48 dst v).run Try.prog W = .ok (.string ⟨l.toArray⟩) W := by
  rcases h with ⟨c, rfl, rfl⟩ | ⟨g, off, cap, rfl, h1, h2, h3, h4⟩
  · exact run_convert_bytes_nil W 48 5 Try.underlying48 Try.underlying5 0 c dst hd
  · refine run_convert_bytes_back W 48 dst 5 ⟨g, off, none⟩ cap l Try.underlying48 Try.underlying5 hd fun j hj => ?_
    have hadd : (⟨g, off, none⟩ : Addr).add j = ⟨g, off + j, none⟩ := by unfold Addr.add; split <;> simp_all
    rw [hadd]
    exact h4 j hj
end
theorem sizeByte (w : World) : (sizeOf (Try.prog.elem 48)).run Try.prog w = .ok 1 w := by kernel_rfl
theorem sliceByte : Try.prog.underlying 48 = some (.slice (Try.prog.elem 48)) := by kernel_rfl
theorem add_zero' (g off : Nat) : (⟨g, off, none⟩ : Addr).add 0 = ⟨g, off, none⟩ := rfl
theorem add_lit' (g off n : Nat) : (⟨g, off, none⟩ : Addr).add n = ⟨g, off + n, none⟩ := by unfold Addr.add; split <;> simp_all
section
variable {W W' : World} {v : Value} {l : Bytes}
theorem BytesIn.head (h : BytesIn W v l) {n : Nat} (hn : n ≤ l.length) (k : IntKind) :
    ∃ v1, (∀ w, (Instr.slice 48 v none (some (.int k n)) none).run Try.prog w = .ok v1 w) ∧ BytesIn W v1 (l.take n) ∧ v1.ownBlock = v.ownBlock := by
  rcases h with ⟨c, rfl, rfl⟩ | ⟨g, off, cap, rfl, h1, h2, h3, h4⟩
  · obtain rfl : n = 0 := by simpa using hn
    refine ⟨.slice none 0 c, fun w => ?_, .inl ⟨c, rfl, rfl⟩, rfl⟩
    rw [run_slice_h w 48 none 0 c sliceByte k (0 : Nat) (by omega) (by omega), sizeByte]
    simp [Result.andThen, sliced]
  · have hl : (l.take n).length = n := by rw [List.length_take]; omega
    refine ⟨.slice (some ⟨g, off, none⟩) n cap, fun w => ?_, .inr ⟨g, off, cap, by rw [hl], by omega, h2, h3, fun i hi => ?_⟩, rfl⟩
    · rw [run_slice_h w 48 (some ⟨g, off, none⟩) l.length cap sliceByte k n (by omega) (by omega), sizeByte]
      simp [Result.andThen, sliced, add_zero']
    · rw [h4 i (by omega)]
      simp
theorem BytesIn.tail (h : BytesIn W v l) {n : Nat} (hn : n ≤ l.length) (k : IntKind) :
    ∃ v1, (∀ w, (Instr.slice 48 v (some (.int k n)) none none).run Try.prog w = .ok v1 w) ∧ BytesIn W v1 (l.drop n) ∧ v1.ownBlock = v.ownBlock := by
  rcases h with ⟨c, rfl, rfl⟩ | ⟨g, off, cap, rfl, h1, h2, h3, h4⟩
  · obtain rfl : n = 0 := by simpa using hn
    refine ⟨.slice none 0 c, fun w => ?_, .inl ⟨c, rfl, rfl⟩, rfl⟩
    rw [run_slice_l w 48 none 0 c sliceByte k (0 : Nat) (by omega) (by omega), sizeByte]
    simp [Result.andThen, sliced]
  · have hl : (l.drop n).length = l.length - n := List.length_drop
    by_cases hc : cap = n
    · refine ⟨.slice (some ⟨g, off, none⟩) (l.length - n) (cap - n), fun w => ?_, .inr ⟨g, off, cap - n, by rw [hl], by omega, by omega, h3, fun i hi => by omega⟩, rfl⟩
      rw [run_slice_l w 48 (some ⟨g, off, none⟩) l.length cap sliceByte k n (by omega) (by omega), sizeByte]
      simp [Result.andThen, sliced, hc]
    · refine ⟨.slice (some ⟨g, off + n, none⟩) (l.length - n) (cap - n), fun w => ?_, .inr ⟨g, off + n, cap - n, by rw [hl], by omega, by omega, h3, fun i hi => ?_⟩, rfl⟩
      · rw [run_slice_l w 48 (some ⟨g, off, none⟩) l.length cap sliceByte k n (by omega) (by omega), sizeByte]
        simp [Result.andThen, sliced, hc, add_lit']
      · have := h4 (n + i) (by omega)
        rw [show off + n + i = off + (n + i) by omega, this]
        simp
theorem BytesIn.len (h : BytesIn W v l) (ty : TypeId) (w : World) : (Builtin.len_ #[48] ty #[v]).run Try.prog w = .ok (goInt l.length) w := by
  rcases h with ⟨c, rfl, rfl⟩ | ⟨g, off, cap, rfl, -⟩
  · simp [go_sem, Builtin.len_, run_underlying sliceByte]
  · simp [go_sem, Builtin.len_, run_underlying sliceByte]
theorem BytesIn.small (h : BytesIn W v l) : l.length ≤ maxLen := by
  rcases h with ⟨c, rfl, rfl⟩ | ⟨g, off, cap, rfl, h1, h2, -⟩
  · simp
  · omega
end
def Under (v : Value) (r : Nat) : Prop := ∀ k, v.ownBlock = some k → k < r
theorem Under.ne {v : Value} {r : Nat} (h : Under v r) : v.ownBlock ≠ some r := fun e => by have := h r e; omega
theorem Under.of {v u : Value} {r : Nat} (h : Under v r) (e : u.ownBlock = v.ownBlock) : Under u r := fun k hk => h k (e ▸ hk)
def Left (W : World) (r : Nat) (l : Bytes) : Prop := ∃ v, W.heap[r]? = some (.cells #[v] 97 (0, 0)) ∧ BytesIn W v l ∧ Under v r
def wrongV : Value := .iface 92 (.agg #[])
abbrev gaveUp : Ending := .panicked [{ v := wrongV, recovered := false }]
end Go.Proofs.Ytfndiocohaploaa.C
namespace Go.Proofs.Ytfndiocohaploaa.C
open Go.ChangeShapes Go.WideShapes Go.RowKit T O
end Go.Proofs.Ytfndiocohaploaa.C
namespace Go.Proofs.Ytfndiocohaploaa.C
open Go.RowKit T O
open Go.Lib hiding intOf
theorem giveUp_any (w : World) : Calls Try.prog 64 #[] w fun e w' => e = gaveUp ∧ w = w' := by
  go_enter Try.func64, Try.ntmps64
  go_wp2
  exact ⟨rfl, rfl, rfl⟩
section
variable {W W' : World} {r : Nat} {l : Bytes}
theorem Left.lt (h : Left W r l) : r < W.heap.size := by
  obtain ⟨v, hb, -⟩ := h
  exact (Array.getElem?_eq_some_iff.1 hb).1
theorem Left.kept (h : Left W r l) {row : Option Nat} (hg : W.grownBy W' row) (hne : some r ≠ row) (hb : ∀ v, W.heap[r]? = some (.cells #[v] 97 (0, 0)) → v.ownBlock = none ∨ v.ownBlock ≠ row) : Left W' r l := by
  obtain ⟨v, h1, h2, h3⟩ := h
  exact ⟨v, (hg.block r (Array.getElem?_eq_some_iff.1 h1).1 hne).trans h1, h2.kept hg (hb v h1), h3⟩
theorem Left.after (h : Left W r l) (hb : Below W.heap.size W W') : Left W' r l := by
  obtain ⟨v, h1, h2, h3⟩ := h
  exact ⟨v, (hb.block r (Array.getElem?_eq_some_iff.1 h1).1).trans h1, h2.after hb, h3⟩
theorem Left.small (h : Left W r l) : l.length ≤ maxLen := by
  obtain ⟨v, h1, h2, h3⟩ := h
  exact h2.small
theorem Left.above (h : Left W r l) {B : Nat} (hb : Below B W W') (hB : r < B) : Left W' r l := by
  obtain ⟨v, h1, h2, h3⟩ := h
  exact ⟨v, (hb.block r hB).trans h1, h2.below hb (fun k hk => by have := h3 k hk; omega), h3⟩
theorem Left.drew (h : Left W r l) : Left W.drew r l := by
  obtain ⟨v, h1, h2, h3⟩ := h
  exact ⟨v, h1, h2.after ⟨rfl, rfl, rfl, Nat.le_refl _, fun _ _ => rfl⟩, h3⟩
def Takes (r n : Nat) (l : Bytes) (W : World) (e : Ending) (W' : World) : Prop :=
  W.grownBy W' (some r) ∧ ((n ≤ l.length ∧ ∃ v, e = .returned v ∧ BytesIn W' v (l.take n) ∧ Under v r ∧ Left W' r (l.drop n)) ∨ (l.length < n ∧ e = gaveUp))
end
theorem heap_set0 {W : World} {r : Nat} {cs : Array Value} {t : TypeId} (h : W.heap[r]? = some (.cells cs t (0, 0))) (v : Value) : (W.setCell ⟨r, 0, none⟩ v).heap[r]? = some (.cells (cs.setIfInBounds 0 v) t (0, 0)) := heap_setCell_same W r 0 cs t v h
set_option maxRecDepth 100000 in
set_option maxHeartbeats 1000000 in
theorem take_any (r : Nat) (l : Bytes) (n : Nat) (W : World) (h : Left W r l) :
    Calls Try.prog 78 #[.pointer (some ⟨r, 0, none⟩), .int .u64 n] W (Takes r n l W) := by
  obtain ⟨v, hbox, hB, hne⟩ := h
  have hcell : W.cell? ⟨r, 0, none⟩ = some v := (cell_of_row W r 0 _ _ _ hbox).trans rfl
  have hfz : W.frozen? ⟨r, 0, none⟩ = false := frozen_of_row W r 0 _ _ hbox
  have hl := hB.len
  have hm := hB.small
  unfold maxLen at hm
  by_cases hn : n ≤ l.length
  · obtain ⟨v1, hs1, hB1, ho1⟩ := hB.head hn .u64
    obtain ⟨v2, hs2, hB2, ho2⟩ := hB.tail hn .u64
    obtain ⟨a2, k2, c2, rfl⟩ := hB2.shape
    have HF : Hid (Takes r n l W (.returned v1) (W.setCell ⟨r, 0, none⟩ (.slice a2 k2 c2))) := by
      have hg := grownBy_setCell' W r (.slice a2 k2 c2)
      refine ⟨hg, .inl ⟨hn, v1, rfl, hB1.kept hg (.inr (hne.of ho1).ne), hne.of ho1, _, (heap_set0 hbox _).trans rfl, hB2.kept hg (.inr (hne.of ho2).ne), hne.of ho2⟩⟩
    have h1 : decide (l.length < n) = false := by simpa using hn
    clear hB hB1 hB2 ho1 ho2 hne hbox hn
    go_enter Try.func78, Try.ntmps78
    go_wp2
    go_ret
    exact HF.out
  · have HF : Hid (Takes r n l W gaveUp W) := ⟨World.grownBy.refl _ _, .inr ⟨by omega, rfl⟩⟩
    have h1 : decide (l.length < n) = true := by simpa using hn
    clear hB hne hbox hn
    go_enter Try.func78, Try.ntmps78
    go_wp2_with (go_at_call 64; refine (giveUp_any _).mono ?_; rintro e w' ⟨rfl, rfl⟩)
    exact ⟨rfl, HF.out⟩
def Reads {α : Type} (r : Nat) (P : Rd α) (enc : α → Value) (l : Bytes) (W : World) (e : Ending) (W' : World) : Prop :=
  W.grownBy W' (some r) ∧ ((∃ x l', P l = some (x, l') ∧ e = .returned (enc x) ∧ Left W' r l') ∨ (P l = none ∧ e = gaveUp))
set_option maxRecDepth 100000 in
set_option maxHeartbeats 1000000 in
theorem one_any (r : Nat) (l : Bytes) (W : World) (h : Left W r l) :
    Calls Try.prog 65 #[.pointer (some ⟨r, 0, none⟩)] W (Reads r rdByte bv l W) := by
  go_enter Try.func65, Try.ntmps65
  go_wp2_with fail
  refine (take_any r l 1 W h).mono ?_
  rintro e W1 ⟨hg, ⟨hn, v, rfl, hB, hne, hL⟩ | ⟨hn, rfl⟩⟩
  · obtain ⟨b, l', rfl⟩ : ∃ b l', l = b :: l' := by
      cases l with
      | nil => simp at hn
      | cons b l' => exact ⟨b, l', rfl⟩
    have HF : Hid (Reads r rdByte bv (b :: l') W (.returned (bv b)) W1) := ⟨hg, .inl ⟨b, l', rfl, rfl, hL⟩⟩
    obtain ⟨c, -, hx⟩ | ⟨g, off, cap, hv, h1, h2, h3, h4⟩ := hB
    · cases hx
    · have hc : W1.cell? ⟨g, off, none⟩ = some (bv b) := h4 0 (by simp)
      have hv' : v = .slice (some ⟨g, off, none⟩) 1 cap := hv
      subst hv'
      clear hg hL hne hn h4 hv h1 h2 h3
      go_wp2
      go_ret
      exact HF.out
  · have HF : Hid (Reads r rdByte bv l W gaveUp W1) := ⟨hg, .inr ⟨by cases l with
      | nil => rfl
      | cons b l' => simp at hn, rfl⟩⟩
    clear hg hn
    go_wp2
    exact ⟨rfl, HF.out⟩
end Go.Proofs.Ytfndiocohaploaa.C
namespace Go.Proofs.Ytfndiocohaploaa.C
open Go.RowKit T O
open Go.Lib hiding intOf
def NumAt (r : Nat) (l : Bytes) (W : World) (n i : Value) (wr : World) : Prop :=
  ∃ (k acc : Nat) (l' : Bytes), i = .int .i64 ((7 * k : Nat) : Int) ∧ n = .int .u64 (acc : Int) ∧ k ≤ 9 ∧ acc < 2 ^ (7 * k) ∧ Left wr r l' ∧ W.grownBy wr (some r) ∧ rdNum l = rdN k acc l'
structure NumIn (l l2 : Bytes) (b : UInt8) (k acc : Nat) : Prop where
  step : rdNum l = if badAt k b then none else if b.toNat < 128 then some (acc + b.toNat * 2 ^ (7 * k), l2) else rdN (k + 1) (acc + b.toNat % 128 * 2 ^ (7 * k)) l2
  acc : acc < 2 ^ (7 * k)
  le : k ≤ 9
theorem num_in {l l' l2 : Bytes} {b : UInt8} {k acc : Nat} (hb : rdByte l' = some (b, l2)) (hr : rdNum l = rdN k acc l') (ha : acc < 2 ^ (7 * k)) (hk : k ≤ 9) : NumIn l l2 b k acc := by
  cases l' with
  | nil => cases hb
  | cons c cs =>
    simp only [rdByte, Option.some.injEq, Prod.mk.injEq] at hb
    obtain ⟨rfl, rfl⟩ := hb
    exact ⟨hr, ha, hk⟩
abbrev encN (n : Nat) : Value := .int .u64 (n : Int)
abbrev orN (acc : Nat) (b : UInt8) (sh : Int) : Int := bits .or .u64 (acc : Int) (IntKind.u64.wrap (IntKind.u64.wrap (bits .andNot .u8 (b.toNat : Int) 128) * 2 ^ sh.toNat))
theorem orN_eq {l l2 : Bytes} {b : UInt8} {k acc : Nat} (h : NumIn l l2 b k acc) (hn : badAt k b = false) {sh : Int} (hs : ((7 * k : Nat) : Int) = sh) :
    orN acc b sh = ((acc + b.toNat % 128 * 2 ^ (7 * k) : Nat) : Int) ∧ acc + b.toNat % 128 * 2 ^ (7 * k) < 2 ^ 64 ∧ (k < 9 → acc + b.toNat % 128 * 2 ^ (7 * k) < 2 ^ (7 * (k + 1))) := by
  unfold orN
  have hb := b.toNat_lt
  rw [andNot_byte _ hb]
  refine or_shift h.acc h.le (Nat.mod_lt _ (by decide)) (fun h9 => ?_) hs
  unfold badAt at hn
  simp [h9] at hn
  omega
theorem num_done {r : Nat} {l l2 : Bytes} {W W1 : World} {b : UInt8} {k acc : Nat} (h : NumIn l l2 b k acc) (hn : badAt k b = false) {sh : Int} (hs : ((7 * k : Nat) : Int) = sh) (hL : Left W1 r l2) (hg : W.grownBy W1 (some r)) (h128 : (b.toNat : Int) < 128) :
    Reads r rdNum encN l W (.returned (.int .u64 (orN acc b sh))) W1 := by
  refine ⟨hg, .inl ⟨acc + b.toNat * 2 ^ (7 * k), l2, ?_, ?_, hL⟩⟩
  · rw [h.step, hn, if_neg (by simp), if_pos (by omega)]
  · rw [(orN_eq h hn hs).1, Nat.mod_eq_of_lt (by omega)]
theorem num_next {r : Nat} {l l2 : Bytes} {W W1 : World} {b : UInt8} {k acc : Nat} (h : NumIn l l2 b k acc) (hn : badAt k b = false) {sh : Int} (hs : ((7 * k : Nat) : Int) = sh) (hL : Left W1 r l2) (hg : W.grownBy W1 (some r)) (h128 : ¬ (b.toNat : Int) < 128) :
    NumAt r l W (.int .u64 (orN acc b sh)) (.int .i64 (sh + 7)) W1 := by
  have hk : k < 9 := by
    have := h.le
    by_cases h9 : k = 9
    · unfold badAt at hn
      simp [h9] at hn
      omega
    · omega
  have ho := orN_eq h hn hs
  refine ⟨k + 1, acc + b.toNat % 128 * 2 ^ (7 * k), l2, by rw [← hs]; exact congrArg (Value.int .i64) (by omega), by rw [ho.1], by omega, ho.2.2 hk, hL, hg, ?_⟩
  rw [h.step, hn, if_neg (by simp), if_neg (by omega)]
theorem num_bad {r : Nat} {l l2 : Bytes} {W W1 : World} {b : UInt8} {k acc : Nat} (h : NumIn l l2 b k acc) (hn : badAt k b = true) (hg : W.grownBy W1 (some r)) : Reads r rdNum encN l W gaveUp W1 :=
  ⟨hg, .inr ⟨by rw [h.step, hn, if_pos rfl], rfl⟩⟩
theorem num_end {r : Nat} {l l' : Bytes} {W W1 : World} {k acc : Nat} (hb : rdByte l' = none) (hr : rdNum l = rdN k acc l') (hg : W.grownBy W1 (some r)) : Reads r rdNum encN l W gaveUp W1 := by
  cases l' with
  | nil => exact ⟨hg, .inr ⟨hr, rfl⟩⟩
  | cons c cs => cases hb
theorem bad_no {k : Nat} {b : UInt8} (h1 : k = 0 ∨ ¬ (b.toNat : Int) = 0) (h2 : ¬ k = 9 ∨ ¬ 1 < (b.toNat : Int)) : badAt k b = false := by
  unfold badAt
  simp
  omega
theorem bad_yes {k : Nat} {b : UInt8} (h : (0 < k ∧ (b.toNat : Int) = 0) ∨ (k = 9 ∧ 1 < (b.toNat : Int))) : badAt k b = true := by
  unfold badAt
  simp
  omega
set_option maxRecDepth 100000 in
set_option maxHeartbeats 2000000 in
theorem number_any (r : Nat) (l : Bytes) (W : World) (h : Left W r l) :
    Calls Try.prog 48 #[.pointer (some ⟨r, 0, none⟩)] W (Reads r rdNum encN l W) := by
  have H := Lib.hid h
  clear h
  go_enter Try.func48, Try.ntmps48
  go_wp2
  go_loopw [3, 4] (fun n i wr => NumAt r l W n i wr) (fun _ i _ => (70 - intOf i).toNat)
  case atStart => exact ⟨0, 0, l, rfl, rfl, by omega, by simp, H.out, World.grownBy.refl _ _, rfl⟩
  case round =>
    obtain ⟨k, acc, l', rfl, rfl, hk, ha, hL, hg, hr⟩ := hrel
    have HL := Lib.hid hL
    have HR := Lib.hid hr
    have HG := Lib.hid hg
    have HA := Lib.hid ha
    clear hL hr hg ha
    go_wp2_with fail
    refine (one_any r l' _ HL.out).mono ?_
    rintro e W1 ⟨hg1, ⟨b, l2, hb, rfl, hL2⟩ | ⟨hb, rfl⟩⟩
    · have HN := Lib.hid (num_in hb HR.out HA.out hk)
      have HL2 := Lib.hid hL2
      have HG1 := Lib.hid (HG.out.trans hg1)
      clear hb hL2 hg1 HL HR HG HA
      unfold bv
      have hbl : (b.toNat : Int) < 256 := by have := b.toNat_lt; omega
      by_cases hk0 : k = 0
      · subst hk0
        by_cases h128 : (b.toNat : Int) < 128
        · have HF := Lib.hid (num_done HN.out (bad_no (.inl rfl) (.inl (by decide))) (sh := 0) rfl HL2.out HG1.out h128)
          go_wp2_with fail
          go_ret
          have := HF.out
          unfold orN at this
          rw [show (2 : Int) ^ (0 : Int).toNat = 1 from rfl, Int.mul_one] at this
          exact this
        · have HF := Lib.hid (num_next HN.out (bad_no (.inl rfl) (.inl (by decide))) (sh := 0) rfl HL2.out HG1.out h128)
          go_wp2_with fail
          go_roundw
          case rel =>
            have := HF.out
            unfold orN at this
            rw [show (2 : Int) ^ (0 : Int).toNat = 1 from rfl, Int.mul_one] at this
            exact this
          case measure => simp [intOf]
      · have hk1 : (0 : Int) < ((7 * k : Nat) : Int) := by omega
        have hk2 : (((7 * k : Nat) : Int) == 63) = decide (k = 9) := by rw [Bool.eq_iff_iff]; simp; omega
        have hk3 : (0 : Int) ≤ ((7 * k : Nat) : Int) := by omega
        have hk4 : ((7 * k : Nat) : Int) ≤ 63 := by omega
        generalize hsh : ((7 * k : Nat) : Int) = sh at *
        have HSH := Lib.hid hsh
        clear hsh
        by_cases hz : (b.toNat : Int) = 0
        · have HF := Lib.hid (num_bad HN.out (bad_yes (.inl ⟨by omega, hz⟩)) HG1.out)
          clear hk2
          have hz' : ((b.toNat : Int) == 0) = true := by simpa using hz
          clear hz
          go_wp2_with (go_at_call 64; refine (giveUp_any _).mono ?_; rintro e w' ⟨rfl, rfl⟩)
          exact ⟨rfl, HF.out⟩
        · by_cases h9 : k = 9
          · have h9' : decide (k = 9) = true := by simpa using h9
            rw [h9'] at hk2
            clear h9'
            by_cases h1 : 1 < (b.toNat : Int)
            · have HF := Lib.hid (num_bad HN.out (bad_yes (.inr ⟨h9, h1⟩)) HG1.out)
              clear h9
              go_wp2_with (go_at_call 64; refine (giveUp_any _).mono ?_; rintro e w' ⟨rfl, rfl⟩)
              exact ⟨rfl, HF.out⟩
            · have h128 : (b.toNat : Int) < 128 := by omega
              have HF := Lib.hid (num_done HN.out (bad_no (.inr hz) (.inr h1)) HSH.out HL2.out HG1.out h128)
              have hz1 : ((b.toNat : Int) == 0) = false := by simpa using hz
              have h1b : decide (1 < (b.toNat : Int)) = false := by simpa using h1
              clear h9
              go_wp2_with fail
              go_ret
              exact HF.out
          · have h9' : decide (k = 9) = false := by simpa using h9
            rw [h9'] at hk2
            clear h9'
            by_cases h128 : (b.toNat : Int) < 128
            · have HF := Lib.hid (num_done HN.out (bad_no (.inr hz) (.inl h9)) HSH.out HL2.out HG1.out h128)
              go_wp2_with fail
              go_ret
              exact HF.out
            · have HF := Lib.hid (num_next HN.out (bad_no (.inr hz) (.inl h9)) HSH.out HL2.out HG1.out h128)
              go_wp2_with fail
              go_roundw
              case rel => exact HF.out
              case measure => have := HSH.out; simp [intOf]; omega
    · have HF := Lib.hid (num_end hb HR.out (HG.out.trans hg1))
      clear hb hg1 HR HG HA HL
      go_wp2_with fail
      exact ⟨rfl, HF.out⟩
end Go.Proofs.Ytfndiocohaploaa.C
namespace Go.Proofs.Ytfndiocohaploaa.C
open Go.RowKit T O
open Go.Lib hiding intOf
def LenAt (W : World) (r n : Nat) : Prop := (∃ a c, W.heap[r]? = some (.cells #[.slice a n c] 97 (0, 0))) ∧ n ≤ maxLen
theorem Left.len {W : World} {r : Nat} {l : Bytes} (h : Left W r l) : LenAt W r l.length := by
  obtain ⟨v, h1, h2, -⟩ := h
  refine ⟨?_, h2.small⟩
  rcases h2 with ⟨c, rfl, rfl⟩ | ⟨g, off, cap, rfl, -⟩
  · exact ⟨_, _, h1⟩
  · exact ⟨_, _, h1⟩
theorem LenAt.of {W W1 : World} {r n : Nat} (h : LenAt W r n) (e : W1.heap[r]? = W.heap[r]?) : LenAt W1 r n := by
  obtain ⟨⟨a, c, h1⟩, h2⟩ := h
  exact ⟨⟨a, c, e.trans h1⟩, h2⟩
def Ends (n : Nat) (W : World) (e : Ending) (W' : World) : Prop := W = W' ∧ ((n = 0 ∧ e = .returned (.tuple #[])) ∨ (n ≠ 0 ∧ e = gaveUp))
set_option maxRecDepth 100000 in
set_option maxHeartbeats 1000000 in
theorem end_any (r n : Nat) (W : World) (h : LenAt W r n) :
    Calls Try.prog 47 #[.pointer (some ⟨r, 0, none⟩)] W (Ends n W) := by
  obtain ⟨⟨a, c, hbox⟩, hm⟩ := h
  have hcell : W.cell? ⟨r, 0, none⟩ = some (.slice a n c) := (cell_of_row W r 0 _ _ _ hbox).trans rfl
  unfold maxLen at hm
  by_cases hn : 0 < n
  · have HF : Hid (Ends n W gaveUp W) := ⟨rfl, .inr ⟨by omega, rfl⟩⟩
    clear hbox
    go_enter Try.func47, Try.ntmps47
    go_wp2_with (go_at_call 64; refine (giveUp_any _).mono ?_; rintro e w' ⟨rfl, rfl⟩)
    exact ⟨rfl, HF.out⟩
  · obtain rfl : n = 0 := by omega
    have HF : Hid (Ends 0 W (.returned (.tuple #[])) W) := ⟨rfl, .inl ⟨rfl, rfl⟩⟩
    clear hbox hn
    go_enter Try.func47, Try.ntmps47
    go_wp2
    go_end0
    exact HF.out
set_option maxRecDepth 100000 in
set_option maxHeartbeats 1000000 in
theorem size_any (r : Nat) (l : Bytes) (W : World) (h : Left W r l) :
    Calls Try.prog 68 #[.pointer (some ⟨r, 0, none⟩)] W (Reads r rdSize (fun n => .int .i64 n) l W) := by
  go_enter Try.func68, Try.ntmps68
  go_wp2_with fail
  refine (number_any r l W h).mono ?_
  rintro e W1 ⟨hg, ⟨n, l', hp, rfl, hL⟩ | ⟨hp, rfl⟩⟩
  · have hb := (lawNum.only l n l' hp).1
    by_cases hn : (n : Int) ≤ 1125899906842624
    · have HF : Hid (Reads r rdSize (fun n => .int .i64 n) l W (.returned (.int .i64 (n : Int))) W1) := ⟨hg, .inl ⟨(n : Int), l', by simp [rdSize, keepR, rdU64, mapR, hp, hn], rfl, hL⟩⟩
      clear hp hg hL hb h
      go_wp2
      go_ret
      exact HF.out
    · have HF : Hid (Reads r rdSize (fun n => .int .i64 n) l W gaveUp W1) := ⟨hg, .inr ⟨by simp [rdSize, keepR, rdU64, mapR, hp, hn], rfl⟩⟩
      clear hp hg hL hb h
      go_wp2_with (go_at_call 64; refine (giveUp_any _).mono ?_; rintro e w' ⟨rfl, rfl⟩)
      exact ⟨rfl, HF.out⟩
  · have HF : Hid (Reads r rdSize (fun n => .int .i64 n) l W gaveUp W1) := ⟨hg, .inr ⟨by simp [rdSize, keepR, rdU64, mapR, hp], rfl⟩⟩
    clear hp hg h
    go_wp2
    exact ⟨rfl, HF.out⟩
set_option maxRecDepth 100000 in
set_option maxHeartbeats 1000000 in
theorem gone_any (r : Nat) (l : Bytes) (W : World) (h : Left W r l) :
    Calls Try.prog 49 #[.pointer (some ⟨r, 0, none⟩)] W (Reads r rdGone (fun g => .bool g) l W) := by
  go_enter Try.func49, Try.ntmps49
  go_wp2_with fail
  refine (one_any r l W h).mono ?_
  rintro e W1 ⟨hg, ⟨b, l', hp, rfl, hL⟩ | ⟨hp, rfl⟩⟩
  · unfold bv
    by_cases hn : (b.toNat : Int) ≤ 1
    · have HF : Hid (Reads r rdGone (fun g => .bool g) l W (.returned (.bool ((b.toNat : Int) == 1))) W1) := ⟨hg, .inl ⟨(b.toNat : Int) == 1, l', by
        have : b.toNat ≤ 1 := by omega
        simp [rdGone, keepR, mapR, hp, this]
        rw [Bool.eq_iff_iff]; simp; omega, rfl, hL⟩⟩
      clear hp hg hL h
      go_wp2
      go_ret
      exact HF.out
    · have HF : Hid (Reads r rdGone (fun g => .bool g) l W gaveUp W1) := ⟨hg, .inr ⟨by
        have : ¬ b.toNat ≤ 1 := by omega
        simp [rdGone, keepR, mapR, hp, this], rfl⟩⟩
      clear hp hg hL h
      go_wp2_with (go_at_call 64; refine (giveUp_any _).mono ?_; rintro e w' ⟨rfl, rfl⟩)
      exact ⟨rfl, HF.out⟩
  · have HF : Hid (Reads r rdGone (fun g => .bool g) l W gaveUp W1) := ⟨hg, .inr ⟨by simp [rdGone, keepR, mapR, hp], rfl⟩⟩
    clear hp hg h
    go_wp2
    exact ⟨rfl, HF.out⟩
def encF (x : Bool × Bool × Bool × Bool) : Value := .tuple #[.bool x.1, .bool x.2.1, .bool x.2.2.1, .bool x.2.2.2]
theorem bit_test : ∀ n : Nat, n < 16 → (((bits .and .u8 (n : Int) 1) != 0) = decide (n % 2 = 1)) ∧ (((bits .and .u8 (n : Int) 2) != 0) = decide (n / 2 % 2 = 1)) ∧ (((bits .and .u8 (n : Int) 4) != 0) = decide (n / 4 % 2 = 1)) ∧ (((bits .and .u8 (n : Int) 8) != 0) = decide (n / 8 % 2 = 1)) := by decide +kernel
set_option maxRecDepth 100000 in
set_option maxHeartbeats 1000000 in
theorem flagsR_any (r : Nat) (l : Bytes) (W : World) (h : Left W r l) :
    Calls Try.prog 67 #[.pointer (some ⟨r, 0, none⟩)] W (Reads r rdFlags encF l W) := by
  go_enter Try.func67, Try.ntmps67
  go_wp2_with fail
  refine (one_any r l W h).mono ?_
  rintro e W1 ⟨hg, ⟨b, l', hp, rfl, hL⟩ | ⟨hp, rfl⟩⟩
  · unfold bv
    by_cases hn : (b.toNat : Int) < 16
    · have hn' : b.toNat < 16 := by omega
      have HF : Hid (Reads r rdFlags encF l W (.returned (encF (flagsOf b))) W1) := ⟨hg, .inl ⟨flagsOf b, l', by simp [rdFlags, keepR, mapR, hp, hn'], rfl, hL⟩⟩
      have HB := Lib.hid (bit_test b.toNat hn')
      clear hp hg hL h hn'
      go_wp2
      have := HF.out
      refine bodyPost_ret (v := encF (flagsOf b)) ?_ rfl this
      unfold encF flagsOf
      simp [results, Try.results67, go_sem]
      exact HB.out
    · have HF : Hid (Reads r rdFlags encF l W gaveUp W1) := ⟨hg, .inr ⟨by
        have : ¬ b.toNat < 16 := by omega
        simp [rdFlags, keepR, mapR, hp, this], rfl⟩⟩
      clear hp hg hL h
      go_wp2_with (go_at_call 64; refine (giveUp_any _).mono ?_; rintro e w' ⟨rfl, rfl⟩)
      exact ⟨rfl, HF.out⟩
  · have HF : Hid (Reads r rdFlags encF l W gaveUp W1) := ⟨hg, .inr ⟨by simp [rdFlags, keepR, mapR, hp], rfl⟩⟩
    clear hp hg h
    go_wp2
    exact ⟨rfl, HF.out⟩
set_option maxRecDepth 100000 in
set_option maxHeartbeats 1000000 in
theorem text_any (r : Nat) (l : Bytes) (W : World) (h : Left W r l) :
    Calls Try.prog 66 #[.pointer (some ⟨r, 0, none⟩)] W (Reads r rdTxt (fun s => .string s) l W) := by
  have H := Lib.hid h.drew
  clear h
  go_enter Try.func66, Try.ntmps66
  go_upto_region 1 with (fail)
  refine wp_region_held_drew (S := fun _ => True) (by kernel_rfl) trivial (fun _ => ?_)
  refine HeldBy.take (i := 0) rfl (by kernel_rfl) (by kernel_rfl) (by kernel_rfl) (fun _ _ _ h => h) (by rfl) (fun _ _ => by go_simp; rfl) (by go_simp; rfl) trivial ?_
  refine HeldBy.take (i := 1) rfl (by kernel_rfl) (by kernel_rfl) (by kernel_rfl) (fun _ _ _ h => h) (by rfl) (fun _ _ => by go_simp; rfl) (by go_simp; rfl) trivial ?_
  refine HeldBy.take (i := 2) rfl (by kernel_rfl) (by kernel_rfl) (by kernel_rfl) (fun _ _ _ h => h) (by rfl) (fun _ _ => by go_simp; rfl) (by go_simp; rfl) trivial ?_
  refine HeldBy.take (i := 3) rfl (by kernel_rfl) (by kernel_rfl) (by kernel_rfl) (fun _ _ _ h => h) (by rfl) (fun _ _ => by go_simp; rfl) (by go_simp; rfl) trivial ?_
  refine HeldBy.callE (i := 4) rfl (by kernel_rfl) (by rfl) (by go_simp; exact ⟨rfl, rfl⟩) (by intro v; go_simp; rfl) ?_
  refine (number_any r l _ H.out).mono ?_
  rintro e W1 ⟨hg, ⟨n, l', hp, rfl, hL⟩ | ⟨hp, rfl⟩⟩
  · refine .inl ⟨_, rfl, trivial, ?_⟩
    refine HeldBy.callE (i := 5) rfl (by kernel_rfl) (by rfl) (by go_simp; exact ⟨rfl, rfl⟩) (by intro v; go_simp; rfl) ?_
    refine (take_any r l' n _ hL).mono ?_
    rintro e W2 ⟨hg2, ⟨hn, v, rfl, hB, hne, hL2⟩ | ⟨hn, rfl⟩⟩
    · have HF : Hid (Reads r rdTxt (fun s => .string s) l W (.returned (.string ⟨(l'.take n).toArray⟩)) W2) := ⟨(show W.grownBy W1 (some r) from ⟨hg.os, hg.tape, hg.output, hg.size, hg.block⟩).trans hg2, .inl ⟨_, l'.drop n, by simp [rdTxt, hp, hn], rfl, hL2⟩⟩
      have hs := hB.str 9 Try.underlying9
      refine .inl ⟨_, rfl, trivial, ?_⟩
      refine HeldBy.value (i := 6) (v := .string ⟨(l'.take n).toArray⟩) rfl (by kernel_rfl) (by rfl) (by go_simp; rfl) (by go_simp; rfl) trivial ?_
      refine HeldBy.take (i := 7) rfl (by kernel_rfl) (by kernel_rfl) (by kernel_rfl) (fun _ _ _ h => h) (by rfl) (fun _ _ => by go_simp; rfl) (by go_simp; rfl) trivial ?_
      refine wpAnyH_done (by kernel_rfl) ?_ _
      clear hp hg hL hg2 hB hL2 hn hne hs
      go_wp2
      go_ret
      exact HF.out
    · refine .inr ⟨_, rfl, ?_⟩
      exact ⟨rfl, (show W.grownBy W1 (some r) from ⟨hg.os, hg.tape, hg.output, hg.size, hg.block⟩).trans hg2, .inr ⟨by simp [rdTxt, hp]; omega, rfl⟩⟩
  · refine .inr ⟨_, rfl, ?_⟩
    exact ⟨rfl, (show W.grownBy W1 (some r) from ⟨hg.os, hg.tape, hg.output, hg.size, hg.block⟩), .inr ⟨by simp [rdTxt, hp], rfl⟩⟩
end Go.Proofs.Ytfndiocohaploaa.C
