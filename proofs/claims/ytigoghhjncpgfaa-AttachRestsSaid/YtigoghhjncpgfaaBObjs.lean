/- Objects in a slice; the iterator over those of a kind. -/
import Derived.Test.YtigoghhjncpgfaaBStr
import Derived.Test.YtigoghhjncpgfaaRangeMap
import Derived.Test.YtigoghhjncpgfaaKnownIn
import Derived.Test.YtigoghhjncpgfaaKeyS
import Derived.Deep.MidRow
import Derived.Shelf.Abstract
import Derived.Shelf.RegionOpen
import Derived.OwnWalkIn
import Derived.TacticsInMore
import Derived.LoopNIn
import Derived.LoopIn
import Derived.RangeFuncBox
namespace Go.Proofs.Ytigoghhjncpgfaa.O.B
open Go Go.RowKit Go.Shelf Go.Lib RangeMap KM
attribute [local go_sem] Oper.semAt_some

/-- Objects that lie in a slice. -/
def ObjsIn (W : World) (v : Value) (l : List Obj) : Prop :=
  ∃ o c, v = .slice o l.length c ∧ l.length ≤ 9223372036854775807 ∧ ∀ i (h : i < l.length), ∃ g off, o = some ⟨g, off, none⟩ ∧ g < W.heap.size ∧ W.rangeAt g (off + i * 20) (cellsO l[i]).toList
theorem ObjsIn.stays {W W' : World} {v : Value} {l : List Obj} (h : ObjsIn W v l) (hb : ∀ g off, (∃ c, v = .slice (some ⟨g, off, none⟩) l.length c) → W'.heap[g]? = W.heap[g]?) (hs : W.heap.size ≤ W'.heap.size) : ObjsIn W' v l := by
  obtain ⟨o, c, rfl, hn, hi⟩ := h
  refine ⟨o, c, rfl, hn, fun i h => ?_⟩
  obtain ⟨g, off, rfl, hg, hr⟩ := hi i h
  exact ⟨g, off, rfl, Nat.lt_of_lt_of_le hg hs, fun j v hv => (World.cell?_of_block (w := W) (a := ⟨g, _, none⟩) (hb g off ⟨c, rfl⟩)).trans (hr j v hv)⟩
theorem ObjsIn.after {W W' : World} {v : Value} {l : List Obj} (h : ObjsIn W v l) (hb : Below W.heap.size W W') : ObjsIn W' v l := by
  obtain ⟨o, c, rfl, hn, hi⟩ := h
  refine ⟨o, c, rfl, hn, fun i h => ?_⟩
  obtain ⟨g, off, rfl, hg, hr⟩ := hi i h
  exact ⟨g, off, rfl, Nat.lt_of_lt_of_le hg hb.size, fun j v hv => (hb.cell (p := ⟨g, _, none⟩) hg).trans (hr j v hv)⟩
theorem load_mid {W : World} {g k : Nat} {o : Obj} (h : W.rangeAt g k (cellsO o).toList) {oi : Oper} {a : Act} {x : Operand} (ho : oi.op = .load 37 x) (hx : a.eval x = .pointer (some ⟨g, k, none⟩)) :
    (execOp a.eval oi).run Try.prog W = .ok (.value (encO o)) W := by
  have h1 := run_loadAt_mid (P := Try.prog) W g k 37 (cellsO o).toList _ h undObj rfl sizeObj
  unfold execOp
  simp only [ho, hx, Sem.run_bind, h1, Result.andThen_ok, Sem.run_pure]
  rfl

/-- Texts as keys of maps. -/
def encT (s : ByteArray) : Value := .string s
def unit : Value := .agg #[]
theorem strT : KeyS.Key Try.prog 9 encT := ⟨fun em w x => by unfold encT; kernel_rfl, fun x w es m h => by
    have h1 := KeyS.find_now x es m 0 h
    simp only [Instr.findKey, Sem.run_bind, run_underlying Try.underlying9, Result.andThen]
    unfold encT
    rw [h1]
    rfl, fun x => by unfold encT Instr.sameBits; simp [beq_toListBytes]⟩
theorem und_seen : Try.prog.underlying 68 = some (.map 9 88) := Try.underlying68
theorem zero_unit (w : World) : (zeroValue 88).run Try.prog w = .ok unit w := by kernel_rfl

/-- Of those that have come: their names. -/
def namesOf (pre : List Obj) : List (ByteArray × Value) := pre.map fun o => (o.name, unit)
theorem names_get (n : ByteArray) : ∀ pre : List Obj, KM.get n (namesOf pre) = if (pre.find? fun y => decide (y.name = n)).isNone = true then none else some unit
  | [] => rfl
  | o :: r => by
    have ih := names_get n r
    unfold namesOf at *
    rw [List.map_cons]
    unfold KM.get
    by_cases h : o.name = n
    · rw [List.find?_cons_of_pos (by simp [h])]
      simp [h]
    · rw [List.find?_cons_of_neg (by simp [h]), ← ih, if_neg (fun e => h e.symm)]
theorem names_put (o : Obj) (pre : List Obj) (h : (pre.find? fun y => decide (y.name = o.name)).isNone = true) : KM.put o.name unit (namesOf pre) = namesOf (pre ++ [o]) := by
  have h1 : KM.get o.name (namesOf pre) = none := by rw [names_get, if_pos h]
  have h2 : ∀ (m : List (ByteArray × Value)), KM.get o.name m = none → KM.put o.name unit m = m ++ [(o.name, unit)] := by
    intro m
    induction m with
    | nil => intro _; rfl
    | cons p m ih =>
      obtain ⟨y, v⟩ := p
      intro hm
      unfold KM.get at hm
      unfold KM.put
      by_cases e : o.name = y
      · rw [if_pos e] at hm; cases hm
      · rw [if_neg e] at hm ⊢
        rw [ih hm]
        rfl
  rw [h2 _ h1]
  simp [namesOf]

/-- A whole object is stored into its block. -/
theorem exec_store_obj {W : World} {b : Nat} {o p : Obj} (h : BoxO W b p) {oi : Oper} {a : Act} {x y : Operand} (ho : oi.op = .store 37 x y) (hx : a.eval x = .pointer (some ⟨b, 0, none⟩)) (hy : a.eval y = encO o) :
    (execOp a.eval oi).run Try.prog W = .ok .skip (W.setRow b (cellsO o)) := by
  have h1 := run_storeVar_row (P := Try.prog) W b 37 37 (cellsO p) (cellsO o) h sizeObj (sz_cells p o) (one_cells o)
  unfold execOp
  have hy' : a.eval y = .agg (cellsO o) := hy
  simp [ho, hx, hy', Instr.storeAt, Instr.sureAddr, h1, Result.andThen]
/-- A box of its own for an object. -/
theorem boxing (W : World) (x : Obj) : ∃ V, (∀ {oi : Oper} {a : Act} {p q : Operand}, oi.op = .store 37 p q → a.eval p = .pointer (some ⟨W.heap.size, 0, none⟩) → a.eval q = encO x → (execOp a.eval oi).run Try.prog (W.alloc (.cells (cellsO O0) 37 (0, 0))) = .ok .skip V) ∧
    BoxO V W.heap.size x ∧ Below W.heap.size W V ∧ V.heap.size = W.heap.size + 1 :=
  ⟨(W.alloc (.cells (cellsO O0) 37 (0, 0))).setRow W.heap.size (cellsO x), fun h1 h2 h3 => exec_store_obj (BoxO.new W O0) h1 h2 h3, (BoxO.new W O0).setRow x,
    ((Below.refl _ _).alloc (Nat.le_refl _) _).trans ⟨rfl, rfl, rfl, by simp [World.setRow], fun b hb => setRow_other _ _ b _ (by omega)⟩, by simp [World.setRow]⟩
theorem exec_seen_ok {W : World} {oi : Oper} {a : Act} {p r : Operand} {b : Nat} {m : List (ByteArray × Value)} {s : ByteArray} {v : Value} (ho : oi.op = .lookup 68 p r true) (hm : a.eval p = .map (some b)) (hk : a.eval r = .string s)
    (h : IsMap encT W b m) (hv : KM.get s m = some v) : (execOp a.eval oi).run Try.prog W = .ok (.value (.tuple #[v, .bool true])) W := by
  have h1 := KeyS.run_lookup_ok strT und_seen h s hv
  unfold encT at h1
  unfold execOp
  simp [ho, hm, hk, h1, Result.andThen]
theorem exec_seen_no {W : World} {oi : Oper} {a : Act} {p r : Operand} {b : Nat} {m : List (ByteArray × Value)} {s : ByteArray} (ho : oi.op = .lookup 68 p r true) (hm : a.eval p = .map (some b)) (hk : a.eval r = .string s)
    (h : IsMap encT W b m) (hv : KM.get s m = none) : (execOp a.eval oi).run Try.prog W = .ok (.value (.tuple #[.agg #[], .bool false])) W := by
  have h1 := KeyS.run_lookup_no strT und_seen (zero_unit W) h s hv
  unfold encT unit at h1
  unfold execOp
  simp [ho, hm, hk, h1, Result.andThen]
theorem exec_seen_put {W : World} {b : Nat} {m : List (ByteArray × Value)} (h : IsMap encT W b m) (s : ByteArray) :
    ∃ W', (∀ {oi : Oper} {a : Act} {p r q : Operand}, oi.op = .mapUpdate 68 p r q → a.eval p = .map (some b) → a.eval r = .string s → a.eval q = .agg #[] → (execOp a.eval oi).run Try.prog W = .ok .skip W') ∧ IsMap encT W' b (KM.put s unit m) ∧ Turned W W' b := by
  obtain ⟨W', h1, h2, h3⟩ := KeyS.run_update strT und_seen h s unit
  refine ⟨W', fun ho hm hk hv => ?_, h2, h3⟩
  unfold encT unit at h1
  unfold execOp
  simp [ho, hm, hk, hv, h1, Result.andThen]
theorem below_setRow {B : Nat} {A W : World} {g : Nat} (h : Below B A W) (hg : B ≤ g) (cs : Array Value) : Below B A (W.setRow g cs) :=
  h.trans ⟨rfl, rfl, rfl, by simp [World.setRow], fun b hb => setRow_other W g b cs (by omega)⟩
theorem own_below {β : Type} {B : Nat} {J : β → World → Prop} (hJ : OwnFrom B J) {s : β} {W W' : World} (h : J s W) (hb : Below W.heap.size W W') : J s W' :=
  hJ s W W' none h ⟨hb.os, hb.tape, hb.output, hb.size, fun b hlt _ => hb.block b hlt⟩ (fun r e => by cases e)
theorem own_turned {β : Type} {B m : Nat} {J : β → World → Prop} (hJ : OwnFrom B J) {s : β} {W W' : World} (h : J s W) (ht : Turned W W' m) (hB : B ≤ m) (hm : ∃ es c, W.heap[m]? = some (.map es c)) : J s W' := by
  refine hJ s W W' (some m) h ⟨ht.os, ht.tape, ht.output, by rw [ht.size]; exact Nat.le_refl _, fun b _ hb => ht.block b (fun e => hb (by rw [e]))⟩ (fun r e => ?_)
  cases e
  obtain ⟨es, c, h⟩ := hm
  exact ⟨hB, _, h, rfl⟩
theorem wpIn_gen {F : Fence} {n : Nat} {P : Program} {c : Code} {Q : Exit → Act → World → Prop} {a : Act} {W : World} (G : World → Prop) (hG : G W) (h : ∀ W1, G W1 → c.wpIn F n P Q a W1) : c.wpIn F n P Q a W := h W hG
end Go.Proofs.Ytigoghhjncpgfaa.O.B
