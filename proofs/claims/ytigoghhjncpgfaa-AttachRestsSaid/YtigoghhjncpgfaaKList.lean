/- Slices of objects that a text builds. -/
import Derived.Test.YtigoghhjncpgfaaKAct
import Derived.Test.YtigoghhjncpgfaaRowSet
import Derived.Deep.MidRow
namespace Go.Proofs.Ytigoghhjncpgfaa.O.B
open Go Go.RowKit Go.Shelf Go.Lib RangeMap KM

/-- The cells of objects that lie behind one another. -/
def catO (l : List Obj) : Array Value := ⟨l.flatMap fun o => (cellsO o).toList⟩
theorem flat_at {α : Type} (f : α → List Value) (n : Nat) (hf : ∀ a, (f a).length = n) : ∀ (l : List α) (i : Nat) (h : i < l.length) (j : Nat), j < n → (l.flatMap f)[i * n + j]? = (f l[i])[j]?
  | [], i, h, _, _ => absurd h (by simp)
  | a :: l, 0, _, j, hj => by
    rw [List.flatMap_cons, List.getElem?_append_left (by rw [hf]; omega)]
    simp
  | a :: l, i + 1, h, j, hj => by
    have e : (i + 1) * n + j = n + (i * n + j) := by rw [Nat.succ_mul]; omega
    rw [List.flatMap_cons, List.getElem?_append_right (by rw [hf]; omega), hf, e, Nat.add_sub_cancel_left, flat_at f n hf l i (by simpa using h) j hj]
    rfl
/-- A block that holds objects. -/
def RowO (W : World) (g : Nat) (l : List Obj) : Prop := W.heap[g]? = some (.cells (catO l) 37 (0, 0))
theorem RowO.lt {W : World} {g : Nat} {l : List Obj} (h : RowO W g l) : g < W.heap.size := (Array.getElem?_eq_some_iff.1 h).1
theorem RowO.after {W W' : World} {g : Nat} {l : List Obj} (h : RowO W g l) (hb : Below W.heap.size W W') : RowO W' g l := (hb.block _ h.lt).trans h
theorem RowO.objs {W : World} {g : Nat} {l : List Obj} (h : RowO W g l) (c : Nat) (hn : l.length ≤ 9223372036854775807) : ObjsIn W (.slice (some ⟨g, 0, none⟩) l.length c) l := by
  refine ⟨_, c, rfl, hn, fun i hi => ⟨g, 0, rfl, h.lt, fun j v hv => ?_⟩⟩
  have hj : j < 20 := by
    have := (List.getElem?_eq_some_iff.1 hv).1
    exact this
  rw [cell_of_row W g _ _ _ _ h, Nat.zero_add, ← Array.getElem?_toList, show (catO l).toList = l.flatMap fun o => (cellsO o).toList from rfl, flat_at _ 20 (fun _ => rfl) l i hi j hj]
  exact hv
theorem wpList_run {ops : Array Oper} {rest : List Oper} {oi : Oper} {a : Act} {W W' : World} {v : Value} {Q : Exit → Act → World → Prop} (hw : Region.wanted oi (yielded ops a.tmps) = true) (hv : (execOp a.eval oi).run Try.prog W = .ok (.value v) W')
    (hn : wpList Try.prog ops Q rest (a.put oi.dst v) W') : wpList Try.prog ops Q (oi :: rest) a W := by
  unfold wpList
  rw [if_pos hw]
  refine .inl ?_
  unfold Oper.wp
  rw [hv]
  exact hn
theorem wpList_runs {ops : Array Oper} {rest : List Oper} {oi : Oper} {a : Act} {W W' : World} {v : Value} {Q : Exit → Act → World → Prop} (hg : oi.guard = none) (hv : (execOp a.eval oi).run Try.prog W = .ok (.value v) W')
    (hn : wpList Try.prog ops Q rest (a.put oi.dst v) W') : wpList Try.prog ops Q (oi :: rest) a W := wpList_run (by unfold Region.wanted; rw [hg]) hv hn
theorem run_objs1 (W : World) (a : Obj) : (Instr.buildSlice 22 1 #[(0, encO a)]).run Try.prog W = .ok (.slice (some ⟨W.heap.size, 0, none⟩) 1 1) (W.alloc (.cells (catO [a]) 37 (0, 0))) := by kernel_rfl
theorem run_objs2 (W : World) (a b : Obj) : (Instr.buildSlice 22 2 #[(0, encO a), (1, encO b)]).run Try.prog W = .ok (.slice (some ⟨W.heap.size, 0, none⟩) 2 2) (W.alloc (.cells (catO [a, b]) 37 (0, 0))) := by kernel_rfl
theorem run_objs3 (W : World) (a b c : Obj) : (Instr.buildSlice 22 3 #[(0, encO a), (1, encO b), (2, encO c)]).run Try.prog W = .ok (.slice (some ⟨W.heap.size, 0, none⟩) 3 3) (W.alloc (.cells (catO [a, b, c]) 37 (0, 0))) := by kernel_rfl
theorem run_objs4 (W : World) (a b c d : Obj) : (Instr.buildSlice 22 4 #[(0, encO a), (1, encO b), (2, encO c), (3, encO d)]).run Try.prog W = .ok (.slice (some ⟨W.heap.size, 0, none⟩) 4 4) (W.alloc (.cells (catO [a, b, c, d]) 37 (0, 0))) := by kernel_rfl
theorem exec_objs {n : Nat} {W W' : World} {v : Value} {vs : Array (Nat × Value)} (hr : (Instr.buildSlice 22 n vs).run Try.prog W = .ok v W') {oi : Oper} {a : Act} {parts : Array (Nat × Operand)} (ho : oi.op = .buildSlice 22 n parts)
    (hp : (parts.toList.map fun (i, x) => (i, a.eval x)) = vs.toList) : (execOp a.eval oi).run Try.prog W = .ok (.value v) W' := by
  have hp' : (parts.map fun (i, x) => (i, a.eval x)) = vs := by
    apply Array.toList_inj.1
    rw [Array.toList_map]
    exact hp
  subst hp'
  unfold execOp
  simp only [ho, Sem.run_bind, hr, Result.andThen_ok]
  rfl
theorem wpList_objs {ops : Array Oper} {rest : List Oper} {oi : Oper} {a : Act} {W W' : World} {v : Value} {Q : Exit → Act → World → Prop} {n : Nat} {parts : Array (Nat × Operand)} (hg : oi.guard = none) (ho : oi.op = .buildSlice 22 n parts) (vs : Array (Nat × Value))
    (hr : (Instr.buildSlice 22 n vs).run Try.prog W = .ok v W') (hp : (parts.toList.map fun (i, x) => (i, a.eval x)) = vs.toList) (hn : wpList Try.prog ops Q rest (a.put oi.dst v) W') : wpList Try.prog ops Q (oi :: rest) a W :=
  wpList_runs hg (exec_objs hr ho hp) hn
theorem catO_size (l : List Obj) : (catO l).size = l.length * 20 := by
  show (l.flatMap fun o => (cellsO o).toList).toArray.size = _
  rw [List.size_toArray]
  induction l with
  | nil => rfl
  | cons a l ih =>
    rw [List.flatMap_cons, List.length_append, ih, List.length_cons]
    show 20 + _ = _
    omega
theorem catO_at (l : List Obj) (i : Nat) (h : i < l.length) (j : Nat) (hj : j < 20) : (catO l)[i * 20 + j]? = (cellsO l[i]).toList[j]? := by
  rw [← Array.getElem?_toList, show (catO l).toList = l.flatMap fun o => (cellsO o).toList from rfl, flat_at _ 20 (fun _ => rfl) l i h j hj]
theorem set_cat (l : List Obj) (i : Nat) (x : Obj) (h : i < l.length) : RowSet.setAll (catO l) (i * 20) (cellsO x).toList = catO (l.set i x) := by
  have hl : (cellsO x).toList.length = 20 := rfl
  apply Array.ext_getElem?
  intro j
  rw [RowSet.setAll_get _ _ _ (by rw [hl, catO_size]; omega), hl]
  by_cases h1 : i * 20 ≤ j ∧ j < i * 20 + 20
  · rw [if_pos h1]
    obtain ⟨k, rfl⟩ : ∃ k, j = i * 20 + k := ⟨j - i * 20, by omega⟩
    rw [catO_at (l.set i x) i (by simpa using h) k (by omega), Nat.add_sub_cancel_left]
    simp
  · rw [if_neg h1]
    by_cases h2 : j < l.length * 20
    · obtain ⟨k, r, hr, rfl⟩ : ∃ k r, r < 20 ∧ j = k * 20 + r := ⟨j / 20, j % 20, by omega, by omega⟩
      have hk : k < l.length := by omega
      have hne : i ≠ k := by omega
      rw [catO_at l k hk r hr, catO_at (l.set i x) k (by simpa using hk) r hr]
      simp [List.getElem_set_ne hne]
    · rw [Array.getElem?_eq_none (by rw [catO_size]; omega), Array.getElem?_eq_none (by rw [catO_size, List.length_set]; omega)]
/-- A store of an object into its place in a block of objects. -/
theorem placing {W : World} {g : Nat} {l : List Obj} (h : RowO W g l) (i : Nat) (hi : i < l.length) (x : Obj) : ∃ V, (∀ {oi : Oper} {a : Act} {p q : Operand}, oi.op = .store 37 p q → a.eval p = .pointer (some ⟨g, i * 20, none⟩) → a.eval q = encO x → (execOp a.eval oi).run Try.prog W = .ok .skip V) ∧
    RowO V g (l.set i x) ∧ (∀ b, b ≠ g → V.heap[b]? = W.heap[b]?) ∧ (∀ B A, Below B A W → B ≤ g → Below B A V) := by
  have hth : W.there g (i * 20) (cellsO x).size := fun j hj => by
    have hj' : j < 20 := hj
    refine ⟨?_, frozen_of_row W g _ _ _ h⟩
    rw [cell_of_row W g _ _ _ _ h, catO_at l i hi j hj']
    have : j < (cellsO l[i]).toList.length := hj'
    rw [List.getElem?_eq_getElem this]
    rfl
  have hr := run_storeAt_mid (P := Try.prog) W g (i * 20) 37 (cellsO x) hth sizeObj (one_cells x)
  refine ⟨W.setCells g (i * 20) (cellsO x).toList, fun ho hx hy => ?_, ?_, fun b hb => RowSet.heap_set_other g b hb _ _ _, fun B A hA hB => hA.trans (RowSet.below_set hB _ _ _)⟩
  · have hy' : _ = Value.agg (cellsO x) := hy
    unfold execOp
    simp only [ho, hx, hy', Sem.run_bind, hr, Result.andThen_ok]
    rfl
  · show _ = _
    rw [RowSet.heap_set g 37 _ _ _ _ h, set_cat l i x hi]
theorem BoxA.obj {W : World} {b : Nat} {a : Ac} (h : BoxA W b a) : W.rangeAt b 1 (cellsO a.obj).toList := by
  have e : ((cellsA a).extract 1 (1 + 20)).toList = (cellsO a.obj).toList := by kernel_rfl
  rw [← e]
  exact World.rangeAt_of_block h 1 20
theorem BoxA.callAt {W : World} {b : Nat} {a : Ac} (h : BoxA W b a) : W.rangeAt b 21 (cellsC a.call).toList := by
  have e : ((cellsA a).extract 21 (21 + 7)).toList = (cellsC a.call).toList := by kernel_rfl
  rw [← e]
  exact World.rangeAt_of_block h 21 7
theorem load_callAt {W : World} {g k : Nat} {c : Cl} (h : W.rangeAt g k (cellsC c).toList) {oi : Oper} {a : Act} {x : Operand} (ho : oi.op = .load 40 x) (hx : a.eval x = .pointer (some ⟨g, k, none⟩)) :
    (execOp a.eval oi).run Try.prog W = .ok (.value (encC c)) W := by
  have h1 := run_loadAt_mid (P := Try.prog) W g k 40 (cellsC c).toList _ h undCall rfl sizeCall
  unfold execOp
  simp only [ho, hx, Sem.run_bind, h1, Result.andThen_ok, Sem.run_pure]
  rfl
end Go.Proofs.Ytigoghhjncpgfaa.O.B
