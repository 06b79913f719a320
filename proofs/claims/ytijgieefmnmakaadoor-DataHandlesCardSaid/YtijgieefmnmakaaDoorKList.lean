/- Slices of objects that a text builds. -/
import Derived.Test.YtijgieefmnmakaaDoorKFind
namespace Go.Proofs.YtijgieefmnmakaaDoor.O.B
open Go Go.RowKit Go.Shelf Go.Lib RangeMap KM

/-- The cells of objects that lie behind one another. -/
def catO (l : List Obj) : Array Value := ⟨l.flatMap fun o => (cellsO o).toList⟩
theorem flat_at {α : Type} (f : α → List Value) (n : Nat) (hf : ∀ a, (f a).length = n) : ∀ (l : List α) (i : Nat) (h : i < l.length) (j : Nat), j < n → (l.flatMap f)[i * n + j]? = (f l[i])[j]?
  | [], i, h, _, _ => absurd h (by simp)
  | a :: l, 0, _, j, hj => by
    rw [List.flatMap_cons, List.getElem?_append_left (by rw [hf]; omega)]
    simp
  | a :: l, i + 1, h, j, hj => by
    have e : (i + 1) * n + j = n + (i * n + j) := by rw [Nat.succ_mul]; omega
    rw [List.flatMap_cons, List.getElem?_append_right (by rw [hf]; omega), hf, e, Nat.add_sub_cancel_left, flat_at f n hf l i (by simpa using h) j hj]
    rfl
/-- A block that holds objects. -/
def RowO (W : World) (g : Nat) (l : List Obj) : Prop := W.heap[g]? = some (.cells (catO l) 31 (0, 0))
theorem RowO.lt {W : World} {g : Nat} {l : List Obj} (h : RowO W g l) : g < W.heap.size := (Array.getElem?_eq_some_iff.1 h).1
theorem RowO.after {W W' : World} {g : Nat} {l : List Obj} (h : RowO W g l) (hb : Below W.heap.size W W') : RowO W' g l := (hb.block _ h.lt).trans h
theorem RowO.objs {W : World} {g : Nat} {l : List Obj} (h : RowO W g l) (c : Nat) (hn : l.length ≤ 9223372036854775807) : ObjsIn W (.slice (some ⟨g, 0, none⟩) l.length c) l := by
  refine ⟨_, c, rfl, hn, fun i hi => ⟨g, 0, rfl, h.lt, fun j v hv => ?_⟩⟩
  have hj : j < 20 := by
    have := (List.getElem?_eq_some_iff.1 hv).1
    exact this
  rw [cell_of_row W g _ _ _ _ h, Nat.zero_add, ← Array.getElem?_toList, show (catO l).toList = l.flatMap fun o => (cellsO o).toList from rfl, flat_at _ 20 (fun _ => rfl) l i hi j hj]
  exact hv
theorem wpList_run {ops : Array Oper} {rest : List Oper} {oi : Oper} {a : Act} {W W' : World} {v : Value} {Q : Exit → Act → World → Prop} (hw : Region.wanted oi (yielded ops a.tmps) = true) (hv : (execOp a.eval oi).run Tryd.prog W = .ok (.value v) W')
    (hn : wpList Tryd.prog ops Q rest (a.put oi.dst v) W') : wpList Tryd.prog ops Q (oi :: rest) a W := by
  unfold wpList
  rw [if_pos hw]
  refine .inl ?_
  unfold Oper.wp
  rw [hv]
  exact hn
theorem wpList_runs {ops : Array Oper} {rest : List Oper} {oi : Oper} {a : Act} {W W' : World} {v : Value} {Q : Exit → Act → World → Prop} (hg : oi.guard = none) (hv : (execOp a.eval oi).run Tryd.prog W = .ok (.value v) W')
    (hn : wpList Tryd.prog ops Q rest (a.put oi.dst v) W') : wpList Tryd.prog ops Q (oi :: rest) a W := wpList_run (by unfold Region.wanted; rw [hg]) hv hn
theorem run_objs1 (W : World) (a : Obj) : (Instr.buildSlice 22 1 #[(0, encO a)]).run Tryd.prog W = .ok (.slice (some ⟨W.heap.size, 0, none⟩) 1 1) (W.alloc (.cells (catO [a]) 31 (0, 0))) := by kernel_rfl
theorem run_objs2 (W : World) (a b : Obj) : (Instr.buildSlice 22 2 #[(0, encO a), (1, encO b)]).run Tryd.prog W = .ok (.slice (some ⟨W.heap.size, 0, none⟩) 2 2) (W.alloc (.cells (catO [a, b]) 31 (0, 0))) := by kernel_rfl
theorem run_objs3 (W : World) (a b c : Obj) : (Instr.buildSlice 22 3 #[(0, encO a), (1, encO b), (2, encO c)]).run Tryd.prog W = .ok (.slice (some ⟨W.heap.size, 0, none⟩) 3 3) (W.alloc (.cells (catO [a, b, c]) 31 (0, 0))) := by kernel_rfl
theorem run_objs4 (W : World) (a b c d : Obj) : (Instr.buildSlice 22 4 #[(0, encO a), (1, encO b), (2, encO c), (3, encO d)]).run Tryd.prog W = .ok (.slice (some ⟨W.heap.size, 0, none⟩) 4 4) (W.alloc (.cells (catO [a, b, c, d]) 31 (0, 0))) := by kernel_rfl
theorem exec_objs {n : Nat} {l : List Obj} {W W' : World} {v : Value} {vs : Array (Nat × Value)} (hr : (Instr.buildSlice 22 n vs).run Tryd.prog W = .ok v W') {oi : Oper} {a : Act} {parts : Array (Nat × Operand)} (ho : oi.op = .buildSlice 22 n parts)
    (hp : (parts.toList.map fun (i, x) => (i, a.eval x)) = vs.toList) : (execOp a.eval oi).run Tryd.prog W = .ok (.value v) W' := by
  have hp' : (parts.map fun (i, x) => (i, a.eval x)) = vs := by
    apply Array.toList_inj.1
    rw [Array.toList_map]
    exact hp
  subst hp'
  unfold execOp
  simp only [ho, Sem.run_bind, hr, Result.andThen_ok]
  rfl
theorem wpList_objs {ops : Array Oper} {rest : List Oper} {oi : Oper} {a : Act} {W W' : World} {v : Value} {Q : Exit → Act → World → Prop} {n : Nat} {parts : Array (Nat × Operand)} (hg : oi.guard = none) (ho : oi.op = .buildSlice 22 n parts) (vs : Array (Nat × Value))
    (hr : (Instr.buildSlice 22 n vs).run Tryd.prog W = .ok v W') (hp : (parts.toList.map fun (i, x) => (i, a.eval x)) = vs.toList) (hn : wpList Tryd.prog ops Q rest (a.put oi.dst v) W') : wpList Tryd.prog ops Q (oi :: rest) a W :=
  wpList_runs hg (exec_objs (l := []) hr ho hp) hn
end Go.Proofs.YtijgieefmnmakaaDoor.O.B
