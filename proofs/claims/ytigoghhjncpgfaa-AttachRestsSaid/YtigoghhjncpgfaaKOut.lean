/- Objects in a slice of the call's own, that grows: one more, or all of a slice more. -/
import Derived.Test.YtigoghhjncpgfaaKList
import Derived.Deep.Upon
import Derived.Test.YtigoghhjncpgfaaHeldChain
namespace Go.Proofs.Ytigoghhjncpgfaa.O.B
open Go Go.RowKit Go.Shelf Go.Lib RangeMap KM
attribute [local go_sem] Oper.semAt_some

theorem obj_info : ∃ i, Try.prog.info? 37 = some i ∧ i.zero = some (encO O0) ∧ i.size = 20 ∧ i.bytes ≤ 1000 := by
  have h : (Try.prog.info? 37).map (fun i => (i.zero, i.size, decide (i.bytes ≤ 1000))) = some (some (encO O0), 20, true) := by kernel_rfl
  cases hi : Try.prog.info? 37 with
  | none => rw [hi] at h; cases h
  | some i =>
    rw [hi] at h
    simp only [Option.map_some, Option.some.injEq, Prod.mk.injEq] at h
    exact ⟨i, rfl, h.1, h.2.1, of_decide_eq_true h.2.2⟩
theorem makes_o {oi : Oper} (ho : oi.op = .alloc 37) : HeldBy.Makes Try.prog oi (.cells (cellsO O0) 37 (0, 0)) := by
  intro a w
  unfold execOp
  simp only [ho]
  kernel_rfl
/-- Objects in a slice of the call's own, that grows. -/
def OutIn (W : World) (B : Nat) (v : Value) (l : List Obj) : Prop := W.ownsRow B 37 20 v l.length (catO l).toList
theorem catO_snoc (l : List Obj) (x : Obj) : (catO (l ++ [x])).toList = (catO l).toList ++ (cellsO x).toList := by
  show ((l ++ [x]).flatMap fun o => (cellsO o).toList) = (l.flatMap fun o => (cellsO o).toList) ++ _
  rw [List.flatMap_append]
  simp
theorem OutIn.empty (W : World) (B : Nat) : OutIn W B (.slice none 0 0) [] := ⟨rfl, .inl ⟨rfl, rfl⟩⟩
theorem OutIn.of {W W' : World} {B : Nat} {v : Value} {l : List Obj} (h : OutIn W B v l) (hb : ∀ g cs, W.heap[g]? = some (.cells cs 37 (0, 0)) → v.ownBlock = some g → W'.heap[g]? = W.heap[g]?) : OutIn W' B v l := by
  refine ⟨h.1, ?_⟩
  rcases h.2 with h1 | ⟨g, cap, cur, rfl, h2, h3, h4⟩
  · exact .inl h1
  · exact .inr ⟨g, cap, cur, rfl, h2, (hb g cur h3 rfl).trans h3, h4⟩
theorem OutIn.after {W W' : World} {B : Nat} {v : Value} {l : List Obj} (h : OutIn W B v l) (hb : Below W.heap.size W W') : OutIn W' B v l := h.of fun g _ hg _ => hb.block g (Array.getElem?_eq_some_iff.1 hg).1
theorem OutIn.objs {W : World} {B : Nat} {v : Value} {l : List Obj} (h : OutIn W B v l) (hn : l.length ≤ 9223372036854775807) : ObjsIn W v l := by
  rcases h.2 with ⟨rfl, h1⟩ | ⟨g, cap, cur, rfl, h2, h3, -, -, -, h4⟩
  · have : l = [] := List.length_eq_zero_iff.1 h1
    subst this
    exact ⟨none, 0, rfl, by simp, fun i hi => absurd hi (by simp)⟩
  · refine ⟨_, cap, rfl, hn, fun i hi => ⟨g, 0, rfl, (Array.getElem?_eq_some_iff.1 h3).1, fun j u hu => ?_⟩⟩
    have hj : j < 20 := (List.getElem?_eq_some_iff.1 hu).1
    rw [cell_of_row W g _ _ _ _ h3, Nat.zero_add]
    have h5 : (catO l).toList[i * 20 + j]? = cur.toList[i * 20 + j]? := by
      rw [← h4, List.getElem?_take, if_pos (by omega)]
    rw [← Array.getElem?_toList, ← h5, Array.getElem?_toList, catO_at l i hi j hj]
    exact hu
theorem add_obj (R : Nat) (W : World) (sl : Value) (l : List Obj) (x : Obj) (ty : TypeId) (hr : OutIn W R sl l) (hB : R ≤ W.heap.size) (hn : l.length < 100000) :
    ∃ v' W', (Builtin.append_ #[22, 22] ty #[sl, .slice (some ⟨W.heap.size, 0, none⟩) 1 1]).run Try.prog (W.alloc (.cells (catO [x]) 37 (0, 0))) = .ok v' W' ∧
      OutIn W' R v' (l ++ [x]) ∧ Below R W W' ∧ ∀ b, b < W.heap.size → some b ≠ sl.ownBlock → W'.heap[b]? = W.heap[b]? := by
  obtain ⟨i, hi, hz, hs, hb⟩ := obj_info
  have hba : Below W.heap.size W (W.alloc (.cells (catO [x]) 37 (0, 0))) := (Below.refl _ _).alloc (Nat.le_refl _) _
  have hr1 := hr.after hba
  have h1 : ∀ u ∈ (cellsO x).toList, u.oneCell' = true := fun u hu => Array.all_eq_true_iff_forall_mem.1 (one_cells x) u (by simpa using hu)
  have hnews : ∀ j u, (cellsO x).toList[j]? = some u → (W.alloc (.cells (catO [x]) 37 (0, 0))).cell? ((⟨W.heap.size, 0, none⟩ : Addr).add j) = some u := fun j u hu => by
    have e : (⟨W.heap.size, 0, none⟩ : Addr).add j = ⟨W.heap.size, j, none⟩ := by unfold Addr.add; split <;> simp_all
    rw [e, cell_of_row _ _ _ _ _ _ (heap_alloc_new W _), ← Array.getElem?_toList]
    have e2 : (catO [x]).toList = (cellsO x).toList := by show ([x].flatMap fun o => (cellsO o).toList) = _; simp
    rw [e2]
    exact hu
  obtain ⟨v', W', h2, h3, h4, -⟩ := run_append_own (P := Try.prog) (W.alloc (.cells (catO [x]) 37 (0, 0))) R 22 ty 37 i (encO O0) 20 i.bytes Try.underlying22 hi hz hs rfl rfl (by decide) sl l.length _ hr1 ⟨W.heap.size, 0, none⟩ 1 1 (cellsO x).toList rfl hnews h1 (by unfold maxLen; omega) (Nat.le_trans (Nat.mul_le_mul (show l.length + 1 ≤ 100000 by omega) hb) (by omega)) (by simp; omega)
  refine ⟨v', W', h2, ?_, ?_, ?_⟩
  · show W'.ownsRow R _ 20 v' _ _
    rw [catO_snoc, List.length_append]
    exact h3
  · refine (hba.mono hB).grown h4 (by simp; omega) ?_
    intro r e
    rcases hr.2 with ⟨rfl, -⟩ | ⟨g, cap, cur, rfl, hg, -⟩
    · cases e
    · cases e
      exact hg
  · intro b hb hne
    exact (h4.block b (by simp; omega) hne).trans (hba.block b hb)
theorem wpList_add {ops : Array Oper} {rest : List Oper} {oi : Oper} {a : Act} {W W' : World} {sl v : Value} {m c : Nat} {ad : Addr} {p r : Operand} {Q : Exit → Act → World → Prop} (hg : oi.guard = none) (ho : oi.op = .call { callee := .builtin .append, args := #[p, r], argTypes := #[22, 22] })
    (h : (Builtin.append_ #[22, 22] oi.type #[sl, .slice (some ad) m c]).run Try.prog W = .ok v W') (hp : a.eval p = sl) (hr : a.eval r = .slice (some ad) m c) (hn : wpList Try.prog ops Q rest (a.put oi.dst v) W') : wpList Try.prog ops Q (oi :: rest) a W := by
  refine wpList_runs hg ?_ hn
  unfold execOp
  simp [ho, resolve, invoke, builtin, hp, hr, h, Result.andThen]

theorem cat_cell (l : List Obj) (i : Nat) (hi : i < l.length) (j : Nat) (hj : j < 20) : (catO l)[i * 20 + j]? = (cellsO l[i]).toList[j]? := catO_at l i hi j hj
/-- All objects of a slice, behind those that are there. -/
theorem add_objs (R : Nat) (W : World) (sl : Value) (l m : List Obj) (v : Value) (ty : TypeId) (hr : OutIn W R sl l) (hm : ObjsIn W v m) (hB : R ≤ W.heap.size) (hn : l.length + m.length < 100000) :
    ∃ v' W', (Builtin.append_ #[22, 22] ty #[sl, v]).run Try.prog W = .ok v' W' ∧
      OutIn W' R v' (l ++ m) ∧ Below R W W' ∧ ∀ b, b < W.heap.size → some b ≠ sl.ownBlock → W'.heap[b]? = W.heap[b]? := by
  obtain ⟨i, hi, hz, hs, hb⟩ := obj_info
  obtain ⟨o, c, rfl, -, hrow⟩ := hm
  by_cases h0 : m.length = 0
  · have hm0 : m = [] := List.length_eq_zero_iff.1 h0
    subst hm0
    have hsh : ∃ base sLen sCap, sl = .slice base sLen sCap ∧ sLen ≤ sCap := by
      rcases hr.2 with ⟨rfl, -⟩ | ⟨g, cap, cur, rfl, -, -, hc, -⟩
      · exact ⟨none, 0, 0, rfl, Nat.le_refl _⟩
      · exact ⟨_, _, _, rfl, hc⟩
    obtain ⟨base, sLen, sCap, rfl, hle⟩ := hsh
    have hsrc : Src Try.prog i.size 22 (.slice o 0 c) 0 [] W := by
      cases o with
      | none => exact Src.ofNil W (Try.underlying22) c
      | some a => exact Src.ofSlice W (Try.underlying22) a 0 c [] (by simp) (fun j u h => by cases h) (fun u h => by cases h)
    refine ⟨_, W, run_append_nothing W _ _ ty _ i Try.underlying22 hi base sLen sCap hle _ hsrc, ?_, Below.refl _ _, fun _ _ _ => rfl⟩
    rw [List.append_nil]
    exact hr
  · obtain ⟨g, off, rfl, -, -⟩ := hrow 0 (by omega)
    have hrows : ∀ k (hk : k < m.length), W.rangeAt g (off + k * 20) (cellsO m[k]).toList := fun k hk => by
      obtain ⟨g3, off3, e3, -, h3⟩ := hrow k hk
      cases e3
      exact h3
    have hlen : (catO m).toList.length = m.length * 20 := by
      rw [Array.length_toList]
      exact catO_size m
    have h1 : ∀ u ∈ (catO m).toList, u.oneCell' = true := fun u hu => by
      have hu' : u ∈ m.flatMap fun o => (cellsO o).toList := hu
      obtain ⟨x, -, hx⟩ := List.mem_flatMap.1 hu'
      exact Array.all_eq_true_iff_forall_mem.1 (one_cells x) u (by simpa using hx)
    have hnews : ∀ j u, (catO m).toList[j]? = some u → W.cell? ((⟨g, off, none⟩ : Addr).add j) = some u := fun j u hu => by
      have e : (⟨g, off, none⟩ : Addr).add j = ⟨g, off + j, none⟩ := by unfold Addr.add; split <;> simp_all
      have hj : j < m.length * 20 := by rw [← hlen]; exact (List.getElem?_eq_some_iff.1 hu).1
      have h2 : j / 20 < m.length := by omega
      have h3 := hrows (j / 20) h2
      have h4 : (cellsO m[j / 20]).toList[j % 20]? = some u := by
        rw [← cat_cell m (j / 20) h2 (j % 20) (by omega), ← Array.getElem?_toList]
        rw [show j / 20 * 20 + j % 20 = j from by omega]
        exact hu
      have h5 := h3 (j % 20) u h4
      rw [e]
      rw [show off + j = off + j / 20 * 20 + j % 20 from by omega]
      exact h5
    obtain ⟨v', W', h2, h3, h4, -⟩ := run_append_own (P := Try.prog) W R 22 ty 37 i (encO O0) 20 i.bytes Try.underlying22 hi hz hs rfl rfl (by decide) sl l.length _ hr ⟨g, off, none⟩ m.length c (catO m).toList hlen hnews h1 (by unfold maxLen; omega) (Nat.le_trans (Nat.mul_le_mul (show l.length + m.length ≤ 100000 by omega) hb) (by omega)) hB
    refine ⟨v', W', h2, ?_, ?_, ?_⟩
    · show W'.ownsRow R _ 20 v' _ _
      have e : (catO (l ++ m)).toList = (catO l).toList ++ (catO m).toList := by
        show ((l ++ m).flatMap fun o => (cellsO o).toList) = (l.flatMap fun o => (cellsO o).toList) ++ (m.flatMap fun o => (cellsO o).toList)
        rw [List.flatMap_append]
      rw [e, List.length_append]
      exact h3
    · refine (Below.refl R W).grown h4 hB ?_
      intro r e
      rcases hr.2 with ⟨rfl, -⟩ | ⟨g, cap, cur, rfl, hg, -⟩
      · cases e
      · cases e
        exact hg
    · intro b hb hne
      exact h4.block b hb hne
end Go.Proofs.Ytigoghhjncpgfaa.O.B
