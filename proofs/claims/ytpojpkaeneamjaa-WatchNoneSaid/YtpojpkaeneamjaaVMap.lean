/- Maps that are new: what a lookup, a store and an addition to an entry do. -/
import Derived.Test.YtpojpkaeneamjaaVBase
import Derived.Test.YtpojpkaeneamjaaHeldTwo
import Derived.Laws.AppendOwn
import Derived.Great.BuildSlice
namespace Go.Proofs.Ytpojpkaeneamjaa.O.V
open Go Go.RowKit Go.Lib KM
attribute [local go_sem] Oper.semAt_some

theorem key_check (em : Bool) (w : World) (x : Ky) : (Instr.checkKey em 10000 29 (encK x)).run Try.prog w = .ok () w := by
  unfold encK cellsK
  kernel_rfl
theorem tl_eq (a b : ByteArray) : (a.toList == b.toList) = decide (a = b) := by
  rw [Bool.eq_iff_iff, beq_iff_eq, decide_eq_true_eq, Lib.toList_data, Lib.toList_data]
  exact ⟨fun h => ByteArray.ext (Array.ext' h), fun h => by rw [h]⟩
theorem key_stays (x : Ky) : Instr.sameBits 10000 (encK x) (encK x) = true := by
  unfold encK cellsK Instr.sameBits
  simp [Instr.sameBits, beq_toListBytes]
theorem key_eq (w : World) (x y : Ky) : (Op.equal 29 (encK x) (encK y)).run Try.prog w = .ok (decide (x = y)) w := by
  obtain ⟨a, s⟩ := x
  obtain ⟨b, t⟩ := y
  have h : (decide ((⟨a, s⟩ : Ky) = ⟨b, t⟩)) = (a == b && (s.toList == t.toList)) := by
    rw [tl_eq, Bool.eq_iff_iff]
    simp
  rw [h]
  unfold encK cellsK
  show (Op.equalIn 10000 _ _ _).run _ _ = _
  cases h1 : (a == b) with
  | false => go_simp
  | true =>
    go_simp
    by_cases h2 : s.toList = t.toList <;> simp [h2]
theorem keyT : KeyT Try.prog 29 encK := ⟨key_check, key_eq, ⟨_, Try.underlying29⟩, key_stays⟩
abbrev tI : TypeId := 155
abbrev tO : TypeId := 81
theorem und_tI : Try.prog.underlying tI = some (.map 29 3) := Try.underlying155
theorem und_tO : Try.prog.underlying tO = some (.map 29 39) := Try.underlying81
theorem zero_i (w : World) : (zeroValue 3).run Try.prog w = .ok (.int .i64 0) w := by kernel_rfl

theorem empty_is {W : World} {b : Nat} (h : W.heap[b]? = some (.map #[] 0)) : IsMap encK W b [] := ⟨#[], 0, h, rfl⟩
/-- A map of one key, with a number. -/
def OneAt (W : World) (b : Nat) (k : Ky) (v : Int) : Prop := W.heap[b]? = some (.map #[{ key := encK k, val := .int .i64 v, born := 0 }] 1)
theorem OneAt.is {W : World} {b : Nat} {k : Ky} {v : Int} (h : OneAt W b k v) : IsMap encK W b [(k, .int .i64 v)] := ⟨_, _, h, rfl⟩
theorem run_entry_new (W : World) (b : Nat) (k : Ky) (h : W.heap[b]? = some (.map #[] 0)) :
    ∃ V, (Instr.mapEntry tI (.map (some b)) (encK k)).run Try.prog W = .ok (.tuple #[.int .i64 0, .int .i64 0]) V ∧ OneAt V b k 0 ∧ Turned W V b := by
  have hf := run_find keyT k W (es := []) (m := []) rfl
  have hz := zero_i W
  have hc := keyT.check false W k
  have e : (Instr.mapEntry tI (.map (some b)) (encK k)).run Try.prog W = .ok (.tuple #[.int .i64 0, .int .i64 0]) { W with heap := W.heap.setIfInBounds b (.map #[{ key := encK k, val := .int .i64 0, born := 0 }] 1) } := by
    have hs := MapKept.run_setObj_map (P := Try.prog) (.map #[{ key := encK k, val := .int .i64 0, born := 0 }] 1) h
    simp only [Instr.mapEntry, Sem.run_bind, run_underlying und_tI, Result.andThen_ok, MapKept.run_getObj_map h, hc, hf, seek, hz]
    first | exact (by simpa [goInt, Result.andThen] using hs) | (simp [goInt, Result.andThen, hs])
  exact ⟨_, e, (MapKept.heap_set h).1, turned_set h _⟩
theorem run_entry_store (W : World) (b : Nat) (k : Ky) (u v : Int) (h : OneAt W b k u) :
    ∃ V, (Instr.entryStore tI (.map (some b)) (.int .i64 0) (.int .i64 v)).run Try.prog W = .ok () V ∧ OneAt V b k v ∧ Turned W V b := by
  unfold OneAt at h
  have e : (Instr.entryStore tI (.map (some b)) (.int .i64 0) (.int .i64 v)).run Try.prog W = .ok () { W with heap := W.heap.setIfInBounds b (.map #[{ key := encK k, val := .int .i64 v, born := 0 }] 1) } := by
    have hs := MapKept.run_setObj_map (P := Try.prog) (.map #[{ key := encK k, val := .int .i64 v, born := 0 }] 1) h
    simp [Instr.entryStore, MapKept.run_getObj_map h, asInt, asIntOf, Result.andThen]
    exact hs
  exact ⟨_, e, (MapKept.heap_set h).1, turned_set h _⟩
theorem exec_entry {W : World} {b : Nat} {k : Ky} (h : W.heap[b]? = some (.map #[] 0)) : ∃ V, (∀ {oi : Oper} {a : Act} {p r : Operand}, oi.op = .mapEntry tI p r → a.eval p = .map (some b) → a.eval r = encK k → (execOp a.eval oi).run Try.prog W = .ok (.value (.tuple #[.int .i64 0, .int .i64 0])) V) ∧ OneAt V b k 0 ∧ Turned W V b := by
  obtain ⟨V, h1, h2, h3⟩ := run_entry_new W b k h
  refine ⟨V, fun ho hp hr => ?_, h2, h3⟩
  unfold execOp
  simp [ho, hp, hr, h1, Result.andThen]
theorem exec_entry_store {W : World} {b : Nat} {k : Ky} {u : Int} (h : OneAt W b k u) (v : Int) : ∃ V, (∀ {oi : Oper} {a : Act} {p r q : Operand}, oi.op = .entryStore tI p r q → a.eval p = .map (some b) → a.eval r = .int .i64 0 → a.eval q = .int .i64 v → (execOp a.eval oi).run Try.prog W = .ok .skip V) ∧ OneAt V b k v ∧ Turned W V b := by
  obtain ⟨V, h1, h2, h3⟩ := run_entry_store W b k u v h
  refine ⟨V, fun ho hp hr hq => ?_, h2, h3⟩
  unfold execOp
  simp [ho, hp, hr, hq, h1, Result.andThen]
theorem exec_look_no {W : World} {oi : Oper} {a : Act} {p r : Operand} {b : Nat} {k : Ky} (h : IsMap encK W b []) (ho : oi.op = .lookup tI p r false) (hm : a.eval p = .map (some b)) (hk : a.eval r = encK k) : (execOp a.eval oi).run Try.prog W = .ok (.value (.int .i64 0)) W := by
  unfold execOp
  simp [ho, hm, hk, run_lookup1_no keyT und_tI (zero_i W) h k rfl, Result.andThen]
theorem exec_look_one {W : World} {oi : Oper} {a : Act} {p r : Operand} {b : Nat} {k : Ky} {v : Int} (h : OneAt W b k v) (ho : oi.op = .lookup tI p r false) (hm : a.eval p = .map (some b)) (hk : a.eval r = encK k) : (execOp a.eval oi).run Try.prog W = .ok (.value (.int .i64 v)) W := by
  unfold execOp
  simp [ho, hm, hk, run_lookup1_ok keyT und_tI h.is k (v := .int .i64 v) (by simp [KM.get]), Result.andThen]
theorem exec_put {W : World} {b : Nat} (h : IsMap encK W b []) (k : Ky) (o : Obj) : ∃ V, (∀ {oi : Oper} {a : Act} {p r q : Operand}, oi.op = .mapUpdate tO p r q → a.eval p = .map (some b) → a.eval r = encK k → a.eval q = encO o → (execOp a.eval oi).run Try.prog W = .ok .skip V) ∧ Turned W V b := by
  obtain ⟨V, h1, -, h3⟩ := run_update keyT und_tO h k (encO o)
  refine ⟨V, fun ho hp hr hq => ?_, h3⟩
  unfold execOp
  simp [ho, hp, hr, hq, h1, Result.andThen]
theorem key_info : ∃ i, Try.prog.info? 29 = some i ∧ i.zero = some (encK K0) ∧ i.size = 2 ∧ i.bytes ≤ 1000 := by
  have h : (Try.prog.info? 29).map (fun i => (i.zero, i.size, decide (i.bytes ≤ 1000))) = some (some (encK K0), 2, true) := by kernel_rfl
  cases hi : Try.prog.info? 29 with
  | none => rw [hi] at h; cases h
  | some i =>
    rw [hi] at h
    simp only [Option.map_some, Option.some.injEq, Prod.mk.injEq] at h
    exact ⟨i, rfl, h.1, h.2.1, of_decide_eq_true h.2.2⟩
theorem run_keys1 (W : World) (k : Ky) : (Instr.buildSlice 31 1 #[(0, encK k)]).run Try.prog W = .ok (.slice (some ⟨W.heap.size, 0, none⟩) 1 1) (W.alloc (.cells (cellsK k) 29 (0, 0))) := by kernel_rfl
theorem run_evs1 (W : World) (e : Ev) : (Instr.buildSlice 22 1 #[(0, encE e)]).run Try.prog W = .ok (.slice (some ⟨W.heap.size, 0, none⟩) 1 1) (W.alloc (.cells (cellsE e) 85 (0, 0))) := by kernel_rfl
theorem exec_slice {T : TypeId} {n : Nat} {W W' : World} {v : Value} {vs : Array (Nat × Value)} (hr : (Instr.buildSlice T n vs).run Try.prog W = .ok v W') {oi : Oper} {a : Act} {parts : Array (Nat × Operand)} (ho : oi.op = .buildSlice T n parts)
    (hp : (parts.toList.map fun (i, x) => (i, a.eval x)) = vs.toList) : (execOp a.eval oi).run Try.prog W = .ok (.value v) W' := by
  have hp' : (parts.map fun (i, x) => (i, a.eval x)) = vs := by
    apply Array.toList_inj.1
    rw [Array.toList_map]
    exact hp
  subst hp'
  unfold execOp
  simp only [ho, Sem.run_bind, hr, Result.andThen_ok]
  rfl
/-- A slice of keys that begins with one of that name. -/
def KeyRow (W : World) (g : Nat) (n : ByteArray) : Prop := ∃ cur, W.heap[g]? = some (.cells cur 29 (0, 0)) ∧ cur[1]? = some (.string n)
theorem KeyRow.lt {W : World} {g : Nat} {n : ByteArray} (h : KeyRow W g n) : g < W.heap.size := by
  obtain ⟨cur, h, -⟩ := h
  exact (Array.getElem?_eq_some_iff.1 h).1
theorem KeyRow.after {W W' : World} {g : Nat} {n : ByteArray} (h : KeyRow W g n) (hb : Below W.heap.size W W') : KeyRow W' g n := by
  have hlt := h.lt
  obtain ⟨cur, h, h2⟩ := h
  exact ⟨cur, (hb.block g hlt).trans h, h2⟩
theorem KeyRow.cell {W : World} {g : Nat} {n : ByteArray} (h : KeyRow W g n) : W.cell? ⟨g, 1, none⟩ = some (.string n) := by
  obtain ⟨cur, h, h2⟩ := h
  exact (cell_of_row W g 1 _ _ _ h).trans h2
theorem exec_append {oi : Oper} {a : Act} {W W' : World} {sl sr v : Value} {p r : Operand} (ho : oi.op = .call { callee := .builtin .append, args := #[p, r], argTypes := #[31, 31] })
    (h : (Builtin.append_ #[31, 31] oi.type #[sl, sr]).run Try.prog W = .ok v W') (hp : a.eval p = sl) (hr : a.eval r = sr) : (execOp a.eval oi).run Try.prog W = .ok (.value v) W' := by
  unfold execOp
  simp [ho, resolve, invoke, builtin, hp, hr, h, Result.andThen]
/-- One key, behind none. -/
theorem add_key (W : World) (x : Ky) (ty : TypeId) :
    ∃ g c W', (Builtin.append_ #[31, 31] ty #[.slice none 0 0, .slice (some ⟨W.heap.size, 0, none⟩) 1 1]).run Try.prog (W.alloc (.cells (cellsK x) 29 (0, 0))) = .ok (.slice (some ⟨g, 0, none⟩) 1 c) W' ∧
      KeyRow W' g x.n ∧ W.heap.size ≤ g ∧ Below W.heap.size W W' := by
  obtain ⟨i, hi, hz, hs, hb⟩ := key_info
  have hba : Below W.heap.size W (W.alloc (.cells (cellsK x) 29 (0, 0))) := (Below.refl _ _).alloc (Nat.le_refl _) _
  have h1 : ∀ u ∈ (cellsK x).toList, u.oneCell' = true := fun u hu => Array.all_eq_true_iff_forall_mem.1 (one_cellsK x) u (by simpa using hu)
  have hnews : ∀ j u, (cellsK x).toList[j]? = some u → (W.alloc (.cells (cellsK x) 29 (0, 0))).cell? ((⟨W.heap.size, 0, none⟩ : Addr).add j) = some u := fun j u hu => by
    have e : (⟨W.heap.size, 0, none⟩ : Addr).add j = ⟨W.heap.size, j, none⟩ := by unfold Addr.add; split <;> simp_all
    rw [e, cell_of_row _ _ _ _ _ _ (heap_alloc_new W _), ← Array.getElem?_toList]
    exact hu
  have hr1 : (W.alloc (.cells (cellsK x) 29 (0, 0))).ownsRow W.heap.size 29 2 (.slice none 0 0) 0 [] := ⟨rfl, .inl ⟨rfl, rfl⟩⟩
  obtain ⟨v', W', h2, h3, h4, -⟩ := run_append_own (P := Try.prog) (W.alloc (.cells (cellsK x) 29 (0, 0))) W.heap.size 31 ty 29 i (encK K0) 2 i.bytes Try.underlying31 hi hz hs rfl rfl (by decide) (.slice none 0 0) 0 _ hr1 ⟨W.heap.size, 0, none⟩ 1 1 (cellsK x).toList rfl hnews h1 (by unfold maxLen; omega) (Nat.le_trans (Nat.mul_le_mul (show 0 + 1 ≤ 1 by omega) hb) (by omega)) (by simp)
  rcases h3.2 with ⟨-, h0⟩ | ⟨g, cap, cur, rfl, hg, hh, -, -, -, ht⟩
  · exact absurd h0 (by decide)
  · refine ⟨g, cap, W', h2, ?_, hg, hba.grown h4 (by simp) (fun r e => by cases e)⟩
    refine ⟨cur, hh, ?_⟩
    have : cur.toList[1]? = (cellsK x).toList[1]? := by
      have h5 : (cur.toList.take (1 * 2))[1]? = ([] ++ (cellsK x).toList)[1]? := by
        rw [show (1 : Nat) = 0 + 1 from rfl] at ht ⊢
        rw [ht]
      rw [List.getElem?_take] at h5
      simpa using h5
    rw [← Array.getElem?_toList, this]
    rfl
end Go.Proofs.Ytpojpkaeneamjaa.O.V
