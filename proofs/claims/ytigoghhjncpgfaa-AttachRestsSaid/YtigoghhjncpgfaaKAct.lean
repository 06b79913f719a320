/- Acts in memory; write, remove, ask. -/
import Derived.Test.YtigoghhjncpgfaaKGet
namespace Go.Proofs.Ytigoghhjncpgfaa.O.B
open Go Go.RowKit Go.Shelf Go.Lib RangeMap KM
attribute [local go_sem] Oper.semAt_some

def cellsC (c : Cl) : Array Value := #[.int .u8 c.verb, .string c.target, .int .u64 c.num, .int .i64 c.size, .string c.zone, .string c.node, .string c.source]
def encC (c : Cl) : Value := .agg (cellsC c)
def cellsA (a : Ac) : Array Value := #[.int .u8 a.act, .int .u8 a.obj.kind, .string a.obj.name, .int .u64 a.obj.version, .int .u64 a.obj.born, .bool a.obj.deleting, .bool a.obj.hold, .string a.obj.cls, .int .i64 a.obj.size, .int .i64 a.obj.got, .int .u8 a.obj.mode, .bool a.obj.keep, .bool a.obj.wait,
  .string a.obj.zone, .string a.obj.node, .string a.obj.claim, .string a.obj.volume, .string a.obj.source, .int .u8 a.obj.phase, .int .u64 a.obj.num, .int .u64 a.obj.tag,
  .int .u8 a.call.verb, .string a.call.target, .int .u64 a.call.num, .int .i64 a.call.size, .string a.call.zone, .string a.call.node, .string a.call.source]
def encA (a : Ac) : Value := .agg (cellsA a)
def BoxA (W : World) (b : Nat) (a : Ac) : Prop := W.heap[b]? = some (.cells (cellsA a) 42 (0, 0))
def BoxC (W : World) (b : Nat) (c : Cl) : Prop := W.heap[b]? = some (.cells (cellsC c) 40 (0, 0))
theorem undAct : Try.prog.underlying 42 = some (.struct (Try.prog.fieldsOf 42)) := by kernel_rfl
theorem sizeAct : (Try.prog.info? 42).map (·.size) = some 28 := by kernel_rfl
theorem undCall : Try.prog.underlying 40 = some (.struct (Try.prog.fieldsOf 40)) := by kernel_rfl
theorem sizeCall : (Try.prog.info? 40).map (·.size) = some 7 := by kernel_rfl
theorem one_cellsA (a : Ac) : (cellsA a).all (·.oneCell') = true := by simp [cellsA, Value.oneCell']
theorem BoxA.below {W W' : World} {b : Nat} {a : Ac} (h : BoxA W b a) {B : Nat} (hb : Below B W W') (hB : b < B) : BoxA W' b a := (hb.block b hB).trans h
theorem BoxA.lt {W : World} {b : Nat} {a : Ac} (h : BoxA W b a) : b < W.heap.size := (Array.getElem?_eq_some_iff.1 h).1
theorem BoxA.after {W W' : World} {b : Nat} {a : Ac} (h : BoxA W b a) (hb : Below W.heap.size W W') : BoxA W' b a := h.below hb h.lt

theorem exec_store_act {W : World} {b : Nat} {o p : Ac} (h : BoxA W b p) {oi : Oper} {a : Act} {x y : Operand} (ho : oi.op = .store 42 x y) (hx : a.eval x = .pointer (some ⟨b, 0, none⟩)) (hy : a.eval y = encA o) :
    (execOp a.eval oi).run Try.prog W = .ok .skip (W.setRow b (cellsA o)) := by
  have h1 := run_storeVar_row (P := Try.prog) W b 42 42 (cellsA p) (cellsA o) h sizeAct rfl (one_cellsA o)
  unfold execOp
  have hy' : a.eval y = .agg (cellsA o) := hy
  simp [ho, hx, hy', Instr.storeAt, Instr.sureAddr, h1, Result.andThen]
theorem BoxA.setRow {W : World} {b : Nat} {p : Ac} (h : BoxA W b p) (x : Ac) : BoxA (W.setRow b (cellsA x)) b x := setRow_heap W b _ _ _ _ h
/-- A store of a whole act: the world behind it by a name. -/
theorem acting {W : World} {b : Nat} {p : Ac} (h : BoxA W b p) (x : Ac) : ∃ V, (∀ {oi : Oper} {a : Act} {r q : Operand}, oi.op = .store 42 r q → a.eval r = .pointer (some ⟨b, 0, none⟩) → a.eval q = encA x → (execOp a.eval oi).run Try.prog W = .ok .skip V) ∧
    BoxA V b x ∧ (∀ g, g ≠ b → V.heap[g]? = W.heap[g]?) ∧ (∀ B A, Below B A W → B ≤ b → Below B A V) :=
  ⟨W.setRow b (cellsA x), fun h1 h2 h3 => exec_store_act h h1 h2 h3, h.setRow x, fun g hg => setRow_other W b g _ hg, fun _ _ h1 h2 => below_setRow h1 h2 _⟩
theorem load_call {W : World} {b : Nat} {c : Cl} (h : BoxC W b c) {oi : Oper} {a : Act} {x : Operand} (ho : oi.op = .load 40 x) (hx : a.eval x = .pointer (some ⟨b, 0, none⟩)) :
    (execOp a.eval oi).run Try.prog W = .ok (.value (encC c)) W := by
  unfold execOp
  simp only [ho, hx, Instr.loadAt, Instr.sureAddr, Sem.run_bind, Sem.run_pure, Result.andThen_ok, run_loadVar_row W b 40 40 (cellsC c) (0, 0) _ h undCall rfl sizeCall]
  rfl
theorem wpList_got {ops : Array Oper} {rest : List Oper} {oi : Oper} {a : Act} {W : World} {v : Value} {Q : Exit → Act → World → Prop} (hw : Region.wanted oi (yielded ops a.tmps) = true) (hv : (execOp a.eval oi).run Try.prog W = .ok (.value v) W)
    (hn : wpList Try.prog ops Q rest (a.put oi.dst v) W) : wpList Try.prog ops Q (oi :: rest) a W := by
  unfold wpList
  rw [if_pos hw]
  refine .inl ?_
  unfold Oper.wp
  rw [hv]
  exact hn
theorem built_write (o : Obj) : Try.prog.built 42 [(0, .int .u8 1), (1, encO o)] = some (cellsA (writeA o)) := by kernel_rfl
theorem built_remove (o : Obj) : Try.prog.built 42 [(0, .int .u8 2), (1, encO o)] = some (cellsA (removeA o)) := by kernel_rfl
theorem built_ask (c : Cl) : Try.prog.built 42 [(0, .int .u8 3), (2, encC c)] = some (cellsA (askA c)) := by kernel_rfl

set_option maxRecDepth 100000 in
set_option maxHeartbeats 2000000 in
theorem write_any (o : Obj) (w : World) : Calls Try.prog 47 #[encO o] w fun e w' => e = .returned (encA (writeA o)) ∧ Below w.heap.size w w' := by
  unfold encO
  go_enter Try.func47, Try.ntmps47
  go_upto_region 1 with (fail)
  refine wp_gen (fun V => BoxO V w.heap.size o ∧ BoxA V (w.heap.size + 1) nothing ∧ Below w.heap.size w V) (chain2 w _ _) ?_
  rintro V ⟨h1, h2, hlw⟩
  obtain ⟨V2, hst, ho, -, hb⟩ := acting h2 (writeA o)
  have HO := Lib.hid ho
  have HW := Lib.hid (hb _ _ hlw (by omega))
  clear h2 hlw ho hb
  go_wp2_with (first | (refine wpList_skip rfl (hst rfl rfl rfl) ?_) | ((with_reducible refine wpList_load_obj ?_ rfl ?_ h1 ?_); rfl; rfl) | ((with_reducible refine wpList_build_to rfl 42 _ rfl (cellsA (writeA o)) ?_ ?_); exact built_write o))
  refine bodyPost_ret (v := encA (writeA o)) (results_cell_row rfl _ _ (w.heap.size + 1) 42 (cellsA (writeA o)) (0, 0) _ rfl HO.out undAct rfl sizeAct) rfl ?_
  exact ⟨rfl, HW.out⟩
set_option maxRecDepth 100000 in
set_option maxHeartbeats 2000000 in
theorem remove_any (o : Obj) (w : World) : Calls Try.prog 46 #[encO o] w fun e w' => e = .returned (encA (removeA o)) ∧ Below w.heap.size w w' := by
  unfold encO
  go_enter Try.func46, Try.ntmps46
  go_upto_region 1 with (fail)
  refine wp_gen (fun V => BoxO V w.heap.size o ∧ BoxA V (w.heap.size + 1) nothing ∧ Below w.heap.size w V) (chain2 w _ _) ?_
  rintro V ⟨h1, h2, hlw⟩
  obtain ⟨V2, hst, ho, -, hb⟩ := acting h2 (removeA o)
  have HO := Lib.hid ho
  have HW := Lib.hid (hb _ _ hlw (by omega))
  clear h2 hlw ho hb
  go_wp2_with (first | (refine wpList_skip rfl (hst rfl rfl rfl) ?_) | ((with_reducible refine wpList_load_obj ?_ rfl ?_ h1 ?_); rfl; rfl) | ((with_reducible refine wpList_build_to rfl 42 _ rfl (cellsA (removeA o)) ?_ ?_); exact built_remove o))
  refine bodyPost_ret (v := encA (removeA o)) (results_cell_row rfl _ _ (w.heap.size + 1) 42 (cellsA (removeA o)) (0, 0) _ rfl HO.out undAct rfl sizeAct) rfl ?_
  exact ⟨rfl, HW.out⟩
set_option maxRecDepth 100000 in
set_option maxHeartbeats 2000000 in
theorem ask_any (c : Cl) (w : World) : Calls Try.prog 44 #[encC c] w fun e w' => e = .returned (encA (askA c)) ∧ Below w.heap.size w w' := by
  unfold encC
  go_enter Try.func44, Try.ntmps44
  go_upto_region 1 with (fail)
  refine wp_gen (fun V => BoxC V w.heap.size c ∧ BoxA V (w.heap.size + 1) nothing ∧ Below w.heap.size w V) (chain2 w _ _) ?_
  rintro V ⟨h1, h2, hlw⟩
  obtain ⟨V2, hst, ho, -, hb⟩ := acting h2 (askA c)
  have HO := Lib.hid ho
  have HW := Lib.hid (hb _ _ hlw (by omega))
  clear h2 hlw ho hb
  go_wp2_with (first | (refine wpList_skip rfl (hst rfl rfl rfl) ?_) | (refine wpList_got rfl (load_call h1 rfl rfl) ?_) | ((with_reducible refine wpList_build_to rfl 42 _ rfl (cellsA (askA c)) ?_ ?_); exact built_ask c))
  refine bodyPost_ret (v := encA (askA c)) (results_cell_row rfl _ _ (w.heap.size + 1) 42 (cellsA (askA c)) (0, 0) _ rfl HO.out undAct rfl sizeAct) rfl ?_
  exact ⟨rfl, HW.out⟩
end Go.Proofs.Ytigoghhjncpgfaa.O.B
