/- A change in memory, a key, a cache that is new; what a map that is new does. -/
import Derived.Test.YtpojpkaeneamjaaOCore
import Derived.Test.YtpojpkaeneamjaaKeyMap
import Derived.Test.YtpojpkaeneamjaaHeldBy
import Derived.Test.YtpojpkaeneamjaaLawEnd
import Derived.Laws.StructEq
import Derived.Deep.MidRow
import Derived.Outline
import Derived.LoopTactic
import Derived.OwnWalk
import Derived.WalkMore
namespace Go.Proofs.Ytpojpkaeneamjaa.O.V
open Go Go.RowKit Go.Lib
attribute [local go_sem] Oper.semAt_some

structure Ev where
  ver : Int
  gone : Bool
  obj : Obj
def cellsE (e : Ev) : Array Value := #[.int .u64 e.ver, .bool e.gone, .int .u8 e.obj.kind, .string e.obj.name, .int .u64 e.obj.version, .int .u64 e.obj.born, .bool e.obj.deleting, .bool e.obj.hold, .string e.obj.cls, .int .i64 e.obj.size, .int .i64 e.obj.got, .int .u8 e.obj.mode, .bool e.obj.keep, .bool e.obj.wait,
  .string e.obj.zone, .string e.obj.node, .string e.obj.claim, .string e.obj.volume, .string e.obj.source, .int .u8 e.obj.phase, .int .u64 e.obj.num, .int .u64 e.obj.tag]
def encE (e : Ev) : Value := .agg (cellsE e)
def BoxE (W : World) (b : Nat) (e : Ev) : Prop := W.heap[b]? = some (.cells (cellsE e) 85 (0, 0))
def E00 : Ev := ⟨0, false, O0⟩
theorem undEv : Try.prog.underlying 85 = some (.struct (Try.prog.fieldsOf 85)) := by kernel_rfl
theorem sizeEv : (Try.prog.info? 85).map (·.size) = some 22 := by kernel_rfl
theorem one_cellsE (e : Ev) : (cellsE e).all (·.oneCell') = true := by simp [cellsE, Value.oneCell']
section
variable {W W' : World} {b : Nat} {e : Ev}
theorem BoxE.lt (h : BoxE W b e) : b < W.heap.size := (Array.getElem?_eq_some_iff.1 h).1
theorem BoxE.after (h : BoxE W b e) (hb : Below W.heap.size W W') : BoxE W' b e := (hb.block b h.lt).trans h
theorem BoxE.c0 (h : BoxE W b e) : W.cell? ⟨b, 0, none⟩ = some (.int .u64 e.ver) := (cell_of_row W b 0 _ _ _ h).trans rfl
theorem BoxE.c1 (h : BoxE W b e) : W.cell? ⟨b, 1, none⟩ = some (.bool e.gone) := (cell_of_row W b 1 _ _ _ h).trans rfl
theorem BoxE.objAt (h : BoxE W b e) : W.rangeAt b 2 (cellsO e.obj).toList := by
  have he : ((cellsE e).extract 2 (2 + 20)).toList = (cellsO e.obj).toList := by kernel_rfl
  rw [← he]
  exact World.rangeAt_of_block h 2 20
end
theorem load_ev {W : World} {b : Nat} {e : Ev} (h : BoxE W b e) {oi : Oper} {a : Act} {x : Operand} (ho : oi.op = .load 85 x) (hx : a.eval x = .pointer (some ⟨b, 0, none⟩)) :
    (execOp a.eval oi).run Try.prog W = .ok (.value (encE e)) W := by
  unfold execOp
  simp only [ho, hx, Instr.loadAt, Instr.sureAddr, Sem.run_bind, Sem.run_pure, Result.andThen_ok, run_loadVar_row W b 85 85 (cellsE e) (0, 0) _ h undEv rfl sizeEv]
  rfl
theorem load_evobj {W : World} {b : Nat} {e : Ev} (h : BoxE W b e) {oi : Oper} {a : Act} {x : Operand} (ho : oi.op = .load 39 x) (hx : a.eval x = .pointer (some ⟨b, 2, none⟩)) :
    (execOp a.eval oi).run Try.prog W = .ok (.value (encO e.obj)) W := by
  have h1 := run_loadAt_mid (P := Try.prog) W b 2 39 (cellsO e.obj).toList _ h.objAt undObj rfl sizeObj
  unfold execOp
  simp only [ho, hx, Sem.run_bind, h1, Result.andThen_ok, Sem.run_pure]
  rfl
/-- A change's own box: the world behind it by a name. -/
theorem eventing (W : World) (x : Ev) : ∃ V, (∀ {oi : Oper} {a : Act} {p q : Operand}, oi.op = .store 85 p q → a.eval p = .pointer (some ⟨W.heap.size, 0, none⟩) → a.eval q = encE x → (execOp a.eval oi).run Try.prog (W.alloc (.cells (cellsE E00) 85 (0, 0))) = .ok .skip V) ∧
    BoxE V W.heap.size x ∧ Below W.heap.size W V := by
  have h0 : BoxE (W.alloc (.cells (cellsE E00) 85 (0, 0))) W.heap.size E00 := heap_alloc_new W _
  refine ⟨(W.alloc (.cells (cellsE E00) 85 (0, 0))).setRow W.heap.size (cellsE x), fun {oi a p q} ho hp hq => ?_, setRow_heap _ _ _ _ _ _ h0, below_setRow ((Below.refl _ _).alloc (Nat.le_refl _) _) (Nat.le_refl _) _⟩
  have h1 := run_storeVar_row (P := Try.prog) _ W.heap.size 85 85 (cellsE E00) (cellsE x) h0 sizeEv rfl (one_cellsE x)
  unfold execOp
  have hq' : a.eval q = .agg (cellsE x) := hq
  simp [ho, hp, hq', Instr.storeAt, Instr.sureAddr, h1, Result.andThen]
theorem wpList_skip {ops : Array Oper} {rest : List Oper} {oi : Oper} {a : Act} {W W' : World} {Q : Exit → Act → World → Prop} (hw : Region.wanted oi (yielded ops a.tmps) = true) (hv : (execOp a.eval oi).run Try.prog W = .ok .skip W')
    (hn : wpList Try.prog ops Q rest (a.put oi.dst undef) W') : wpList Try.prog ops Q (oi :: rest) a W := by
  unfold wpList
  rw [if_pos hw]
  refine .inl ?_
  unfold Oper.wp
  rw [hv]
  exact hn
theorem wpList_got {ops : Array Oper} {rest : List Oper} {oi : Oper} {a : Act} {W W' : World} {v : Value} {Q : Exit → Act → World → Prop} (hw : Region.wanted oi (yielded ops a.tmps) = true) (hv : (execOp a.eval oi).run Try.prog W = .ok (.value v) W')
    (hn : wpList Try.prog ops Q rest (a.put oi.dst v) W') : wpList Try.prog ops Q (oi :: rest) a W := by
  unfold wpList
  rw [if_pos hw]
  refine .inl ?_
  unfold Oper.wp
  rw [hv]
  exact hn
/-- Keys. -/
structure Ky where
  k : Int
  n : ByteArray
deriving DecidableEq
def cellsK (x : Ky) : Array Value := #[.int .u8 x.k, .string x.n]
def encK (x : Ky) : Value := .agg (cellsK x)
def BoxK (W : World) (b : Nat) (x : Ky) : Prop := W.heap[b]? = some (.cells (cellsK x) 29 (0, 0))
def K0 : Ky := ⟨0, E0⟩
theorem undKey : Try.prog.underlying 29 = some (.struct (Try.prog.fieldsOf 29)) := by kernel_rfl
theorem sizeKey : (Try.prog.info? 29).map (·.size) = some 2 := by kernel_rfl
theorem one_cellsK (x : Ky) : (cellsK x).all (·.oneCell') = true := by simp [cellsK, Value.oneCell']
section
variable {W W' : World} {b : Nat} {x : Ky}
theorem BoxK.lt (h : BoxK W b x) : b < W.heap.size := (Array.getElem?_eq_some_iff.1 h).1
theorem BoxK.after (h : BoxK W b x) (hb : Below W.heap.size W W') : BoxK W' b x := (hb.block b h.lt).trans h
theorem BoxK.c0 (h : BoxK W b x) : W.cell? ⟨b, 0, none⟩ = some (.int .u8 x.k) := (cell_of_row W b 0 _ _ _ h).trans rfl
theorem BoxK.c1 (h : BoxK W b x) : W.cell? ⟨b, 1, none⟩ = some (.string x.n) := (cell_of_row W b 1 _ _ _ h).trans rfl
end
theorem loadVar_key {W : World} {b : Nat} {k : Ky} (h : BoxK W b k) : (loadVar 29 ⟨b, 0, none⟩).run Try.prog W = .ok (encK k) W := run_loadVar_row W b 29 29 (cellsK k) (0, 0) _ h undKey rfl sizeKey
theorem load_key {W : World} {b : Nat} {k : Ky} (h : BoxK W b k) {oi : Oper} {a : Act} {x : Operand} (ho : oi.op = .load 29 x) (hx : a.eval x = .pointer (some ⟨b, 0, none⟩)) :
    (execOp a.eval oi).run Try.prog W = .ok (.value (encK k)) W := by
  unfold execOp
  simp only [ho, hx, Instr.loadAt, Instr.sureAddr, Sem.run_bind, Sem.run_pure, Result.andThen_ok, loadVar_key h]
theorem keying {W : World} {b : Nat} {p : Ky} (h0 : BoxK W b p) (x : Ky) : ∃ V, (∀ {oi : Oper} {a : Act} {p q : Operand}, oi.op = .store 29 p q → a.eval p = .pointer (some ⟨b, 0, none⟩) → a.eval q = encK x → (execOp a.eval oi).run Try.prog W = .ok .skip V) ∧
    BoxK V b x ∧ (∀ B A, Below B A W → B ≤ b → Below B A V) := by
  refine ⟨W.setRow b (cellsK x), fun {oi a p q} ho hp hq => ?_, setRow_heap _ _ _ _ _ _ h0, fun _ _ h1 h2 => below_setRow h1 h2 _⟩
  have h1 := run_storeVar_row (P := Try.prog) W b 29 29 _ (cellsK x) h0 sizeKey rfl (one_cellsK x)
  unfold execOp
  have hq' : a.eval q = .agg (cellsK x) := hq
  simp [ho, hp, hq', Instr.storeAt, Instr.sureAddr, h1, Result.andThen]
theorem built_key (k : Int) (n : ByteArray) : Try.prog.built 29 [(0, .int .u8 k), (1, .string n)] = some (cellsK ⟨k, n⟩) := by kernel_rfl
/-- A cache that is new. -/
def CacheAt (W : World) (c : Nat) (m : Nat) (v : Int) : Prop := W.heap[c]? = some (.cells #[.map (some m), .int .u64 v] 83 (0, 0))
section
variable {W W' : World} {c m : Nat} {v : Int}
theorem CacheAt.lt (h : CacheAt W c m v) : c < W.heap.size := (Array.getElem?_eq_some_iff.1 h).1
theorem CacheAt.after (h : CacheAt W c m v) (hb : Below W.heap.size W W') : CacheAt W' c m v := (hb.block c h.lt).trans h
theorem CacheAt.c0 (h : CacheAt W c m v) : W.cell? ⟨c, 0, none⟩ = some (.map (some m)) := (cell_of_row W c 0 _ _ _ h).trans rfl
theorem CacheAt.c1 (h : CacheAt W c m v) : W.cell? ⟨c, 1, none⟩ = some (.int .u64 v) := (cell_of_row W c 1 _ _ _ h).trans rfl
theorem CacheAt.free (h : CacheAt W c m v) (i : Nat) : W.frozen? ⟨c, i, none⟩ = false := frozen_of_row W c i _ _ h
theorem CacheAt.s1 (h : CacheAt W c m v) (u : Int) : CacheAt (W.setCell ⟨c, 1, none⟩ (.int .u64 u)) c m u := (heap_setCell_same W c 1 _ _ _ h).trans rfl
end

theorem key_of (o : Obj) (w : World) : Calls Try.prog 61 #[encO o] w fun e w' => e = .returned (encK ⟨o.kind, o.name⟩) ∧ Below w.heap.size w w' := by
  unfold encO
  go_enter Try.func61, Try.ntmps61
  go_upto_region 1 with (fail)
  refine wp_gen (fun W => BoxO W w.heap.size o ∧ BoxK W (w.heap.size + 1) K0 ∧ Below w.heap.size w W) ⟨(BoxO.new w o).alloc _, heap_alloc2_new w _ _, ((Below.refl _ _).alloc (Nat.le_refl _) _).alloc (by simp) _⟩ ?_
  rintro W1 ⟨hb, hk, hlow⟩
  have c0 := hb.c0
  have c1 := hb.c1
  obtain ⟨V, hs, hv, hbl⟩ := keying hk ⟨o.kind, o.name⟩
  have HV := Lib.hid hv
  have HX := Lib.hid (hbl _ _ hlow (by omega))
  clear hb hk hlow hv hbl
  go_wp2_with (first | ((with_reducible refine wpList_build_to rfl 29 _ rfl (cellsK ⟨o.kind, o.name⟩) ?_ ?_); exact built_key _ _) | (refine wpList_skip rfl (hs rfl rfl rfl) ?_))
  refine bodyPost_ret (v := encK ⟨o.kind, o.name⟩) (results_cell_row rfl _ _ (w.heap.size + 1) 29 (cellsK ⟨o.kind, o.name⟩) (0, 0) _ rfl HV.out undKey rfl sizeKey) rfl ?_
  exact ⟨rfl, HX.out⟩
end Go.Proofs.Ytpojpkaeneamjaa.O.V
