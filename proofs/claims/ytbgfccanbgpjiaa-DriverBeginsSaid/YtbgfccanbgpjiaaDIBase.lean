/- Own work. -/
import Derived.Laws.StructEq
import Derived.Deep.MidRow
import Derived.Outline
import Derived.LoopTactic
import Derived.OwnWalk
import Derived.WalkMore
import Derived.ProofKit
import Derived.Below
import Derived.Carry
import Derived.OpenShut
import Derived.Test.YtbgfccanbgpjiaaDJ00
namespace Go.Proofs.Ytbgfccanbgpjiaa.O.I
open Go Go.RowKit Go.Lib
attribute [local go_sem] Oper.semAt_some
theorem wpList_skip {ops : Array Oper} {rest : List Oper} {oi : Oper} {a : Act} {W W' : World} {Q : Exit → Act → World → Prop} (hw : Region.wanted oi (yielded ops a.tmps) = true) (hv : (execOp a.eval oi).run Try.prog W = .ok .skip W')
    (hn : wpList Try.prog ops Q rest (a.put oi.dst undef) W') : wpList Try.prog ops Q (oi :: rest) a W := by
  unfold wpList
  rw [if_pos hw]
  refine .inl ?_
  unfold Oper.wp
  rw [hv]
  exact hn
theorem wpList_got {ops : Array Oper} {rest : List Oper} {oi : Oper} {a : Act} {W W' : World} {v : Value} {Q : Exit → Act → World → Prop} (hw : Region.wanted oi (yielded ops a.tmps) = true) (hv : (execOp a.eval oi).run Try.prog W = .ok (.value v) W')
    (hn : wpList Try.prog ops Q rest (a.put oi.dst v) W') : wpList Try.prog ops Q (oi :: rest) a W := by
  unfold wpList
  rw [if_pos hw]
  refine .inl ?_
  unfold Oper.wp
  rw [hv]
  exact hn
structure Cl where
  verb : Int
  target : ByteArray
  num : Int
  size : Int
  zone : ByteArray
  node : ByteArray
  source : ByteArray
deriving DecidableEq
def cellsC (x : Cl) : Array Value := #[.int .u8 x.verb, .string x.target, .int .u64 x.num, .int .i64 x.size, .string x.zone, .string x.node, .string x.source]
def zeroC : Cl := ⟨0, E0, 0, 0, E0, E0, E0⟩
def encC (x : Cl) : Value := .agg (cellsC x)
def BoxC (W : World) (b : Nat) (x : Cl) : Prop := W.heap[b]? = some (.cells (cellsC x) 27 (0, 0))
theorem undC : Try.prog.underlying 27 = some (.struct (Try.prog.fieldsOf 27)) := by kernel_rfl
theorem sizeC : (Try.prog.info? 27).map (·.size) = some 7 := by kernel_rfl
theorem one_cellsC (x : Cl) : (cellsC x).all (·.oneCell') = true := by simp [cellsC, Value.oneCell']
section
variable {W W' : World} {b : Nat} {x : Cl}
theorem BoxC.lt (h : BoxC W b x) : b < W.heap.size := (Array.getElem?_eq_some_iff.1 h).1
theorem BoxC.after (h : BoxC W b x) (hb : Below W.heap.size W W') : BoxC W' b x := (hb.block b h.lt).trans h
theorem BoxC.c0 (h : BoxC W b x) : W.cell? ⟨b, 0, none⟩ = some (.int .u8 x.verb) := (cell_of_row W b 0 _ _ _ h).trans rfl
theorem BoxC.c1 (h : BoxC W b x) : W.cell? ⟨b, 1, none⟩ = some (.string x.target) := (cell_of_row W b 1 _ _ _ h).trans rfl
theorem BoxC.c2 (h : BoxC W b x) : W.cell? ⟨b, 2, none⟩ = some (.int .u64 x.num) := (cell_of_row W b 2 _ _ _ h).trans rfl
theorem BoxC.c3 (h : BoxC W b x) : W.cell? ⟨b, 3, none⟩ = some (.int .i64 x.size) := (cell_of_row W b 3 _ _ _ h).trans rfl
theorem BoxC.c4 (h : BoxC W b x) : W.cell? ⟨b, 4, none⟩ = some (.string x.zone) := (cell_of_row W b 4 _ _ _ h).trans rfl
theorem BoxC.c5 (h : BoxC W b x) : W.cell? ⟨b, 5, none⟩ = some (.string x.node) := (cell_of_row W b 5 _ _ _ h).trans rfl
theorem BoxC.c6 (h : BoxC W b x) : W.cell? ⟨b, 6, none⟩ = some (.string x.source) := (cell_of_row W b 6 _ _ _ h).trans rfl
theorem BoxC.free (h : BoxC W b x) (i : Nat) : W.frozen? ⟨b, i, none⟩ = false := frozen_of_row W b i _ _ h
theorem loadC (h : BoxC W b x) {oi : Oper} {a : Act} {p : Operand} (ho : oi.op = .load 27 p) (hx : a.eval p = .pointer (some ⟨b, 0, none⟩)) : (execOp a.eval oi).run Try.prog W = .ok (.value (encC x)) W := by
  unfold execOp
  simp only [ho, hx, Instr.loadAt, Instr.sureAddr, Sem.run_bind, Sem.run_pure, Result.andThen_ok, run_loadVar_row W b 27 27 (cellsC x) (0, 0) _ h undC rfl sizeC]
  rfl
end
theorem stoC {W : World} {b : Nat} {p : Cl} (h0 : BoxC W b p) (x : Cl) : ∃ V, (∀ {oi : Oper} {a : Act} {p q : Operand}, oi.op = .store 27 p q → a.eval p = .pointer (some ⟨b, 0, none⟩) → a.eval q = encC x → (execOp a.eval oi).run Try.prog W = .ok .skip V) ∧
    BoxC V b x ∧ (∀ g, g ≠ b → V.heap[g]? = W.heap[g]?) ∧ (∀ B A, Below B A W → B ≤ b → Below B A V) := by
  refine ⟨W.setRow b (cellsC x), fun {oi a p q} ho hp hq => ?_, setRow_heap _ _ _ _ _ _ h0, fun g hg => setRow_other W b g _ hg, fun _ _ h1 h2 => below_setRow h1 h2 _⟩
  have h1 := run_storeVar_row (P := Try.prog) W b 27 27 _ (cellsC x) h0 sizeC rfl (one_cellsC x)
  unfold execOp
  have hq' : a.eval q = .agg (cellsC x) := hq
  simp [ho, hp, hq', Instr.storeAt, Instr.sureAddr, h1, Result.andThen]
theorem boxC (W : World) {z : Array Value} (y : Cl) (hz : z = cellsC y) (x : Cl) : ∃ V, (∀ {oi : Oper} {a : Act} {p q : Operand}, oi.op = .store 27 p q → a.eval p = .pointer (some ⟨W.heap.size, 0, none⟩) → a.eval q = encC x → (execOp a.eval oi).run Try.prog (W.alloc (.cells z 27 (0, 0))) = .ok .skip V) ∧
    BoxC V W.heap.size x ∧ Below W.heap.size W V := by
  subst hz
  obtain ⟨V, h1, h2, -, h3⟩ := stoC (show BoxC (W.alloc (.cells (cellsC y) 27 (0, 0))) W.heap.size y from heap_alloc_new W _) x
  exact ⟨V, h1, h2, h3 _ _ ((Below.refl _ _).alloc (Nat.le_refl _) _) (Nat.le_refl _)⟩
structure Rs where
  err : Int
  size : Int
  zone : ByteArray
  tag : Int
deriving DecidableEq
def cellsR (x : Rs) : Array Value := #[.int .i64 x.err, .int .i64 x.size, .string x.zone, .int .u64 x.tag]
def zeroR : Rs := ⟨0, 0, E0, 0⟩
def encR (x : Rs) : Value := .agg (cellsR x)
def BoxR (W : World) (b : Nat) (x : Rs) : Prop := W.heap[b]? = some (.cells (cellsR x) 50 (0, 0))
theorem undR : Try.prog.underlying 50 = some (.struct (Try.prog.fieldsOf 50)) := by kernel_rfl
theorem sizeR : (Try.prog.info? 50).map (·.size) = some 4 := by kernel_rfl
theorem one_cellsR (x : Rs) : (cellsR x).all (·.oneCell') = true := by simp [cellsR, Value.oneCell']
section
variable {W W' : World} {b : Nat} {x : Rs}
theorem BoxR.lt (h : BoxR W b x) : b < W.heap.size := (Array.getElem?_eq_some_iff.1 h).1
theorem BoxR.after (h : BoxR W b x) (hb : Below W.heap.size W W') : BoxR W' b x := (hb.block b h.lt).trans h
theorem BoxR.c0 (h : BoxR W b x) : W.cell? ⟨b, 0, none⟩ = some (.int .i64 x.err) := (cell_of_row W b 0 _ _ _ h).trans rfl
theorem BoxR.c1 (h : BoxR W b x) : W.cell? ⟨b, 1, none⟩ = some (.int .i64 x.size) := (cell_of_row W b 1 _ _ _ h).trans rfl
theorem BoxR.c2 (h : BoxR W b x) : W.cell? ⟨b, 2, none⟩ = some (.string x.zone) := (cell_of_row W b 2 _ _ _ h).trans rfl
theorem BoxR.c3 (h : BoxR W b x) : W.cell? ⟨b, 3, none⟩ = some (.int .u64 x.tag) := (cell_of_row W b 3 _ _ _ h).trans rfl
theorem BoxR.free (h : BoxR W b x) (i : Nat) : W.frozen? ⟨b, i, none⟩ = false := frozen_of_row W b i _ _ h
theorem loadR (h : BoxR W b x) {oi : Oper} {a : Act} {p : Operand} (ho : oi.op = .load 50 p) (hx : a.eval p = .pointer (some ⟨b, 0, none⟩)) : (execOp a.eval oi).run Try.prog W = .ok (.value (encR x)) W := by
  unfold execOp
  simp only [ho, hx, Instr.loadAt, Instr.sureAddr, Sem.run_bind, Sem.run_pure, Result.andThen_ok, run_loadVar_row W b 50 50 (cellsR x) (0, 0) _ h undR rfl sizeR]
  rfl
end
theorem stoR {W : World} {b : Nat} {p : Rs} (h0 : BoxR W b p) (x : Rs) : ∃ V, (∀ {oi : Oper} {a : Act} {p q : Operand}, oi.op = .store 50 p q → a.eval p = .pointer (some ⟨b, 0, none⟩) → a.eval q = encR x → (execOp a.eval oi).run Try.prog W = .ok .skip V) ∧
    BoxR V b x ∧ (∀ g, g ≠ b → V.heap[g]? = W.heap[g]?) ∧ (∀ B A, Below B A W → B ≤ b → Below B A V) := by
  refine ⟨W.setRow b (cellsR x), fun {oi a p q} ho hp hq => ?_, setRow_heap _ _ _ _ _ _ h0, fun g hg => setRow_other W b g _ hg, fun _ _ h1 h2 => below_setRow h1 h2 _⟩
  have h1 := run_storeVar_row (P := Try.prog) W b 50 50 _ (cellsR x) h0 sizeR rfl (one_cellsR x)
  unfold execOp
  have hq' : a.eval q = .agg (cellsR x) := hq
  simp [ho, hp, hq', Instr.storeAt, Instr.sureAddr, h1, Result.andThen]
theorem boxR (W : World) {z : Array Value} (y : Rs) (hz : z = cellsR y) (x : Rs) : ∃ V, (∀ {oi : Oper} {a : Act} {p q : Operand}, oi.op = .store 50 p q → a.eval p = .pointer (some ⟨W.heap.size, 0, none⟩) → a.eval q = encR x → (execOp a.eval oi).run Try.prog (W.alloc (.cells z 50 (0, 0))) = .ok .skip V) ∧
    BoxR V W.heap.size x ∧ Below W.heap.size W V := by
  subst hz
  obtain ⟨V, h1, h2, -, h3⟩ := stoR (show BoxR (W.alloc (.cells (cellsR y) 50 (0, 0))) W.heap.size y from heap_alloc_new W _) x
  exact ⟨V, h1, h2, h3 _ _ ((Below.refl _ _).alloc (Nat.le_refl _) _) (Nat.le_refl _)⟩
structure Tg where
  snap : Bool
  name : ByteArray
deriving DecidableEq
def cellsT (x : Tg) : Array Value := #[.bool x.snap, .string x.name]
def zeroT : Tg := ⟨false, E0⟩
def encT (x : Tg) : Value := .agg (cellsT x)
def BoxT (W : World) (b : Nat) (x : Tg) : Prop := W.heap[b]? = some (.cells (cellsT x) 106 (0, 0))
theorem undT : Try.prog.underlying 106 = some (.struct (Try.prog.fieldsOf 106)) := by kernel_rfl
theorem sizeT : (Try.prog.info? 106).map (·.size) = some 2 := by kernel_rfl
theorem one_cellsT (x : Tg) : (cellsT x).all (·.oneCell') = true := by simp [cellsT, Value.oneCell']
section
variable {W W' : World} {b : Nat} {x : Tg}
theorem BoxT.lt (h : BoxT W b x) : b < W.heap.size := (Array.getElem?_eq_some_iff.1 h).1
theorem BoxT.after (h : BoxT W b x) (hb : Below W.heap.size W W') : BoxT W' b x := (hb.block b h.lt).trans h
theorem BoxT.c0 (h : BoxT W b x) : W.cell? ⟨b, 0, none⟩ = some (.bool x.snap) := (cell_of_row W b 0 _ _ _ h).trans rfl
theorem BoxT.c1 (h : BoxT W b x) : W.cell? ⟨b, 1, none⟩ = some (.string x.name) := (cell_of_row W b 1 _ _ _ h).trans rfl
theorem BoxT.free (h : BoxT W b x) (i : Nat) : W.frozen? ⟨b, i, none⟩ = false := frozen_of_row W b i _ _ h
theorem loadT (h : BoxT W b x) {oi : Oper} {a : Act} {p : Operand} (ho : oi.op = .load 106 p) (hx : a.eval p = .pointer (some ⟨b, 0, none⟩)) : (execOp a.eval oi).run Try.prog W = .ok (.value (encT x)) W := by
  unfold execOp
  simp only [ho, hx, Instr.loadAt, Instr.sureAddr, Sem.run_bind, Sem.run_pure, Result.andThen_ok, run_loadVar_row W b 106 106 (cellsT x) (0, 0) _ h undT rfl sizeT]
  rfl
end
theorem stoT {W : World} {b : Nat} {p : Tg} (h0 : BoxT W b p) (x : Tg) : ∃ V, (∀ {oi : Oper} {a : Act} {p q : Operand}, oi.op = .store 106 p q → a.eval p = .pointer (some ⟨b, 0, none⟩) → a.eval q = encT x → (execOp a.eval oi).run Try.prog W = .ok .skip V) ∧
    BoxT V b x ∧ (∀ g, g ≠ b → V.heap[g]? = W.heap[g]?) ∧ (∀ B A, Below B A W → B ≤ b → Below B A V) := by
  refine ⟨W.setRow b (cellsT x), fun {oi a p q} ho hp hq => ?_, setRow_heap _ _ _ _ _ _ h0, fun g hg => setRow_other W b g _ hg, fun _ _ h1 h2 => below_setRow h1 h2 _⟩
  have h1 := run_storeVar_row (P := Try.prog) W b 106 106 _ (cellsT x) h0 sizeT rfl (one_cellsT x)
  unfold execOp
  have hq' : a.eval q = .agg (cellsT x) := hq
  simp [ho, hp, hq', Instr.storeAt, Instr.sureAddr, h1, Result.andThen]
theorem boxT (W : World) {z : Array Value} (y : Tg) (hz : z = cellsT y) (x : Tg) : ∃ V, (∀ {oi : Oper} {a : Act} {p q : Operand}, oi.op = .store 106 p q → a.eval p = .pointer (some ⟨W.heap.size, 0, none⟩) → a.eval q = encT x → (execOp a.eval oi).run Try.prog (W.alloc (.cells z 106 (0, 0))) = .ok .skip V) ∧
    BoxT V W.heap.size x ∧ Below W.heap.size W V := by
  subst hz
  obtain ⟨V, h1, h2, -, h3⟩ := stoT (show BoxT (W.alloc (.cells (cellsT y) 106 (0, 0))) W.heap.size y from heap_alloc_new W _) x
  exact ⟨V, h1, h2, h3 _ _ ((Below.refl _ _).alloc (Nat.le_refl _) _) (Nat.le_refl _)⟩
structure Ct where
  size : Int
  tag : Int
deriving DecidableEq
def cellsK (x : Ct) : Array Value := #[.int .i64 x.size, .int .u64 x.tag]
def zeroK : Ct := ⟨0, 0⟩
def encK (x : Ct) : Value := .agg (cellsK x)
def BoxK (W : World) (b : Nat) (x : Ct) : Prop := W.heap[b]? = some (.cells (cellsK x) 92 (0, 0))
theorem undK : Try.prog.underlying 92 = some (.struct (Try.prog.fieldsOf 92)) := by kernel_rfl
theorem sizeK : (Try.prog.info? 92).map (·.size) = some 2 := by kernel_rfl
theorem one_cellsK (x : Ct) : (cellsK x).all (·.oneCell') = true := by simp [cellsK, Value.oneCell']
section
variable {W W' : World} {b : Nat} {x : Ct}
theorem BoxK.lt (h : BoxK W b x) : b < W.heap.size := (Array.getElem?_eq_some_iff.1 h).1
theorem BoxK.after (h : BoxK W b x) (hb : Below W.heap.size W W') : BoxK W' b x := (hb.block b h.lt).trans h
theorem BoxK.c0 (h : BoxK W b x) : W.cell? ⟨b, 0, none⟩ = some (.int .i64 x.size) := (cell_of_row W b 0 _ _ _ h).trans rfl
theorem BoxK.c1 (h : BoxK W b x) : W.cell? ⟨b, 1, none⟩ = some (.int .u64 x.tag) := (cell_of_row W b 1 _ _ _ h).trans rfl
theorem BoxK.free (h : BoxK W b x) (i : Nat) : W.frozen? ⟨b, i, none⟩ = false := frozen_of_row W b i _ _ h
theorem loadK (h : BoxK W b x) {oi : Oper} {a : Act} {p : Operand} (ho : oi.op = .load 92 p) (hx : a.eval p = .pointer (some ⟨b, 0, none⟩)) : (execOp a.eval oi).run Try.prog W = .ok (.value (encK x)) W := by
  unfold execOp
  simp only [ho, hx, Instr.loadAt, Instr.sureAddr, Sem.run_bind, Sem.run_pure, Result.andThen_ok, run_loadVar_row W b 92 92 (cellsK x) (0, 0) _ h undK rfl sizeK]
  rfl
end
theorem stoK {W : World} {b : Nat} {p : Ct} (h0 : BoxK W b p) (x : Ct) : ∃ V, (∀ {oi : Oper} {a : Act} {p q : Operand}, oi.op = .store 92 p q → a.eval p = .pointer (some ⟨b, 0, none⟩) → a.eval q = encK x → (execOp a.eval oi).run Try.prog W = .ok .skip V) ∧
    BoxK V b x ∧ (∀ g, g ≠ b → V.heap[g]? = W.heap[g]?) ∧ (∀ B A, Below B A W → B ≤ b → Below B A V) := by
  refine ⟨W.setRow b (cellsK x), fun {oi a p q} ho hp hq => ?_, setRow_heap _ _ _ _ _ _ h0, fun g hg => setRow_other W b g _ hg, fun _ _ h1 h2 => below_setRow h1 h2 _⟩
  have h1 := run_storeVar_row (P := Try.prog) W b 92 92 _ (cellsK x) h0 sizeK rfl (one_cellsK x)
  unfold execOp
  have hq' : a.eval q = .agg (cellsK x) := hq
  simp [ho, hp, hq', Instr.storeAt, Instr.sureAddr, h1, Result.andThen]
theorem boxK (W : World) {z : Array Value} (y : Ct) (hz : z = cellsK y) (x : Ct) : ∃ V, (∀ {oi : Oper} {a : Act} {p q : Operand}, oi.op = .store 92 p q → a.eval p = .pointer (some ⟨W.heap.size, 0, none⟩) → a.eval q = encK x → (execOp a.eval oi).run Try.prog (W.alloc (.cells z 92 (0, 0))) = .ok .skip V) ∧
    BoxK V W.heap.size x ∧ Below W.heap.size W V := by
  subst hz
  obtain ⟨V, h1, h2, -, h3⟩ := stoK (show BoxK (W.alloc (.cells (cellsK y) 92 (0, 0))) W.heap.size y from heap_alloc_new W _) x
  exact ⟨V, h1, h2, h3 _ _ ((Below.refl _ _).alloc (Nat.le_refl _) _) (Nat.le_refl _)⟩
structure Vl where
  size : Int
  tag : Int
  zone : ByteArray
  nodes : Option Nat
deriving DecidableEq
def cellsV (x : Vl) : Array Value := #[.int .i64 x.size, .int .u64 x.tag, .string x.zone, .map x.nodes]
def zeroV : Vl := ⟨0, 0, E0, none⟩
def encV (x : Vl) : Value := .agg (cellsV x)
def BoxV (W : World) (b : Nat) (x : Vl) : Prop := W.heap[b]? = some (.cells (cellsV x) 95 (0, 0))
theorem undV : Try.prog.underlying 95 = some (.struct (Try.prog.fieldsOf 95)) := by kernel_rfl
theorem sizeV : (Try.prog.info? 95).map (·.size) = some 4 := by kernel_rfl
theorem one_cellsV (x : Vl) : (cellsV x).all (·.oneCell') = true := by simp [cellsV, Value.oneCell']
section
variable {W W' : World} {b : Nat} {x : Vl}
theorem BoxV.lt (h : BoxV W b x) : b < W.heap.size := (Array.getElem?_eq_some_iff.1 h).1
theorem BoxV.after (h : BoxV W b x) (hb : Below W.heap.size W W') : BoxV W' b x := (hb.block b h.lt).trans h
theorem BoxV.c0 (h : BoxV W b x) : W.cell? ⟨b, 0, none⟩ = some (.int .i64 x.size) := (cell_of_row W b 0 _ _ _ h).trans rfl
theorem BoxV.c1 (h : BoxV W b x) : W.cell? ⟨b, 1, none⟩ = some (.int .u64 x.tag) := (cell_of_row W b 1 _ _ _ h).trans rfl
theorem BoxV.c2 (h : BoxV W b x) : W.cell? ⟨b, 2, none⟩ = some (.string x.zone) := (cell_of_row W b 2 _ _ _ h).trans rfl
theorem BoxV.c3 (h : BoxV W b x) : W.cell? ⟨b, 3, none⟩ = some (.map x.nodes) := (cell_of_row W b 3 _ _ _ h).trans rfl
theorem BoxV.free (h : BoxV W b x) (i : Nat) : W.frozen? ⟨b, i, none⟩ = false := frozen_of_row W b i _ _ h
theorem loadV (h : BoxV W b x) {oi : Oper} {a : Act} {p : Operand} (ho : oi.op = .load 95 p) (hx : a.eval p = .pointer (some ⟨b, 0, none⟩)) : (execOp a.eval oi).run Try.prog W = .ok (.value (encV x)) W := by
  unfold execOp
  simp only [ho, hx, Instr.loadAt, Instr.sureAddr, Sem.run_bind, Sem.run_pure, Result.andThen_ok, run_loadVar_row W b 95 95 (cellsV x) (0, 0) _ h undV rfl sizeV]
  rfl
end
theorem stoV {W : World} {b : Nat} {p : Vl} (h0 : BoxV W b p) (x : Vl) : ∃ V, (∀ {oi : Oper} {a : Act} {p q : Operand}, oi.op = .store 95 p q → a.eval p = .pointer (some ⟨b, 0, none⟩) → a.eval q = encV x → (execOp a.eval oi).run Try.prog W = .ok .skip V) ∧
    BoxV V b x ∧ (∀ g, g ≠ b → V.heap[g]? = W.heap[g]?) ∧ (∀ B A, Below B A W → B ≤ b → Below B A V) := by
  refine ⟨W.setRow b (cellsV x), fun {oi a p q} ho hp hq => ?_, setRow_heap _ _ _ _ _ _ h0, fun g hg => setRow_other W b g _ hg, fun _ _ h1 h2 => below_setRow h1 h2 _⟩
  have h1 := run_storeVar_row (P := Try.prog) W b 95 95 _ (cellsV x) h0 sizeV rfl (one_cellsV x)
  unfold execOp
  have hq' : a.eval q = .agg (cellsV x) := hq
  simp [ho, hp, hq', Instr.storeAt, Instr.sureAddr, h1, Result.andThen]
theorem boxV (W : World) {z : Array Value} (y : Vl) (hz : z = cellsV y) (x : Vl) : ∃ V, (∀ {oi : Oper} {a : Act} {p q : Operand}, oi.op = .store 95 p q → a.eval p = .pointer (some ⟨W.heap.size, 0, none⟩) → a.eval q = encV x → (execOp a.eval oi).run Try.prog (W.alloc (.cells z 95 (0, 0))) = .ok .skip V) ∧
    BoxV V W.heap.size x ∧ Below W.heap.size W V := by
  subst hz
  obtain ⟨V, h1, h2, -, h3⟩ := stoV (show BoxV (W.alloc (.cells (cellsV y) 95 (0, 0))) W.heap.size y from heap_alloc_new W _) x
  exact ⟨V, h1, h2, h3 _ _ ((Below.refl _ _).alloc (Nat.le_refl _) _) (Nat.le_refl _)⟩
structure Zn where
  name : ByteArray
  room : Int
deriving DecidableEq
def cellsZ (x : Zn) : Array Value := #[.string x.name, .int .i64 x.room]
def zeroZ : Zn := ⟨E0, 0⟩
def encZ (x : Zn) : Value := .agg (cellsZ x)
def BoxZ (W : World) (b : Nat) (x : Zn) : Prop := W.heap[b]? = some (.cells (cellsZ x) 42 (0, 0))
theorem sizeZ : (Try.prog.info? 42).map (·.size) = some 2 := by kernel_rfl
theorem one_cellsZ (x : Zn) : (cellsZ x).all (·.oneCell') = true := by simp [cellsZ, Value.oneCell']
section
variable {W W' : World} {b : Nat} {x : Zn}
theorem BoxZ.lt (h : BoxZ W b x) : b < W.heap.size := (Array.getElem?_eq_some_iff.1 h).1
theorem BoxZ.after (h : BoxZ W b x) (hb : Below W.heap.size W W') : BoxZ W' b x := (hb.block b h.lt).trans h
theorem BoxZ.c0 (h : BoxZ W b x) : W.cell? ⟨b, 0, none⟩ = some (.string x.name) := (cell_of_row W b 0 _ _ _ h).trans rfl
theorem BoxZ.c1 (h : BoxZ W b x) : W.cell? ⟨b, 1, none⟩ = some (.int .i64 x.room) := (cell_of_row W b 1 _ _ _ h).trans rfl
theorem BoxZ.free (h : BoxZ W b x) (i : Nat) : W.frozen? ⟨b, i, none⟩ = false := frozen_of_row W b i _ _ h
end
theorem stoZ {W : World} {b : Nat} {p : Zn} (h0 : BoxZ W b p) (x : Zn) : ∃ V, (∀ {oi : Oper} {a : Act} {p q : Operand}, oi.op = .store 42 p q → a.eval p = .pointer (some ⟨b, 0, none⟩) → a.eval q = encZ x → (execOp a.eval oi).run Try.prog W = .ok .skip V) ∧
    BoxZ V b x ∧ (∀ g, g ≠ b → V.heap[g]? = W.heap[g]?) ∧ (∀ B A, Below B A W → B ≤ b → Below B A V) := by
  refine ⟨W.setRow b (cellsZ x), fun {oi a p q} ho hp hq => ?_, setRow_heap _ _ _ _ _ _ h0, fun g hg => setRow_other W b g _ hg, fun _ _ h1 h2 => below_setRow h1 h2 _⟩
  have h1 := run_storeVar_row (P := Try.prog) W b 42 42 _ (cellsZ x) h0 sizeZ rfl (one_cellsZ x)
  unfold execOp
  have hq' : a.eval q = .agg (cellsZ x) := hq
  simp [ho, hp, hq', Instr.storeAt, Instr.sureAddr, h1, Result.andThen]
theorem boxZ (W : World) {z : Array Value} (y : Zn) (hz : z = cellsZ y) (x : Zn) : ∃ V, (∀ {oi : Oper} {a : Act} {p q : Operand}, oi.op = .store 42 p q → a.eval p = .pointer (some ⟨W.heap.size, 0, none⟩) → a.eval q = encZ x → (execOp a.eval oi).run Try.prog (W.alloc (.cells z 42 (0, 0))) = .ok .skip V) ∧
    BoxZ V W.heap.size x ∧ Below W.heap.size W V := by
  subst hz
  obtain ⟨V, h1, h2, -, h3⟩ := stoZ (show BoxZ (W.alloc (.cells (cellsZ y) 42 (0, 0))) W.heap.size y from heap_alloc_new W _) x
  exact ⟨V, h1, h2, h3 _ _ ((Below.refl _ _).alloc (Nat.le_refl _) _) (Nat.le_refl _)⟩
structure Dr where
  rooms : Option Nat
  vols : Option Nat
  snaps : Option Nat
  done : Option Nat
deriving DecidableEq
def cellsD (x : Dr) : Array Value := #[.map x.rooms, .map x.vols, .map x.snaps, .map x.done]
def encD (x : Dr) : Value := .agg (cellsD x)
def BoxD (W : World) (b : Nat) (x : Dr) : Prop := W.heap[b]? = some (.cells (cellsD x) 84 (0, 0))
section
variable {W W' : World} {b : Nat} {x : Dr}
theorem BoxD.lt (h : BoxD W b x) : b < W.heap.size := (Array.getElem?_eq_some_iff.1 h).1
theorem BoxD.after (h : BoxD W b x) (hb : Below W.heap.size W W') : BoxD W' b x := (hb.block b h.lt).trans h
theorem BoxD.c0 (h : BoxD W b x) : W.cell? ⟨b, 0, none⟩ = some (.map x.rooms) := (cell_of_row W b 0 _ _ _ h).trans rfl
theorem BoxD.c1 (h : BoxD W b x) : W.cell? ⟨b, 1, none⟩ = some (.map x.vols) := (cell_of_row W b 1 _ _ _ h).trans rfl
theorem BoxD.c2 (h : BoxD W b x) : W.cell? ⟨b, 2, none⟩ = some (.map x.snaps) := (cell_of_row W b 2 _ _ _ h).trans rfl
theorem BoxD.c3 (h : BoxD W b x) : W.cell? ⟨b, 3, none⟩ = some (.map x.done) := (cell_of_row W b 3 _ _ _ h).trans rfl
theorem BoxD.free (h : BoxD W b x) (i : Nat) : W.frozen? ⟨b, i, none⟩ = false := frozen_of_row W b i _ _ h
end
structure Pc where
  call : Cl
  res : Rs
deriving DecidableEq
def cellsP (x : Pc) : Array Value := #[.int .u8 x.call.verb, .string x.call.target, .int .u64 x.call.num, .int .i64 x.call.size, .string x.call.zone, .string x.call.node, .string x.call.source, .int .i64 x.res.err, .int .i64 x.res.size, .string x.res.zone, .int .u64 x.res.tag]
def zeroP : Pc := ⟨zeroC, zeroR⟩
def encP (x : Pc) : Value := .agg (cellsP x)
def BoxP (W : World) (b : Nat) (x : Pc) : Prop := W.heap[b]? = some (.cells (cellsP x) 109 (0, 0))
theorem sizeP : (Try.prog.info? 109).map (·.size) = some 11 := by kernel_rfl
theorem one_cellsP (x : Pc) : (cellsP x).all (·.oneCell') = true := by simp [cellsP, Value.oneCell']
section
variable {W W' : World} {b : Nat} {x : Pc}
theorem BoxP.lt (h : BoxP W b x) : b < W.heap.size := (Array.getElem?_eq_some_iff.1 h).1
theorem BoxP.after (h : BoxP W b x) (hb : Below W.heap.size W W') : BoxP W' b x := (hb.block b h.lt).trans h
theorem BoxP.c0 (h : BoxP W b x) : W.cell? ⟨b, 0, none⟩ = some (.int .u8 x.call.verb) := (cell_of_row W b 0 _ _ _ h).trans rfl
theorem BoxP.c1 (h : BoxP W b x) : W.cell? ⟨b, 1, none⟩ = some (.string x.call.target) := (cell_of_row W b 1 _ _ _ h).trans rfl
theorem BoxP.c2 (h : BoxP W b x) : W.cell? ⟨b, 2, none⟩ = some (.int .u64 x.call.num) := (cell_of_row W b 2 _ _ _ h).trans rfl
theorem BoxP.c3 (h : BoxP W b x) : W.cell? ⟨b, 3, none⟩ = some (.int .i64 x.call.size) := (cell_of_row W b 3 _ _ _ h).trans rfl
theorem BoxP.c4 (h : BoxP W b x) : W.cell? ⟨b, 4, none⟩ = some (.string x.call.zone) := (cell_of_row W b 4 _ _ _ h).trans rfl
theorem BoxP.c5 (h : BoxP W b x) : W.cell? ⟨b, 5, none⟩ = some (.string x.call.node) := (cell_of_row W b 5 _ _ _ h).trans rfl
theorem BoxP.c6 (h : BoxP W b x) : W.cell? ⟨b, 6, none⟩ = some (.string x.call.source) := (cell_of_row W b 6 _ _ _ h).trans rfl
theorem BoxP.c7 (h : BoxP W b x) : W.cell? ⟨b, 7, none⟩ = some (.int .i64 x.res.err) := (cell_of_row W b 7 _ _ _ h).trans rfl
theorem BoxP.free (h : BoxP W b x) (i : Nat) : W.frozen? ⟨b, i, none⟩ = false := frozen_of_row W b i _ _ h
end
theorem stoP {W : World} {b : Nat} {p : Pc} (h0 : BoxP W b p) (x : Pc) : ∃ V, (∀ {oi : Oper} {a : Act} {p q : Operand}, oi.op = .store 109 p q → a.eval p = .pointer (some ⟨b, 0, none⟩) → a.eval q = encP x → (execOp a.eval oi).run Try.prog W = .ok .skip V) ∧
    BoxP V b x ∧ (∀ g, g ≠ b → V.heap[g]? = W.heap[g]?) ∧ (∀ B A, Below B A W → B ≤ b → Below B A V) := by
  refine ⟨W.setRow b (cellsP x), fun {oi a p q} ho hp hq => ?_, setRow_heap _ _ _ _ _ _ h0, fun g hg => setRow_other W b g _ hg, fun _ _ h1 h2 => below_setRow h1 h2 _⟩
  have h1 := run_storeVar_row (P := Try.prog) W b 109 109 _ (cellsP x) h0 sizeP rfl (one_cellsP x)
  unfold execOp
  have hq' : a.eval q = .agg (cellsP x) := hq
  simp [ho, hp, hq', Instr.storeAt, Instr.sureAddr, h1, Result.andThen]
def inR (n : Int) : Bool := decide (0 ≤ n) && decide (n ≤ 1125899906842624)
theorem inRange_any (n : Int) (w : World) : Calls Try.prog 40 #[.int .i64 n] w fun e w' => e = .returned (.bool (inR n)) ∧ w = w' := by
  unfold inR
  by_cases h1 : 0 ≤ n
  · go_enter Try.func40, Try.ntmps40
    go_wp2
    go_ret
    simp [h1]
  · go_enter Try.func40, Try.ntmps40
    go_wp2
    go_ret
    simp
    intro h2
    omega
def snapV (v : Int) : Bool := v == 6 || v == 7
set_option maxRecDepth 100000 in
set_option maxHeartbeats 2000000 in
theorem targetOf_any (v : Int) (s : ByteArray) (w : World) : Calls Try.prog 49 #[.int .u8 v, .string s] w fun e w' => e = .returned (encT ⟨snapV v, s⟩) ∧ Below w.heap.size w w' := by
  by_cases h6 : v = 6
  · subst h6
    go_enter Try.func49, Try.ntmps49
    go_wp2
    refine bodyPost_ret (v := encT ⟨true, s⟩) (results_cell_row rfl _ _ w.heap.size 106 (cellsT ⟨true, s⟩) (0, 0) _ rfl (heap_alloc_new w _) undT rfl sizeT) rfl ?_
    exact ⟨rfl, (Below.refl _ _).alloc (Nat.le_refl _) _⟩
  · go_enter Try.func49, Try.ntmps49
    go_wp2
    refine bodyPost_ret (v := encT ⟨snapV v, s⟩) (results_cell_row rfl _ _ w.heap.size 106 (cellsT ⟨snapV v, s⟩) (0, 0) _ rfl (heap_alloc_new w _) undT rfl sizeT) rfl ?_
    exact ⟨rfl, (Below.refl _ _).alloc (Nat.le_refl _) _⟩
def errR (e : Int) : Rs := ⟨e, 0, E0, 0⟩
theorem built_err (e : Int) : Try.prog.built 50 [(0, .int .i64 e)] = some (cellsR (errR e)) := by kernel_rfl
set_option maxRecDepth 100000 in
set_option maxHeartbeats 2000000 in
theorem failed_any (x : Int) (w : World) : Calls Try.prog 48 #[.int .i64 x] w fun e w' => e = .returned (encR (errR x)) ∧ Below w.heap.size w w' := by
  obtain ⟨V, hs, hv, hl⟩ := boxR w zeroR rfl (errR x)
  have HV := Lib.hid hv
  have HW := Lib.hid hl
  clear hv hl
  go_enter Try.func48, Try.ntmps48
  go_wp2_with (first | ((with_reducible refine wpList_build_to rfl 50 _ rfl (cellsR (errR x)) ?_ ?_); exact built_err _) | (refine wpList_skip rfl (hs rfl rfl rfl) ?_))
  refine bodyPost_ret (v := encR (errR x)) (results_cell_row rfl _ _ w.heap.size 50 (cellsR (errR x)) (0, 0) _ rfl HV.out undR rfl sizeR) rfl ?_
  exact ⟨rfl, HW.out⟩
end Go.Proofs.Ytbgfccanbgpjiaa.O.I
