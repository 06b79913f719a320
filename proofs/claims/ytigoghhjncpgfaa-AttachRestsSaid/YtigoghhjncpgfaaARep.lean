/- Calls and results in memory; acts that ask: of no keys. -/
import Derived.Test.YtigoghhjncpgfaaKActEq
import Derived.Test.YtigoghhjncpgfaaKList
namespace Go.Proofs.Ytigoghhjncpgfaa.O.B
open Go Go.RowKit Go.Shelf Go.Lib RangeMap KM
attribute [local go_sem] Oper.semAt_some

/-- What a call came to. -/
structure Rs where
  err : Int
  size : Int
  zone : ByteArray
  tag : Int
def encR (r : Rs) : Value := .agg #[.int .i64 r.err, .int .i64 r.size, .string r.zone, .int .u64 r.tag]
def BoxR (W : World) (b : Nat) (r : Rs) : Prop := W.heap[b]? = some (.cells #[.int .i64 r.err, .int .i64 r.size, .string r.zone, .int .u64 r.tag] 47 (0, 0))
theorem BoxR.after {W W' : World} {b : Nat} {r : Rs} (h : BoxR W b r) (hb : Below W.heap.size W W') : BoxR W' b r := (hb.block b (Array.getElem?_eq_some_iff.1 h).1).trans h
theorem exec_neq_act {W : World} {A B : Ac} {oi : Oper} {a : Act} {x y : Operand} {t : TypeId} (ho : oi.op = .binOp .neq 42 x y t) (hx : a.eval x = encA A) (hy : a.eval y = encA B) :
    (execOp a.eval oi).run Try.prog W = .ok (.value (.bool (!decide (A = B)))) W := by
  have h := neq_act A B W
  have hg : (eqGuard .neq 42 x y (encA A) (encA B)).run Try.prog W = .ok () W := by kernel_rfl
  unfold execOp
  simp only [ho, hx, hy, Sem.run_bind, Result.andThen_ok, hg, h]
  rfl
theorem chain4 (w : World) (a b c d : Go.Obj) : ((((w.alloc a).alloc b).alloc c).alloc d).heap[w.heap.size]? = some a ∧ ((((w.alloc a).alloc b).alloc c).alloc d).heap[w.heap.size + 1]? = some b ∧ ((((w.alloc a).alloc b).alloc c).alloc d).heap[w.heap.size + 1 + 1]? = some c ∧
    ((((w.alloc a).alloc b).alloc c).alloc d).heap[w.heap.size + 1 + 1 + 1]? = some d ∧ Below w.heap.size w ((((w.alloc a).alloc b).alloc c).alloc d) := by
  obtain ⟨h1, h2, h3, h4⟩ := chain3 w a b c
  have s3 : (((w.alloc a).alloc b).alloc c).heap.size = w.heap.size + 1 + 1 + 1 := by rw [World.size_alloc, World.size_alloc, World.size_alloc]
  refine ⟨(Below.heap_alloc _ d _ (by omega)).trans h1, (Below.heap_alloc _ d _ (by omega)).trans h2, (Below.heap_alloc _ d _ (by omega)).trans h3, ?_, h4.alloc (by omega) _⟩
  rw [← s3]
  exact heap_alloc_new _ d
theorem BoxR.cells {W : World} {b : Nat} {r : Rs} (h : BoxR W b r) : W.cell? ⟨b, 0, none⟩ = some (.int .i64 r.err) ∧ W.cell? ⟨b, 1, none⟩ = some (.int .i64 r.size) ∧ W.cell? ⟨b, 3, none⟩ = some (.int .u64 r.tag) :=
  ⟨(cell_of_row W b 0 _ _ _ h).trans rfl, (cell_of_row W b 1 _ _ _ h).trans rfl, (cell_of_row W b 3 _ _ _ h).trans rfl⟩
theorem BoxC.verb {W : World} {b : Nat} {c : Cl} (h : BoxC W b c) : W.cell? ⟨b, 0, none⟩ = some (.int .u8 c.verb) := (cell_of_row W b 0 _ _ _ h).trans rfl
theorem exec_neq_call {W : World} {A B : Cl} {oi : Oper} {a : Act} {x y : Operand} {t : TypeId} (ho : oi.op = .binOp .neq 40 x y t) (hx : a.eval x = encC A) (hy : a.eval y = encC B) :
    (execOp a.eval oi).run Try.prog W = .ok (.value (.bool (!decide (A = B)))) W := by
  have h := neq_call A B W
  have hg : (eqGuard .neq 40 x y (encC A) (encC B)).run Try.prog W = .ok () W := by kernel_rfl
  unfold execOp
  simp only [ho, hx, hy, Sem.run_bind, Result.andThen_ok, hg, h]
  rfl
theorem BoxC.cells {W : World} {b : Nat} {c : Cl} (h : BoxC W b c) : W.cell? ⟨b, 0, none⟩ = some (.int .u8 c.verb) ∧ W.cell? ⟨b, 1, none⟩ = some (.string c.target) :=
  ⟨(cell_of_row W b 0 _ _ _ h).trans rfl, (cell_of_row W b 1 _ _ _ h).trans rfl⟩
theorem BoxA.kind {W : World} {b : Nat} {a : Ac} (h : BoxA W b a) : W.cell? ⟨b, 0, none⟩ = some (.int .u8 a.act) := (cell_of_row W b 0 _ _ _ h).trans rfl
theorem exec_neq_diff {W : World} {A B : Cl} (hne : ¬ A = B) {oi : Oper} {a : Act} {x y : Operand} {t : TypeId} (ho : oi.op = .binOp .neq 40 x y t) (hx : a.eval x = encC A) (hy : a.eval y = encC B) :
    (execOp a.eval oi).run Try.prog W = .ok (.value (.bool true)) W := by
  have h := exec_neq_call (W := W) ho hx hy
  rw [show (!decide (A = B)) = true by simp [hne]] at h
  exact h
theorem exec_neq_at {W : World} {A B : Cl} (he : A = B) {oi : Oper} {a : Act} {x y : Operand} {t : TypeId} (ho : oi.op = .binOp .neq 40 x y t) (hx : a.eval x = encC A) (hy : a.eval y = encC B) :
    (execOp a.eval oi).run Try.prog W = .ok (.value (.bool false)) W := by
  have h := exec_neq_call (W := W) ho hx hy
  rw [show (!decide (A = B)) = false by simp [he]] at h
  exact h
/-- An act that asks is nothing but the question. -/
def Plain (A : Ac) : Prop := A.act = 3 → A = askA A.call
theorem plain_write (o : Obj) : Plain (writeA o) := fun h => absurd h (by show ¬ (1 : Int) = 3; omega)
theorem plain_none : Plain nothing := fun h => absurd h (by show ¬ (0 : Int) = 3; omega)
theorem plain_ask (c : Cl) : Plain (askA c) := fun _ => rfl
def Verbs (P : Int → Prop) (A : Ac) : Prop := A.act = 3 → P A.call.verb
theorem undRes : Try.prog.underlying 47 = some (.struct (Try.prog.fieldsOf 47)) := by kernel_rfl
theorem sizeRes : (Try.prog.info? 47).map (·.size) = some 4 := by kernel_rfl
theorem load_res {W : World} {b : Nat} {r : Rs} (h : BoxR W b r) {oi : Oper} {a : Act} {x : Operand} (ho : oi.op = .load 47 x) (hx : a.eval x = .pointer (some ⟨b, 0, none⟩)) :
    (execOp a.eval oi).run Try.prog W = .ok (.value (encR r)) W := by
  unfold execOp
  simp only [ho, hx, Instr.loadAt, Instr.sureAddr, Sem.run_bind, Sem.run_pure, Result.andThen_ok, run_loadVar_row W b 47 47 _ (0, 0) _ h undRes rfl sizeRes]
  rfl
theorem exec_eql_same {W : World} {A : Ac} {oi : Oper} {a : Act} {x y : Operand} {t : TypeId} (ho : oi.op = .binOp .eql 42 x y t) (hx : a.eval x = encA A) (hy : a.eval y = encA A) :
    (execOp a.eval oi).run Try.prog W = .ok (.value (.bool true)) W := by
  have h := eql_act A A W
  have hg : (eqGuard .eql 42 x y (encA A) (encA A)).run Try.prog W = .ok () W := by kernel_rfl
  unfold execOp
  simp only [ho, hx, hy, Sem.run_bind, Result.andThen_ok, hg, h, decide_true]
  rfl
end Go.Proofs.Ytigoghhjncpgfaa.O.B
