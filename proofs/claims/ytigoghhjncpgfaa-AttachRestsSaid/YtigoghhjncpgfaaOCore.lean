/- Objects in memory: how they stand in a block, what is read of them, and how they are held against each other (parts of other texts of mine, for programs that hold less of package object). -/
import Derived.Test.YtigoghhjncpgfaaOPlain
import Derived.OwnWalk
import Derived.Outline
import Derived.WalkKit
import Derived.WalkSpells
import Derived.WalkLawsBesides
import Derived.KernelRfl
import Derived.Lib.Hide
import Derived.Lib.IndexBytes
import Derived.Laws.StructEq
import Derived.Deep.RegionHeld3
import Derived.BigRegion
import Derived.Laws.Tables
import Derived.Deep.WholeRow
import Derived.Laws.CopyOwn
import Derived.Great.BuildSlice
import Derived.Deep.Cut
import Derived.Test.YtigoghhjncpgfaaProg
namespace Go.Proofs.Ytigoghhjncpgfaa.O
open Go.RowKit T
open Go.Lib

/-- A block that holds an object; an object as a value. -/
def cellsO (o : Obj) : Array Value := #[.int .u8 o.kind, .string o.name, .int .u64 o.version, .int .u64 o.born, .bool o.deleting, .bool o.hold, .string o.cls, .int .i64 o.size, .int .i64 o.got, .int .u8 o.mode, .bool o.keep, .bool o.wait,
  .string o.zone, .string o.node, .string o.claim, .string o.volume, .string o.source, .int .u8 o.phase, .int .u64 o.num, .int .u64 o.tag]
def encO (o : Obj) : Value := .agg (cellsO o)
def encK (k : Int) (n : ByteArray) : Value := .agg #[.int .u8 k, .string n]

theorem ret_str {a b : ByteArray} (h : a = b) : Ending.returned (.string a) = .returned (.string b) := by rw [h]

theorem eqB {a b : ByteArray} : (a.toList == b.toList) = decide (a = b) := by
  rw [Bool.eq_iff_iff, beq_iff_eq, decide_eq_true_iff, Lib.toList_data, Lib.toList_data]
  exact ⟨fun h => ba_ext h, fun h => by rw [h]⟩
theorem eqT {a b : ByteArray} : a.toList = b.toList ↔ a = b := by
  rw [Lib.toList_data, Lib.toList_data]
  exact ⟨fun h => ba_ext h, fun h => by rw [h]⟩
theorem and_if {P : Prop} [Decidable P] {X : Result Value} {b : Bool} {w : World} (h : X = .ok (.bool b) w) : (if P then X else .ok (.bool false) w) = .ok (.bool (decide P && b)) w := by
  by_cases hP : P <;> simp [hP, h]
theorem last_if {P : Prop} [Decidable P] {w : World} : (if P then (.ok (.bool true) w : Result Value) else .ok (.bool false) w) = .ok (.bool (decide P)) w := by
  by_cases hP : P <;> simp [hP]

set_option maxRecDepth 100000 in
set_option maxHeartbeats 1000000 in
theorem eql_obj (o p : Obj) (w : World) : (binOp .eql 37 (encO o) (encO p)).run Try.prog w = .ok (.bool (decide (o = p))) w := by
  obtain ⟨a1, a2, a3, a4, a5, a6, a7, a8, a9, a10, a11, a12, a13, a14, a15, a16, a17, a18, a19, a20⟩ := o
  obtain ⟨b1, b2, b3, b4, b5, b6, b7, b8, b9, b10, b11, b12, b13, b14, b15, b16, b17, b18, b19, b20⟩ := p
  unfold encO cellsO
  dsimp only
  go_simp
  simp only [eqT]
  iterate 19 refine and_if ?_
  exact last_if
theorem nand_if {P : Prop} [Decidable P] {X : Result Value} {b : Bool} {w : World} (h : X = .ok (.bool (!b)) w) : (if P then X else .ok (.bool true) w) = .ok (.bool (!(decide P && b))) w := by
  by_cases hP : P <;> simp [hP, h]
theorem nlast_if {P : Prop} [Decidable P] {w : World} : (if P then (.ok (.bool false) w : Result Value) else .ok (.bool true) w) = .ok (.bool (!decide P)) w := by
  by_cases hP : P <;> simp [hP]
theorem neq_obj (o p : Obj) (w : World) : (binOp .neq 37 (encO o) (encO p)).run Try.prog w = .ok (.bool (!decide (o = p))) w := by
  have h := eql_obj o p w
  unfold encO at *
  rw [run_eql_struct] at h
  rw [run_neq_struct]
  generalize (Op.equalIn 10000 37 _ _).run Try.prog w = r at *
  cases r with
  | ok b w1 =>
    simp only [Result.andThen, Result.ok.injEq, Value.bool.injEq] at h ⊢
    rw [h.1, h.2]; exact ⟨rfl, rfl⟩
  | halt a b => simp [Result.andThen] at h

def BoxO (W : World) (b : Nat) (o : Obj) : Prop := W.heap[b]? = some (.cells (cellsO o) 37 (0, 0))
/-- The object of nothing; and an object with what all kinds have. -/
def O0 : Obj := ⟨0, E0, 0, 0, false, false, E0, 0, 0, 0, false, false, E0, E0, E0, E0, E0, 0, 0, 0⟩
def baseO (o : Obj) : Obj := ⟨o.kind, o.name, o.version, o.born, o.deleting, o.hold, E0, 0, 0, 0, false, false, E0, E0, E0, E0, E0, 0, 0, 0⟩

theorem wp_gen {P : Program} {c : Code} {Q : Exit → Act → World → Prop} {a : Act} {W : World} (F : World → Prop) (hF : F W) (h : ∀ W1, F W1 → Code.wp P c Q a W1) : Code.wp P c Q a W := h W hF

section
variable {W W' : World} {b : Nat} {o : Obj}
theorem BoxO.lt (h : BoxO W b o) : b < W.heap.size := (Array.getElem?_eq_some_iff.1 h).1
theorem BoxO.below (h : BoxO W b o) {B : Nat} (hb : Below B W W') (hB : b < B) : BoxO W' b o := (hb.block b hB).trans h
theorem BoxO.after (h : BoxO W b o) (hb : Below W.heap.size W W') : BoxO W' b o := h.below hb h.lt
theorem BoxO.alloc (h : BoxO W b o) (x : Go.Obj) : BoxO (W.alloc x) b o := (Below.heap_alloc W x b h.lt).trans h
theorem BoxO.drew (h : BoxO W b o) : BoxO W.drew b o := h
theorem BoxO.drewN (h : BoxO W b o) (n : Nat) : BoxO (W.drewN n) b o := h
theorem BoxO.other (h : BoxO W b o) {p : Addr} (hp : b ≠ p.block) (v : Value) : BoxO (W.setCell p v) b o := (heap_setCell_other W p b v hp).trans h
theorem BoxO.row (h : BoxO W b o) {g : Nat} (hp : b ≠ g) (cs : Array Value) : BoxO (W.setRow g cs) b o := (setRow_other W g b cs hp).trans h
theorem BoxO.at (h : BoxO W b o) (i : Nat) : W.cell? ⟨b, i, none⟩ = (cellsO o)[i]? := cell_of_row W b i _ _ _ h
theorem BoxO.free (h : BoxO W b o) (i : Nat) : W.frozen? ⟨b, i, none⟩ = false := frozen_of_row W b i _ _ h
theorem BoxO.setAt (h : BoxO W b o) (i : Nat) (v : Value) {o' : Obj} (he : (cellsO o).setIfInBounds i v = cellsO o') : BoxO (W.setCell ⟨b, i, none⟩ v) b o' := by
  have := heap_setCell_same W b i (cellsO o) 37 v h
  rw [he] at this; exact this
theorem BoxO.new (W : World) (o : Obj) : BoxO (W.alloc (.cells (cellsO o) 37)) W.heap.size o := heap_alloc_new W _
theorem BoxO.setRow (h : BoxO W b o) (o' : Obj) : BoxO (W.setRow b (cellsO o')) b o' := setRow_heap W b _ _ _ _ h
theorem BoxO.c0 (h : BoxO W b o) : W.cell? ⟨b, 0, none⟩ = some (.int .u8 o.kind) := (h.at 0).trans rfl
theorem BoxO.c1 (h : BoxO W b o) : W.cell? ⟨b, 1, none⟩ = some (.string o.name) := (h.at 1).trans rfl
theorem BoxO.c2 (h : BoxO W b o) : W.cell? ⟨b, 2, none⟩ = some (.int .u64 o.version) := (h.at 2).trans rfl
theorem BoxO.c3 (h : BoxO W b o) : W.cell? ⟨b, 3, none⟩ = some (.int .u64 o.born) := (h.at 3).trans rfl
theorem BoxO.c4 (h : BoxO W b o) : W.cell? ⟨b, 4, none⟩ = some (.bool o.deleting) := (h.at 4).trans rfl
theorem BoxO.c5 (h : BoxO W b o) : W.cell? ⟨b, 5, none⟩ = some (.bool o.hold) := (h.at 5).trans rfl
theorem BoxO.c6 (h : BoxO W b o) : W.cell? ⟨b, 6, none⟩ = some (.string o.cls) := (h.at 6).trans rfl
theorem BoxO.c7 (h : BoxO W b o) : W.cell? ⟨b, 7, none⟩ = some (.int .i64 o.size) := (h.at 7).trans rfl
theorem BoxO.c8 (h : BoxO W b o) : W.cell? ⟨b, 8, none⟩ = some (.int .i64 o.got) := (h.at 8).trans rfl
theorem BoxO.c9 (h : BoxO W b o) : W.cell? ⟨b, 9, none⟩ = some (.int .u8 o.mode) := (h.at 9).trans rfl
theorem BoxO.c10 (h : BoxO W b o) : W.cell? ⟨b, 10, none⟩ = some (.bool o.keep) := (h.at 10).trans rfl
theorem BoxO.c11 (h : BoxO W b o) : W.cell? ⟨b, 11, none⟩ = some (.bool o.wait) := (h.at 11).trans rfl
theorem BoxO.c12 (h : BoxO W b o) : W.cell? ⟨b, 12, none⟩ = some (.string o.zone) := (h.at 12).trans rfl
theorem BoxO.c13 (h : BoxO W b o) : W.cell? ⟨b, 13, none⟩ = some (.string o.node) := (h.at 13).trans rfl
theorem BoxO.c14 (h : BoxO W b o) : W.cell? ⟨b, 14, none⟩ = some (.string o.claim) := (h.at 14).trans rfl
theorem BoxO.c15 (h : BoxO W b o) : W.cell? ⟨b, 15, none⟩ = some (.string o.volume) := (h.at 15).trans rfl
theorem BoxO.c16 (h : BoxO W b o) : W.cell? ⟨b, 16, none⟩ = some (.string o.source) := (h.at 16).trans rfl
theorem BoxO.c17 (h : BoxO W b o) : W.cell? ⟨b, 17, none⟩ = some (.int .u8 o.phase) := (h.at 17).trans rfl
theorem BoxO.c18 (h : BoxO W b o) : W.cell? ⟨b, 18, none⟩ = some (.int .u64 o.num) := (h.at 18).trans rfl
theorem BoxO.c19 (h : BoxO W b o) : W.cell? ⟨b, 19, none⟩ = some (.int .u64 o.tag) := (h.at 19).trans rfl
theorem BoxO.s0 (h : BoxO W b o) (v : Int) : BoxO (W.setCell ⟨b, 0, none⟩ (.int .u8 v)) b { o with kind := v } := h.setAt 0 _ (o' := { o with kind := v }) (by simp [cellsO])
theorem BoxO.s1 (h : BoxO W b o) (v : ByteArray) : BoxO (W.setCell ⟨b, 1, none⟩ (.string v)) b { o with name := v } := h.setAt 1 _ (o' := { o with name := v }) (by simp [cellsO])
theorem BoxO.s2 (h : BoxO W b o) (v : Int) : BoxO (W.setCell ⟨b, 2, none⟩ (.int .u64 v)) b { o with version := v } := h.setAt 2 _ (o' := { o with version := v }) (by simp [cellsO])
theorem BoxO.s3 (h : BoxO W b o) (v : Int) : BoxO (W.setCell ⟨b, 3, none⟩ (.int .u64 v)) b { o with born := v } := h.setAt 3 _ (o' := { o with born := v }) (by simp [cellsO])
theorem BoxO.s4 (h : BoxO W b o) (v : Bool) : BoxO (W.setCell ⟨b, 4, none⟩ (.bool v)) b { o with deleting := v } := h.setAt 4 _ (o' := { o with deleting := v }) (by simp [cellsO])
theorem BoxO.s5 (h : BoxO W b o) (v : Bool) : BoxO (W.setCell ⟨b, 5, none⟩ (.bool v)) b { o with hold := v } := h.setAt 5 _ (o' := { o with hold := v }) (by simp [cellsO])
theorem BoxO.s6 (h : BoxO W b o) (v : ByteArray) : BoxO (W.setCell ⟨b, 6, none⟩ (.string v)) b { o with cls := v } := h.setAt 6 _ (o' := { o with cls := v }) (by simp [cellsO])
theorem BoxO.s7 (h : BoxO W b o) (v : Int) : BoxO (W.setCell ⟨b, 7, none⟩ (.int .i64 v)) b { o with size := v } := h.setAt 7 _ (o' := { o with size := v }) (by simp [cellsO])
theorem BoxO.s8 (h : BoxO W b o) (v : Int) : BoxO (W.setCell ⟨b, 8, none⟩ (.int .i64 v)) b { o with got := v } := h.setAt 8 _ (o' := { o with got := v }) (by simp [cellsO])
theorem BoxO.s9 (h : BoxO W b o) (v : Int) : BoxO (W.setCell ⟨b, 9, none⟩ (.int .u8 v)) b { o with mode := v } := h.setAt 9 _ (o' := { o with mode := v }) (by simp [cellsO])
theorem BoxO.s10 (h : BoxO W b o) (v : Bool) : BoxO (W.setCell ⟨b, 10, none⟩ (.bool v)) b { o with keep := v } := h.setAt 10 _ (o' := { o with keep := v }) (by simp [cellsO])
theorem BoxO.s11 (h : BoxO W b o) (v : Bool) : BoxO (W.setCell ⟨b, 11, none⟩ (.bool v)) b { o with wait := v } := h.setAt 11 _ (o' := { o with wait := v }) (by simp [cellsO])
theorem BoxO.s12 (h : BoxO W b o) (v : ByteArray) : BoxO (W.setCell ⟨b, 12, none⟩ (.string v)) b { o with zone := v } := h.setAt 12 _ (o' := { o with zone := v }) (by simp [cellsO])
theorem BoxO.s13 (h : BoxO W b o) (v : ByteArray) : BoxO (W.setCell ⟨b, 13, none⟩ (.string v)) b { o with node := v } := h.setAt 13 _ (o' := { o with node := v }) (by simp [cellsO])
theorem BoxO.s14 (h : BoxO W b o) (v : ByteArray) : BoxO (W.setCell ⟨b, 14, none⟩ (.string v)) b { o with claim := v } := h.setAt 14 _ (o' := { o with claim := v }) (by simp [cellsO])
theorem BoxO.s15 (h : BoxO W b o) (v : ByteArray) : BoxO (W.setCell ⟨b, 15, none⟩ (.string v)) b { o with volume := v } := h.setAt 15 _ (o' := { o with volume := v }) (by simp [cellsO])
theorem BoxO.s16 (h : BoxO W b o) (v : ByteArray) : BoxO (W.setCell ⟨b, 16, none⟩ (.string v)) b { o with source := v } := h.setAt 16 _ (o' := { o with source := v }) (by simp [cellsO])
theorem BoxO.s17 (h : BoxO W b o) (v : Int) : BoxO (W.setCell ⟨b, 17, none⟩ (.int .u8 v)) b { o with phase := v } := h.setAt 17 _ (o' := { o with phase := v }) (by simp [cellsO])
theorem BoxO.s18 (h : BoxO W b o) (v : Int) : BoxO (W.setCell ⟨b, 18, none⟩ (.int .u64 v)) b { o with num := v } := h.setAt 18 _ (o' := { o with num := v }) (by simp [cellsO])
theorem BoxO.s19 (h : BoxO W b o) (v : Int) : BoxO (W.setCell ⟨b, 19, none⟩ (.int .u64 v)) b { o with tag := v } := h.setAt 19 _ (o' := { o with tag := v }) (by simp [cellsO])
end
theorem built_base (o : Obj) : Try.prog.built 37 [(0, .int .u8 o.kind), (1, .string o.name), (2, .int .u64 o.version), (3, .int .u64 o.born), (4, .bool o.deleting), (5, .bool o.hold)] = some (cellsO (baseO o)) := by kernel_rfl
theorem wpList_build_to {P : Program} {ops : Array Oper} {rest : List Oper} {o : Oper} {a : Act} {w : World} {Q : Exit → Act → World → Prop} (hg : o.guard = none) (t : TypeId) (parts : Array (Nat × Operand)) (ho : o.op = .build t parts) (cs : Array Value)
    (hf : P.built t (parts.toList.map fun (i, x) => (i, a.eval x)) = some cs) (h : wpList P ops Q rest (a.put o.dst (.agg cs)) w) : wpList P ops Q (o :: rest) a w :=
  wpList_build hg t parts ho (by rw [Array.toList_map, hf]; rfl) (by rw [Array.toList_map, hf]; exact h)
theorem sz_cells (o p : Obj) : (cellsO o).size = (cellsO p).size := rfl
theorem undObj : Try.prog.underlying 37 = some (.struct (Try.prog.fieldsOf 37)) := by kernel_rfl
theorem sizeObj : (Try.prog.info? 37).map (·.size) = some 20 := by kernel_rfl
theorem one_cells (o : Obj) : (cellsO o).all (·.oneCell') = true := by simp [cellsO, Value.oneCell']
theorem load_obj {W : World} {b : Nat} {o : Obj} (h : BoxO W b o) {oi : Oper} {a : Act} {x : Operand} (ho : oi.op = .load 37 x) (hx : a.eval x = .pointer (some ⟨b, 0, none⟩)) :
    (execOp a.eval oi).run Try.prog W = .ok (.value (encO o)) W := by
  unfold execOp
  simp only [ho, hx, Instr.loadAt, Instr.sureAddr, Sem.run_bind, Sem.run_pure, Result.andThen_ok, run_loadVar_row W b 37 37 (cellsO o) (0, 0) _ h undObj rfl sizeObj]
  rfl
/-- The whole object is loaded, guarded or not. -/
theorem wpList_load_obj {ops : Array Oper} {rest : List Oper} {oi : Oper} {a : Act} {W : World} {Q : Exit → Act → World → Prop} {x : Operand} {b : Nat} {o : Obj} (hw : Region.wanted oi (yielded ops a.tmps) = true) (ho : oi.op = .load 37 x)
    (hx : a.eval x = .pointer (some ⟨b, 0, none⟩)) (h : BoxO W b o) (hn : wpList Try.prog ops Q rest (a.put oi.dst (encO o)) W) : wpList Try.prog ops Q (oi :: rest) a W := by
  unfold wpList
  rw [if_pos hw]
  refine .inl ?_
  unfold Oper.wp
  rw [load_obj h ho hx]
  exact hn

end Go.Proofs.Ytigoghhjncpgfaa.O
