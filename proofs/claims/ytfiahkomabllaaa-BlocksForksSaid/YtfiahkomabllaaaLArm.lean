/- Arrays of 64 and of 8 bytes as they are laid, stored, and cut: operations of a region in the text's order, the worlds by letters. -/
import Derived.Test.YtfiahkomabllaaaLSum
namespace Go.Proofs.Ytfiahkomabllaaa.L
open Go Go.RowKit
open Go.Lib

abbrev t64 : TypeId := 66
abbrev t8 : TypeId := 76
def zs (n : Nat) : Bytes := List.replicate n 0
theorem zs_length (n : Nat) : (zs n).length = n := List.length_replicate
theorem zero64 (w : World) : (zeroValue t64).run Try.prog w = .ok (.agg ((zs 64).map bv).toArray) w := by kernel_rfl
theorem zero8 (w : World) : (zeroValue t8).run Try.prog w = .ok (.agg ((zs 8).map bv).toArray) w := by kernel_rfl
theorem und8 : Try.prog.underlying t8 = some (.array 8 5) := by kernel_rfl
theorem size8 : (Try.prog.info? t8).map (·.size) = some 8 := by kernel_rfl
/-- A variable of t that holds the bytes l. -/
def BoxB (W : World) (b : Nat) (t : TypeId) (l : Bytes) : Prop := W.heap[b]? = some (.cells (l.map bv).toArray t (0, 0))
section
variable {W W' : World} {b : Nat} {t : TypeId} {l : Bytes}
theorem BoxB.lt (h : BoxB W b t l) : b < W.heap.size := (Array.getElem?_eq_some_iff.1 h).1
theorem BoxB.of_heap (h : BoxB W b t l) (he : W'.heap[b]? = W.heap[b]?) : BoxB W' b t l := he.trans h
theorem BoxB.after (h : BoxB W b t l) (hb : Below W.heap.size W W') : BoxB W' b t l := h.of_heap (hb.block b h.lt)
theorem BoxB.lies (h : BoxB W b t l) : LiesA W b 0 l := fun i hi => by
  rw [cell_of_row W b _ _ _ _ h, Nat.zero_add]
  simp [hi]
theorem BoxB.bytes (h : BoxB W b t l) (hl : l.length ≤ maxLen) : BytesIn W (.slice (some ⟨b, 0, none⟩) l.length l.length) l :=
  .inr ⟨b, 0, l.length, rfl, Nat.le_refl _, hl, h.lt, h.lies⟩
theorem BoxB.bytesN (h : BoxB W b t l) {n : Nat} (hl : l.length = n) (hn : n ≤ maxLen) : BytesIn W (.slice (some ⟨b, 0, none⟩) n n) l := by
  subst hl
  exact h.bytes hn
end
theorem wpList_alloc_box {ops : Array Oper} {rest : List Oper} {o : Oper} {a : Act} {W : World} {Q : Exit → Act → World → Prop} (hg : o.guard = none) (t : TypeId) (ho : o.op = .alloc t) (l : Bytes) (hz : ∀ w, (zeroValue t).run Try.prog w = .ok (.agg (l.map bv).toArray) w)
    (h : ∀ W2, BoxB W2 W.heap.size t l → Below W.heap.size W W2 → wpList Try.prog ops Q rest (a.put o.dst (.pointer (some ⟨W.heap.size, 0, none⟩))) W2) : wpList Try.prog ops Q (o :: rest) a W := by
  refine wpList_plain hg fun K hK => ?_
  unfold Oper.wp execOp
  simp only [ho, Sem.run_bind, Instr.alloc, hz, Result.andThen_ok, newVar, newRow, run_newObj_alloc, Sem.run_pure]
  exact hK _ _ (h _ (heap_alloc_new W _) ((Below.refl _ _).alloc (Nat.le_refl _) _))
theorem wpList_box_blk {ops : Array Oper} {rest : List Oper} {o : Oper} {a : Act} {W : World} {Q : Exit → Act → World → Prop} (hg : o.guard = none) (x : Operand) (ho : o.op = .box t64 x) (l : Bytes) (hx : a.eval x = encA l)
    (h : ∀ W2, BoxB W2 W.heap.size t64 l → Below W.heap.size W W2 → wpList Try.prog ops Q rest (a.put o.dst (.pointer (some ⟨W.heap.size, 0, none⟩))) W2) : wpList Try.prog ops Q (o :: rest) a W := by
  refine wpList_plain hg fun K hK => ?_
  unfold Oper.wp execOp
  simp only [ho, hx, Sem.run_bind, Instr.box, newVar, newRow, run_newObj_alloc, Sem.run_pure, Result.andThen_ok]
  exact hK _ _ (h _ (heap_alloc_new W _) ((Below.refl _ _).alloc (Nat.le_refl _) _))
theorem store_box {W : World} {b : Nat} {t : TypeId} {l0 l : Bytes} (h0 : BoxB W b t l0) (hl : l0.length = l.length) (hi : (Try.prog.info? t).map (·.size) = some l.length) : ∃ V, (∀ {oi : Oper} {a : Act} {p q : Operand}, oi.op = .store t p q → a.eval p = .pointer (some ⟨b, 0, none⟩) → a.eval q = encA l → (execOp a.eval oi).run Try.prog W = .ok .skip V) ∧
    BoxB V b t l ∧ (∀ g, g ≠ b → V.heap[g]? = W.heap[g]?) ∧ (∀ B A, Below B A W → B ≤ b → Below B A V) := by
  refine ⟨W.setRow b (l.map bv).toArray, fun {oi a p q} ho hp hq => ?_, setRow_heap _ _ _ _ _ _ h0, fun g hg => setRow_other W b g _ hg, fun _ _ h1 h2 => below_setRow h1 h2 _⟩
  have h1 := run_storeVar_row (P := Try.prog) W b t t _ (l.map bv).toArray h0 (by simpa using hi) (by simp [hl]) (all_bv l)
  unfold execOp
  have hq' : a.eval q = .agg (l.map bv).toArray := hq
  simp [ho, hp, hq', Instr.storeAt, Instr.sureAddr, h1, Result.andThen]
theorem wpList_store_box {ops : Array Oper} {rest : List Oper} {o : Oper} {a : Act} {W : World} {Q : Exit → Act → World → Prop} (hg : o.guard = none) (t : TypeId) (p q : Operand) (ho : o.op = .store t p q) (b : Nat) (l0 l : Bytes) (hp : a.eval p = .pointer (some ⟨b, 0, none⟩)) (hq : a.eval q = encA l)
    (h0 : BoxB W b t l0) (hl : l0.length = l.length) (hi : (Try.prog.info? t).map (·.size) = some l.length)
    (h : ∀ V, BoxB V b t l → (∀ g, g ≠ b → V.heap[g]? = W.heap[g]?) → (∀ B A, Below B A W → B ≤ b → Below B A V) → wpList Try.prog ops Q rest (a.put o.dst undef) V) : wpList Try.prog ops Q (o :: rest) a W := by
  obtain ⟨V, h1, h2, h3, h4⟩ := store_box h0 hl hi
  refine wpList_plain hg fun K hK => ?_
  unfold Oper.wp
  rw [h1 ho hp hq]
  exact hK _ _ (h V h2 h3 h4)
theorem grown_of_below {W W' : World} (h : Below W.heap.size W W') (row : Option Nat) : W.grownBy W' row := ⟨h.os, h.tape, h.output, h.size, fun k hk _ => h.block k hk⟩
theorem grew_of_below {W W' : World} (h : Below W.heap.size W W') (v : Value) : Grew W v W' v := ⟨grown_of_below h _, .inl rfl⟩
theorem Held.after {W W' : World} {B : Nat} {v : Value} {l : Bytes} (h : Held W B v l) (hb : Below W.heap.size W W') : Held W' B v l := World.ownsRow.kept h (grown_of_below hb none) (by cases v.ownBlock <;> simp)
theorem Held.lt {W : World} {B : Nat} {v : Value} {l : Bytes} (h : Held W B v l) {g : Nat} (hg : v.ownBlock = some g) : g < W.heap.size := (World.ownsRow.lt h _ hg).2
theorem Held.low {W : World} {B : Nat} {v : Value} {l : Bytes} (h : Held W B v l) {g : Nat} (hk : v.ownBlock = some g) : B ≤ g := by
  rcases h.2 with ⟨rfl, -⟩ | ⟨g', cap, cur, rfl, h1, -⟩
  · cases hk
  · simp [Value.ownBlock] at hk
    omega
theorem Held.of_heap {W W' : World} {B : Nat} {v : Value} {l : Bytes} (h : Held W B v l) (he : ∀ g, v.ownBlock = some g → W'.heap[g]? = W.heap[g]?) : Held W' B v l := by
  refine ⟨h.1, ?_⟩
  rcases h.2 with h | ⟨g, cap, cur, rfl, h1, h2, h3⟩
  · exact .inl h
  · exact .inr ⟨g, cap, cur, rfl, h1, (he g rfl).trans h2, h3⟩
end Go.Proofs.Ytfiahkomabllaaa.L
