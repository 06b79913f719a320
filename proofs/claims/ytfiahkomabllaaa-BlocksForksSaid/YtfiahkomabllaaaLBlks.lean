/- Blocks in memory, wherever they lie; a log's own row of them, and what an append leaves of it. -/
import Derived.Test.YtfiahkomabllaaaLMem
namespace Go.Proofs.Ytfiahkomabllaaa.L
open Go Go.RowKit
open Go.Lib

theorem infoBlk : (Try.prog.info? 66).map (fun i => (i.zero, i.size, i.bytes)) = some (some (.agg ((List.replicate 64 (0 : UInt8)).map bv).toArray), 64, 64) := by kernel_rfl
theorem sizeBlk : (Try.prog.info? 66).map (·.size) = some 64 := by kernel_rfl
theorem undBlk : Try.prog.underlying 66 = some (.array 64 5) := by kernel_rfl
theorem sliceBlk : Try.prog.underlying 57 = some (.slice (Try.prog.elem 57)) := by kernel_rfl
theorem sliceBlk' : Try.prog.underlying 57 = some (.slice 66) := by kernel_rfl
theorem sizeElemBlk (w : World) : (sizeOf (Try.prog.elem 57)).run Try.prog w = .ok 64 w := by kernel_rfl

/-- A block by value. -/
def encA (l : Bytes) : Value := .agg (l.map bv).toArray
theorem one_bv (l : Bytes) : ∀ u ∈ l.map bv, u.oneCell' = true := by
  intro u hu
  obtain ⟨b, -, rfl⟩ := List.mem_map.1 hu
  rfl
theorem all_bv (l : Bytes) : (l.map bv).toArray.all (·.oneCell') = true := by
  rw [Array.all_eq_true]
  intro i hi
  refine one_bv l _ ?_
  rw [List.getElem_toArray]
  exact List.getElem_mem _
/-- The i-th block. -/
def blk (l : Bytes) (i : Nat) : Bytes := (l.drop (i * 64)).take 64
theorem blk_length {l : Bytes} {k i : Nat} (hl : l.length = k * 64) (hi : i < k) : (blk l i).length = 64 := by unfold blk; rw [List.length_take, List.length_drop]; omega
/-- The cells of l lie in block g from off on. -/
def LiesA (W : World) (g off : Nat) (l : Bytes) : Prop := ∀ i (h : i < l.length), W.cell? ⟨g, off + i, none⟩ = some (bv l[i])
theorem LiesA.range {W : World} {g off : Nat} {l : Bytes} (h : LiesA W g off l) : W.rangeAt g off (l.map bv) := fun j v hj => by
  obtain ⟨h1, h2⟩ := List.getElem?_eq_some_iff.1 hj
  rw [h j (by simpa using h1), ← h2]
  simp
theorem LiesA.part {W : World} {g off : Nat} {l : Bytes} (h : LiesA W g off l) (n m : Nat) : LiesA W g (off + n) ((l.drop n).take m) := fun i hi => by
  have hi' : n + i < l.length := by rw [List.length_take, List.length_drop] at hi; omega
  rw [Nat.add_assoc, h (n + i) hi']
  simp
theorem LiesA.of_heap {W W' : World} {g off : Nat} {l : Bytes} (h : LiesA W g off l) (he : W'.heap[g]? = W.heap[g]?) : LiesA W' g off l := fun i hi => (World.cell?_of_block (w := W) he).trans (h i hi)
/-- v are k blocks, of the bytes l. -/
def BlksIn (W : World) (v : Value) (k : Nat) (l : Bytes) : Prop :=
  l.length = k * 64 ∧ ((∃ c, v = .slice none 0 c ∧ k = 0) ∨ ∃ g off cap, v = .slice (some ⟨g, off, none⟩) k cap ∧ k ≤ cap ∧ cap ≤ maxLen ∧ g < W.heap.size ∧ LiesA W g off l)
section
variable {W W' : World} {v : Value} {k : Nat} {l : Bytes} {B : Nat}
theorem BlksIn.below (h : BlksIn W v k l) (hb : Below B W W') (hB : ∀ g, v.ownBlock = some g → g < B) : BlksIn W' v k l := by
  refine ⟨h.1, ?_⟩
  rcases h.2 with h | ⟨g, off, cap, rfl, h1, h2, h3, h4⟩
  · exact .inl h
  · exact .inr ⟨g, off, cap, rfl, h1, h2, Nat.lt_of_lt_of_le h3 hb.size, h4.of_heap (hb.block g (hB g rfl))⟩
theorem BlksIn.lt (h : BlksIn W v k l) {g : Nat} (hk : v.ownBlock = some g) : g < W.heap.size := by
  rcases h.2 with ⟨c, rfl, -⟩ | ⟨g, off, cap, rfl, h1, h2, h3, h4⟩
  · cases hk
  · simp [Value.ownBlock] at hk
    omega
theorem BlksIn.after (h : BlksIn W v k l) (hb : Below W.heap.size W W') : BlksIn W' v k l := h.below hb (fun _ hk => h.lt hk)
theorem BlksIn.of_heap (h : BlksIn W v k l) (hs : W.heap.size ≤ W'.heap.size) (he : ∀ g, v.ownBlock = some g → W'.heap[g]? = W.heap[g]?) : BlksIn W' v k l := by
  refine ⟨h.1, ?_⟩
  rcases h.2 with h | ⟨g, off, cap, rfl, h1, h2, h3, h4⟩
  · exact .inl h
  · exact .inr ⟨g, off, cap, rfl, h1, h2, Nat.lt_of_lt_of_le h3 hs, h4.of_heap (he g rfl)⟩
theorem BlksIn.drew (h : BlksIn W v k l) : BlksIn W.drew v k l := h
theorem BlksIn.small (h : BlksIn W v k l) : k ≤ maxLen := by
  rcases h.2 with ⟨c, rfl, rfl⟩ | ⟨g, off, cap, rfl, h1, h2, -⟩
  · exact Nat.zero_le _
  · omega
theorem BlksIn.shape (h : BlksIn W v k l) : ∃ a c, v = .slice a k c := by
  rcases h.2 with ⟨c, rfl, rfl⟩ | ⟨g, off, cap, rfl, -⟩
  · exact ⟨_, _, rfl⟩
  · exact ⟨_, _, rfl⟩
/-- The first n blocks: of the same capacity, and of that number alone. -/
theorem BlksIn.head (h : BlksIn W v k l) {n : Nat} (hn : n ≤ k) (ki : IntKind) :
    ∃ v1, (∀ w, (Instr.slice 57 v none (some (.int ki n)) none).run Try.prog w = .ok v1 w) ∧ BlksIn W v1 n (l.take (n * 64)) ∧ v1.ownBlock = v.ownBlock := by
  have hl : (l.take (n * 64)).length = n * 64 := by rw [List.length_take, h.1]; omega
  rcases h.2 with ⟨c, rfl, rfl⟩ | ⟨g, off, cap, rfl, h1, h2, h3, h4⟩
  · obtain rfl : n = 0 := by omega
    refine ⟨.slice none 0 c, fun w => ?_, ⟨hl, .inl ⟨c, rfl, rfl⟩⟩, rfl⟩
    rw [run_slice_h w 57 none 0 c sliceBlk ki (0 : Nat) (by omega) (by omega), sizeElemBlk]
    simp [Result.andThen, sliced]
  · refine ⟨.slice (some ⟨g, off, none⟩) n cap, fun w => ?_, ⟨hl, .inr ⟨g, off, cap, rfl, by omega, h2, h3, ?_⟩⟩, rfl⟩
    · rw [run_slice_h w 57 (some ⟨g, off, none⟩) k cap sliceBlk ki n (by omega) (by omega), sizeElemBlk]
      simp [Result.andThen, sliced, add_zero']
    · have := h4.part 0 (n * 64)
      rwa [Nat.add_zero, List.drop_zero] at this
theorem BlksIn.head3 (h : BlksIn W v k l) {n : Nat} (hn : n ≤ k) (ki km : IntKind) :
    ∃ v1, (∀ w, (Instr.slice 57 v none (some (.int ki n)) (some (.int km n))).run Try.prog w = .ok v1 w) ∧ BlksIn W v1 n (l.take (n * 64)) ∧ v1.ownBlock = v.ownBlock := by
  have hl : (l.take (n * 64)).length = n * 64 := by rw [List.length_take, h.1]; omega
  rcases h.2 with ⟨c, rfl, rfl⟩ | ⟨g, off, cap, rfl, h1, h2, h3, h4⟩
  · obtain rfl : n = 0 := by omega
    refine ⟨.slice none 0 0, fun w => ?_, ⟨hl, .inl ⟨0, rfl, rfl⟩⟩, rfl⟩
    rw [run_slice_hm w 57 none 0 c sliceBlk ki km (0 : Nat) (0 : Nat) (by omega) (by omega) (by omega), sizeElemBlk]
    simp [Result.andThen, sliced]
  · refine ⟨.slice (some ⟨g, off, none⟩) n n, fun w => ?_, ⟨hl, .inr ⟨g, off, n, rfl, by omega, by omega, h3, ?_⟩⟩, rfl⟩
    · rw [run_slice_hm w 57 (some ⟨g, off, none⟩) k cap sliceBlk ki km n n (by omega) (by omega) (by omega), sizeElemBlk]
      simp [Result.andThen, sliced, add_zero']
    · have := h4.part 0 (n * 64)
      rwa [Nat.add_zero, List.drop_zero] at this
/-- What is behind the first n blocks. -/
theorem BlksIn.tail (h : BlksIn W v k l) {n : Nat} (hn : n ≤ k) (ki : IntKind) :
    ∃ v1, (∀ w, (Instr.slice 57 v (some (.int ki n)) none none).run Try.prog w = .ok v1 w) ∧ BlksIn W v1 (k - n) (l.drop (n * 64)) ∧ v1.ownBlock = v.ownBlock := by
  have hl : (l.drop (n * 64)).length = (k - n) * 64 := by rw [List.length_drop, h.1]; omega
  rcases h.2 with ⟨c, rfl, rfl⟩ | ⟨g, off, cap, rfl, h1, h2, h3, h4⟩
  · obtain rfl : n = 0 := by omega
    refine ⟨.slice none 0 c, fun w => ?_, ⟨hl, .inl ⟨c, rfl, rfl⟩⟩, rfl⟩
    rw [run_slice_l w 57 none 0 c sliceBlk ki (0 : Nat) (by omega) (by omega), sizeElemBlk]
    simp [Result.andThen, sliced]
  · by_cases hc : cap = n
    · obtain rfl : k = n := by omega
      refine ⟨.slice (some ⟨g, off, none⟩) (k - k) (cap - k), fun w => ?_, ⟨hl, .inr ⟨g, off, cap - k, rfl, by omega, by omega, h3, fun i hi => by omega⟩⟩, rfl⟩
      rw [run_slice_l w 57 (some ⟨g, off, none⟩) k cap sliceBlk ki k (by omega) (by omega), sizeElemBlk]
      simp [Result.andThen, sliced, hc]
    · refine ⟨.slice (some ⟨g, off + n * 64, none⟩) (k - n) (cap - n), fun w => ?_, ⟨hl, .inr ⟨g, off + n * 64, cap - n, rfl, by omega, by omega, h3, ?_⟩⟩, rfl⟩
      · rw [run_slice_l w 57 (some ⟨g, off, none⟩) k cap sliceBlk ki n (by omega) (by omega), sizeElemBlk]
        simp [Result.andThen, sliced, hc, add_lit']
      · have := h4.part (n * 64) (l.length - n * 64)
        rwa [List.take_of_length_le (by rw [List.length_drop]; omega)] at this
/-- Where the i-th lies. -/
theorem BlksIn.at (h : BlksIn W v k l) {i : Nat} (hi : i < k) : ∃ g off cap, v = .slice (some ⟨g, off, none⟩) k cap ∧ g < W.heap.size ∧ LiesA W g (off + i * 64) (blk l i) := by
  rcases h.2 with ⟨c, rfl, rfl⟩ | ⟨g, off, cap, rfl, h1, h2, h3, h4⟩
  · omega
  · exact ⟨g, off, cap, rfl, h3, h4.part _ _⟩
end
theorem load_blk {W : World} {g off : Nat} {l : Bytes} (h : LiesA W g off l) (hl : l.length = 64) {oi : Oper} {a : Act} {x : Operand} (ho : oi.op = .load 66 x) (hx : a.eval x = .pointer (some ⟨g, off, none⟩)) :
    (execOp a.eval oi).run Try.prog W = .ok (.value (encA l)) W := by
  unfold execOp
  simp only [ho, hx, Instr.loadAt, Instr.sureAddr, Sem.run_bind, Sem.run_pure, Result.andThen_ok, run_loadVar_mid W g off 66 (l.map bv) _ h.range undBlk rfl (by rw [List.length_map, hl]; exact sizeBlk)]
  rfl
theorem wpList_load_blk {ops : Array Oper} {rest : List Oper} {oi : Oper} {a : Act} {W : World} {Q : Exit → Act → World → Prop} {g off : Nat} {l : Bytes} {x : Operand} (hg : oi.guard = none) (ho : oi.op = .load 66 x) (hx : a.eval x = .pointer (some ⟨g, off, none⟩))
    (h : LiesA W g off l) (hl : l.length = 64) (hn : wpList Try.prog ops Q rest (a.put oi.dst (encA l)) W) : wpList Try.prog ops Q (oi :: rest) a W :=
  wpList_plain hg fun K hK => by
    unfold Oper.wp
    rw [load_blk h hl ho hx]
    exact hK _ _ hn

/-- A log's own row: k blocks, of the bytes l; it may lie in a longer one. -/
def Row (W : World) (B : Nat) (v : Value) (k : Nat) (l : Bytes) : Prop :=
  l.length = k * 64 ∧ ((v = .slice none 0 0 ∧ k = 0) ∨ ∃ g cap cur, v = .slice (some ⟨g, 0, none⟩) k cap ∧ B ≤ g ∧ W.heap[g]? = some (.cells cur 66 (0, 0)) ∧ k ≤ cap ∧ cap ≤ maxLen ∧ cap * 64 ≤ cur.size ∧ cur.toList.take (k * 64) = l.map bv)
section
variable {W W' : World} {v : Value} {k : Nat} {l : Bytes} {B : Nat}
theorem Row.nil (W : World) (B : Nat) : Row W B (.slice none 0 0) 0 [] := ⟨rfl, .inl ⟨rfl, rfl⟩⟩
theorem Row.lies {W : World} {g : Nat} {cur : Array Value} {k : Nat} {l : Bytes} (hg : W.heap[g]? = some (.cells cur 66 (0, 0))) (hl : l.length = k * 64) (ht : cur.toList.take (k * 64) = l.map bv) : LiesA W g 0 l := fun i hi => by
  rw [cell_of_row W g _ _ _ _ hg, Nat.zero_add, ← Array.getElem?_toList]
  have h1 := congrArg (fun z => z[i]?) ht
  simp only [List.getElem?_take, List.getElem?_map] at h1
  rw [if_pos (by omega)] at h1
  rw [h1, List.getElem?_eq_getElem hi]
  rfl
theorem Row.blks (h : Row W B v k l) : BlksIn W v k l := by
  refine ⟨h.1, ?_⟩
  rcases h.2 with ⟨rfl, rfl⟩ | ⟨g, cap, cur, rfl, -, hg, h1, h2, -, ht⟩
  · exact .inl ⟨0, rfl, rfl⟩
  · exact .inr ⟨g, 0, cap, rfl, h1, h2, (Array.getElem?_eq_some_iff.1 hg).1, Row.lies hg h.1 ht⟩
theorem Row.of_heap (h : Row W B v k l) (he : ∀ g, v.ownBlock = some g → W'.heap[g]? = W.heap[g]?) : Row W' B v k l := by
  refine ⟨h.1, ?_⟩
  rcases h.2 with h | ⟨g, cap, cur, rfl, h1, h2, h3⟩
  · exact .inl h
  · exact .inr ⟨g, cap, cur, rfl, h1, (he g rfl).trans h2, h3⟩
theorem Row.lt (h : Row W B v k l) {g : Nat} (hk : v.ownBlock = some g) : g < W.heap.size := h.blks.lt hk
theorem Row.low (h : Row W B v k l) {g : Nat} (hk : v.ownBlock = some g) : B ≤ g := by
  rcases h.2 with ⟨rfl, rfl⟩ | ⟨g', cap, cur, rfl, h1, -⟩
  · cases hk
  · simp [Value.ownBlock] at hk
    omega
theorem Row.after (h : Row W B v k l) (hb : Below W.heap.size W W') : Row W' B v k l := h.of_heap fun g hg => hb.block g (h.lt hg)
theorem Row.head (h : Row W B v k l) {n : Nat} (hn : n ≤ k) (ki : IntKind) :
    ∃ v1, (∀ w, (Instr.slice 57 v none (some (.int ki n)) none).run Try.prog w = .ok v1 w) ∧ Row W B v1 n (l.take (n * 64)) ∧ v1.ownBlock = v.ownBlock := by
  have hl : (l.take (n * 64)).length = n * 64 := by rw [List.length_take, h.1]; omega
  rcases h.2 with ⟨rfl, rfl⟩ | ⟨g, cap, cur, rfl, h1, h2, h3, h4, h5, h6⟩
  · obtain rfl : n = 0 := by omega
    refine ⟨.slice none 0 0, fun w => ?_, ⟨hl, .inl ⟨rfl, rfl⟩⟩, rfl⟩
    rw [run_slice_h w 57 none 0 0 sliceBlk ki (0 : Nat) (by omega) (by omega), sizeElemBlk]
    simp [Result.andThen, sliced]
  · refine ⟨.slice (some ⟨g, 0, none⟩) n cap, fun w => ?_, ⟨hl, .inr ⟨g, cap, cur, rfl, h1, h2, by omega, h4, h5, ?_⟩⟩, rfl⟩
    · rw [run_slice_h w 57 (some ⟨g, 0, none⟩) k cap sliceBlk ki n (by omega) (by omega), sizeElemBlk]
      simp [Result.andThen, sliced, add_zero']
    · rw [List.map_take, ← h6, List.take_take, Nat.min_eq_left (by omega)]
theorem Row.head3 (h : Row W B v k l) {n : Nat} (hn : n ≤ k) (ki km : IntKind) :
    ∃ v1, (∀ w, (Instr.slice 57 v none (some (.int ki n)) (some (.int km n))).run Try.prog w = .ok v1 w) ∧ Row W B v1 n (l.take (n * 64)) ∧ v1.ownBlock = v.ownBlock := by
  have hl : (l.take (n * 64)).length = n * 64 := by rw [List.length_take, h.1]; omega
  rcases h.2 with ⟨rfl, rfl⟩ | ⟨g, cap, cur, rfl, h1, h2, h3, h4, h5, h6⟩
  · obtain rfl : n = 0 := by omega
    refine ⟨.slice none 0 0, fun w => ?_, ⟨hl, .inl ⟨rfl, rfl⟩⟩, rfl⟩
    rw [run_slice_hm w 57 none 0 0 sliceBlk ki km (0 : Nat) (0 : Nat) (by omega) (by omega) (by omega), sizeElemBlk]
    simp [Result.andThen, sliced]
  · refine ⟨.slice (some ⟨g, 0, none⟩) n n, fun w => ?_, ⟨hl, .inr ⟨g, n, cur, rfl, h1, h2, by omega, by omega, by omega, ?_⟩⟩, rfl⟩
    · rw [run_slice_hm w 57 (some ⟨g, 0, none⟩) k cap sliceBlk ki km n n (by omega) (by omega) (by omega), sizeElemBlk]
      simp [Result.andThen, sliced, add_zero']
    · rw [List.map_take, ← h6, List.take_take, Nat.min_eq_left (by omega)]
end

/-- An append of blocks. -/
theorem run_append_row (W : World) (ty : TypeId) (B : Nat) (v : Value) (k : Nat) (l : Bytes) (hH : Row W B v k l) (x : Value) (m : Nat) (lm : Bytes) (hx : BlksIn W x m lm) (hlen : k + m ≤ 1000000000000) (hB : B ≤ W.heap.size) :
    ∃ v' W', (Builtin.append_ #[57, 57] ty #[v, x]).run Try.prog W = .ok v' W' ∧ Row W' B v' (k + m) (l ++ lm) ∧ Grew W v W' v' := by
  obtain ⟨i, hi, hz, hs, hb⟩ := info_parts infoBlk
  have hll : (l ++ lm).length = (k + m) * 64 := by rw [List.length_append, hH.1, hx.1]; omega
  have hmax : (1000000000000 : Nat) ≤ maxLen := by decide
  have hzs : (Value.agg ((List.replicate 64 (0 : UInt8)).map bv).toArray).cells.size = 64 := by simp [Value.cells]
  rcases hx.2 with ⟨c, rfl, rfl⟩ | ⟨gx, off, cx, rfl, hx1, hx2, hx3, hx4⟩
  · have h0 : lm = [] := List.eq_nil_of_length_eq_zero (by simpa using hx.1)
    subst h0
    refine ⟨v, W, ?_, by simpa using hH, Grew.refl _ _⟩
    rcases hH.2 with ⟨rfl, rfl⟩ | ⟨g, cap, cur, rfl, h1, h2, h3, h4, h5, h6⟩
    · simp [Builtin.append_, run_underlying (P := Try.prog) sliceBlk', sizeOf, typeInfo, hi, Builtin.lenOf, Builtin.firstCells]
    · simp [Builtin.append_, run_underlying (P := Try.prog) sliceBlk', sizeOf, typeInfo, hi, hs, Builtin.lenOf, Builtin.firstCells, h3]
      rfl
  have hl : (lm.map bv).length = m * i.size := by rw [List.length_map, hx.1, hs]
  have hm : ∀ j u, (lm.map bv)[j]? = some u → W.cell? ((⟨gx, off, none⟩ : Addr).add j) = some u := fun j u hj => by
    rw [add_lit']
    exact hx4.range j u hj
  have grown : ∀ (old : Nat), (W.drew.alloc (.cells ((l.map bv).toArray ++ (lm.map bv).toArray ++ Builtin.zeroCells (Value.agg ((List.replicate 64 (0 : UInt8)).map bv).toArray).cells (grownCap W (k + m) old 66 - (k + m))) 66)).heap[W.heap.size]? = some (.cells ((l.map bv).toArray ++ (lm.map bv).toArray ++ Builtin.zeroCells (Value.agg ((List.replicate 64 (0 : UInt8)).map bv).toArray).cells (grownCap W (k + m) old 66 - (k + m))) 66 (0, 0)) := fun old => heap_alloc_new W.drew _
  have grow2 : ∀ (old : Nat), Row (W.drew.alloc (.cells ((l.map bv).toArray ++ (lm.map bv).toArray ++ Builtin.zeroCells (Value.agg ((List.replicate 64 (0 : UInt8)).map bv).toArray).cells (grownCap W (k + m) old 66 - (k + m))) 66)) B (.slice (some ⟨W.heap.size, 0, none⟩) (k + m) (grownCap W (k + m) old 66)) (k + m) (l ++ lm) := by
    intro old
    have hge := grownCap_ge W (k + m) old 66
    have hcm : grownCap W (k + m) old 66 ≤ maxLen := grownCap_le_maxLen W (k + m) old 66 (by omega)
    refine ⟨hll, .inr ⟨W.heap.size, _, _, rfl, hB, grown old, hge, hcm, ?_, ?_⟩⟩
    · simp only [Array.size_append, List.size_toArray, size_zeroCells, hzs, List.length_map, hH.1, hx.1, ← Nat.add_mul]
      omega
    · simp only [Array.toList_append, List.append_assoc]
      rw [← List.append_assoc, ← hll, ← List.map_append, ← List.length_map (f := bv)]
      exact List.take_left
  have grow3 : ∀ (old : Nat) (u : Value), Grew W u (W.drew.alloc (.cells ((l.map bv).toArray ++ (lm.map bv).toArray ++ Builtin.zeroCells (Value.agg ((List.replicate 64 (0 : UInt8)).map bv).toArray).cells (grownCap W (k + m) old 66 - (k + m))) 66)) (.slice (some ⟨W.heap.size, 0, none⟩) (k + m) (grownCap W (k + m) old 66)) := fun old u =>
    ⟨⟨rfl, rfl, rfl, by simp, fun j hj _ => Go.heap_alloc_old W.drew _ hj⟩, .inr ⟨_, rfl, Nat.le_refl _⟩⟩
  rcases hH.2 with ⟨rfl, rfl⟩ | ⟨g, cap, cur, rfl, h1, h2, h3, h4, h5, h6⟩
  · have h0 : l = [] := List.eq_nil_of_length_eq_zero (by simpa using hH.1)
    subst h0
    by_cases hm0 : m = 0
    · subst hm0
      have h0 : lm = [] := List.eq_nil_of_length_eq_zero (by simpa using hx.1)
      subst h0
      refine ⟨.slice none 0 0, W, ?_, Row.nil _ _, Grew.refl _ _⟩
      simp [Builtin.append_, run_underlying (P := Try.prog) sliceBlk', sizeOf, typeInfo, hi, Builtin.lenOf, Builtin.firstCells, loadCells, loadCellsFrom]
    · have hr := run_append_nil (P := Try.prog) W 57 ty 66 i _ sliceBlk' hi hz ⟨gx, off, none⟩ m cx (lm.map bv) hl hm (by omega) (by omega) (by rw [hb]; omega)
      have e1 := grow2 0
      have e2 := grow3 0 (.slice none 0 0)
      simp only [Nat.zero_add, List.nil_append, List.map_nil, Array.empty_append] at e1 e2 ⊢
      exact ⟨_, _, hr, e1, e2⟩
  · by_cases hroom : k + m ≤ cap
    · have hr := run_append_room (P := Try.prog) W 57 ty 66 i sliceBlk' hi g k cap cur h2 ⟨gx, off, none⟩ m cx (lm.map bv) hl hm (one_bv lm) hroom (by rw [hs, List.length_map, hx.1]; omega)
      refine ⟨_, _, hr, ⟨hll, .inr ⟨g, cap, _, rfl, h1, setRow_heap W g cur _ _ _ h2, hroom, h4, ?_, ?_⟩⟩, ⟨⟨rfl, rfl, rfl, by simp, fun j _ hj => setRow_other W g j _ (fun e => hj (by simp [Value.ownBlock, e]))⟩, .inl rfl⟩⟩
      · simp only [List.size_toArray, List.length_append, List.length_take, List.length_drop, Array.length_toList, List.length_map, hs, hx.1]
        omega
      · rw [hs, h6, ← hll, ← List.map_append, ← List.length_map (f := bv)]
        exact List.take_left
    · have hr := run_append_grow (P := Try.prog) W 57 ty 66 i _ sliceBlk' hi hz ⟨g, 0, none⟩ k cap (l.map bv) (by rw [List.length_map, hH.1, hs]) (fun j u hj => by rw [add_lit']; exact (Row.lies h2 hH.1 h6).range j u hj) ⟨gx, off, none⟩ m cx (lm.map bv) hl hm (by omega) (by omega) (growslice_fits (by omega) (by rw [hb]; omega))
      exact ⟨_, _, hr, grow2 cap, grow3 cap _⟩
theorem wpList_append_row {ops : Array Oper} {rest : List Oper} {o : Oper} {a : Act} {W : World} {Q : Exit → Act → World → Prop} (hgd : o.guard = none) (s x : Operand)
    (ho : o.op = .call { callee := .builtin .append, args := #[s, x], argTypes := #[57, 57] })
    (B : Nat) (v : Value) (k : Nat) (l : Bytes) (hs : a.eval s = v) (hH : Row W B v k l) (y : Value) (m : Nat) (lm : Bytes) (hy : a.eval x = y) (hx : BlksIn W y m lm)
    (hlen : k + m ≤ 1000000000000) (hB : B ≤ W.heap.size) (h : ∀ v' W', Row W' B v' (k + m) (l ++ lm) → Grew W v W' v' → wpList Try.prog ops Q rest (a.put o.dst v') W') : wpList Try.prog ops Q (o :: rest) a W := by
  obtain ⟨v', W', hr, hH', hG⟩ := run_append_row W o.type B v k l hH y m lm hx hlen hB
  refine wpList_plain hgd fun _ hK => ?_
  unfold Oper.wp execOp
  simp only [ho, resolve, invoke, builtin, Sem.run_bind, Sem.run_pure, Result.andThen_ok, List.map_toArray, List.map_cons, List.map_nil, hs, hy]
  rw [hr]
  exact hK _ _ (h v' W' hH' hG)

/-! Equality of blocks. -/
theorem run_eqItems_bytes (d : Nat) (W : World) (a b : Bytes) (hab : a.length = b.length) : ∀ (is : List Nat), (∀ i ∈ is, i < a.length) →
    (Op.eqItems (d + 1) 5 1 (a.map bv).toArray (b.map bv).toArray is).run Try.prog W = .ok (is.all fun i => a[i]? == b[i]?) W
  | [], _ => by simp [Op.eqItems]
  | i :: is, h => by
    have hi := h i (List.mem_cons_self ..)
    have pe : ∀ (l : Bytes) (hl : i < l.length), (part 5 (l.map bv).toArray i).run Try.prog W = .ok (bv l[i]) W := fun l hl => run_part_plain (P := Try.prog) W (e := 5) (by kernel_rfl) (by simp [List.getElem?_eq_getElem hl])
    have e1 : (Op.equalIn (d + 1) 5 (bv a[i]) (bv (b[i]'(by omega)))).run Try.prog W = .ok (a[i]? == b[i]?) W := by
      unfold bv
      rw [run_equalIn_int W d 5 .u8 .u8 _ _ Try.underlying5, List.getElem?_eq_getElem hi, List.getElem?_eq_getElem (show i < b.length by omega)]
      congr 1
      rw [Bool.eq_iff_iff, beq_iff_eq, beq_iff_eq, Option.some.injEq]
      constructor
      · intro h
        exact UInt8.toNat_inj.1 (by omega)
      · intro h
        rw [h]
    unfold Op.eqItems
    rw [Nat.mul_one, Sem.run_bind, pe a hi, Result.andThen_ok, Sem.run_bind, pe b (by omega), Result.andThen_ok, Sem.run_bind, e1, Result.andThen_ok]
    cases hx : (a[i]? == b[i]?) with
    | false => simp [hx]
    | true =>
      simp only [Bool.not_true, Bool.false_eq_true, if_false]
      rw [run_eqItems_bytes d W a b hab is fun j hj => h j (List.mem_cons_of_mem _ hj)]
      simp [hx]
theorem run_neq_blk (W : World) (a b : Bytes) (ha : a.length = 64) (hb : b.length = 64) : (binOp .neq 66 (encA a) (encA b)).run Try.prog W = .ok (.bool (!decide (a = b))) W := by
  obtain ⟨i, hi, -, hs, -⟩ := info_parts infoByte
  have h1 : (Op.equalIn 10000 66 (encA a) (encA b)).run Try.prog W = .ok (decide (a = b)) W := by
    unfold encA
    rw [show (10000 : Nat) = 9999 + 1 from rfl, run_equalIn_array W 9999 _ _ undBlk hi, show Try.prog.cellsOf 5 = 1 from by kernel_rfl, run_eqItems_bytes 9998 W a b (by omega) _ (fun i hi => by have := List.mem_range.1 hi; omega)]
    congr 1
    rw [Bool.eq_iff_iff, List.all_eq_true, decide_eq_true_iff]
    constructor
    · intro h
      apply List.ext_getElem?
      intro j
      by_cases hj : j < 64
      · simpa using h j (List.mem_range.2 hj)
      · rw [List.getElem?_eq_none (by omega), List.getElem?_eq_none (by omega)]
    · rintro rfl j -
      simp
  unfold encA at h1 ⊢
  rw [run_neq_struct, h1]
  rfl
theorem exec_neq_blk (W : World) {a b : Bytes} (ha : a.length = 64) (hb : b.length = 64) {oi : Oper} {ac : Act} {p q : Operand} {ty : TypeId} (ho : oi.op = .binOp .neq 66 p q ty) (hp : ac.eval p = encA a) (hq : ac.eval q = encA b) : (execOp ac.eval oi).run Try.prog W = .ok (.value (.bool (!decide (a = b)))) W := by
  have hg : (eqGuard .neq 66 p q (encA a) (encA b)).run Try.prog W = .ok () W := run_eqGuard_agg (P := Try.prog) W .neq 66 p q _ _ (by kernel_rfl)
  unfold execOp
  simp only [ho, hp, hq, Sem.run_bind, hg, Result.andThen_ok, run_neq_blk W a b ha hb, Sem.run_pure]
end Go.Proofs.Ytfiahkomabllaaa.L
