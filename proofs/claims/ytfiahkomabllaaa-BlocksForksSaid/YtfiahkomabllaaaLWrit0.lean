/- What blocks.written fills its blocks with: plain facts; a new row of blocks; an append behind an array. -/
import Derived.Test.YtfiahkomabllaaaLHead
namespace Go.Proofs.Ytfiahkomabllaaa.L
open Go Go.RowKit
open Go.Lib

/-- Blocks whose first i are filled with what D holds. -/
def fill (D : Bytes) (k i : Nat) : Bytes := D.take (i * 64) ++ zs (k * 64 - (D.take (i * 64)).length)
theorem fill_length (D : Bytes) (k i : Nat) (h : i ≤ k) : (fill D k i).length = k * 64 := by
  unfold fill
  rw [List.length_append, zs_length, List.length_take]
  omega
theorem fill_zero (D : Bytes) (k : Nat) : fill D k 0 = zs (k * 64) := by simp [fill]
theorem fill_all (D : Bytes) (k : Nat) (h : D.length ≤ k * 64) : fill D k k = D ++ zs (k * 64 - D.length) := by
  unfold fill
  rw [List.take_of_length_le h]
theorem fill_step (D : Bytes) (k i : Nat) (hi : i < k) (h1 : i * 64 ≤ D.length) (h2 : D.length ≤ k * 64) : splice (fill D k i) (i * 64) ((D.drop (i * 64)).take 64) = fill D k (i + 1) := by
  have ht : (D.take (i * 64)).length = i * 64 := by rw [List.length_take]; omega
  have e3 : D.take ((i + 1) * 64) = D.take (i * 64) ++ (D.drop (i * 64)).take 64 := by rw [Nat.succ_mul, List.take_add]
  have hs : ((D.drop (i * 64)).take 64).length ≤ 64 := by rw [List.length_take]; omega
  unfold splice fill
  rw [e3, List.length_append, ht]
  generalize (D.drop (i * 64)).take 64 = C at *
  have e1 : (D.take (i * 64) ++ zs (k * 64 - i * 64)).take (i * 64) = D.take (i * 64) := by
    rw [List.take_append_of_le_length (by omega), List.take_of_length_le (by omega)]
  have e2 : (D.take (i * 64) ++ zs (k * 64 - i * 64)).drop (i * 64 + C.length) = zs (k * 64 - (i * 64 + C.length)) := by
    rw [List.drop_append, List.drop_of_length_le (by omega), List.nil_append, ht]
    unfold zs
    rw [List.drop_replicate]
    congr 1
    omega
  rw [e1, e2, List.append_assoc]
theorem fill_laid (l : Bytes) (n : Nat) (h : need l.length ≠ 0) : fill (head l n ++ l) (need l.length) (need l.length) = laid l n := by
  have := need_room h
  rw [fill_all _ _ (by rw [List.length_append, head_length]; omega)]
  unfold laid zs
  rw [List.length_append, head_length]
theorem splice_map {α β : Type} (f : α → β) (L : List α) (o : Nat) (C : List α) : splice (L.map f) o (C.map f) = (splice L o C).map f := by
  unfold splice
  rw [List.map_append, List.map_append, List.map_take, List.map_drop, List.length_map]

theorem make_blks (W : World) (n : Nat) (hn : n ≤ 1000) : ∃ W', (Instr.makeSlice 57 (.int .i64 (n : Int)) (.int .i64 (n : Int))).run Try.prog W = .ok (.slice (some ⟨W.heap.size, 0, none⟩) n n) W' ∧ BoxB W' W.heap.size t64 (zs (n * 64)) ∧ Below W.heap.size W W' := by
  obtain ⟨i, hi, hz, hs, hb⟩ := info_parts infoBlk
  have hmx : maxLen = 9223372036854775807 := rfl
  have hr := run_makeSlice (P := Try.prog) W 57 66 i _ sliceBlk' hi hz .i64 .i64 (n : Int) (n : Int) (by omega) (Int.le_refl _) (by rw [hs]; omega) (by rw [hb]; omega) (by omega)
  simp only [Int.toNat_natCast, hs] at hr
  have ez : ∀ n j : Nat, j < n → ((List.replicate n (0 : UInt8)).map bv).toArray[j]! = bv 0 := fun n j hj => by simp [hj]
  have e : madeCells (Value.agg ((List.replicate 64 (0 : UInt8)).map bv).toArray).cells (n * 64) = ((zs (n * 64)).map bv).toArray := by
    apply Array.ext_getElem?
    intro j
    unfold madeCells
    by_cases hj : j < n * 64
    · have h64 : j % 64 < 64 := Nat.mod_lt _ (by decide)
      have e1 := ez 64 (j % 64) h64
      have e0 : ((List.replicate 64 (0 : UInt8)).map bv).toArray.size = 64 := by rw [List.size_toArray, List.length_map, List.length_replicate]
      simp only [Value.cells]
      generalize ((List.replicate 64 (0 : UInt8)).map bv).toArray = Z at *
      simp [zs, hj, e0, e1]
    · simp only [Value.cells]
      simp [zs, hj]
  rw [e] at hr
  exact ⟨_, hr, heap_alloc_new W _, (Below.refl _ _).alloc (Nat.le_refl _) _⟩
theorem wpList_make_blks {ops : Array Oper} {rest : List Oper} {o : Oper} {a : Act} {W : World} {Q : Exit → Act → World → Prop} (hg : o.guard = none) (p q : Operand) (ho : o.op = .makeSlice 57 p q) (n : Nat) (hn : n ≤ 1000) (hp : a.eval p = .int .i64 (n : Int)) (hq : a.eval q = .int .i64 (n : Int))
    (h : ∀ W2, BoxB W2 W.heap.size t64 (zs (n * 64)) → Below W.heap.size W W2 → wpList Try.prog ops Q rest (a.put o.dst (.slice (some ⟨W.heap.size, 0, none⟩) n n)) W2) : wpList Try.prog ops Q (o :: rest) a W := by
  obtain ⟨W2, h1, h2, h3⟩ := make_blks W n hn
  refine wpList_plain hg fun K hK => ?_
  unfold Oper.wp execOp
  simp only [ho, hp, hq, Sem.run_bind, h1, Result.andThen_ok, Sem.run_pure]
  exact hK _ _ (h _ h2 h3)
/-- An append behind bytes that lie where there is no room: all in a new row. -/
theorem run_append_new (W : World) (ty : TypeId) (g off n cap : Nat) (l : Bytes) (hl : l.length = n) (hA : LiesA W g off l) (x : Value) (m : Bytes) (hx : BytesIn W x m) (hm : cap < n + m.length) (hm0 : 0 < m.length) (hlen : n + m.length ≤ 1000000000) :
    ∃ v' W', (Builtin.append_ #[30, 30] ty #[.slice (some ⟨g, off, none⟩) n cap, x]).run Try.prog W = .ok v' W' ∧ Held W' W.heap.size v' (l ++ m) ∧ Below W.heap.size W W' := by
  obtain ⟨i, hi, hz, hs, hb⟩ := info_parts infoByte
  subst hl
  rcases hx with ⟨c, rfl, rfl⟩ | ⟨gx, ox, cx, rfl, h1, h2, h3, h4⟩
  · exact absurd hm0 (by decide)
  have hr := run_append_grow (P := Try.prog) W 30 ty 5 i (.int .u8 0) Try.underlying30 hi hz ⟨g, off, none⟩ l.length cap (l.map bv) (by rw [List.length_map, hs, Nat.mul_one]) (fun j u hj => by rw [add_lit']; exact hA.range j u hj) ⟨gx, ox, none⟩ m.length cx (m.map bv) (by rw [List.length_map, hs, Nat.mul_one])
    (fun j u hj => by rw [add_lit']; exact (show LiesA W gx ox m from h4).range j u hj) hm (by omega) (growslice_fits (by omega) (by rw [hb]; omega))
  have hge := grownCap_ge W (l.length + m.length) cap 5
  have hcm : grownCap W (l.length + m.length) cap 5 ≤ maxLen := grownCap_le_maxLen W _ cap 5 (by have : maxLen = 9223372036854775807 := rfl; omega)
  refine ⟨_, _, hr, ⟨by simp, .inr ⟨W.heap.size, _, _, by rw [List.length_append], Nat.le_refl _, heap_alloc_new W.drew _, by rw [List.length_append]; exact hge, hcm, ?_, ?_⟩⟩, ⟨rfl, rfl, rfl, by simp, fun k hk => Go.heap_alloc_old W.drew _ hk⟩⟩
  · simp only [Array.size_append, List.size_toArray, size_zeroCells, List.length_map, Value.cells]
    simp
    omega
  · simp only [Array.toList_append, List.append_assoc]
    rw [← List.append_assoc, ← List.map_append, Nat.mul_one]
    rw [show (l ++ m).length = ((l ++ m).map bv).length from (List.length_map _).symm]
    exact List.take_left
theorem wpList_append_new {ops : Array Oper} {rest : List Oper} {o : Oper} {a : Act} {W : World} {Q : Exit → Act → World → Prop} (hgd : o.guard = none) (s x : Operand)
    (ho : o.op = .call { callee := .builtin .append, args := #[s, x], argTypes := #[30, 30] })
    (g off n cap : Nat) (l : Bytes) (hs : a.eval s = .slice (some ⟨g, off, none⟩) n cap) (hl : l.length = n) (hA : LiesA W g off l) (y : Value) (m : Bytes) (hy : a.eval x = y) (hx : BytesIn W y m) (hm : cap < n + m.length) (hm0 : 0 < m.length) (hlen : n + m.length ≤ 1000000000)
    (h : ∀ v' W', Held W' W.heap.size v' (l ++ m) → Below W.heap.size W W' → wpList Try.prog ops Q rest (a.put o.dst v') W') : wpList Try.prog ops Q (o :: rest) a W := by
  obtain ⟨v', W', hr, hH', hG⟩ := run_append_new W o.type g off n cap l hl hA y m hx hm hm0 hlen
  refine wpList_plain hgd fun _ hK => ?_
  unfold Oper.wp execOp
  simp only [ho, resolve, invoke, builtin, Sem.run_bind, Sem.run_pure, Result.andThen_ok, List.map_toArray, List.map_cons, List.map_nil, hs, hy]
  rw [hr]
  exact hK _ _ (h v' W' hH' hG)
end Go.Proofs.Ytfiahkomabllaaa.L
