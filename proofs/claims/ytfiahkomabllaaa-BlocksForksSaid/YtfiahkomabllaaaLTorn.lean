/- (blocks.block).torn: a block of whose bytes only the first were written. -/
import Derived.Test.YtfiahkomabllaaaLApp
import Derived.StillTactics
import Derived.StillTail
namespace Go.Proofs.Ytfiahkomabllaaa.L
open Go Go.RowKit
open Go.Lib

def tornB (b : Bytes) (n : Nat) : Bytes := b.take n ++ zs (64 - n)
theorem tornB_length {b : Bytes} {n : Nat} (hb : b.length = 64) (hn : n ≤ 64) : (tornB b n).length = 64 := by unfold tornB; rw [List.length_append, List.length_take, zs_length]; omega
theorem splice_torn {b : Bytes} {n : Nat} (hb : b.length = 64) (hn : n ≤ 64) : ((zs 64).map bv).toArray.toList.take 0 ++ ((b.take n).map bv ++ ((zs 64).map bv).toArray.toList.drop (0 + n)) = (tornB b n).map bv := by
  unfold tornB zs
  rw [List.map_append, List.take_zero, List.nil_append, ← List.map_drop, List.drop_replicate, Nat.zero_add]
theorem wpList_copy_torn {ops : Array Oper} {rest : List Oper} {o : Oper} {a : Act} {W : World} {Q : Exit → Act → World → Prop} {A L n : Nat} {b : Bytes} (hgd : o.guard = none) (d s : Operand) (ho : o.op = .call { callee := .builtin .copy, args := #[d, s], argTypes := #[30, 30] })
    (hd : a.eval d = .slice (some ⟨L, 0, none⟩) n n) (hs : a.eval s = .slice (some ⟨A, 0, none⟩) 64 64) (hb : b.length = 64) (hn : n ≤ 64) (hA : BoxB W A t64 b) (hL : BoxB W L t64 (zs 64))
    (h : ∀ W', BoxB W' L t64 (tornB b n) → (∀ g, g ≠ L → W'.heap[g]? = W.heap[g]?) → (∀ B X, Below B X W → B ≤ L → Below B X W') → wpList Try.prog ops Q rest (a.put o.dst (.int .i64 (n : Nat))) W') : wpList Try.prog ops Q (o :: rest) a W := by
  have hC : ((b.take n).map bv).length = n := by rw [List.length_map, List.length_take]; omega
  have hm : Nat.min 64 n = n := Nat.min_eq_right hn
  refine wpList_copy_own hgd d s 30 30 ho 5 Try.underlying30 (by kernel_rfl) L 0 n n ⟨A, 0, none⟩ 64 64 hd hs ((zs 64).map bv).toArray t64 hL ((b.take n).map bv)
    (by rw [hC, hm]) (fun j u hj => ?_) (by rw [hC, List.size_toArray, List.length_map, zs_length]; omega) (one_bv _) ?_
  · rw [add_lit', Nat.zero_add]
    have := (hA.lies.part 0 n).range j u hj
    rwa [Nat.add_zero, Nat.zero_add] at this
  · rw [hC]
    refine h _ ?_ (fun g hg => setRow_other W L g _ hg) (fun B X h1 h2 => below_setRow h1 h2 _)
    unfold BoxB
    rw [splice_torn hb hn]
    exact setRow_heap _ _ _ _ _ _ hL
set_option maxRecDepth 100000 in
set_option maxHeartbeats 400000 in
theorem torn_any (b : Bytes) (n : Nat) (w : World) (hb : b.length = 64) (hn : n ≤ 64) :
    Calls Try.prog 39 #[encA b, .int .i64 (n : Int)] w fun e w' => e = .returned (encA (tornB b n)) ∧ Below w.heap.size w w' := by
  have HL64 := Lib.hid (tornB_length hb hn)
  obtain ⟨v, hv⟩ : ∃ v, v = encA b := ⟨_, rfl⟩
  have HV := Lib.hid hv
  rw [← hv]
  clear hv
  have hn1 : (n : Int) ≤ 64 := by omega
  go_enter Try.func39, Try.ntmps39
  go_wp2_with (refine wpList_box_blk rfl _ rfl b HV.out ?_)
  intro W1 hx1 hb1
  have HX1 := Lib.hid hx1
  have HB1 := Lib.hid hb1
  clear hx1 hb1
  go_wp2_with (refine wpList_alloc_box rfl t64 rfl (zs 64) zero64 ?_)
  intro W2 hx2 hb2
  have HX2 := Lib.hid hx2
  have HA2 := Lib.hid (HX1.out.after hb2)
  have HB2 : Hid (Below w.heap.size w W2) := HB1.out.trans (hb2.mono HB1.out.size)
  have HS2 : Hid (w.heap.size < W1.heap.size) := HX1.out.lt
  clear hx2 hb2 HX1
  go_wp2_with (refine wpList_alloc_box rfl t64 rfl (zs 64) zero64 ?_)
  intro W3 hx3 hb3
  have HX3 := Lib.hid hx3
  have HR3 := Lib.hid (HX2.out.after hb3)
  have HA3 := Lib.hid (HA2.out.after hb3)
  have HB3 : Hid (Below w.heap.size w W3) := HB2.out.trans (hb3.mono HB2.out.size)
  have HS3 : Hid (W1.heap.size < W2.heap.size) := HX2.out.lt
  clear hx3 hb3 HX2 HA2
  go_wp2
  refine wp_region_still_tail 4 (by kernel_rfl) (by kernel_rfl) ?_
  simp only [List.take_succ_cons, List.take_zero, List.drop_succ_cons, List.drop_zero]
  repeat still_step
  refine wpStill_nil ?_
  refine wpList_gen (fun V => BoxB V W2.heap.size t64 (zs 64) ∧ BoxB V W1.heap.size t64 (zs 64) ∧ BoxB V w.heap.size t64 b ∧ Below w.heap.size w V) ⟨HX3.out, HR3.out, HA3.out, HB3.out.drew⟩ ?_
  rintro V ⟨g1, g2, g3, g4⟩
  have G1 := Lib.hid g1
  have G2 := Lib.hid g2
  have G3 := Lib.hid g3
  have G4 := Lib.hid g4
  clear g1 g2 g3 g4 HX3 HR3 HA3 HB3
  go_wp2_with (refine wpList_copy_torn rfl _ _ rfl rfl rfl hb hn G3.out G1.out ?_)
  intro W4 hx4 ho4 hb4
  have HX4 : Hid (LiesA W4 W2.heap.size 0 (tornB b n)) := hx4.lies
  have HR4 : Hid (BoxB W4 W1.heap.size t64 (zs 64)) := G2.out.of_heap (ho4 _ (by have := HS3.out; omega))
  have HB4 : Hid (Below w.heap.size w W4) := hb4 _ _ G4.out (by have := HS2.out; have := HS3.out; omega)
  clear hx4 ho4 hb4 G1 G2 G3 G4
  generalize htn : tornB b n = T at *
  have HTN := Lib.hid htn
  clear htn
  go_wp2_with (first | refine wpList_load_blk rfl rfl rfl HX4.out HL64.out ?_ | refine wpList_store_box rfl t64 _ _ rfl W1.heap.size (zs 64) T rfl rfl HR4.out (by rw [HL64.out]; exact zs_length 64) (by rw [HL64.out]; exact sizeBlk) ?_)
  intro W5 hx5 ho5 hb5
  have HX5 := Lib.hid hx5
  have HB5 : Hid (Below w.heap.size w W5) := hb5 _ _ HB4.out (by have := HS2.out; omega)
  clear hx5 ho5 hb5
  go_wp2
  refine bodyPost_ret (results_cell_row rfl _ _ W1.heap.size t64 (T.map bv).toArray (0, 0) _ rfl HX5.out undBlk rfl (by rw [List.size_toArray, List.length_map, HL64.out]; exact sizeBlk)) rfl ?_
  exact ⟨by rw [HTN.out]; rfl, HB5.out⟩
end Go.Proofs.Ytfiahkomabllaaa.L
