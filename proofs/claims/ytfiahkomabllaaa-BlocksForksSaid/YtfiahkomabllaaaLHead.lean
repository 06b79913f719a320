/- blocks.headOf, blocks.lengthOf. -/
import Derived.Test.YtfiahkomabllaaaLArm
namespace Go.Proofs.Ytfiahkomabllaaa.L
open Go Go.RowKit
open Go.Lib

theorem wpList_build_box {ops : Array Oper} {rest : List Oper} {o : Oper} {a : Act} {w : World} {Q : Exit → Act → World → Prop} (hg : o.guard = none) (t : TypeId) (parts : Array (Nat × Operand)) (ho : o.op = .build t parts) (cs : Array Value) (l : Bytes)
    (hf : Try.prog.built t (parts.toList.map fun (i, x) => (i, a.eval x)) = some cs) (hl : cs = (l.map bv).toArray) (h : ∀ x, Hid (x = encA l) → wpList Try.prog ops Q rest (a.put o.dst x) w) : wpList Try.prog ops Q (o :: rest) a w := by
  subst hl
  exact wpList_build hg t parts ho (by rw [Array.toList_map, hf]; rfl) (by rw [Array.toList_map, hf]; exact h _ rfl)
theorem built8 (a b c d e f g h : Int) : Try.prog.built t8 [(0, .int .u8 a), (1, .int .u8 b), (2, .int .u8 c), (3, .int .u8 d), (4, .int .u8 e), (5, .int .u8 f), (6, .int .u8 g), (7, .int .u8 h)] = some #[.int .u8 a, .int .u8 b, .int .u8 c, .int .u8 d, .int .u8 e, .int .u8 f, .int .u8 g, .int .u8 h] := by kernel_rfl
theorem bv_u8 {n : Nat} {z : Int} (h : z = ((n % 256 : Nat) : Int)) : Value.int .u8 z = bv (u8 n) := by unfold bv; rw [u8_nat, h]
theorem head_cells (l : Bytes) (n s : Nat) (hs : sum l = s) (h4 : s < 4294967296) : Hid (#[.int .u8 ((l.length : Int) / 256 % 256), .int .u8 ((l.length : Int) % 256), .int .u8 ((n : Int) / 256 % 256), .int .u8 ((n : Int) % 256), .int .u8 ((s : Int) / 16777216), .int .u8 ((s : Int) / 65536 % 256), .int .u8 ((s : Int) / 256 % 256), .int .u8 ((s : Int) % 256)] = ((head l n).map bv).toArray) := by
  have e0 : ∀ m : Nat, bv (u8 m) = .int .u8 ((m : Int) % 256) := fun m => (bv_u8 (by omega)).symm
  have e1 : ∀ m k : Nat, bv (u8 (m / k)) = .int .u8 ((m : Int) / k % 256) := fun m k => by rw [e0]; rfl
  have e2 : bv (u8 (s / 16777216)) = .int .u8 ((s : Int) / 16777216) := (bv_u8 (by omega)).symm
  show _ = _
  unfold head
  rw [hs]
  simp only [List.map_cons, List.map_nil]
  rw [e1, e1, e2, e1, e1, e0, e0, e0]
  rfl
set_option maxRecDepth 100000 in
set_option maxHeartbeats 400000 in
theorem headOf_any (v : Value) (l : Bytes) (n : Nat) (w : World) (hv : BytesIn w v l) (hl : l.length ≤ 100000) (hn : n ≤ 1000000000000) :
    Calls Try.prog 48 #[v, .int .i64 (n : Int)] w fun e w' => e = .returned (encA (head l n)) ∧ Below w.heap.size w w' := by
  obtain ⟨a, k, c, rfl⟩ := hv.shape
  obtain rfl : k = l.length := by rcases hv with ⟨c, h, rfl⟩ | ⟨g, off, cap, h, -⟩ <;> cases h <;> rfl
  have HV := Lib.hid hv
  have HS : Hid (sum l < 4294967296) := sum_lt l
  clear hv
  go_enter Try.func48, Try.ntmps48
  go_wp2_with (refine wpList_alloc_box rfl t8 rfl (zs 8) zero8 ?_)
  intro W2 hx2 hb2
  have HX2 := Lib.hid hx2
  have HB2 := Lib.hid hb2
  clear hx2 hb2
  have HSU : Hid (Calls Try.prog 14 #[.slice a l.length c] W2 fun e w' => e = .returned (.int .u32 (sum l : Nat)) ∧ w' = W2) := sum_any _ l W2 (HV.out.after HB2.out)
  have hs4 := HS.out
  go_wp2_with (go_at_call 14; refine HSU.out.mono ?_)
  rintro e w' ⟨rfl, rfl⟩
  clear HSU
  generalize hsum : sum l = s at *
  have HSE := Lib.hid hsum
  clear hsum
  have HQ0 := head_cells l n s HSE.out hs4
  have hl8 : (head l n).length = 8 := rfl
  generalize hE : head l n = hd at *
  have HE := Lib.hid hE
  clear hE
  have HQ := HQ0
  have HL8 := Lib.hid hl8
  clear HQ0 hl8
  go_wp2_with (refine wpList_build_box rfl t8 _ rfl #[.int .u8 ((l.length : Int) / 256 % 256), .int .u8 ((l.length : Int) % 256), .int .u8 ((n : Int) / 256 % 256), .int .u8 ((n : Int) % 256), .int .u8 ((s : Int) / 16777216), .int .u8 ((s : Int) / 65536 % 256), .int .u8 ((s : Int) / 256 % 256), .int .u8 ((s : Int) % 256)] hd ?_ HQ.out ?_; (focus exact built8 _ _ _ _ _ _ _ _))
  intro x HXE
  go_wp2_with (refine wpList_store_box rfl t8 _ _ rfl w.heap.size (zs 8) hd rfl HXE.out HX2.out (by rw [HL8.out]; rfl) (by rw [HL8.out]; exact size8) ?_)
  intro V hx ho hb
  have HX := Lib.hid hx
  have HB : Hid (Below w.heap.size w V) := hb _ _ HB2.out (Nat.le_refl _)
  clear hx ho hb
  go_wp2
  refine bodyPost_ret (results_cell_row rfl _ _ w.heap.size t8 (hd.map bv).toArray (0, 0) _ rfl HX.out und8 rfl (by rw [List.size_toArray, List.length_map, HL8.out]; exact size8)) rfl ?_
  exact ⟨by rw [HE.out]; rfl, HB.out⟩
theorem lenOf_eq (b : Bytes) (h : 2 ≤ b.length) : lenOf b = b[0].toNat * 256 + b[1].toNat := by
  unfold lenOf
  simp [List.getD, List.getElem?_eq_getElem (show 0 < b.length by omega), List.getElem?_eq_getElem (show 1 < b.length by omega)]
set_option maxRecDepth 100000 in
set_option maxHeartbeats 400000 in
theorem lengthOf_any (b : Bytes) (w : World) (hb : b.length = 64) :
    Calls Try.prog 51 #[encA b] w fun e w' => e = .returned (.int .i64 (lenOf b : Nat)) ∧ Below w.heap.size w w' := by
  have HE : Hid (lenOf b = b[0].toNat * 256 + b[1].toNat) := lenOf_eq b (by omega)
  obtain ⟨v, hv⟩ : ∃ v, v = encA b := ⟨_, rfl⟩
  have HV := Lib.hid hv
  rw [← hv]
  clear hv
  go_enter Try.func51, Try.ntmps51
  go_wp2_with (refine wpList_box_blk rfl _ rfl b HV.out ?_)
  intro W2 hx hb2
  have HB2 := Lib.hid hb2
  have b0 : W2.cell? ⟨w.heap.size, 0, none⟩ = some (.int .u8 (b[0].toNat : Int)) := hx.lies 0 (by omega)
  have b1 : W2.cell? ⟨w.heap.size, 1, none⟩ = some (.int .u8 (b[1].toNat : Int)) := hx.lies 1 (by omega)
  clear hx hb2
  have h0 : b[0].toNat < 256 := b[0].toNat_lt
  have h1 : b[1].toNat < 256 := b[1].toNat_lt
  go_wp2
  go_ret
  refine ⟨?_, HB2.out⟩
  show Ending.returned (.int .i64 (bits .or .i64 ((b[0].toNat : Int) * 256) (b[1].toNat : Int))) = _
  rw [i64_join _ _ h0 h1, HE.out]
end Go.Proofs.Ytfiahkomabllaaa.L
