/- TopFenced: its walk. -/
import Derived.Test.YtmamibabaedpcaaLNone
namespace Go.Proofs.Ytmamibabaedpcaa.L
open Go.RowKit T O
open Go.Lib

theorem name_A : nameB bA.data.toList = true := by decide +kernel
theorem name_B : nameB bB.data.toList = true := by decide +kernel
theorem emp_A : emp bA = false := by decide +kernel
theorem emp_B : emp bB = false := by decide +kernel
theorem ne_AB : bB ≠ bA := by decide +kernel
theorem up0 : up 0 = 1 := by decide +kernel
theorem up1 : up 1 = 2 := by decide +kernel
theorem fenced1 {now n : Int} (h0 : 0 ≤ now) (h1 : now ≤ 4294967295) (h2 : 1 ≤ n) (h3 : n ≤ 65536) : tryL Lz0 bA now n = (⟨bA, now + n, 1⟩, 0) := by
  unfold tryL
  rw [if_neg (by rw [name_A]; decide), if_neg (by rw [range_iff.2 ⟨h2, by omega, by omega⟩]; decide), if_neg (fun h => absurd (mine_iff.1 h).2.1 (by decide +kernel)), if_neg (fun h => absurd (mine_iff.1 h).1 (by decide +kernel))]
  show ((⟨bA, now + n, up 0⟩ : Lz), (0 : Int)) = _
  rw [up0]
theorem fenced2 {now n : Int} (h0 : 0 ≤ now) (h1 : now ≤ 4294967295) (h2 : 1 ≤ n) (h3 : n ≤ 65536) : tryL ⟨bA, now + n, 1⟩ bB (now + n - 1) n = (Lz0, 8) := by
  unfold tryL
  rw [if_neg (by rw [name_B]; decide), if_neg (by rw [range_iff.2 ⟨h2, by omega, by omega⟩]; decide), if_neg (fun h => absurd (mine_iff.1 h).2.1 ne_AB), if_pos (mine_iff.2 ⟨emp_A, rfl, by show now + n - 1 < now + n; omega⟩)]
theorem fenced3 {now n : Int} (h0 : 0 ≤ now) (h1 : now ≤ 4294967295) (h2 : 1 ≤ n) (h3 : n ≤ 65536) : tryL ⟨bA, now + n, 1⟩ bB (now + n) n = (⟨bB, now + n + n, 2⟩, 0) := by
  unfold tryL
  rw [if_neg (by rw [name_B]; decide), if_neg (by rw [range_iff.2 ⟨h2, by omega, by omega⟩]; decide), if_neg (fun h => absurd (mine_iff.1 h).2.1 ne_AB), if_neg (fun h => absurd (mine_iff.1 h).2.2 (by show ¬ now + n < now + n; omega))]
  show ((⟨bB, now + n + n, up 1⟩ : Lz), (0 : Int)) = _
  rw [up1]
theorem fenced4 {now n : Int} : mineB ⟨bA, now + n, 1⟩ bA (now + n) = false := by
  rw [Bool.eq_false_iff]
  exact fun h => absurd (mine_iff.1 h).2.2 (by show ¬ now + n < now + n; omega)
theorem fenced5 {now n : Int} (h2 : 1 ≤ n) : mineB ⟨bB, now + n + n, 2⟩ bB (now + n) = true := mine_iff.2 ⟨emp_B, rfl, by show now + n < now + n + n; omega⟩

set_option maxRecDepth 100000 in
set_option maxHeartbeats 4000000 in
theorem topFenced_any (now span : Int) (h0 : 0 ≤ now) (h1 : now ≤ 4294967295) (h2 : 0 ≤ span) (h3 : span ≤ 65535) (w : World) : Calls Try.prog 10 #[.int .u32 now, .int .u16 span] w fun e w' => e = .returned (.bool true) ∧ Below w.heap.size w w' := by
  have T1 := Lib.hid (fenced1 (n := span + 1) h0 h1 (by omega) (by omega))
  have T2 := Lib.hid (fenced2 (n := span + 1) h0 h1 (by omega) (by omega))
  have T3 := Lib.hid (fenced3 (n := span + 1) h0 h1 (by omega) (by omega))
  go_enter Try.func10, Try.ntmps10
  go_wp2_with fail
  refine (try_at T1.out _ (by omega) (by omega)).mono ?_
  rintro e W1 ⟨rfl, hb1⟩
  have hn1 := BoxL.new W1 Lz0
  have HB := Lib.hid hb1
  clear hb1
  go_upto_region 3 with ((with_reducible refine wpList_store_rowTo rfl 24 _ _ rfl rfl W1.heap.size (cellsL ⟨bA, now + (span + 1), 1⟩) ?_ ?_ 24 (cellsL Lz0) ?_ ?_ ?_ ?_ ?_); rfl; rfl; exact hn1; exact sizeL; rfl; exact one_L _)
  refine wp_gen (fun V => BoxL V W1.heap.size ⟨bA, now + (span + 1), 1⟩ ∧ Below w.heap.size w V) ⟨hn1.setRow _, below_setRow (HB.out.alloc HB.out.size _) HB.out.size _⟩ ?_
  have hw1 := HB.out.size
  clear HB hn1 T1
  rintro V1 ⟨hx, hlow⟩
  have HL := Lib.hid hlow
  have HX := Lib.hid hx
  have c0 : V1.cell? ⟨W1.heap.size, 0, none⟩ = some (.string bA) := hx.c0
  have c1 : V1.cell? ⟨W1.heap.size, 1, none⟩ = some (.int .u64 (now + (span + 1))) := hx.c1
  have c2 : V1.cell? ⟨W1.heap.size, 2, none⟩ = some (.int .u64 1) := hx.c2
  clear hlow hx
  go_wp2_with fail
  refine (try_at T2.out _ (by omega) (by omega)).mono ?_
  rintro e W2 ⟨rfl, hb⟩
  replace HL := Lib.hid (HL.out.trans (hb.mono HL.out.size))
  replace HX := Lib.hid (HX.out.after hb)
  have hn1 := BoxL.new W2 Lz0
  clear hb c0 c1 c2 T2
  go_upto_region 4 with ((with_reducible refine wpList_store_rowTo rfl 24 _ _ rfl rfl W2.heap.size (cellsL Lz0) ?_ ?_ 24 (cellsL Lz0) ?_ ?_ ?_ ?_ ?_); rfl; rfl; exact hn1; exact sizeL; rfl; exact one_L _)
  refine wp_gen (fun V => BoxL V W1.heap.size ⟨bA, now + (span + 1), 1⟩ ∧ Below w.heap.size w V) ⟨(HX.out.alloc _).row (by have := HX.out.lt; omega) _, below_setRow (HL.out.alloc HL.out.size _) HL.out.size _⟩ ?_
  clear HL HX hn1
  rintro V2 ⟨hx, hlow⟩
  have HL := Lib.hid hlow
  have HX := Lib.hid hx
  have c0 : V2.cell? ⟨W1.heap.size, 0, none⟩ = some (.string bA) := hx.c0
  have c1 : V2.cell? ⟨W1.heap.size, 1, none⟩ = some (.int .u64 (now + (span + 1))) := hx.c1
  have c2 : V2.cell? ⟨W1.heap.size, 2, none⟩ = some (.int .u64 1) := hx.c2
  clear hlow hx
  go_wp2_with fail
  refine (try_at T3.out _ (by omega) (by omega)).mono ?_
  rintro e W3 ⟨rfl, hb⟩
  replace HL := Lib.hid (HL.out.trans (hb.mono HL.out.size))
  replace HX := Lib.hid (HX.out.after hb)
  have hn1 := BoxL.new W3 Lz0
  clear hb c0 c1 c2 T3
  go_upto_region 5 with ((with_reducible refine wpList_store_rowTo rfl 24 _ _ rfl rfl W3.heap.size (cellsL ⟨bB, now + (span + 1) + (span + 1), 2⟩) ?_ ?_ 24 (cellsL Lz0) ?_ ?_ ?_ ?_ ?_); rfl; rfl; exact hn1; exact sizeL; rfl; exact one_L _)
  refine wp_gen (fun V => BoxL V W3.heap.size ⟨bB, now + (span + 1) + (span + 1), 2⟩ ∧ BoxL V W1.heap.size ⟨bA, now + (span + 1), 1⟩ ∧ Below w.heap.size w V) ⟨hn1.setRow _, (HX.out.alloc _).row (by have := HX.out.lt; omega) _, below_setRow (HL.out.alloc HL.out.size _) HL.out.size _⟩ ?_
  have hw3 := HL.out.size
  clear HL HX hn1
  rintro V3 ⟨hy, hx, hlow⟩
  have HL := Lib.hid hlow
  have HX := Lib.hid hx
  have HY := Lib.hid hy
  clear hlow hx hy
  go_wp2_with fail
  refine (newGuard_any _).mono ?_
  rintro e W4 ⟨rfl, hg, hb, hz⟩
  replace HL := Lib.hid (HL.out.trans (hb.mono HL.out.size))
  have hgl : W3.heap.size < V3.heap.size ∧ W1.heap.size < V3.heap.size := ⟨HY.out.lt, HX.out.lt⟩
  have hvl : w.heap.size ≤ V3.heap.size := Nat.le_trans hw1 (Nat.le_of_lt hgl.2)
  replace HX := Lib.hid (HX.out.after hb)
  replace HY := Lib.hid (HY.out.after hb)
  have HG := Lib.hid hg
  clear hb hz hg
  have c2 : W4.cell? ⟨W1.heap.size, 2, none⟩ = some (.int .u64 1) := HX.out.c2
  go_wp2_with fail
  refine (check_new _ 0 1 _ HG.out (by decide)).mono ?_
  rintro e W5 ⟨rfl, rfl⟩
  clear c2
  have HG1 := Lib.hid (HG.out.set 1)
  replace HX := Lib.hid (HX.out.other (p := ⟨V3.heap.size, 0, none⟩) (by simp; omega) (.int .u64 1))
  replace HY := Lib.hid (HY.out.other (p := ⟨V3.heap.size, 0, none⟩) (by simp; omega) (.int .u64 1))
  replace HL := Lib.hid (HL.out.setCell (p := ⟨V3.heap.size, 0, none⟩) hvl (.int .u64 1))
  clear HG
  have d2 : (W4.setCell ⟨V3.heap.size, 0, none⟩ (.int .u64 1)).cell? ⟨W3.heap.size, 2, none⟩ = some (.int .u64 2) := HY.out.c2
  generalize W4.setCell ⟨V3.heap.size, 0, none⟩ (.int .u64 1) = W5 at HG1 HX HY HL d2
  go_wp2_with fail
  refine (check_new _ 1 2 _ HG1.out (by decide)).mono ?_
  rintro e W6 ⟨rfl, rfl⟩
  clear d2
  have HG2 := Lib.hid (HG1.out.set 2)
  replace HX := Lib.hid (HX.out.other (p := ⟨V3.heap.size, 0, none⟩) (by simp; omega) (.int .u64 2))
  replace HY := Lib.hid (HY.out.other (p := ⟨V3.heap.size, 0, none⟩) (by simp; omega) (.int .u64 2))
  replace HL := Lib.hid (HL.out.setCell (p := ⟨V3.heap.size, 0, none⟩) hvl (.int .u64 2))
  clear HG1
  have c2 : (W5.setCell ⟨V3.heap.size, 0, none⟩ (.int .u64 2)).cell? ⟨W1.heap.size, 2, none⟩ = some (.int .u64 1) := HX.out.c2
  generalize W5.setCell ⟨V3.heap.size, 0, none⟩ (.int .u64 2) = W6 at HG2 HX HY HL c2
  go_wp2_with fail
  refine (check_old _ 2 1 _ HG2.out (by decide)).mono ?_
  rintro e W7 ⟨rfl, rfl⟩
  have c0 : W6.cell? ⟨W1.heap.size, 0, none⟩ = some (.string bA) := HX.out.c0
  have c1 : W6.cell? ⟨W1.heap.size, 1, none⟩ = some (.int .u64 (now + (span + 1))) := HX.out.c1
  go_wp2_with fail
  refine (mine_at fenced4 _).mono ?_
  rintro e W8 ⟨rfl, hb⟩
  replace HL := Lib.hid (HL.out.trans (hb.mono HL.out.size))
  replace HY := Lib.hid (HY.out.after hb)
  clear hb c0 c1 c2
  have d0 : W8.cell? ⟨W3.heap.size, 0, none⟩ = some (.string bB) := HY.out.c0
  have d1 : W8.cell? ⟨W3.heap.size, 1, none⟩ = some (.int .u64 (now + (span + 1) + (span + 1))) := HY.out.c1
  have d2 : W8.cell? ⟨W3.heap.size, 2, none⟩ = some (.int .u64 2) := HY.out.c2
  go_wp2_with fail
  refine (mine_at (fenced5 (by omega)) _).mono ?_
  rintro e W9 ⟨rfl, hb⟩
  have HF := Lib.hid (HL.out.trans (hb.mono HL.out.size))
  clear hb
  go_wp2
  go_ret
  exact ⟨rfl, HF.out⟩
end Go.Proofs.Ytmamibabaedpcaa.L
