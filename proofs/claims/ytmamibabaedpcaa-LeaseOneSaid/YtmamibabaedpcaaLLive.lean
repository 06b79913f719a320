/- What must be whatever is asked. -/
import Derived.Test.YtmamibabaedpcaaLRefT
import Derived.Test.YtmamibabaedpcaaLRel
namespace Go.Proofs.Ytmamibabaedpcaa.L
open Go.RowKit T O
open Go.Lib

def bA : ByteArray := ⟨#[97]⟩
def bB : ByteArray := ⟨#[98]⟩
theorem live1 : tryL Lz0 bA 0 10 = (⟨bA, 10, 1⟩, 0) := by decide +kernel
theorem live2 : tryL ⟨bA, 10, 1⟩ bB 9 10 = (Lz0, 8) := by decide +kernel
theorem live3 : tryL ⟨bA, 10, 1⟩ bB 10 10 = (⟨bB, 20, 2⟩, 0) := by decide +kernel
theorem live4 : mineB ⟨bA, 10, 1⟩ bA 9 = true := by decide +kernel
theorem try_at {x : Lz} {who : ByteArray} {now span : Int} {r : Lz} {n : Int} (h : tryL x who now span = (r, n)) (w : World) (hn : 0 ≤ now) (hs : 0 ≤ span) :
    Calls Try.prog 11 #[encL x, .string who, .int .u64 now, .int .u64 span] w fun e w' => e = .returned (.tuple #[encL r, .int .i64 n]) ∧ Below w.heap.size w w' := by
  have := try_any x who now span w hn hs
  rw [h] at this
  exact this
theorem rel_at {x : Lz} {who : ByteArray} {r : Lz} {n : Int} (h : relL x who = (r, n)) (w : World) :
    Calls Try.prog 14 #[encL x, .string who] w fun e w' => e = .returned (.tuple #[encL r, .int .i64 n]) ∧ Below w.heap.size w w' := by
  have := rel_any x who w
  rw [h] at this
  exact this
theorem mine_at {x : Lz} {who : ByteArray} {now : Int} {b : Bool} (h : mineB x who now = b) (w : World) :
    Calls Try.prog 17 #[encL x, .string who, .int .u64 now] w fun e w' => e = .returned (.bool b) ∧ Below w.heap.size w w' := by
  have := mine_any x who now w
  rw [h] at this
  exact this

set_option maxRecDepth 100000 in
set_option maxHeartbeats 2000000 in
theorem live_any (w : World) : Calls Try.prog 16 #[] w fun e w' => e = .returned (.bool true) ∧ Below w.heap.size w w' := by
  go_enter Try.func16, Try.ntmps16
  go_wp2_with fail
  refine (try_at live1 _ (by decide) (by decide)).mono ?_
  rintro e W1 ⟨rfl, hb1⟩
  have hn1 := BoxL.new W1 Lz0
  have HB := Lib.hid hb1
  clear hb1
  go_upto_region 2 with ((with_reducible refine wpList_store_rowTo rfl 24 _ _ rfl rfl W1.heap.size (cellsL ⟨bA, 10, 1⟩) ?_ ?_ 24 (cellsL Lz0) ?_ ?_ ?_ ?_ ?_); rfl; rfl; exact hn1; exact sizeL; rfl; exact one_L _)
  refine wp_gen (fun V => BoxL V W1.heap.size ⟨bA, 10, 1⟩ ∧ Below w.heap.size w V) ⟨hn1.setRow _, below_setRow (HB.out.alloc HB.out.size _) HB.out.size _⟩ ?_
  clear HB hn1
  rintro V1 ⟨hx, hlow⟩
  have HL := Lib.hid hlow
  have HX := Lib.hid hx
  have c0 := hx.c0
  have c1 := hx.c1
  have c2 := hx.c2
  clear hlow hx
  go_wp2_with fail
  refine (try_at live2 _ (by decide) (by decide)).mono ?_
  rintro e W2 ⟨rfl, hb⟩
  replace HL := Lib.hid (HL.out.trans (hb.mono HL.out.size))
  replace HX := Lib.hid (HX.out.after hb)
  have hn1 := BoxL.new W2 Lz0
  clear hb c0 c1 c2
  go_upto_region 3 with ((with_reducible refine wpList_store_rowTo rfl 24 _ _ rfl rfl W2.heap.size (cellsL Lz0) ?_ ?_ 24 (cellsL Lz0) ?_ ?_ ?_ ?_ ?_); rfl; rfl; exact hn1; exact sizeL; rfl; exact one_L _)
  refine wp_gen (fun V => BoxL V W1.heap.size ⟨bA, 10, 1⟩ ∧ Below w.heap.size w V) ⟨(HX.out.alloc _).row (by have := HX.out.lt; omega) _, below_setRow (HL.out.alloc HL.out.size _) HL.out.size _⟩ ?_
  clear HL HX hn1
  rintro V2 ⟨hx, hlow⟩
  have HL := Lib.hid hlow
  have HX := Lib.hid hx
  have c0 := hx.c0
  have c1 := hx.c1
  have c2 := hx.c2
  clear hlow hx
  go_wp2_with fail
  refine (try_at live3 _ (by decide) (by decide)).mono ?_
  rintro e W3 ⟨rfl, hb⟩
  replace HL := Lib.hid (HL.out.trans (hb.mono HL.out.size))
  replace HX := Lib.hid (HX.out.after hb)
  have hn1 := BoxL.new W3 Lz0
  clear hb c0 c1 c2
  go_upto_region 4 with ((with_reducible refine wpList_store_rowTo rfl 24 _ _ rfl rfl W3.heap.size (cellsL ⟨bB, 20, 2⟩) ?_ ?_ 24 (cellsL Lz0) ?_ ?_ ?_ ?_ ?_); rfl; rfl; exact hn1; exact sizeL; rfl; exact one_L _)
  refine wp_gen (fun V => BoxL V W3.heap.size ⟨bB, 20, 2⟩ ∧ BoxL V W1.heap.size ⟨bA, 10, 1⟩ ∧ Below w.heap.size w V) ⟨hn1.setRow _, (HX.out.alloc _).row (by have := HX.out.lt; omega) _, below_setRow (HL.out.alloc HL.out.size _) HL.out.size _⟩ ?_
  clear HL HX hn1
  rintro V3 ⟨hy, hx, hlow⟩
  have HL := Lib.hid hlow
  have c0 : V3.cell? ⟨W1.heap.size, 0, none⟩ = some (.string bA) := hx.c0
  have c1 : V3.cell? ⟨W1.heap.size, 1, none⟩ = some (.int .u64 10) := hx.c1
  have c2 : V3.cell? ⟨W1.heap.size, 2, none⟩ = some (.int .u64 1) := hx.c2
  have d2 : V3.cell? ⟨W3.heap.size, 2, none⟩ = some (.int .u64 2) := hy.c2
  clear hlow hx hy
  go_wp2_with fail
  refine (mine_at live4 _).mono ?_
  rintro e W4 ⟨rfl, hb⟩
  have HF := Lib.hid (HL.out.trans (hb.mono HL.out.size))
  clear hb
  go_wp2
  go_ret
  exact ⟨rfl, HF.out⟩
end Go.Proofs.Ytmamibabaedpcaa.L
