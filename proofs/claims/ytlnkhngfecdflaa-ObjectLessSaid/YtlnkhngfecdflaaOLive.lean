/- What must be whatever is asked: live answers true. -/
import Derived.Test.YtlnkhngfecdflaaODefault
import Derived.Test.YtlnkhngfecdflaaOKey
namespace Go.Proofs.Ytlnkhngfecdflaa.O
open Go.RowKit T
open Go.Lib hiding intOf

def oL : Obj := ⟨3, ⟨#[97]⟩, 0, 0, false, false, ⟨#[102, 97, 115, 116]⟩, 10, 0, 0, false, false, E0, E0, E0, E0, E0, 0, 0, 0⟩
def dL : Obj := ⟨3, ⟨#[97]⟩, 0, 0, false, true, ⟨#[102, 97, 115, 116]⟩, 10, 0, 1, false, false, E0, E0, E0, E0, E0, 1, 0, 0⟩
theorem def_L : defO oL = dL := by decide +kernel
theorem right_L : rightB dL = true := by decide +kernel
theorem user_L : userB dL = true := by decide +kernel
theorem built_live : Try.prog.built 27 [(0, .int .u8 3), (1, .string ⟨#[97]⟩), (6, .string ⟨#[102, 97, 115, 116]⟩), (7, .int .i64 10)] = some (cellsO oL) := by kernel_rfl

set_option maxRecDepth 100000 in
set_option maxHeartbeats 2000000 in
theorem live_any (w : World) :
    Calls Try.prog 10 #[] w fun e w' => e = .returned (.bool true) ∧ Below w.heap.size w w' := by
  go_enter Try.func10, Try.ntmps10
  go_wp2_with ((with_reducible refine wpList_build_to rfl 27 _ rfl (cellsO oL) ?_ ?_); exact built_live)
  refine (default_any oL _ ⟨by decide, by decide⟩).mono ?_
  rintro e w1 ⟨rfl, hb1⟩
  rw [def_L]
  have hn := BoxO.new w1 O0
  have hlow := hb1.alloc hb1.size
  go_upto_region 2 with ((with_reducible refine wpList_store_rowTo rfl 27 _ _ rfl rfl w1.heap.size (cellsO dL) ?_ ?_ 27 (cellsO O0) ?_ ?_ ?_ ?_ ?_); rfl; rfl; exact hn; exact sizeObj; exact sz_cells _ _; exact one_cells _)
  refine wp_gen (fun W => BoxO W w1.heap.size dL ∧ Below w.heap.size w W) ⟨hn.setRow _, below_setRow (hlow _) hb1.size _⟩ ?_
  clear hn hlow
  have hz1 := hb1.size
  clear hb1
  rintro W1 ⟨hb, hlow⟩
  have c5 : W1.cell? ⟨w1.heap.size, 5, none⟩ = some (.bool true) := hb.c5
  have c17 : W1.cell? ⟨w1.heap.size, 17, none⟩ = some (.int .u8 1) := hb.c17
  have c9 : W1.cell? ⟨w1.heap.size, 9, none⟩ = some (.int .u8 1) := hb.c9
  go_wp2_with ((with_reducible refine wpList_load_obj ?_ rfl ?_ hb ?_); rfl; rfl)
  refine (right_any dL _).mono ?_
  rintro e W2 ⟨rfl, hb2⟩
  rw [right_L]
  replace hb := hb.after hb2
  replace hlow := hlow.trans (hb2.mono hlow.size)
  clear hb2 c5 c17 c9
  go_wp2_with ((with_reducible refine wpList_load_obj ?_ rfl ?_ hb ?_); rfl; rfl)
  refine (user_any dL _).mono ?_
  rintro e W3 ⟨rfl, hb3⟩
  rw [user_L]
  replace hlow := hlow.trans (hb3.mono hlow.size)
  clear hb3 hb
  go_wp2_with fail
  refine (attachName_any ⟨#[118]⟩ ⟨#[110]⟩ _ (by decide) (by decide)).mono ?_
  rintro e W4 ⟨rfl, rfl⟩
  rw [show attachN ⟨#[118]⟩ ⟨#[110]⟩ = ⟨#[118, 47, 110]⟩ by decide +kernel]
  go_wp2_with fail
  refine (name_any ⟨#[97]⟩ _).mono ?_
  rintro e W4 ⟨rfl, hb4⟩
  rw [show nameB (ByteArray.mk #[97]).data.toList = true by decide +kernel]
  replace hlow := hlow.trans (hb4.mono hlow.size)
  clear hb4
  go_wp2
  go_ret
  exact ⟨rfl, hlow⟩
end Go.Proofs.Ytlnkhngfecdflaa.O
