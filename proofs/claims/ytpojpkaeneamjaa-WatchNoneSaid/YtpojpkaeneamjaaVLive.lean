/- What must be whatever is asked of a cache. -/
import Derived.Test.YtpojpkaeneamjaaVTake
namespace Go.Proofs.Ytpojpkaeneamjaa.O.V
open Go Go.RowKit Go.Lib KM
attribute [local go_sem] Oper.semAt_some

def pN : ByteArray := ⟨#[112]⟩
def pO : Obj := { O0 with kind := 6, name := pN }
theorem built_p : Try.prog.built 39 [(0, .int .u8 6), (1, .string ⟨#[112]⟩)] = some (cellsO pO) := by kernel_rfl
theorem built_e1 : Try.prog.built 85 [(0, .int .u64 1), (2, encO pO)] = some (cellsE (ev1 pO)) := by kernel_rfl
theorem built_e3 : Try.prog.built 85 [(0, .int .u64 3)] = some (cellsE ⟨3, false, O0⟩) := by kernel_rfl

set_option maxRecDepth 100000 in
set_option maxHeartbeats 4000000 in
theorem live_any (w : World) : Calls Try.prog 9 #[] w fun e w' => e = .returned (.bool true) ∧ Below w.heap.size w w' := by
  go_enter Try.func9, Try.ntmps9
  go_wp2_with (fail)
  refine (new_any _).mono ?_
  rintro e W1 ⟨rfl, hc, hm, hb1⟩
  have hcl := hc.lt
  have hba : Below W1.heap.size W1 (W1.alloc (.cells (cellsE (ev1 pO)) 85 (0, 0))) := (Below.refl _ _).alloc (Nat.le_refl _) _
  have HB1 := Lib.hid (hb1.alloc hb1.size (.cells (cellsE (ev1 pO)) 85 (0, 0)))
  have HT := Lib.hid (take_one w.heap.size (w.heap.size + 1) w.heap.size W1.heap.size pO _ (hc.after hba) ((hba.block _ (by omega)).trans hm) (heap_alloc_new _ _) (by omega) (by omega) (by omega) (by omega) (Nat.le_refl _))
  clear hc hm hb1 hcl hba
  go_wp2_with (first | ((with_reducible refine wpList_build_to rfl 39 _ rfl (cellsO pO) ?_ ?_); exact built_p) | ((with_reducible refine wpList_build_to rfl 85 _ rfl (cellsE (ev1 pO)) ?_ ?_); exact built_e1) | (refine wpList_got rfl (exec_slice (run_evs1 _ (ev1 pO)) rfl rfl) ?_))
  refine HT.out.mono ?_
  rintro e W2 ⟨h, cp, rfl, hk, hc, hb2⟩
  have hba : Below W2.heap.size W2 (W2.alloc (.cells (cellsE ⟨3, false, O0⟩) 85 (0, 0))) := (Below.refl _ _).alloc (Nat.le_refl _) _
  have hbw := HB1.out.trans hb2
  have HW := Lib.hid (hbw.trans (hba.mono hbw.size))
  have HK := Lib.hid (hk.after hba)
  have HC := Lib.hid (hc.after hba)
  have HN := Lib.hid (take_no (w.heap.size + 1) w.heap.size W2.heap.size O0 _ (hc.after hba) (heap_alloc_new _ _))
  clear HT HB1 hk hc hb2 hba hbw
  go_wp2_with (first | ((with_reducible refine wpList_build_to rfl 85 _ rfl (cellsE ⟨3, false, O0⟩) ?_ ?_); exact built_e3) | (refine wpList_got rfl (exec_slice (run_evs1 _ ⟨3, false, O0⟩) rfl rfl) ?_))
  refine HN.out.mono ?_
  rintro e W3 ⟨rfl, hb3⟩
  have k1 : W3.cell? ⟨h, 1, none⟩ = some (.string ⟨#[112]⟩) := (HK.out.after hb3).cell
  have HV := Lib.hid (version_of _ _ _ W3 (HC.out.after hb3))
  have HX := Lib.hid (HW.out.trans (hb3.mono HW.out.size))
  clear HN HK HC HW hb3
  go_wp2_with (fail)
  refine HV.out.mono ?_
  rintro e W4 ⟨rfl, rfl⟩
  clear HV k1
  go_wp2
  go_ret
  exact ⟨rfl, HX.out⟩
end Go.Proofs.Ytpojpkaeneamjaa.O.V
