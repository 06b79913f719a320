/- The law's world: a claim, its volume, and a snapshot of it. -/
import Derived.Test.YtdlbpfallmpkoaaDoorDSnap
import Derived.Test.YtdlbpfallmpkoaaDoorKList
namespace Go.Proofs.YtdlbpfallmpkoaaDoor.O.B
open Go Go.RowKit Go.Shelf Go.Lib RangeMap KM
attribute [local go_sem] Oper.semAt_some

def cW (size got : Int) : Obj := { O0 with kind := 3, name := ⟨#[99]⟩, cls := ⟨#[102]⟩, size := size, got := got, mode := 1, phase := 3, volume := ⟨#[118]⟩ }
def vW : Obj := { O0 with kind := 4, name := ⟨#[118]⟩, cls := ⟨#[102]⟩, size := 4, got := 4, mode := 1, zone := ⟨#[122]⟩, claim := ⟨#[99, 35, 49]⟩, phase := 3 }
def sW : Obj := { O0 with kind := 7, name := ⟨#[115]⟩, born := 3, source := ⟨#[99]⟩, phase := 1 }
theorem built_cW (size got : Int) : Tryd.prog.built 28 [(0, .int .u8 3), (1, .string ⟨#[99]⟩), (6, .string ⟨#[102]⟩), (7, .int .i64 size), (8, .int .i64 got), (9, .int .u8 1), (17, .int .u8 3), (15, .string ⟨#[118]⟩)] = some (cellsO (cW size got)) := by kernel_rfl
theorem built_vW : Tryd.prog.built 28 [(0, .int .u8 4), (1, .string ⟨#[118]⟩), (6, .string ⟨#[102]⟩), (7, .int .i64 4), (8, .int .i64 4), (9, .int .u8 1), (12, .string ⟨#[122]⟩), (14, .string ⟨#[99, 35, 49]⟩), (17, .int .u8 3)] = some (cellsO vW) := by kernel_rfl
theorem built_sW : Tryd.prog.built 28 [(0, .int .u8 7), (1, .string ⟨#[115]⟩), (3, .int .u64 3), (16, .string ⟨#[99]⟩), (17, .int .u8 1)] = some (cellsO sW) := by kernel_rfl

def worldN (size got : Int) : List Obj := [cW size got, vW, sW]

set_option maxRecDepth 100000 in
set_option maxHeartbeats 400000 in
theorem world_any (size got : Int) (w : World) : Calls Tryd.prog 38 #[.int .i64 size, .int .i64 got] w fun e w' => ∃ g, e = .returned (.slice (some ⟨g, 0, none⟩) 3 3) ∧ w.heap.size ≤ g ∧ RowO w' g (worldN size got) ∧ Below w.heap.size w w' := by
  have hC := built_cW size got
  have hV := built_vW
  have hS := built_sW
  obtain ⟨c, hc⟩ : ∃ c, cW size got = c := ⟨_, rfl⟩
  obtain ⟨v, hv⟩ : ∃ v, vW = v := ⟨_, rfl⟩
  obtain ⟨s, hs⟩ : ∃ s, sW = s := ⟨_, rfl⟩
  have hl : worldN size got = [c, v, s] := by unfold worldN; rw [hc, hv, hs]
  rw [hc] at hC
  rw [hv] at hV
  rw [hs] at hS
  rw [hl]
  have HC := Lib.hid hC
  have HV := Lib.hid hV
  have HS := Lib.hid hS
  clear hC hV hS hc hv hs hl
  go_enter Tryd.func38, Tryd.ntmps38
  go_wp2_with (first | ((with_reducible refine wpList_build_to rfl 28 _ rfl (cellsO c) ?_ ?_); exact HC.out; clear HC) | ((with_reducible refine wpList_build_to rfl 28 _ rfl (cellsO v) ?_ ?_); exact HV.out; clear HV) | ((with_reducible refine wpList_build_to rfl 28 _ rfl (cellsO s) ?_ ?_); exact HS.out; clear HS) | ((with_reducible refine wpList_objs rfl rfl _ (run_objs3 w c v s) ?_ ?_); rfl))
  go_ret
  exact ⟨_, rfl, Nat.le_refl _, heap_alloc_new _ _, (Below.refl _ _).alloc (Nat.le_refl _) _⟩
end Go.Proofs.YtdlbpfallmpkoaaDoor.O.B
