/- The law's live claim. -/
import Derived.Test.YtpoifngepmfgpaaDoorBClaim
namespace Go.Proofs.YtpoifngepmfgpaaDoor.O.B
open Go Go.RowKit Go.Shelf Go.Lib RangeMap KM
attribute [local go_sem] Oper.semAt_some

def fO : Obj := { O0 with kind := 1, name := ⟨#[102]⟩, zone := ⟨#[122]⟩ }
def cO : Obj := { O0 with kind := 3, name := ⟨#[99]⟩, version := 2, born := 2, hold := true, cls := ⟨#[102]⟩, size := 4, mode := 1, phase := 1 }
def cO' : Obj := { cO with phase := 2, zone := ⟨#[122]⟩, num := 8 }
theorem live_act : claimN [fO, cO] 7 ⟨#[99]⟩ = writeA cO' := by kernel_rfl
theorem live_ref : refN cO = ⟨#[99, 35, 50]⟩ := by kernel_rfl
theorem live_handle : handleN cO = ⟨#[112, 118, 99, 47, 99, 35, 50]⟩ := by kernel_rfl
theorem built_c : Tryd.prog.built 31 [(0, .int .u8 3), (1, .string ⟨#[99]⟩), (2, .int .u64 2), (3, .int .u64 2), (6, .string ⟨#[102]⟩), (7, .int .i64 4), (9, .int .u8 1), (17, .int .u8 1), (5, .bool true)] = some (cellsO cO) := by kernel_rfl
theorem built_f : Tryd.prog.built 31 [(0, .int .u8 1), (1, .string ⟨#[102]⟩), (12, .string ⟨#[122]⟩)] = some (cellsO fO) := by kernel_rfl

theorem two_ok : ∀ s ∈ [fO, cO], (0 ≤ s.born ∧ s.born ≤ 18446744073709551615) ∧ s.name.size ≤ 140737488351232 := by
  intro s hs
  simp only [List.mem_cons, List.not_mem_nil, or_false] at hs
  rcases hs with rfl | rfl
  · exact ⟨⟨by decide, by decide⟩, by decide⟩
  · exact ⟨⟨by decide, by decide⟩, by decide⟩
theorem objs_two (V : World) (a b : Obj) : ObjsIn (V.alloc (.cells (cellsO a ++ cellsO b) 31 (0, 0))) (.slice (some ⟨V.heap.size, 0, none⟩) 2 2) [a, b] := by
  have hrow := heap_alloc_new V (.cells (cellsO a ++ cellsO b) 31 (0, 0))
  refine ⟨_, 2, rfl, by simp, fun i h => ⟨V.heap.size, 0, rfl, (Array.getElem?_eq_some_iff.1 hrow).1, fun j v hv => ?_⟩⟩
  rw [cell_of_row _ _ _ _ _ _ hrow]
  have hi : i = 0 ∨ i = 1 := by simp at h; omega
  rcases hi with rfl | rfl
  · have hj : j < (cellsO a).size := by
      have := (List.getElem?_eq_some_iff.1 hv).1
      simpa using this
    rw [show 0 + 0 * 20 + j = j by omega, Array.getElem?_append_left hj, ← Array.getElem?_toList]
    exact hv
  · rw [show 0 + 1 * 20 + j = (cellsO a).size + j from (by show 0 + 1 * 20 + j = 20 + j; omega), Array.getElem?_append_right (Nat.le_add_right _ _), Nat.add_sub_cancel_left, ← Array.getElem?_toList]
    exact hv

set_option maxRecDepth 100000 in
set_option maxHeartbeats 2000000 in
theorem live_any (w : World) (ht : Tab w) : Calls Tryd.prog 9 #[] w fun e w' => e = .returned (.bool true) ∧ Below w.heap.size w w' := by
  have HT := Lib.hid ht
  clear ht
  go_enter Tryd.func9, Tryd.ntmps9
  obtain ⟨V, hst, hk, hb, -⟩ := boxing w cO
  go_upto_region 2 with (first | (refine wpList_skip rfl (hst rfl rfl rfl) ?_) | ((with_reducible refine wpList_build_to rfl 31 _ rfl (cellsO cO) ?_ ?_); exact built_c))
  have hbx := hk
  go_wp2_with (first | (refine wpList_got (v := .agg (cellsO cO)) rfl (load_obj hbx rfl rfl) ?_) | ((with_reducible refine wpList_build_to rfl 31 _ rfl (cellsO fO) ?_ ?_); exact built_f))
  change Calls _ _ _ (V.alloc (.cells (cellsO fO ++ cellsO cO) 31 (0, 0))) _
  have hob := objs_two V fO cO
  obtain ⟨W2, hW2⟩ : ∃ W2, V.alloc (.cells (cellsO fO ++ cellsO cO) 31 (0, 0)) = W2 := ⟨_, rfl⟩
  have hw2 : Below w.heap.size w W2 := by rw [← hW2]; exact hb.alloc hb.size _
  have hk2 : BoxO W2 w.heap.size cO := by rw [← hW2]; exact hk.alloc _
  rw [hW2] at hob ⊢
  have HC := Lib.hid (claim_any [fO, cO] _ 7 ⟨#[99]⟩ W2 hob (HT.out.after hw2) two_ok)
  rw [live_act] at HC
  have HK := Lib.hid hk2
  have HW := Lib.hid hw2
  clear hob hW2 hw2 hk2 hbx hk hb hst
  refine HC.out.mono ?_
  rintro e W3 ⟨rfl, hb3⟩
  have k3 : BoxA (W3.alloc (.cells (cellsA nothing) 36 (0, 0))) W3.heap.size nothing := heap_alloc_new _ _
  obtain ⟨V4, hst4, ha4, ho4, hb4⟩ := acting k3 (writeA cO')
  have hw3 := HW.out.trans (hb3.mono HW.out.size)
  have hs3 : w.heap.size < W3.heap.size := Nat.lt_of_lt_of_le HK.out.lt hb3.size
  have hk4 : BoxO V4 w.heap.size cO := (ho4 _ (by omega)).trans ((HK.out.after hb3).alloc _)
  have hw4 : Below w.heap.size w V4 := hb4 _ _ (hw3.alloc hw3.size _) (by omega)
  have HW4 := Lib.hid hw4
  have HA4 := Lib.hid ha4
  have HR := Lib.hid (ref_any cO V4 (HT.out.after hw4) (by decide) (by decide))
  rw [live_ref] at HR
  have HK4 := Lib.hid hk4
  have hbx := hk4
  clear HC HK HW hb3 k3 ho4 hb4 hw3 hs3 hw4 hk4 ha4
  go_wp2_with (first | (refine wpList_skip rfl (hst4 rfl rfl rfl) ?_) | ((with_reducible refine wpList_load_obj ?_ rfl ?_ hbx ?_); rfl; rfl))
  refine HR.out.mono ?_
  rintro e W5 ⟨rfl, hb5⟩
  have hbx := HK4.out.after hb5
  have hw5 := HW4.out.trans (hb5.mono HW4.out.size)
  have HH := Lib.hid (handle_any cO W5 (HT.out.after hw5) (by decide) (by decide))
  rw [live_handle] at HH
  have HW5 := Lib.hid hw5
  have HA5 := Lib.hid (HA4.out.after hb5)
  clear HR HK4 HW4 HA4 hb5 hw5 hst4
  go_wp2_with ((with_reducible refine wpList_load_obj ?_ rfl ?_ hbx ?_); rfl; rfl)
  refine HH.out.mono ?_
  rintro e W6 ⟨rfl, hb6⟩
  have ha6 := HA5.out.after hb6
  have HW6 := Lib.hid (HW5.out.trans (hb6.mono HW5.out.size))
  have c0 : W6.cell? ⟨W3.heap.size, 0, none⟩ = some (.int .u8 1) := (cell_of_row W6 _ 0 _ _ _ ha6).trans rfl
  have c18 : W6.cell? ⟨W3.heap.size, 18, none⟩ = some (.int .u8 2) := (cell_of_row W6 _ 18 _ _ _ ha6).trans rfl
  have c19 : W6.cell? ⟨W3.heap.size, 19, none⟩ = some (.int .u64 8) := (cell_of_row W6 _ 19 _ _ _ ha6).trans rfl
  have c13 : W6.cell? ⟨W3.heap.size, 13, none⟩ = some (.string ⟨#[122]⟩) := (cell_of_row W6 _ 13 _ _ _ ha6).trans rfl
  clear HH HA5 HW5 hb6 ha6 hbx
  go_wp2
  go_ret
  exact ⟨rfl, HW6.out⟩
end Go.Proofs.YtpoifngepmfgpaaDoor.O.B
