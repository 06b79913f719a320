/- The law's live: what must be whatever is asked. -/
import Derived.Test.YtdlbpfallmpkoaaDoorDWorld
namespace Go.Proofs.YtdlbpfallmpkoaaDoor.O.B
open Go Go.RowKit Go.Shelf Go.Lib RangeMap KM
attribute [local go_sem] Oper.semAt_some

def aL : Ac := writeA { vW with size := 8, num := 10 }
def bL : Ac := writeA { sW with phase := 10, volume := ⟨#[118]⟩, num := 10 }
theorem live_a : claimD (worldN 8 4) 9 ⟨#[99]⟩ = aL := by kernel_rfl
theorem live_s : getL (worldN 4 4) 7 ⟨#[115]⟩ = some sW := by kernel_rfl
theorem live_b : goN (worldN 4 4) sW (up 9) = bL := by kernel_rfl
theorem live_h : handleD sW = ⟨#[115, 110, 97, 112, 47, 115, 35, 51]⟩ := by kernel_rfl
theorem live_n : handleD sW ≠ E0 := by rw [live_h]; decide
theorem world_fits (size got : Int) : ∀ s ∈ worldN size got, (0 ≤ s.born ∧ s.born ≤ 18446744073709551615) ∧ s.name.size ≤ 140737488351232 := by
  intro s hs
  unfold worldN at hs
  simp only [List.mem_cons, List.not_mem_nil, or_false] at hs
  rcases hs with rfl | rfl | rfl
  · exact ⟨⟨by show (0 : Int) ≤ 0; omega, by show (0 : Int) ≤ 18446744073709551615; omega⟩, by show 1 ≤ 140737488351232; omega⟩
  · exact ⟨⟨by decide, by decide⟩, by decide⟩
  · exact ⟨⟨by decide, by decide⟩, by decide⟩
theorem actbox (W : World) (x : Ac) : ∃ V, (∀ {oi : Oper} {a : Act} {r q : Operand}, oi.op = .store 44 r q → a.eval r = .pointer (some ⟨W.heap.size, 0, none⟩) → a.eval q = encA x → (execOp a.eval oi).run Tryd.prog (W.alloc (.cells (cellsA nothing) 44 (0, 0))) = .ok .skip V) ∧
    BoxA V W.heap.size x ∧ Below W.heap.size W V := by
  obtain ⟨V, h1, h2, -, h4⟩ := acting (show BoxA (W.alloc (.cells (cellsA nothing) 44 (0, 0))) W.heap.size nothing from heap_alloc_new _ _) x
  exact ⟨V, h1, h2, h4 _ _ ((Below.refl _ _).alloc (Nat.le_refl _) _) (Nat.le_refl _)⟩

set_option maxRecDepth 100000 in
set_option maxHeartbeats 2000000 in
theorem live_any (w : World) (ht : Tab w) : Calls Tryd.prog 19 #[] w fun e w' => e = .returned (.bool true) ∧ Below w.heap.size w w' := by
  have HT := Lib.hid ht
  have H1 := Lib.hid (world_any 8 4 w)
  clear ht
  go_enter Tryd.func19, Tryd.ntmps19
  go_wp2_with (fail)
  refine H1.out.mono ?_
  rintro e W1 ⟨g, rfl, -, hr, hb1⟩
  have HC := Lib.hid (claimD_any (worldN 8 4) (.slice (some ⟨g, 0, none⟩) 3 3) 9 ⟨#[99]⟩ W1 (hr.objs 3 (by show 3 ≤ _; omega)))
  rw [live_a] at HC
  have HW := Lib.hid hb1
  clear H1 hr hb1
  go_wp2_with (fail)
  refine HC.out.mono ?_
  rintro e W2 ⟨rfl, hb2⟩
  obtain ⟨V2, hst, ha, hb⟩ := actbox W2 aL
  have hw := (HW.out.trans (hb2.mono HW.out.size)).trans (hb.mono (HW.out.trans (hb2.mono HW.out.size)).size)
  have H3 := Lib.hid (world_any 4 4 V2)
  have HA := Lib.hid ha
  have HWA := Lib.hid hw
  clear HC HW hb2 hb ha hw
  go_wp2_with (refine wpList_skip rfl (hst rfl rfl rfl) ?_)
  refine H3.out.mono ?_
  rintro e W3 ⟨g3, rfl, -, hr, hb3⟩
  have hw := HWA.out.trans (hb3.mono HWA.out.size)
  have HC := Lib.hid (snapD_go (worldN 4 4) (.slice (some ⟨g3, 0, none⟩) 3 3) 9 ⟨#[115]⟩ W3 (hr.objs 3 (by show 3 ≤ _; omega)) (HT.out.after hw) (world_fits 4 4) sW live_s live_n rfl)
  rw [live_b] at HC
  replace HA := Lib.hid (HA.out.after hb3)
  replace HWA := Lib.hid hw
  clear H3 hr hb3 hw hst
  go_wp2_with (fail)
  refine HC.out.mono ?_
  rintro e W4 ⟨rfl, hb4⟩
  obtain ⟨V4, hst, hB, hb⟩ := actbox W4 bL
  have hw4 := HWA.out.trans (hb4.mono HWA.out.size)
  have hw := hw4.trans (hb.mono hw4.size)
  have hA := (HA.out.after hb4).after hb
  have H5 := Lib.hid (world_any 4 4 V4)
  have a0 : V4.cell? ⟨W2.heap.size, 0, none⟩ = some (.int .u8 1) := (cell_of_row V4 _ 0 _ _ _ hA).trans rfl
  have a8 : V4.cell? ⟨W2.heap.size, 8, none⟩ = some (.int .i64 8) := (cell_of_row V4 _ 8 _ _ _ hA).trans rfl
  have a19 : V4.cell? ⟨W2.heap.size, 19, none⟩ = some (.int .u64 10) := (cell_of_row V4 _ 19 _ _ _ hA).trans rfl
  have b0 : V4.cell? ⟨W4.heap.size, 0, none⟩ = some (.int .u8 1) := (cell_of_row V4 _ 0 _ _ _ hB).trans rfl
  have b18 : V4.cell? ⟨W4.heap.size, 18, none⟩ = some (.int .u8 10) := (cell_of_row V4 _ 18 _ _ _ hB).trans rfl
  have b16 : V4.cell? ⟨W4.heap.size, 16, none⟩ = some (.string ⟨#[118]⟩) := (cell_of_row V4 _ 16 _ _ _ hB).trans rfl
  have HW := Lib.hid hw
  clear HC HA HWA hb4 hb hw4 hw hA hB
  go_wp2_with (refine wpList_skip rfl (hst rfl rfl rfl) ?_)
  refine H5.out.mono ?_
  rintro e W5 ⟨g5, rfl, -, hr, hb5⟩
  obtain ⟨o, c, he, -, hi⟩ := hr.objs 3 (by show 3 ≤ 9223372036854775807; omega)
  obtain ⟨g6, off, ho, -, hrow⟩ := hi 2 (by show 2 < 3; omega)
  cases he
  cases ho
  replace hrow : W5.rangeAt g5 40 (cellsO sW).toList := hrow
  have hw := HW.out.trans (hb5.mono HW.out.size)
  have HC := Lib.hid (handleD_any sW W5 (HT.out.after hw) (by decide) (by decide))
  rw [live_h] at HC
  replace HW := Lib.hid hw
  clear H5 hr hi hb5 hw hst a0 a8 a19 b0 b18 b16
  go_wp2_with (refine wpList_got (v := encO sW) rfl (load_mid hrow rfl rfl) ?_)
  refine HC.out.mono ?_
  rintro e W6 ⟨rfl, hb6⟩
  have HW6 := Lib.hid (HW.out.trans (hb6.mono HW.out.size))
  clear HC HW hb6 hrow
  go_wp2
  go_ret
  exact ⟨rfl, HW6.out⟩
end Go.Proofs.YtdlbpfallmpkoaaDoor.O.B
