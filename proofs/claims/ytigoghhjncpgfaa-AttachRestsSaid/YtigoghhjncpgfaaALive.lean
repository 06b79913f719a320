/- The law's world and live; at most so many objects. -/
import Derived.Test.YtigoghhjncpgfaaAVl
import Derived.Test.YtigoghhjncpgfaaKList
namespace Go.Proofs.Ytigoghhjncpgfaa.O.B
open Go Go.RowKit Go.Shelf Go.Lib KM
attribute [local go_sem] Oper.semAt_some

theorem ObjsIn.take {W : World} {g off n c : Nat} {l : List Obj} (h : ObjsIn W (.slice (some ⟨g, off, none⟩) n c) l) (k : Nat) (hk : k ≤ l.length) : ObjsIn W (.slice (some ⟨g, off, none⟩) k c) (l.take k) := by
  obtain ⟨o, c', he, hm, hi⟩ := h
  cases he
  have hl : (l.take k).length = k := by rw [List.length_take]; omega
  refine ⟨some ⟨g, off, none⟩, c, by rw [hl], by rw [hl]; omega, fun i h => ?_⟩
  rw [hl] at h
  obtain ⟨g', off', e, hlt, hr⟩ := hi i (by omega)
  refine ⟨g', off', e, hlt, ?_⟩
  rw [List.getElem_take]
  exact hr
set_option maxRecDepth 100000 in
set_option maxHeartbeats 2000000 in
theorem few_any (l : List Obj) (v : Value) (w : World) (hl : ObjsIn w v l) (hc : ∀ o n c, v = .slice o n c → n ≤ c) :
    Calls Try.prog 11 #[v] w fun e w' => ∃ v', e = .returned v' ∧ ObjsIn w v' (l.take 24) ∧ w' = w := by
  obtain ⟨o, cp, rfl, hm, hi⟩ := id hl
  have hcp := hc _ _ _ rfl
  by_cases h : 24 < l.length
  · obtain ⟨g, off, rfl, -, -⟩ := hi 0 (by omega)
    have HL := Lib.hid (hl.take 24 (by omega))
    have h' : (24 : Int) < (l.length : Int) := by omega
    have h2 : (24 : Int) ≤ (cp : Int) := by omega
    have h3 : 24 ≤ cp := by omega
    clear hl hi hc
    go_enter Try.func11, Try.ntmps11
    go_wp2
    go_ret
    exact ⟨_, rfl, HL.out, rfl⟩
  · have HL := Lib.hid hl
    have ht : l.take 24 = l := List.take_of_length_le (by omega)
    have HT := Lib.hid ht
    have h' : ¬ (24 : Int) < (l.length : Int) := by omega
    clear hl hi hc ht
    go_enter Try.func11, Try.ntmps11
    go_wp2
    go_ret
    exact ⟨_, rfl, by rw [HT.out]; exact HL.out, rfl⟩
theorem actbox (W : World) (x : Ac) : ∃ V, (∀ {oi : Oper} {a : Act} {r q : Operand}, oi.op = .store 42 r q → a.eval r = .pointer (some ⟨W.heap.size, 0, none⟩) → a.eval q = encA x → (execOp a.eval oi).run Try.prog (W.alloc (.cells (cellsA nothing) 42 (0, 0))) = .ok .skip V) ∧
    BoxA V W.heap.size x ∧ Below W.heap.size W V := by
  obtain ⟨V, h1, h2, -, h4⟩ := acting (show BoxA (W.alloc (.cells (cellsA nothing) 42 (0, 0))) W.heap.size nothing from heap_alloc_new _ _) x
  exact ⟨V, h1, h2, h4 _ _ ((Below.refl _ _).alloc (Nat.le_refl _) _) (Nat.le_refl _)⟩


def cW : Obj := { O0 with kind := 3, name := ⟨#[99]⟩, cls := ⟨#[102]⟩, size := 4, mode := 1, phase := 3, volume := ⟨#[118]⟩ }
def vW : Obj := { O0 with kind := 4, name := ⟨#[118]⟩, cls := ⟨#[102]⟩, size := 4, got := 4, mode := 1, zone := ⟨#[122]⟩, claim := ⟨#[99, 35, 49]⟩, phase := 3 }
def pW : Obj := { O0 with kind := 6, name := ⟨#[112]⟩, claim := ⟨#[99]⟩, node := ⟨#[110]⟩ }
theorem built_cW : Try.prog.built 37 [(0, .int .u8 3), (1, .string ⟨#[99]⟩), (6, .string ⟨#[102]⟩), (7, .int .i64 4), (9, .int .u8 1), (17, .int .u8 3), (15, .string ⟨#[118]⟩)] = some (cellsO cW) := by kernel_rfl
theorem built_vW : Try.prog.built 37 [(0, .int .u8 4), (1, .string ⟨#[118]⟩), (6, .string ⟨#[102]⟩), (7, .int .i64 4), (8, .int .i64 4), (9, .int .u8 1), (12, .string ⟨#[122]⟩), (14, .string ⟨#[99, 35, 49]⟩), (17, .int .u8 3)] = some (cellsO vW) := by kernel_rfl
theorem built_pW : Try.prog.built 37 [(0, .int .u8 6), (1, .string ⟨#[112]⟩), (14, .string ⟨#[99]⟩), (13, .string ⟨#[110]⟩)] = some (cellsO pW) := by kernel_rfl
def worldA : List Obj := [cW, vW, pW]
def nmV : ByteArray := ⟨#[118]⟩
def nmN : ByteArray := ⟨#[110]⟩

set_option maxRecDepth 100000 in
set_option maxHeartbeats 400000 in
theorem world_any (w : World) : Calls Try.prog 24 #[] w fun e w' => ∃ g, e = .returned (.slice (some ⟨g, 0, none⟩) 3 3) ∧ w.heap.size ≤ g ∧ RowO w' g worldA ∧ Below w.heap.size w w' := by
  have hC := built_cW
  have hV := built_vW
  have hS := built_pW
  obtain ⟨c, hc⟩ : ∃ c, cW = c := ⟨_, rfl⟩
  obtain ⟨v, hv⟩ : ∃ v, vW = v := ⟨_, rfl⟩
  obtain ⟨s, hs⟩ : ∃ s, pW = s := ⟨_, rfl⟩
  have hl : worldA = [c, v, s] := by unfold worldA; rw [hc, hv, hs]
  rw [hc] at hC
  rw [hv] at hV
  rw [hs] at hS
  rw [hl]
  have HC := Lib.hid hC
  have HV := Lib.hid hV
  have HS := Lib.hid hS
  clear hC hV hS hc hv hs hl
  go_enter Try.func24, Try.ntmps24
  go_wp2_with (first | ((with_reducible refine wpList_build_to rfl 37 _ rfl (cellsO c) ?_ ?_); exact HC.out; clear HC) | ((with_reducible refine wpList_build_to rfl 37 _ rfl (cellsO v) ?_ ?_); exact HV.out; clear HV) | ((with_reducible refine wpList_build_to rfl 37 _ rfl (cellsO s) ?_ ?_); exact HS.out; clear HS) | ((with_reducible refine wpList_objs rfl rfl _ (run_objs3 w c v s) ?_ ?_); rfl))
  go_ret
  exact ⟨_, rfl, Nat.le_refl _, heap_alloc_new _ _, (Below.refl _ _).alloc (Nat.le_refl _) _⟩
theorem world_want : wantL worldA nmV = [nmN] := by kernel_rfl
theorem world_atts : attsL worldA nmV = [] := by kernel_rfl
def aLive : Ac := writeA { newA nmV nmN 5 with name := ⟨#[118, 47, 110]⟩ }
theorem world_vol : volumeA worldA 4 nmV = aLive := by kernel_rfl
theorem world_sizes : ∀ o ∈ worldA, o.name.size ≤ 140737488351232 ∧ o.node.size ≤ 140737488351232 := by
  intro o ho
  unfold worldA at ho
  simp only [List.mem_cons, List.not_mem_nil, or_false] at ho
  rcases ho with rfl | rfl | rfl <;> exact ⟨by decide, by decide⟩

set_option maxRecDepth 100000 in
set_option maxHeartbeats 4000000 in
theorem live_any (w : World) : Calls Try.prog 12 #[] w fun e w' => e = .returned (.bool true) ∧ Below w.heap.size w w' := by
  have H1 := Lib.hid (world_any w)
  go_enter Try.func12, Try.ntmps12
  go_wp2_with (fail)
  refine H1.out.mono ?_
  rintro e W1 ⟨g, rfl, -, hr, hb1⟩
  have HC := Lib.hid (wanted_any worldA (.slice (some ⟨g, 0, none⟩) 3 3) nmV W1 (hr.objs 3 (by show 3 ≤ _; omega)) (by decide))
  have HW := Lib.hid hb1
  clear H1 hr hb1
  go_wp2_with (fail)
  refine HC.out.mono ?_
  rintro e W2 ⟨L, lv, rfl, rfl, ht, hb2⟩
  rw [world_want] at ht
  obtain ⟨o, c, rfl, hc⟩ := ht.cells
  obtain ⟨g2, rfl, hg2, hcell⟩ := hc 0 (by decide)
  have hw2 := HW.out.trans (hb2.mono HW.out.size)
  have HT := Lib.hid ht
  have HW2 := Lib.hid hw2
  have H3 := Lib.hid (world_any W2)
  have HCELL : Hid (W2.cell? ⟨g2, 0, none⟩ = some (.string nmN) ∧ g2 < W2.heap.size) := ⟨hcell, hg2⟩
  clear HC HW hb2 hw2 ht hc hg2 hcell
  go_wp2_with (fail)
  refine H3.out.mono ?_
  rintro e W3 ⟨g3, rfl, -, hr, hb3⟩
  have hw3 := HW2.out.trans (hb3.mono HW2.out.size)
  have HC := Lib.hid (volA_any worldA (.slice (some ⟨g3, 0, none⟩) 3 3) 4 nmV W3 (hr.objs 3 (by show 3 ≤ _; omega)) (by decide) world_sizes)
  rw [world_vol] at HC
  have HB3 := Lib.hid hb3
  have HW3 := Lib.hid hw3
  clear H3 hr hb3 hw3 HW2
  go_wp2_with (fail)
  refine HC.out.mono ?_
  rintro e W4 ⟨rfl, hb4⟩
  obtain ⟨V4, hst, hB, hb⟩ := actbox W4 aLive
  have hw4 := HW3.out.trans (hb4.mono HW3.out.size)
  have hw := hw4.trans (hb.mono hw4.size)
  have h24 : Below W2.heap.size W2 V4 := (HB3.out.trans (hb4.mono HB3.out.size)).trans (hb.mono (HB3.out.trans (hb4.mono HB3.out.size)).size)
  have cc : V4.cell? ⟨g2, 0, none⟩ = some (.string ⟨#[110]⟩) := (h24.cell (p := ⟨g2, 0, none⟩) HCELL.out.2).trans HCELL.out.1
  have a0 : V4.cell? ⟨W4.heap.size, 0, none⟩ = some (.int .u8 1) := (cell_of_row V4 _ 0 _ _ _ hB).trans rfl
  have a2 : V4.cell? ⟨W4.heap.size, 2, none⟩ = some (.string ⟨#[118, 47, 110]⟩) := (cell_of_row V4 _ 2 _ _ _ hB).trans rfl
  have a19 : V4.cell? ⟨W4.heap.size, 19, none⟩ = some (.int .u64 5) := (cell_of_row V4 _ 19 _ _ _ hB).trans rfl
  have H5 := Lib.hid (world_any V4)
  have HW := Lib.hid hw
  clear HC HB3 HW3 hb4 hb hw4 hw hB h24 HT HCELL
  go_wp2_with (refine wpList_skip rfl (hst rfl rfl rfl) ?_)
  refine H5.out.mono ?_
  rintro e W5 ⟨g5, rfl, -, hr, hb5⟩
  have hw5 := HW.out.trans (hb5.mono HW.out.size)
  have HC := Lib.hid (atts_any worldA (.slice (some ⟨g5, 0, none⟩) 3 3) nmV W5 (hr.objs 3 (by show 3 ≤ _; omega)) (by decide))
  have HW5 := Lib.hid hw5
  clear H5 hr hb5 hw5 hst HW cc a0 a2 a19
  go_wp2_with (fail)
  refine HC.out.mono ?_
  rintro e W6 ⟨A, av, rfl, rfl, hA, hb6⟩
  rw [world_atts] at hA
  obtain ⟨o, c, rfl, -⟩ := hA.objs (by decide)
  have HX := Lib.hid (HW5.out.trans (hb6.mono HW5.out.size))
  clear HC HW5 hA hb6
  go_wp2
  go_ret
  exact ⟨rfl, HX.out⟩
end Go.Proofs.Ytigoghhjncpgfaa.O.B
