/- A cache that is new; whether changes follow. -/
import Derived.Test.YtpojpkaeneamjaaVMap
namespace Go.Proofs.Ytpojpkaeneamjaa.O.V
open Go Go.RowKit Go.Lib KM
attribute [local go_sem] Oper.semAt_some

theorem heap2 (w : World) (x y : Go.Obj) : ((w.alloc x).alloc y).heap[w.heap.size]? = some x ∧ ((w.alloc x).alloc y).heap[w.heap.size + 1]? = some y :=
  ⟨(Below.heap_alloc _ _ _ (by simp)).trans (heap_alloc_new _ _), heap_alloc2_new w _ _⟩
theorem new_any (w : World) : Calls Try.prog 36 #[] w fun e w' => e = .returned (.pointer (some ⟨w.heap.size + 1, 0, none⟩)) ∧ CacheAt w' (w.heap.size + 1) w.heap.size 0 ∧ w'.heap[w.heap.size]? = some (.map #[] 0) ∧ Below w.heap.size w w' := by
  have H := Lib.hid (heap2 w (.map #[] 0) (.cells #[.map (some w.heap.size), .int .u64 0] 83 (0, 0)))
  have m1 : ∀ w, (Instr.makeMap tO none).run Try.prog w = .ok (.map (some w.heap.size)) (w.alloc (.map #[] 0)) := fun _ => rfl
  go_enter Try.func36, Try.ntmps36
  go_wp2
  go_ret
  exact ⟨rfl, H.out.2, H.out.1, ((Below.refl _ _).alloc (Nat.le_refl _) _).alloc (by simp) _⟩

set_option maxRecDepth 100000 in
set_option maxHeartbeats 2000000 in
theorem follow_yes (g : Nat) (o : Obj) (w : World) (h : BoxE w g ⟨1, false, o⟩) :
    Calls Try.prog 31 #[.int .u64 0, .slice (some ⟨g, 0, none⟩) 1 1] w fun e w' => e = .returned (.bool true) ∧ Below w.heap.size w w' := by
  have HG := Lib.hid h
  clear h
  go_enter Try.func31, Try.ntmps31
  go_wp2_with (fail)
  go_loopw [0, 9] (fun vv iv wr => ∃ j : Nat, vv = .int .u64 (j : Int) ∧ iv = .int .i64 (j : Int) ∧ j ≤ 1 ∧ Below w.heap.size w wr) (fun _ iv _ => 1 - (RowKit.intOf iv).toNat)
  case atStart => exact ⟨0, rfl, rfl, Nat.zero_le _, Below.refl _ _⟩
  case round =>
    obtain ⟨j, rfl, rfl, hj, hlow⟩ := hrel
    have HW := Lib.hid hlow
    have hg := HG.out.after hlow
    clear hlow
    by_cases hlt : j < 1
    · obtain rfl : j = 0 := by omega
      obtain ⟨V, hst, hv, hbl⟩ := eventing wr ⟨1, false, o⟩
      have c0 : V.cell? ⟨wr.heap.size, 0, none⟩ = some (.int .u64 1) := hv.c0
      have HX := Lib.hid (HW.out.trans (hbl.mono HW.out.size))
      clear hv hbl HW
      go_wp2_with (first | (refine wpList_got rfl (load_ev hg rfl rfl) ?_) | (refine wpList_skip rfl (hst rfl rfl rfl) ?_))
      go_roundw
      case rel => exact ⟨1, by go_num, by go_num, by omega, HX.out⟩
      case measure => simp [RowKit.intOf]
    · obtain rfl : j = 1 := by omega
      go_wp2
      go_ret
      exact ⟨rfl, HW.out⟩
set_option maxRecDepth 100000 in
set_option maxHeartbeats 2000000 in
theorem follow_no (g : Nat) (o : Obj) (w : World) (h : BoxE w g ⟨3, false, o⟩) :
    Calls Try.prog 31 #[.int .u64 1, .slice (some ⟨g, 0, none⟩) 1 1] w fun e w' => e = .returned (.bool false) ∧ Below w.heap.size w w' := by
  have HG := Lib.hid h
  clear h
  go_enter Try.func31, Try.ntmps31
  go_wp2_with (fail)
  go_loopw [0, 9] (fun vv iv wr => vv = .int .u64 1 ∧ iv = .int .i64 0 ∧ Below w.heap.size w wr) (fun _ iv _ => 1 - (RowKit.intOf iv).toNat)
  case atStart => exact ⟨rfl, rfl, Below.refl _ _⟩
  case round =>
    obtain ⟨rfl, rfl, hlow⟩ := hrel
    have HW := Lib.hid hlow
    have hg := HG.out.after hlow
    clear hlow
    obtain ⟨V, hst, hv, hbl⟩ := eventing wr ⟨3, false, o⟩
    have c0 : V.cell? ⟨wr.heap.size, 0, none⟩ = some (.int .u64 3) := hv.c0
    have HX := Lib.hid (HW.out.trans (hbl.mono HW.out.size))
    clear hv hbl HW
    go_wp2_with (first | (refine wpList_got rfl (load_ev hg rfl rfl) ?_) | (refine wpList_skip rfl (hst rfl rfl rfl) ?_))
    go_ret
    exact ⟨rfl, HX.out⟩
end Go.Proofs.Ytpojpkaeneamjaa.O.V
