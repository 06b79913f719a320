/- The law ObjectTwice: its walk. Laid by mklaw.py. -/
import Derived.Test.YtlnkhngfecdflaaOLive
namespace Go.Proofs.Ytlnkhngfecdflaa.O
open Go.RowKit T
open Go.Lib hiding intOf

theorem defO_vn (o : Obj) : (defO o).volume = o.volume ∧ (defO o).node = o.node := by
  unfold defO
  repeat' split
  all_goals exact ⟨rfl, rfl⟩

set_option maxRecDepth 100000 in
set_option maxHeartbeats 4000000 in
theorem objectTwice_any (o : Obj) (w : World) (hz : o.volume.size ≤ 140737488351232 ∧ o.node.size ≤ 140737488351232) :
    Calls Try.prog 5 #[encO o] w fun e w' => e = .returned (.bool true) ∧ Below w.heap.size w w' := by
  have hz2 : (defO o).volume.size ≤ 140737488351232 ∧ (defO o).node.size ≤ 140737488351232 := by rw [(defO_vn o).1, (defO_vn o).2]; exact hz
  have HZ := Lib.hid hz
  have HZ2 := Lib.hid hz2
  clear hz hz2
  unfold encO
  go_enter Try.func5, Try.ntmps5
  go_upto_region 1 with (fail)
  refine wp_gen (fun W => BoxO W w.heap.size o ∧ Below w.heap.size w W) ⟨BoxO.new w o, (Below.refl _ _).alloc (Nat.le_refl _) _⟩ ?_
  rintro W1 ⟨hb, hlow⟩
  go_wp2_with ((with_reducible refine wpList_load_obj ?_ rfl ?_ hb ?_); rfl; rfl)
  refine (default_any o _ HZ.out).mono ?_
  rintro e w1 ⟨rfl, hb1⟩
  replace hb := hb.after hb1
  replace hlow := hlow.trans (hb1.mono hlow.size)
  clear hb1
  have hn := BoxO.new w1 O0
  have hne : w.heap.size ≠ w1.heap.size := by have := hb.lt; omega
  have hba := fun x => hb.alloc x
  have hla := hlow.alloc hlow.size
  go_upto_region 2 with ((with_reducible refine wpList_store_rowTo rfl 27 _ _ rfl rfl w1.heap.size (cellsO (defO o)) ?_ ?_ 27 (cellsO O0) ?_ ?_ ?_ ?_ ?_); rfl; rfl; exact hn; exact sizeObj; exact sz_cells _ _; exact one_cells _)
  refine wp_gen (fun W => (BoxO W w.heap.size o ∧ BoxO W w1.heap.size (defO o)) ∧ Below w.heap.size w W) ⟨⟨(hba _).row hne _, hn.setRow _⟩, below_setRow (hla _) hlow.size _⟩ ?_
  clear hn hba hla hne hb hlow
  generalize w1.heap.size = g
  rintro W2 ⟨hS, hlow⟩
  refine wp_region_held_drew (S := fun W => BoxO W w.heap.size o ∧ BoxO W g (defO o)) (by kernel_rfl) ⟨hS.1.drew, hS.2.drew⟩ (fun _ => ?_)
  refine HeldBy.gen (fun W => (BoxO W w.heap.size o ∧ BoxO W g (defO o)) ∧ Below w.heap.size w W) ⟨⟨hS.1.drew, hS.2.drew⟩, hlow.drew⟩ ?_
  clear hS hlow
  rintro V0 ⟨hS, hlow⟩
  cases b0 : rightB o with
  | false =>
    refine HeldBy.call (i := 0) (v := .bool true) rfl (by kernel_rfl) (by rfl) (by go_simp; exact ⟨rfl, rfl⟩) (by go_simp; rfl) ?_
    refine (live_any _).mono ?_
    rintro e V1 ⟨rfl, hb1⟩
    refine ⟨rfl, ⟨(hS.1).after hb1, (hS.2).after hb1⟩, ?_⟩
    replace hS : BoxO V1 w.heap.size o ∧ BoxO V1 g (defO o) := ⟨(hS.1).after hb1, (hS.2).after hb1⟩
    replace hlow := hlow.trans (hb1.mono hlow.size)
    clear hb1
    refine HeldBy.take (i := 1) rfl (by kernel_rfl) (by kernel_rfl) (by kernel_rfl) (fun _ _ _ h => h) (by rfl) (fun _ _ => by go_simp; rfl) (by go_simp; rfl) hS ?_
    refine HeldBy.take (i := 2) rfl (by kernel_rfl) (by kernel_rfl) (by kernel_rfl) (fun _ _ _ h => h) (by rfl) (fun _ h => load_obj h.2 rfl (by go_simp)) (by go_simp; rfl) hS ?_
    refine HeldBy.take (i := 4) rfl (by kernel_rfl) (by kernel_rfl) (by kernel_rfl) (fun _ _ _ h => h) (by rfl) (fun _ h => load_obj h.2 rfl (by go_simp)) (by go_simp; rfl) hS ?_
    refine HeldBy.call (i := 3) (v := encO (defO (defO o))) rfl (by kernel_rfl) (by rfl) (by go_simp; exact ⟨rfl, rfl⟩) (by go_simp; rfl) ?_
    refine (default_any (defO o) _ HZ2.out).mono ?_
    rintro e V2 ⟨rfl, hb1⟩
    refine ⟨rfl, ⟨(hS.1).after hb1, (hS.2).after hb1⟩, ?_⟩
    replace hS : BoxO V2 w.heap.size o ∧ BoxO V2 g (defO o) := ⟨(hS.1).after hb1, (hS.2).after hb1⟩
    replace hlow := hlow.trans (hb1.mono hlow.size)
    clear hb1
    refine HeldBy.take (i := 5) (v := .bool true) rfl (by kernel_rfl) (by kernel_rfl) (by kernel_rfl) (fun _ _ _ h => h) (by rfl) (fun _ _ => eql_objs rfl (by go_simp) (by go_simp) (decide_eq_true (defO_twice o))) (by go_simp; rfl) hS ?_
    refine HeldBy.take (i := 6) rfl (by kernel_rfl) (by kernel_rfl) (by kernel_rfl) (fun _ _ _ h => h) (by rfl) (fun _ _ => by go_simp; rfl) (by go_simp; rfl) hS ?_
    refine HeldBy.take (i := 7) rfl (by kernel_rfl) (by kernel_rfl) (by kernel_rfl) (fun _ _ _ h => h) (by rfl) (fun _ _ => by go_simp; rfl) (by go_simp; rfl) hS ?_
    refine HeldBy.take (i := 8) rfl (by kernel_rfl) (by kernel_rfl) (by kernel_rfl) (fun _ _ _ h => h) (by rfl) (fun _ h => load_obj h.1 rfl (by go_simp)) (by go_simp; rfl) hS ?_
    refine HeldBy.call (i := 9) (v := .bool false) rfl (by kernel_rfl) (by rfl) (by go_simp; exact ⟨rfl, rfl⟩) (by go_simp; rfl) ?_
    refine (right_any o _).mono ?_
    rintro e V3 ⟨rfl, hb1⟩
    refine ⟨by rw [b0], ⟨(hS.1).after hb1, (hS.2).after hb1⟩, ?_⟩
    replace hS : BoxO V3 w.heap.size o ∧ BoxO V3 g (defO o) := ⟨(hS.1).after hb1, (hS.2).after hb1⟩
    replace hlow := hlow.trans (hb1.mono hlow.size)
    clear hb1
    refine HeldBy.take (i := 10) rfl (by kernel_rfl) (by kernel_rfl) (by kernel_rfl) (fun _ _ _ h => h) (by rfl) (fun _ _ => by go_simp; rfl) (by go_simp; rfl) hS ?_
    refine HeldBy.take (i := 11) rfl (by kernel_rfl) (by kernel_rfl) (by kernel_rfl) (fun _ _ _ h => h) (by rfl) (fun _ _ => by go_simp; rfl) (by go_simp; rfl) hS ?_
    refine HeldBy.skip (i := 12) rfl (by kernel_rfl) (by kernel_rfl) (by kernel_rfl) (fun _ _ _ h => h) (by rfl) (by go_simp; rfl) hS ?_
    refine HeldBy.skip (i := 13) rfl (by kernel_rfl) (by kernel_rfl) (by kernel_rfl) (fun _ _ _ h => h) (by rfl) (by go_simp; rfl) hS ?_
    refine HeldBy.take (i := 14) rfl (by kernel_rfl) (by kernel_rfl) (by kernel_rfl) (fun _ _ _ h => h) (by rfl) (fun _ _ => by go_simp; rfl) (by go_simp; rfl) hS ?_
    refine HeldBy.take (i := 15) rfl (by kernel_rfl) (by kernel_rfl) (by kernel_rfl) (fun _ _ _ h => h) (by rfl) (fun _ _ => by go_simp; rfl) (by go_simp; rfl) hS ?_
    refine HeldBy.take (i := 16) rfl (by kernel_rfl) (by kernel_rfl) (by kernel_rfl) (fun _ _ _ h => h) (by rfl) (fun _ _ => by go_simp; rfl) (by go_simp; rfl) hS ?_
    refine HeldBy.take (i := 17) rfl (by kernel_rfl) (by kernel_rfl) (by kernel_rfl) (fun _ _ _ h => h) (by rfl) (fun _ h => load_obj h.2 rfl (by go_simp)) (by go_simp; rfl) hS ?_
    refine HeldBy.take (i := 20) rfl (by kernel_rfl) (by kernel_rfl) (by kernel_rfl) (fun _ _ _ h => h) (by rfl) (fun _ _ => by go_simp; rfl) (by go_simp; rfl) hS ?_
    refine HeldBy.take (i := 21) rfl (by kernel_rfl) (by kernel_rfl) (by kernel_rfl) (fun _ _ _ h => h) (by rfl) (fun _ h => by have c := BoxO.c0 h.1; go_simp; rfl) (by go_simp; rfl) hS ?_
    refine HeldBy.call (i := 18) (v := .agg #[.int .u8 o.kind, .string (defO o).name]) rfl (by kernel_rfl) (by rfl) (by go_simp; exact ⟨rfl, rfl⟩) (by go_simp; rfl) ?_
    refine (key_any (defO o) _).mono ?_
    rintro e V4 ⟨rfl, hb1⟩
    refine ⟨by rw [← defO_kind o]; rfl, ⟨(hS.1).after hb1, (hS.2).after hb1⟩, ?_⟩
    replace hS : BoxO V4 w.heap.size o ∧ BoxO V4 g (defO o) := ⟨(hS.1).after hb1, (hS.2).after hb1⟩
    replace hlow := hlow.trans (hb1.mono hlow.size)
    clear hb1
    refine HeldBy.take (i := 19) rfl (by kernel_rfl) (by kernel_rfl) (by kernel_rfl) (fun _ _ _ h => h) (by rfl) (fun _ _ => by go_simp; rfl) (by go_simp; rfl) hS ?_
    refine HeldBy.take (i := 22) rfl (by kernel_rfl) (by kernel_rfl) (by kernel_rfl) (fun _ _ _ h => h) (by rfl) (fun _ _ => by go_simp; rfl) (by go_simp; rfl) hS ?_
    refine HeldBy.take (i := 23) rfl (by kernel_rfl) (by kernel_rfl) (by kernel_rfl) (fun _ _ _ h => h) (by rfl) (fun _ _ => by go_simp; rfl) (by go_simp; rfl) hS ?_
    refine HeldBy.take (i := 24) rfl (by kernel_rfl) (by kernel_rfl) (by kernel_rfl) (fun _ _ _ h => h) (by rfl) (fun _ _ => by go_simp; rfl) (by go_simp; rfl) hS ?_
    refine wpAnyH_done (by kernel_rfl) ?_ _
    go_wp2
    go_ret
    exact ⟨rfl, hlow⟩
  | true =>
    have b1 := right_default b0
    refine HeldBy.call (i := 0) (v := .bool true) rfl (by kernel_rfl) (by rfl) (by go_simp; exact ⟨rfl, rfl⟩) (by go_simp; rfl) ?_
    refine (live_any _).mono ?_
    rintro e V1 ⟨rfl, hb1⟩
    refine ⟨rfl, ⟨(hS.1).after hb1, (hS.2).after hb1⟩, ?_⟩
    replace hS : BoxO V1 w.heap.size o ∧ BoxO V1 g (defO o) := ⟨(hS.1).after hb1, (hS.2).after hb1⟩
    replace hlow := hlow.trans (hb1.mono hlow.size)
    clear hb1
    refine HeldBy.take (i := 1) rfl (by kernel_rfl) (by kernel_rfl) (by kernel_rfl) (fun _ _ _ h => h) (by rfl) (fun _ _ => by go_simp; rfl) (by go_simp; rfl) hS ?_
    refine HeldBy.take (i := 2) rfl (by kernel_rfl) (by kernel_rfl) (by kernel_rfl) (fun _ _ _ h => h) (by rfl) (fun _ h => load_obj h.2 rfl (by go_simp)) (by go_simp; rfl) hS ?_
    refine HeldBy.take (i := 4) rfl (by kernel_rfl) (by kernel_rfl) (by kernel_rfl) (fun _ _ _ h => h) (by rfl) (fun _ h => load_obj h.2 rfl (by go_simp)) (by go_simp; rfl) hS ?_
    refine HeldBy.call (i := 3) (v := encO (defO (defO o))) rfl (by kernel_rfl) (by rfl) (by go_simp; exact ⟨rfl, rfl⟩) (by go_simp; rfl) ?_
    refine (default_any (defO o) _ HZ2.out).mono ?_
    rintro e V2 ⟨rfl, hb1⟩
    refine ⟨rfl, ⟨(hS.1).after hb1, (hS.2).after hb1⟩, ?_⟩
    replace hS : BoxO V2 w.heap.size o ∧ BoxO V2 g (defO o) := ⟨(hS.1).after hb1, (hS.2).after hb1⟩
    replace hlow := hlow.trans (hb1.mono hlow.size)
    clear hb1
    refine HeldBy.take (i := 5) (v := .bool true) rfl (by kernel_rfl) (by kernel_rfl) (by kernel_rfl) (fun _ _ _ h => h) (by rfl) (fun _ _ => eql_objs rfl (by go_simp) (by go_simp) (decide_eq_true (defO_twice o))) (by go_simp; rfl) hS ?_
    refine HeldBy.take (i := 6) rfl (by kernel_rfl) (by kernel_rfl) (by kernel_rfl) (fun _ _ _ h => h) (by rfl) (fun _ _ => by go_simp; rfl) (by go_simp; rfl) hS ?_
    refine HeldBy.take (i := 7) rfl (by kernel_rfl) (by kernel_rfl) (by kernel_rfl) (fun _ _ _ h => h) (by rfl) (fun _ _ => by go_simp; rfl) (by go_simp; rfl) hS ?_
    refine HeldBy.take (i := 8) rfl (by kernel_rfl) (by kernel_rfl) (by kernel_rfl) (fun _ _ _ h => h) (by rfl) (fun _ h => load_obj h.1 rfl (by go_simp)) (by go_simp; rfl) hS ?_
    refine HeldBy.call (i := 9) (v := .bool true) rfl (by kernel_rfl) (by rfl) (by go_simp; exact ⟨rfl, rfl⟩) (by go_simp; rfl) ?_
    refine (right_any o _).mono ?_
    rintro e V3 ⟨rfl, hb1⟩
    refine ⟨by rw [b0], ⟨(hS.1).after hb1, (hS.2).after hb1⟩, ?_⟩
    replace hS : BoxO V3 w.heap.size o ∧ BoxO V3 g (defO o) := ⟨(hS.1).after hb1, (hS.2).after hb1⟩
    replace hlow := hlow.trans (hb1.mono hlow.size)
    clear hb1
    refine HeldBy.take (i := 10) rfl (by kernel_rfl) (by kernel_rfl) (by kernel_rfl) (fun _ _ _ h => h) (by rfl) (fun _ _ => by go_simp; rfl) (by go_simp; rfl) hS ?_
    refine HeldBy.take (i := 11) rfl (by kernel_rfl) (by kernel_rfl) (by kernel_rfl) (fun _ _ _ h => h) (by rfl) (fun _ _ => by go_simp; rfl) (by go_simp; rfl) hS ?_
    refine HeldBy.take (i := 12) rfl (by kernel_rfl) (by kernel_rfl) (by kernel_rfl) (fun _ _ _ h => h) (by rfl) (fun _ h => load_obj h.2 rfl (by go_simp)) (by go_simp; rfl) hS ?_
    refine HeldBy.call (i := 13) (v := .bool true) rfl (by kernel_rfl) (by rfl) (by go_simp; exact ⟨rfl, rfl⟩) (by go_simp; rfl) ?_
    refine (right_any (defO o) _).mono ?_
    rintro e V4 ⟨rfl, hb1⟩
    refine ⟨by rw [b1], ⟨(hS.1).after hb1, (hS.2).after hb1⟩, ?_⟩
    replace hS : BoxO V4 w.heap.size o ∧ BoxO V4 g (defO o) := ⟨(hS.1).after hb1, (hS.2).after hb1⟩
    replace hlow := hlow.trans (hb1.mono hlow.size)
    clear hb1
    refine HeldBy.take (i := 14) rfl (by kernel_rfl) (by kernel_rfl) (by kernel_rfl) (fun _ _ _ h => h) (by rfl) (fun _ _ => by go_simp; rfl) (by go_simp; rfl) hS ?_
    refine HeldBy.take (i := 15) rfl (by kernel_rfl) (by kernel_rfl) (by kernel_rfl) (fun _ _ _ h => h) (by rfl) (fun _ _ => by go_simp; rfl) (by go_simp; rfl) hS ?_
    refine HeldBy.take (i := 16) rfl (by kernel_rfl) (by kernel_rfl) (by kernel_rfl) (fun _ _ _ h => h) (by rfl) (fun _ _ => by go_simp; rfl) (by go_simp; rfl) hS ?_
    refine HeldBy.take (i := 17) rfl (by kernel_rfl) (by kernel_rfl) (by kernel_rfl) (fun _ _ _ h => h) (by rfl) (fun _ h => load_obj h.2 rfl (by go_simp)) (by go_simp; rfl) hS ?_
    refine HeldBy.take (i := 20) rfl (by kernel_rfl) (by kernel_rfl) (by kernel_rfl) (fun _ _ _ h => h) (by rfl) (fun _ _ => by go_simp; rfl) (by go_simp; rfl) hS ?_
    refine HeldBy.take (i := 21) rfl (by kernel_rfl) (by kernel_rfl) (by kernel_rfl) (fun _ _ _ h => h) (by rfl) (fun _ h => by have c := BoxO.c0 h.1; go_simp; rfl) (by go_simp; rfl) hS ?_
    refine HeldBy.call (i := 18) (v := .agg #[.int .u8 o.kind, .string (defO o).name]) rfl (by kernel_rfl) (by rfl) (by go_simp; exact ⟨rfl, rfl⟩) (by go_simp; rfl) ?_
    refine (key_any (defO o) _).mono ?_
    rintro e V5 ⟨rfl, hb1⟩
    refine ⟨by rw [← defO_kind o]; rfl, ⟨(hS.1).after hb1, (hS.2).after hb1⟩, ?_⟩
    replace hS : BoxO V5 w.heap.size o ∧ BoxO V5 g (defO o) := ⟨(hS.1).after hb1, (hS.2).after hb1⟩
    replace hlow := hlow.trans (hb1.mono hlow.size)
    clear hb1
    refine HeldBy.take (i := 19) rfl (by kernel_rfl) (by kernel_rfl) (by kernel_rfl) (fun _ _ _ h => h) (by rfl) (fun _ _ => by go_simp; rfl) (by go_simp; rfl) hS ?_
    refine HeldBy.take (i := 22) rfl (by kernel_rfl) (by kernel_rfl) (by kernel_rfl) (fun _ _ _ h => h) (by rfl) (fun _ _ => by go_simp; rfl) (by go_simp; rfl) hS ?_
    refine HeldBy.take (i := 23) rfl (by kernel_rfl) (by kernel_rfl) (by kernel_rfl) (fun _ _ _ h => h) (by rfl) (fun _ _ => by go_simp; rfl) (by go_simp; rfl) hS ?_
    refine HeldBy.take (i := 24) rfl (by kernel_rfl) (by kernel_rfl) (by kernel_rfl) (fun _ _ _ h => h) (by rfl) (fun _ _ => by go_simp; rfl) (by go_simp; rfl) hS ?_
    refine wpAnyH_done (by kernel_rfl) ?_ _
    go_wp2
    go_ret
    exact ⟨rfl, hlow⟩
end Go.Proofs.Ytlnkhngfecdflaa.O
