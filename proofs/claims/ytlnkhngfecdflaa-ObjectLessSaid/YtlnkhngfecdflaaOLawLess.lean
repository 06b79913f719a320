/- The law ObjectLess: its walk. Laid by mklaw.py. -/
import Derived.Test.YtlnkhngfecdflaaOKeys
import Derived.Test.YtlnkhngfecdflaaOUser
namespace Go.Proofs.Ytlnkhngfecdflaa.O
open Go.RowKit T
open Go.Lib hiding intOf

/-- A key is loaded, guarded or not. -/
theorem wpList_load_key {ops : Array Oper} {rest : List Oper} {oi : Oper} {a : Act} {W : World} {Q : Exit → Act → World → Prop} {x : Operand} {b : Nat} {k : Int} {n : ByteArray} (hw : Region.wanted oi (yielded ops a.tmps) = true) (ho : oi.op = .load 35 x)
    (hx : a.eval x = .pointer (some ⟨b, 0, none⟩)) (h : BoxK W b k n) (hn : wpList Try.prog ops Q rest (a.put oi.dst (encK k n)) W) : wpList Try.prog ops Q (oi :: rest) a W := by
  unfold wpList
  rw [if_pos hw]
  refine .inl ?_
  unfold Oper.wp
  rw [load_key h ho hx]
  exact hn
theorem then_genL {K : Act → World → Prop} {Q : Exit → Act → World → Prop} {e : Exit} {a : Act} {W : World} (F : World → Prop) (hF : F W) (h : ∀ W1, F W1 → Exit.then K Q e a W1) : Exit.then K Q e a W := h W hF
set_option maxRecDepth 100000 in
set_option maxHeartbeats 4000000 in
theorem objectLess_any (k0 k1 k2 : Int) (n0 n1 n2 : ByteArray) (w : World) :
    Calls Try.prog 8 #[encA k0 n0 k1 n1 k2 n2] w fun e w' => e = .returned (.bool true) ∧ Below w.heap.size w w' := by
  unfold encA
  go_enter Try.func8, Try.ntmps8
  go_upto_region 1 with (fail)
  refine wp_gen (fun W => BoxA W w.heap.size (cellsA k0 n0 k1 n1 k2 n2) ∧ Below w.heap.size w W) ⟨BoxA.new w _, (Below.refl _ _).alloc (Nat.le_refl _) _⟩ ?_
  rintro W1 ⟨hS, hlow⟩
  refine wp_region_held_drew (S := fun W => BoxA W w.heap.size (cellsA k0 n0 k1 n1 k2 n2)) (by kernel_rfl) hS.drew (fun _ => ?_)
  refine HeldBy.gen (fun W => BoxA W w.heap.size (cellsA k0 n0 k1 n1 k2 n2) ∧ Below w.heap.size w W) ⟨hS.drew, hlow.drew⟩ ?_
  clear hS hlow
  rintro V0 ⟨hS, hlow⟩
  refine HeldBy.take (i := 0) (v := .pointer (some ⟨w.heap.size, 0, none⟩)) rfl (by kernel_rfl) (by kernel_rfl) (by kernel_rfl) (fun _ _ _ h => h) (by rfl) (fun _ _ => by first | (go_simp; done) | (go_simp; rfl)) (by go_simp; rfl) hS ?_
  refine HeldBy.take (i := 1) (v := encK k0 n0) rfl (by kernel_rfl) (by kernel_rfl) (by kernel_rfl) (fun _ _ _ h => h) (by rfl) (fun _ h => load_cells (cell_of_row _ _ 0 _ _ _ h) (cell_of_row _ _ 1 _ _ _ h) rfl (by go_simp)) (by go_simp; rfl) hS ?_
  refine HeldBy.take (i := 2) (v := .pointer (some ⟨w.heap.size, 2, none⟩)) rfl (by kernel_rfl) (by kernel_rfl) (by kernel_rfl) (fun _ _ _ h => h) (by rfl) (fun _ _ => by first | (go_simp; done) | (go_simp; rfl)) (by go_simp; rfl) hS ?_
  refine HeldBy.take (i := 3) (v := encK k1 n1) rfl (by kernel_rfl) (by kernel_rfl) (by kernel_rfl) (fun _ _ _ h => h) (by rfl) (fun _ h => load_cells (cell_of_row _ _ 2 _ _ _ h) (cell_of_row _ _ 3 _ _ _ h) rfl (by go_simp)) (by go_simp; rfl) hS ?_
  refine HeldBy.take (i := 4) (v := .pointer (some ⟨w.heap.size, 4, none⟩)) rfl (by kernel_rfl) (by kernel_rfl) (by kernel_rfl) (fun _ _ _ h => h) (by rfl) (fun _ _ => by first | (go_simp; done) | (go_simp; rfl)) (by go_simp; rfl) hS ?_
  refine HeldBy.take (i := 5) (v := encK k2 n2) rfl (by kernel_rfl) (by kernel_rfl) (by kernel_rfl) (fun _ _ _ h => h) (by rfl) (fun _ h => load_cells (cell_of_row _ _ 4 _ _ _ h) (cell_of_row _ _ 5 _ _ _ h) rfl (by go_simp)) (by go_simp; rfl) hS ?_
  refine HeldBy.three_allocs (i := 6) (j := 7) (k := 8) (x := .cells (cellsK 0 E0) 35) (by kernel_rfl) (by kernel_rfl) (by kernel_rfl) (by kernel_rfl) (by kernel_rfl) (by kernel_rfl) (by kernel_rfl) (by kernel_rfl) (by kernel_rfl) (by kernel_rfl) rfl rfl rfl rfl rfl rfl (makes_key rfl) (makes_key rfl) (makes_key rfl) rfl (by kernel_rfl) (by kernel_rfl) (by kernel_rfl) (by kernel_rfl) (by kernel_rfl) (fun p q r => by unfold HeldBy.ptr; go_simp; rfl) (fun p q r => by unfold HeldBy.ptr; go_simp; try rfl) (fun p q r => by unfold HeldBy.ptr; go_simp; try rfl) (fun p q r => by unfold HeldBy.ptr; go_simp; try rfl) (fun p q r => by unfold HeldBy.ptr; go_simp; try rfl) (fun p q r => by unfold HeldBy.ptr; go_simp; try rfl) (fun w' hb => hS.after hb) ?_
  intro p q r V1 hp hq hr hpq hpr hqr xp xq xr hb
  have hlt := hS.lt
  have yp : BoxK V1 p 0 E0 := xp
  have yq : BoxK V1 q 0 E0 := xq
  have yr : BoxK V1 r 0 E0 := xr
  have hpw : w.heap.size ≠ p := by omega
  have hqw : w.heap.size ≠ q := by omega
  have hrw : w.heap.size ≠ r := by omega
  have hp0 : w.heap.size ≤ p := by omega
  have hq0 : w.heap.size ≤ q := by omega
  have hr0 : w.heap.size ≤ r := by omega
  replace hS := hS.after hb
  replace hlow := hlow.trans (hb.mono hlow.size)
  clear xp xq xr hb hp hq hr hlt
  refine HeldBy.store (i := 9) rfl (by kernel_rfl) (by rfl) (store_key (k := k0) (n := n0) yp rfl (by go_simp) (by go_simp)) (by go_simp; rfl) (hS.row hpw _) ?_
  replace hS := hS.row hpw (cellsK k0 n0)
  replace yq := yq.row (Ne.symm hpq) (cellsK k0 n0)
  replace yr := yr.row (Ne.symm hpr) (cellsK k0 n0)
  replace yp := yp.setRow k0 n0
  replace hlow := below_setRow hlow hp0 (cellsK k0 n0)
  refine HeldBy.store (i := 10) rfl (by kernel_rfl) (by rfl) (store_key (k := k1) (n := n1) yq rfl (by go_simp) (by go_simp)) (by go_simp; rfl) (hS.row hqw _) ?_
  replace hS := hS.row hqw (cellsK k1 n1)
  replace yp := yp.row hpq (cellsK k1 n1)
  replace yr := yr.row (Ne.symm hqr) (cellsK k1 n1)
  replace yq := yq.setRow k1 n1
  replace hlow := below_setRow hlow hq0 (cellsK k1 n1)
  refine HeldBy.store (i := 11) rfl (by kernel_rfl) (by rfl) (store_key (k := k2) (n := n2) yr rfl (by go_simp) (by go_simp)) (by go_simp; rfl) (hS.row hrw _) ?_
  replace yp := yp.row hpr (cellsK k2 n2)
  replace yq := yq.row hqr (cellsK k2 n2)
  replace yr := yr.setRow k2 n2
  replace hlow := below_setRow hlow hr0 (cellsK k2 n2)
  refine wpAnyH_done (by kernel_rfl) ?_ _
  refine then_genL (fun W => (BoxK W p k0 n0 ∧ BoxK W q k1 n1 ∧ BoxK W r k2 n2) ∧ Below w.heap.size w W) ⟨⟨yp, yq, yr⟩, hlow⟩ ?_
  clear hS hlow yp yq yr hpq hpr hqr hpw hqw hrw hp0 hq0 hr0
  rintro W2 ⟨hS, hlow⟩
  have hne : Hid ((!(decide (k0 = k1) && decide (n0.data.toList = n1.data.toList))) = (lessB k0 n0 k1 n1 || lessB k1 n1 k0 n0)) := (less_total k0 k1 n0 n1).symm
  cases eab : lessB k0 n0 k1 n1 with
  | true =>
    have eba := less_asymm eab
    rw [eab, eba] at hne
    have hab : Hid (lessB k0 n0 k1 n1 = true) := eab
    have hba : Hid (lessB k1 n1 k0 n0 = false) := eba
    cases ebc : lessB k1 n1 k2 n2 with
    | true =>
      have eac := less_trans eab ebc
      have hbc : Hid (lessB k1 n1 k2 n2 = true) := ebc
      have hac : Hid (lessB k0 n0 k2 n2 = true) := eac
      clear eab eba ebc eac
      go_upto_region 2 with (fail)
      refine wp_region_held_drew (S := fun W => BoxK W p k0 n0 ∧ BoxK W q k1 n1 ∧ BoxK W r k2 n2) (by kernel_rfl) ⟨hS.1.drew, hS.2.1.drew, hS.2.2.drew⟩ (fun _ => ?_)
      refine HeldBy.gen (fun W => (BoxK W p k0 n0 ∧ BoxK W q k1 n1 ∧ BoxK W r k2 n2) ∧ Below w.heap.size w W) ⟨⟨hS.1.drew, hS.2.1.drew, hS.2.2.drew⟩, hlow.drew⟩ ?_
      clear hS hlow
      rintro V0 ⟨hS, hlow⟩
      refine HeldBy.take (i := 0) rfl (by kernel_rfl) (by kernel_rfl) (by kernel_rfl) (fun _ _ _ h => h) (by rfl) (fun _ h => load_key h.1 rfl (by go_simp)) (by go_simp; rfl) hS ?_
      refine HeldBy.take (i := 1) rfl (by kernel_rfl) (by kernel_rfl) (by kernel_rfl) (fun _ _ _ h => h) (by rfl) (fun _ h => load_key h.2.1 rfl (by go_simp)) (by go_simp; rfl) hS ?_
      refine HeldBy.take (i := 3) rfl (by kernel_rfl) (by kernel_rfl) (by kernel_rfl) (fun _ _ _ h => h) (by rfl) (fun _ h => load_key h.1 rfl (by go_simp)) (by go_simp; rfl) hS ?_
      refine HeldBy.take (i := 4) rfl (by kernel_rfl) (by kernel_rfl) (by kernel_rfl) (fun _ _ _ h => h) (by rfl) (fun _ h => load_key h.2.1 rfl (by go_simp)) (by go_simp; rfl) hS ?_
      refine HeldBy.call (i := 2) (v := .bool true) rfl (by kernel_rfl) (by rfl) (by go_simp; exact ⟨rfl, rfl⟩) (by go_simp; rfl) ?_
      refine (less_any k0 k1 n0 n1 _).mono ?_
      rintro e V1 ⟨rfl, hb1⟩
      refine ⟨by rw [hab.out], ⟨hS.1.after hb1, hS.2.1.after hb1, hS.2.2.after hb1⟩, ?_⟩
      replace hS : BoxK V1 p k0 n0 ∧ BoxK V1 q k1 n1 ∧ BoxK V1 r k2 n2 := ⟨hS.1.after hb1, hS.2.1.after hb1, hS.2.2.after hb1⟩
      replace hlow := hlow.trans (hb1.mono hlow.size)
      clear hb1
      refine HeldBy.call (i := 5) (v := .bool true) rfl (by kernel_rfl) (by rfl) (by go_simp; exact ⟨rfl, rfl⟩) (by go_simp; rfl) ?_
      refine (refLess_any k0 k1 n0 n1 _).mono ?_
      rintro e V2 ⟨rfl, hb1⟩
      refine ⟨by rw [hab.out], ⟨hS.1.after hb1, hS.2.1.after hb1, hS.2.2.after hb1⟩, ?_⟩
      replace hS : BoxK V2 p k0 n0 ∧ BoxK V2 q k1 n1 ∧ BoxK V2 r k2 n2 := ⟨hS.1.after hb1, hS.2.1.after hb1, hS.2.2.after hb1⟩
      replace hlow := hlow.trans (hb1.mono hlow.size)
      clear hb1
      refine HeldBy.take (i := 6) rfl (by kernel_rfl) (by kernel_rfl) (by kernel_rfl) (fun _ _ _ h => h) (by rfl) (fun _ _ => by go_simp; rfl) (by go_simp; rfl) hS ?_
      refine HeldBy.take (i := 7) rfl (by kernel_rfl) (by kernel_rfl) (by kernel_rfl) (fun _ _ _ h => h) (by rfl) (fun _ _ => by go_simp; rfl) (by go_simp; rfl) hS ?_
      refine HeldBy.take (i := 8) rfl (by kernel_rfl) (by kernel_rfl) (by kernel_rfl) (fun _ _ _ h => h) (by rfl) (fun _ h => load_key h.1 rfl (by go_simp)) (by go_simp; rfl) hS ?_
      refine HeldBy.take (i := 9) rfl (by kernel_rfl) (by kernel_rfl) (by kernel_rfl) (fun _ _ _ h => h) (by rfl) (fun _ h => load_key h.2.1 rfl (by go_simp)) (by go_simp; rfl) hS ?_
      refine HeldBy.call (i := 10) (v := .bool true) rfl (by kernel_rfl) (by rfl) (by go_simp; exact ⟨rfl, rfl⟩) (by go_simp; rfl) ?_
      refine (less_any k0 k1 n0 n1 _).mono ?_
      rintro e V3 ⟨rfl, hb1⟩
      refine ⟨by rw [hab.out], ⟨hS.1.after hb1, hS.2.1.after hb1, hS.2.2.after hb1⟩, ?_⟩
      replace hS : BoxK V3 p k0 n0 ∧ BoxK V3 q k1 n1 ∧ BoxK V3 r k2 n2 := ⟨hS.1.after hb1, hS.2.1.after hb1, hS.2.2.after hb1⟩
      replace hlow := hlow.trans (hb1.mono hlow.size)
      clear hb1
      refine HeldBy.take (i := 11) rfl (by kernel_rfl) (by kernel_rfl) (by kernel_rfl) (fun _ _ _ h => h) (by rfl) (fun _ _ => by go_simp; rfl) (by go_simp; rfl) hS ?_
      refine HeldBy.take (i := 12) rfl (by kernel_rfl) (by kernel_rfl) (by kernel_rfl) (fun _ _ _ h => h) (by rfl) (fun _ h => load_key h.2.1 rfl (by go_simp)) (by go_simp; rfl) hS ?_
      refine HeldBy.take (i := 13) rfl (by kernel_rfl) (by kernel_rfl) (by kernel_rfl) (fun _ _ _ h => h) (by rfl) (fun _ h => load_key h.1 rfl (by go_simp)) (by go_simp; rfl) hS ?_
      refine HeldBy.call (i := 14) (v := .bool false) rfl (by kernel_rfl) (by rfl) (by go_simp; exact ⟨rfl, rfl⟩) (by go_simp; rfl) ?_
      refine (less_any k1 k0 n1 n0 _).mono ?_
      rintro e V4 ⟨rfl, hb1⟩
      refine ⟨by rw [hba.out], ⟨hS.1.after hb1, hS.2.1.after hb1, hS.2.2.after hb1⟩, ?_⟩
      replace hS : BoxK V4 p k0 n0 ∧ BoxK V4 q k1 n1 ∧ BoxK V4 r k2 n2 := ⟨hS.1.after hb1, hS.2.1.after hb1, hS.2.2.after hb1⟩
      replace hlow := hlow.trans (hb1.mono hlow.size)
      clear hb1
      refine HeldBy.take (i := 15) rfl (by kernel_rfl) (by kernel_rfl) (by kernel_rfl) (fun _ _ _ h => h) (by rfl) (fun _ _ => by go_simp; rfl) (by go_simp; rfl) hS ?_
      refine HeldBy.take (i := 16) rfl (by kernel_rfl) (by kernel_rfl) (by kernel_rfl) (fun _ _ _ h => h) (by rfl) (fun _ _ => by go_simp; rfl) (by go_simp; rfl) hS ?_
      refine wpAnyH_done (by kernel_rfl) ?_ _
      go_wp2_with (first | ((with_reducible refine wpList_load_key ?_ rfl ?_ hS.1 ?_); rfl; rfl) | ((with_reducible refine wpList_load_key ?_ rfl ?_ hS.2.1 ?_); rfl; rfl) | ((with_reducible refine wpList_load_key ?_ rfl ?_ hS.2.2 ?_); rfl; rfl))
      refine (less_any k0 k1 n0 n1 _).mono ?_
      rintro e V5 ⟨rfl, hb1⟩
      rw [hab.out]
      replace hS : BoxK V5 p k0 n0 ∧ BoxK V5 q k1 n1 ∧ BoxK V5 r k2 n2 := ⟨hS.1.after hb1, hS.2.1.after hb1, hS.2.2.after hb1⟩
      replace hlow := hlow.trans (hb1.mono hlow.size)
      clear hb1
      go_wp2_with (first | ((with_reducible refine wpList_load_key ?_ rfl ?_ hS.1 ?_); rfl; rfl) | ((with_reducible refine wpList_load_key ?_ rfl ?_ hS.2.1 ?_); rfl; rfl) | ((with_reducible refine wpList_load_key ?_ rfl ?_ hS.2.2 ?_); rfl; rfl))
      refine (less_any k1 k2 n1 n2 _).mono ?_
      rintro e V6 ⟨rfl, hb1⟩
      rw [hbc.out]
      replace hS : BoxK V6 p k0 n0 ∧ BoxK V6 q k1 n1 ∧ BoxK V6 r k2 n2 := ⟨hS.1.after hb1, hS.2.1.after hb1, hS.2.2.after hb1⟩
      replace hlow := hlow.trans (hb1.mono hlow.size)
      clear hb1
      go_wp2_with (first | ((with_reducible refine wpList_load_key ?_ rfl ?_ hS.1 ?_); rfl; rfl) | ((with_reducible refine wpList_load_key ?_ rfl ?_ hS.2.1 ?_); rfl; rfl) | ((with_reducible refine wpList_load_key ?_ rfl ?_ hS.2.2 ?_); rfl; rfl))
      refine (less_any k0 k2 n0 n2 _).mono ?_
      rintro e V7 ⟨rfl, hb1⟩
      rw [hac.out]
      replace hS : BoxK V7 p k0 n0 ∧ BoxK V7 q k1 n1 ∧ BoxK V7 r k2 n2 := ⟨hS.1.after hb1, hS.2.1.after hb1, hS.2.2.after hb1⟩
      replace hlow := hlow.trans (hb1.mono hlow.size)
      clear hb1
      go_upto_region 6 with (first | ((with_reducible refine wpList_load_key ?_ rfl ?_ hS.1 ?_); rfl; rfl) | ((with_reducible refine wpList_load_key ?_ rfl ?_ hS.2.1 ?_); rfl; rfl) | ((with_reducible refine wpList_load_key ?_ rfl ?_ hS.2.2 ?_); rfl; rfl))
      refine wp_region_held_drew (S := fun W => BoxK W p k0 n0 ∧ BoxK W q k1 n1 ∧ BoxK W r k2 n2) (by kernel_rfl) ⟨hS.1.drew, hS.2.1.drew, hS.2.2.drew⟩ (fun _ => ?_)
      refine HeldBy.gen (fun W => (BoxK W p k0 n0 ∧ BoxK W q k1 n1 ∧ BoxK W r k2 n2) ∧ Below w.heap.size w W) ⟨⟨hS.1.drew, hS.2.1.drew, hS.2.2.drew⟩, hlow.drew⟩ ?_
      clear hS hlow
      rintro V0 ⟨hS, hlow⟩
      refine HeldBy.call (i := 0) (v := .bool true) rfl (by kernel_rfl) (by rfl) (by go_simp; exact ⟨rfl, rfl⟩) (by go_simp; rfl) ?_
      refine (live_any _).mono ?_
      rintro e V8 ⟨rfl, hb1⟩
      refine ⟨rfl, ⟨hS.1.after hb1, hS.2.1.after hb1, hS.2.2.after hb1⟩, ?_⟩
      replace hS : BoxK V8 p k0 n0 ∧ BoxK V8 q k1 n1 ∧ BoxK V8 r k2 n2 := ⟨hS.1.after hb1, hS.2.1.after hb1, hS.2.2.after hb1⟩
      replace hlow := hlow.trans (hb1.mono hlow.size)
      clear hb1
      refine HeldBy.take (i := 1) rfl (by kernel_rfl) (by kernel_rfl) (by kernel_rfl) (fun _ _ _ h => h) (by rfl) (fun _ _ => by go_simp; rfl) (by go_simp; rfl) hS ?_
      refine HeldBy.take (i := 2) rfl (by kernel_rfl) (by kernel_rfl) (by kernel_rfl) (fun _ _ _ h => h) (by rfl) (fun _ h => load_key h.1 rfl (by go_simp)) (by go_simp; rfl) hS ?_
      refine HeldBy.take (i := 3) rfl (by kernel_rfl) (by kernel_rfl) (by kernel_rfl) (fun _ _ _ h => h) (by rfl) (fun _ h => load_key h.2.1 rfl (by go_simp)) (by go_simp; rfl) hS ?_
      refine HeldBy.take (i := 10) rfl (by kernel_rfl) (by kernel_rfl) (by kernel_rfl) (fun _ _ _ h => h) (by rfl) (fun _ h => load_key h.1 rfl (by go_simp)) (by go_simp; rfl) hS ?_
      refine HeldBy.take (i := 11) rfl (by kernel_rfl) (by kernel_rfl) (by kernel_rfl) (fun _ _ _ h => h) (by rfl) (fun _ h => load_key h.2.1 rfl (by go_simp)) (by go_simp; rfl) hS ?_
      refine HeldBy.take (i := 12) (v := .bool true) rfl (by kernel_rfl) (by kernel_rfl) (by kernel_rfl) (fun _ _ _ h => h) (by rfl) (fun _ _ => neq_keys rfl (by go_simp) (by go_simp) hne.out) (by go_simp; rfl) hS ?_
      refine HeldBy.call (i := 4) (v := .bool true) rfl (by kernel_rfl) (by rfl) (by go_simp; exact ⟨rfl, rfl⟩) (by go_simp; rfl) ?_
      refine (less_any k0 k1 n0 n1 _).mono ?_
      rintro e V9 ⟨rfl, hb1⟩
      refine ⟨by rw [hab.out], ⟨hS.1.after hb1, hS.2.1.after hb1, hS.2.2.after hb1⟩, ?_⟩
      replace hS : BoxK V9 p k0 n0 ∧ BoxK V9 q k1 n1 ∧ BoxK V9 r k2 n2 := ⟨hS.1.after hb1, hS.2.1.after hb1, hS.2.2.after hb1⟩
      replace hlow := hlow.trans (hb1.mono hlow.size)
      clear hb1
      refine HeldBy.take (i := 5) rfl (by kernel_rfl) (by kernel_rfl) (by kernel_rfl) (fun _ _ _ h => h) (by rfl) (fun _ _ => by go_simp; rfl) (by go_simp; rfl) hS ?_
      refine HeldBy.skip (i := 6) rfl (by kernel_rfl) (by kernel_rfl) (by kernel_rfl) (fun _ _ _ h => h) (by rfl) (by go_simp; rfl) hS ?_
      refine HeldBy.skip (i := 7) rfl (by kernel_rfl) (by kernel_rfl) (by kernel_rfl) (fun _ _ _ h => h) (by rfl) (by go_simp; rfl) hS ?_
      refine HeldBy.skip (i := 8) rfl (by kernel_rfl) (by kernel_rfl) (by kernel_rfl) (fun _ _ _ h => h) (by rfl) (by go_simp; rfl) hS ?_
      refine HeldBy.take (i := 9) rfl (by kernel_rfl) (by kernel_rfl) (by kernel_rfl) (fun _ _ _ h => h) (by rfl) (fun _ _ => by go_simp; rfl) (by go_simp; rfl) hS ?_
      refine HeldBy.take (i := 13) rfl (by kernel_rfl) (by kernel_rfl) (by kernel_rfl) (fun _ _ _ h => h) (by rfl) (fun _ _ => by go_simp; rfl) (by go_simp; rfl) hS ?_
      refine HeldBy.take (i := 14) rfl (by kernel_rfl) (by kernel_rfl) (by kernel_rfl) (fun _ _ _ h => h) (by rfl) (fun _ _ => by go_simp; rfl) (by go_simp; rfl) hS ?_
      refine HeldBy.take (i := 15) rfl (by kernel_rfl) (by kernel_rfl) (by kernel_rfl) (fun _ _ _ h => h) (by rfl) (fun _ _ => by go_simp; rfl) (by go_simp; rfl) hS ?_
      refine wpAnyH_done (by kernel_rfl) ?_ _
      go_wp2
      go_ret
      exact ⟨rfl, hlow⟩
    | false =>
      have hbc : Hid (lessB k1 n1 k2 n2 = false) := ebc
      clear eab eba ebc
      go_upto_region 2 with (fail)
      refine wp_region_held_drew (S := fun W => BoxK W p k0 n0 ∧ BoxK W q k1 n1 ∧ BoxK W r k2 n2) (by kernel_rfl) ⟨hS.1.drew, hS.2.1.drew, hS.2.2.drew⟩ (fun _ => ?_)
      refine HeldBy.gen (fun W => (BoxK W p k0 n0 ∧ BoxK W q k1 n1 ∧ BoxK W r k2 n2) ∧ Below w.heap.size w W) ⟨⟨hS.1.drew, hS.2.1.drew, hS.2.2.drew⟩, hlow.drew⟩ ?_
      clear hS hlow
      rintro V0 ⟨hS, hlow⟩
      refine HeldBy.take (i := 0) rfl (by kernel_rfl) (by kernel_rfl) (by kernel_rfl) (fun _ _ _ h => h) (by rfl) (fun _ h => load_key h.1 rfl (by go_simp)) (by go_simp; rfl) hS ?_
      refine HeldBy.take (i := 1) rfl (by kernel_rfl) (by kernel_rfl) (by kernel_rfl) (fun _ _ _ h => h) (by rfl) (fun _ h => load_key h.2.1 rfl (by go_simp)) (by go_simp; rfl) hS ?_
      refine HeldBy.take (i := 3) rfl (by kernel_rfl) (by kernel_rfl) (by kernel_rfl) (fun _ _ _ h => h) (by rfl) (fun _ h => load_key h.1 rfl (by go_simp)) (by go_simp; rfl) hS ?_
      refine HeldBy.take (i := 4) rfl (by kernel_rfl) (by kernel_rfl) (by kernel_rfl) (fun _ _ _ h => h) (by rfl) (fun _ h => load_key h.2.1 rfl (by go_simp)) (by go_simp; rfl) hS ?_
      refine HeldBy.call (i := 2) (v := .bool true) rfl (by kernel_rfl) (by rfl) (by go_simp; exact ⟨rfl, rfl⟩) (by go_simp; rfl) ?_
      refine (less_any k0 k1 n0 n1 _).mono ?_
      rintro e V1 ⟨rfl, hb1⟩
      refine ⟨by rw [hab.out], ⟨hS.1.after hb1, hS.2.1.after hb1, hS.2.2.after hb1⟩, ?_⟩
      replace hS : BoxK V1 p k0 n0 ∧ BoxK V1 q k1 n1 ∧ BoxK V1 r k2 n2 := ⟨hS.1.after hb1, hS.2.1.after hb1, hS.2.2.after hb1⟩
      replace hlow := hlow.trans (hb1.mono hlow.size)
      clear hb1
      refine HeldBy.call (i := 5) (v := .bool true) rfl (by kernel_rfl) (by rfl) (by go_simp; exact ⟨rfl, rfl⟩) (by go_simp; rfl) ?_
      refine (refLess_any k0 k1 n0 n1 _).mono ?_
      rintro e V2 ⟨rfl, hb1⟩
      refine ⟨by rw [hab.out], ⟨hS.1.after hb1, hS.2.1.after hb1, hS.2.2.after hb1⟩, ?_⟩
      replace hS : BoxK V2 p k0 n0 ∧ BoxK V2 q k1 n1 ∧ BoxK V2 r k2 n2 := ⟨hS.1.after hb1, hS.2.1.after hb1, hS.2.2.after hb1⟩
      replace hlow := hlow.trans (hb1.mono hlow.size)
      clear hb1
      refine HeldBy.take (i := 6) rfl (by kernel_rfl) (by kernel_rfl) (by kernel_rfl) (fun _ _ _ h => h) (by rfl) (fun _ _ => by go_simp; rfl) (by go_simp; rfl) hS ?_
      refine HeldBy.take (i := 7) rfl (by kernel_rfl) (by kernel_rfl) (by kernel_rfl) (fun _ _ _ h => h) (by rfl) (fun _ _ => by go_simp; rfl) (by go_simp; rfl) hS ?_
      refine HeldBy.take (i := 8) rfl (by kernel_rfl) (by kernel_rfl) (by kernel_rfl) (fun _ _ _ h => h) (by rfl) (fun _ h => load_key h.1 rfl (by go_simp)) (by go_simp; rfl) hS ?_
      refine HeldBy.take (i := 9) rfl (by kernel_rfl) (by kernel_rfl) (by kernel_rfl) (fun _ _ _ h => h) (by rfl) (fun _ h => load_key h.2.1 rfl (by go_simp)) (by go_simp; rfl) hS ?_
      refine HeldBy.call (i := 10) (v := .bool true) rfl (by kernel_rfl) (by rfl) (by go_simp; exact ⟨rfl, rfl⟩) (by go_simp; rfl) ?_
      refine (less_any k0 k1 n0 n1 _).mono ?_
      rintro e V3 ⟨rfl, hb1⟩
      refine ⟨by rw [hab.out], ⟨hS.1.after hb1, hS.2.1.after hb1, hS.2.2.after hb1⟩, ?_⟩
      replace hS : BoxK V3 p k0 n0 ∧ BoxK V3 q k1 n1 ∧ BoxK V3 r k2 n2 := ⟨hS.1.after hb1, hS.2.1.after hb1, hS.2.2.after hb1⟩
      replace hlow := hlow.trans (hb1.mono hlow.size)
      clear hb1
      refine HeldBy.take (i := 11) rfl (by kernel_rfl) (by kernel_rfl) (by kernel_rfl) (fun _ _ _ h => h) (by rfl) (fun _ _ => by go_simp; rfl) (by go_simp; rfl) hS ?_
      refine HeldBy.take (i := 12) rfl (by kernel_rfl) (by kernel_rfl) (by kernel_rfl) (fun _ _ _ h => h) (by rfl) (fun _ h => load_key h.2.1 rfl (by go_simp)) (by go_simp; rfl) hS ?_
      refine HeldBy.take (i := 13) rfl (by kernel_rfl) (by kernel_rfl) (by kernel_rfl) (fun _ _ _ h => h) (by rfl) (fun _ h => load_key h.1 rfl (by go_simp)) (by go_simp; rfl) hS ?_
      refine HeldBy.call (i := 14) (v := .bool false) rfl (by kernel_rfl) (by rfl) (by go_simp; exact ⟨rfl, rfl⟩) (by go_simp; rfl) ?_
      refine (less_any k1 k0 n1 n0 _).mono ?_
      rintro e V4 ⟨rfl, hb1⟩
      refine ⟨by rw [hba.out], ⟨hS.1.after hb1, hS.2.1.after hb1, hS.2.2.after hb1⟩, ?_⟩
      replace hS : BoxK V4 p k0 n0 ∧ BoxK V4 q k1 n1 ∧ BoxK V4 r k2 n2 := ⟨hS.1.after hb1, hS.2.1.after hb1, hS.2.2.after hb1⟩
      replace hlow := hlow.trans (hb1.mono hlow.size)
      clear hb1
      refine HeldBy.take (i := 15) rfl (by kernel_rfl) (by kernel_rfl) (by kernel_rfl) (fun _ _ _ h => h) (by rfl) (fun _ _ => by go_simp; rfl) (by go_simp; rfl) hS ?_
      refine HeldBy.take (i := 16) rfl (by kernel_rfl) (by kernel_rfl) (by kernel_rfl) (fun _ _ _ h => h) (by rfl) (fun _ _ => by go_simp; rfl) (by go_simp; rfl) hS ?_
      refine wpAnyH_done (by kernel_rfl) ?_ _
      go_wp2_with (first | ((with_reducible refine wpList_load_key ?_ rfl ?_ hS.1 ?_); rfl; rfl) | ((with_reducible refine wpList_load_key ?_ rfl ?_ hS.2.1 ?_); rfl; rfl) | ((with_reducible refine wpList_load_key ?_ rfl ?_ hS.2.2 ?_); rfl; rfl))
      refine (less_any k0 k1 n0 n1 _).mono ?_
      rintro e V5 ⟨rfl, hb1⟩
      rw [hab.out]
      replace hS : BoxK V5 p k0 n0 ∧ BoxK V5 q k1 n1 ∧ BoxK V5 r k2 n2 := ⟨hS.1.after hb1, hS.2.1.after hb1, hS.2.2.after hb1⟩
      replace hlow := hlow.trans (hb1.mono hlow.size)
      clear hb1
      go_wp2_with (first | ((with_reducible refine wpList_load_key ?_ rfl ?_ hS.1 ?_); rfl; rfl) | ((with_reducible refine wpList_load_key ?_ rfl ?_ hS.2.1 ?_); rfl; rfl) | ((with_reducible refine wpList_load_key ?_ rfl ?_ hS.2.2 ?_); rfl; rfl))
      refine (less_any k1 k2 n1 n2 _).mono ?_
      rintro e V6 ⟨rfl, hb1⟩
      rw [hbc.out]
      replace hS : BoxK V6 p k0 n0 ∧ BoxK V6 q k1 n1 ∧ BoxK V6 r k2 n2 := ⟨hS.1.after hb1, hS.2.1.after hb1, hS.2.2.after hb1⟩
      replace hlow := hlow.trans (hb1.mono hlow.size)
      clear hb1
      go_upto_region 6 with (first | ((with_reducible refine wpList_load_key ?_ rfl ?_ hS.1 ?_); rfl; rfl) | ((with_reducible refine wpList_load_key ?_ rfl ?_ hS.2.1 ?_); rfl; rfl) | ((with_reducible refine wpList_load_key ?_ rfl ?_ hS.2.2 ?_); rfl; rfl))
      refine wp_region_held_drew (S := fun W => BoxK W p k0 n0 ∧ BoxK W q k1 n1 ∧ BoxK W r k2 n2) (by kernel_rfl) ⟨hS.1.drew, hS.2.1.drew, hS.2.2.drew⟩ (fun _ => ?_)
      refine HeldBy.gen (fun W => (BoxK W p k0 n0 ∧ BoxK W q k1 n1 ∧ BoxK W r k2 n2) ∧ Below w.heap.size w W) ⟨⟨hS.1.drew, hS.2.1.drew, hS.2.2.drew⟩, hlow.drew⟩ ?_
      clear hS hlow
      rintro V0 ⟨hS, hlow⟩
      refine HeldBy.call (i := 0) (v := .bool true) rfl (by kernel_rfl) (by rfl) (by go_simp; exact ⟨rfl, rfl⟩) (by go_simp; rfl) ?_
      refine (live_any _).mono ?_
      rintro e V7 ⟨rfl, hb1⟩
      refine ⟨rfl, ⟨hS.1.after hb1, hS.2.1.after hb1, hS.2.2.after hb1⟩, ?_⟩
      replace hS : BoxK V7 p k0 n0 ∧ BoxK V7 q k1 n1 ∧ BoxK V7 r k2 n2 := ⟨hS.1.after hb1, hS.2.1.after hb1, hS.2.2.after hb1⟩
      replace hlow := hlow.trans (hb1.mono hlow.size)
      clear hb1
      refine HeldBy.take (i := 1) rfl (by kernel_rfl) (by kernel_rfl) (by kernel_rfl) (fun _ _ _ h => h) (by rfl) (fun _ _ => by go_simp; rfl) (by go_simp; rfl) hS ?_
      refine HeldBy.take (i := 2) rfl (by kernel_rfl) (by kernel_rfl) (by kernel_rfl) (fun _ _ _ h => h) (by rfl) (fun _ h => load_key h.1 rfl (by go_simp)) (by go_simp; rfl) hS ?_
      refine HeldBy.take (i := 3) rfl (by kernel_rfl) (by kernel_rfl) (by kernel_rfl) (fun _ _ _ h => h) (by rfl) (fun _ h => load_key h.2.1 rfl (by go_simp)) (by go_simp; rfl) hS ?_
      refine HeldBy.take (i := 10) rfl (by kernel_rfl) (by kernel_rfl) (by kernel_rfl) (fun _ _ _ h => h) (by rfl) (fun _ h => load_key h.1 rfl (by go_simp)) (by go_simp; rfl) hS ?_
      refine HeldBy.take (i := 11) rfl (by kernel_rfl) (by kernel_rfl) (by kernel_rfl) (fun _ _ _ h => h) (by rfl) (fun _ h => load_key h.2.1 rfl (by go_simp)) (by go_simp; rfl) hS ?_
      refine HeldBy.take (i := 12) (v := .bool true) rfl (by kernel_rfl) (by kernel_rfl) (by kernel_rfl) (fun _ _ _ h => h) (by rfl) (fun _ _ => neq_keys rfl (by go_simp) (by go_simp) hne.out) (by go_simp; rfl) hS ?_
      refine HeldBy.call (i := 4) (v := .bool true) rfl (by kernel_rfl) (by rfl) (by go_simp; exact ⟨rfl, rfl⟩) (by go_simp; rfl) ?_
      refine (less_any k0 k1 n0 n1 _).mono ?_
      rintro e V8 ⟨rfl, hb1⟩
      refine ⟨by rw [hab.out], ⟨hS.1.after hb1, hS.2.1.after hb1, hS.2.2.after hb1⟩, ?_⟩
      replace hS : BoxK V8 p k0 n0 ∧ BoxK V8 q k1 n1 ∧ BoxK V8 r k2 n2 := ⟨hS.1.after hb1, hS.2.1.after hb1, hS.2.2.after hb1⟩
      replace hlow := hlow.trans (hb1.mono hlow.size)
      clear hb1
      refine HeldBy.take (i := 5) rfl (by kernel_rfl) (by kernel_rfl) (by kernel_rfl) (fun _ _ _ h => h) (by rfl) (fun _ _ => by go_simp; rfl) (by go_simp; rfl) hS ?_
      refine HeldBy.skip (i := 6) rfl (by kernel_rfl) (by kernel_rfl) (by kernel_rfl) (fun _ _ _ h => h) (by rfl) (by go_simp; rfl) hS ?_
      refine HeldBy.skip (i := 7) rfl (by kernel_rfl) (by kernel_rfl) (by kernel_rfl) (fun _ _ _ h => h) (by rfl) (by go_simp; rfl) hS ?_
      refine HeldBy.skip (i := 8) rfl (by kernel_rfl) (by kernel_rfl) (by kernel_rfl) (fun _ _ _ h => h) (by rfl) (by go_simp; rfl) hS ?_
      refine HeldBy.take (i := 9) rfl (by kernel_rfl) (by kernel_rfl) (by kernel_rfl) (fun _ _ _ h => h) (by rfl) (fun _ _ => by go_simp; rfl) (by go_simp; rfl) hS ?_
      refine HeldBy.take (i := 13) rfl (by kernel_rfl) (by kernel_rfl) (by kernel_rfl) (fun _ _ _ h => h) (by rfl) (fun _ _ => by go_simp; rfl) (by go_simp; rfl) hS ?_
      refine HeldBy.take (i := 14) rfl (by kernel_rfl) (by kernel_rfl) (by kernel_rfl) (fun _ _ _ h => h) (by rfl) (fun _ _ => by go_simp; rfl) (by go_simp; rfl) hS ?_
      refine HeldBy.take (i := 15) rfl (by kernel_rfl) (by kernel_rfl) (by kernel_rfl) (fun _ _ _ h => h) (by rfl) (fun _ _ => by go_simp; rfl) (by go_simp; rfl) hS ?_
      refine wpAnyH_done (by kernel_rfl) ?_ _
      go_wp2
      go_ret
      exact ⟨rfl, hlow⟩
  | false =>
    have hab : Hid (lessB k0 n0 k1 n1 = false) := eab
    cases eba : lessB k1 n1 k0 n0 with
    | true =>
      have hba : Hid (lessB k1 n1 k0 n0 = true) := eba
      rw [eab, eba] at hne
      clear eab eba
      go_upto_region 2 with (fail)
      refine wp_region_held_drew (S := fun W => BoxK W p k0 n0 ∧ BoxK W q k1 n1 ∧ BoxK W r k2 n2) (by kernel_rfl) ⟨hS.1.drew, hS.2.1.drew, hS.2.2.drew⟩ (fun _ => ?_)
      refine HeldBy.gen (fun W => (BoxK W p k0 n0 ∧ BoxK W q k1 n1 ∧ BoxK W r k2 n2) ∧ Below w.heap.size w W) ⟨⟨hS.1.drew, hS.2.1.drew, hS.2.2.drew⟩, hlow.drew⟩ ?_
      clear hS hlow
      rintro V0 ⟨hS, hlow⟩
      refine HeldBy.take (i := 0) rfl (by kernel_rfl) (by kernel_rfl) (by kernel_rfl) (fun _ _ _ h => h) (by rfl) (fun _ h => load_key h.1 rfl (by go_simp)) (by go_simp; rfl) hS ?_
      refine HeldBy.take (i := 1) rfl (by kernel_rfl) (by kernel_rfl) (by kernel_rfl) (fun _ _ _ h => h) (by rfl) (fun _ h => load_key h.2.1 rfl (by go_simp)) (by go_simp; rfl) hS ?_
      refine HeldBy.take (i := 3) rfl (by kernel_rfl) (by kernel_rfl) (by kernel_rfl) (fun _ _ _ h => h) (by rfl) (fun _ h => load_key h.1 rfl (by go_simp)) (by go_simp; rfl) hS ?_
      refine HeldBy.take (i := 4) rfl (by kernel_rfl) (by kernel_rfl) (by kernel_rfl) (fun _ _ _ h => h) (by rfl) (fun _ h => load_key h.2.1 rfl (by go_simp)) (by go_simp; rfl) hS ?_
      refine HeldBy.call (i := 2) (v := .bool false) rfl (by kernel_rfl) (by rfl) (by go_simp; exact ⟨rfl, rfl⟩) (by go_simp; rfl) ?_
      refine (less_any k0 k1 n0 n1 _).mono ?_
      rintro e V1 ⟨rfl, hb1⟩
      refine ⟨by rw [hab.out], ⟨hS.1.after hb1, hS.2.1.after hb1, hS.2.2.after hb1⟩, ?_⟩
      replace hS : BoxK V1 p k0 n0 ∧ BoxK V1 q k1 n1 ∧ BoxK V1 r k2 n2 := ⟨hS.1.after hb1, hS.2.1.after hb1, hS.2.2.after hb1⟩
      replace hlow := hlow.trans (hb1.mono hlow.size)
      clear hb1
      refine HeldBy.call (i := 5) (v := .bool false) rfl (by kernel_rfl) (by rfl) (by go_simp; exact ⟨rfl, rfl⟩) (by go_simp; rfl) ?_
      refine (refLess_any k0 k1 n0 n1 _).mono ?_
      rintro e V2 ⟨rfl, hb1⟩
      refine ⟨by rw [hab.out], ⟨hS.1.after hb1, hS.2.1.after hb1, hS.2.2.after hb1⟩, ?_⟩
      replace hS : BoxK V2 p k0 n0 ∧ BoxK V2 q k1 n1 ∧ BoxK V2 r k2 n2 := ⟨hS.1.after hb1, hS.2.1.after hb1, hS.2.2.after hb1⟩
      replace hlow := hlow.trans (hb1.mono hlow.size)
      clear hb1
      refine HeldBy.take (i := 6) rfl (by kernel_rfl) (by kernel_rfl) (by kernel_rfl) (fun _ _ _ h => h) (by rfl) (fun _ _ => by go_simp; rfl) (by go_simp; rfl) hS ?_
      refine HeldBy.take (i := 7) rfl (by kernel_rfl) (by kernel_rfl) (by kernel_rfl) (fun _ _ _ h => h) (by rfl) (fun _ _ => by go_simp; rfl) (by go_simp; rfl) hS ?_
      refine HeldBy.take (i := 8) rfl (by kernel_rfl) (by kernel_rfl) (by kernel_rfl) (fun _ _ _ h => h) (by rfl) (fun _ h => load_key h.1 rfl (by go_simp)) (by go_simp; rfl) hS ?_
      refine HeldBy.take (i := 9) rfl (by kernel_rfl) (by kernel_rfl) (by kernel_rfl) (fun _ _ _ h => h) (by rfl) (fun _ h => load_key h.2.1 rfl (by go_simp)) (by go_simp; rfl) hS ?_
      refine HeldBy.call (i := 10) (v := .bool false) rfl (by kernel_rfl) (by rfl) (by go_simp; exact ⟨rfl, rfl⟩) (by go_simp; rfl) ?_
      refine (less_any k0 k1 n0 n1 _).mono ?_
      rintro e V3 ⟨rfl, hb1⟩
      refine ⟨by rw [hab.out], ⟨hS.1.after hb1, hS.2.1.after hb1, hS.2.2.after hb1⟩, ?_⟩
      replace hS : BoxK V3 p k0 n0 ∧ BoxK V3 q k1 n1 ∧ BoxK V3 r k2 n2 := ⟨hS.1.after hb1, hS.2.1.after hb1, hS.2.2.after hb1⟩
      replace hlow := hlow.trans (hb1.mono hlow.size)
      clear hb1
      refine HeldBy.take (i := 11) rfl (by kernel_rfl) (by kernel_rfl) (by kernel_rfl) (fun _ _ _ h => h) (by rfl) (fun _ _ => by go_simp; rfl) (by go_simp; rfl) hS ?_
      refine HeldBy.skip (i := 12) rfl (by kernel_rfl) (by kernel_rfl) (by kernel_rfl) (fun _ _ _ h => h) (by rfl) (by go_simp; rfl) hS ?_
      refine HeldBy.skip (i := 13) rfl (by kernel_rfl) (by kernel_rfl) (by kernel_rfl) (fun _ _ _ h => h) (by rfl) (by go_simp; rfl) hS ?_
      refine HeldBy.skip (i := 14) rfl (by kernel_rfl) (by kernel_rfl) (by kernel_rfl) (fun _ _ _ h => h) (by rfl) (by go_simp; rfl) hS ?_
      refine HeldBy.take (i := 15) rfl (by kernel_rfl) (by kernel_rfl) (by kernel_rfl) (fun _ _ _ h => h) (by rfl) (fun _ _ => by go_simp; rfl) (by go_simp; rfl) hS ?_
      refine HeldBy.take (i := 16) rfl (by kernel_rfl) (by kernel_rfl) (by kernel_rfl) (fun _ _ _ h => h) (by rfl) (fun _ _ => by go_simp; rfl) (by go_simp; rfl) hS ?_
      refine wpAnyH_done (by kernel_rfl) ?_ _
      go_wp2_with (first | ((with_reducible refine wpList_load_key ?_ rfl ?_ hS.1 ?_); rfl; rfl) | ((with_reducible refine wpList_load_key ?_ rfl ?_ hS.2.1 ?_); rfl; rfl) | ((with_reducible refine wpList_load_key ?_ rfl ?_ hS.2.2 ?_); rfl; rfl))
      refine (less_any k0 k1 n0 n1 _).mono ?_
      rintro e V4 ⟨rfl, hb1⟩
      rw [hab.out]
      replace hS : BoxK V4 p k0 n0 ∧ BoxK V4 q k1 n1 ∧ BoxK V4 r k2 n2 := ⟨hS.1.after hb1, hS.2.1.after hb1, hS.2.2.after hb1⟩
      replace hlow := hlow.trans (hb1.mono hlow.size)
      clear hb1
      go_upto_region 6 with (first | ((with_reducible refine wpList_load_key ?_ rfl ?_ hS.1 ?_); rfl; rfl) | ((with_reducible refine wpList_load_key ?_ rfl ?_ hS.2.1 ?_); rfl; rfl) | ((with_reducible refine wpList_load_key ?_ rfl ?_ hS.2.2 ?_); rfl; rfl))
      refine wp_region_held_drew (S := fun W => BoxK W p k0 n0 ∧ BoxK W q k1 n1 ∧ BoxK W r k2 n2) (by kernel_rfl) ⟨hS.1.drew, hS.2.1.drew, hS.2.2.drew⟩ (fun _ => ?_)
      refine HeldBy.gen (fun W => (BoxK W p k0 n0 ∧ BoxK W q k1 n1 ∧ BoxK W r k2 n2) ∧ Below w.heap.size w W) ⟨⟨hS.1.drew, hS.2.1.drew, hS.2.2.drew⟩, hlow.drew⟩ ?_
      clear hS hlow
      rintro V0 ⟨hS, hlow⟩
      refine HeldBy.call (i := 0) (v := .bool true) rfl (by kernel_rfl) (by rfl) (by go_simp; exact ⟨rfl, rfl⟩) (by go_simp; rfl) ?_
      refine (live_any _).mono ?_
      rintro e V5 ⟨rfl, hb1⟩
      refine ⟨rfl, ⟨hS.1.after hb1, hS.2.1.after hb1, hS.2.2.after hb1⟩, ?_⟩
      replace hS : BoxK V5 p k0 n0 ∧ BoxK V5 q k1 n1 ∧ BoxK V5 r k2 n2 := ⟨hS.1.after hb1, hS.2.1.after hb1, hS.2.2.after hb1⟩
      replace hlow := hlow.trans (hb1.mono hlow.size)
      clear hb1
      refine HeldBy.take (i := 1) rfl (by kernel_rfl) (by kernel_rfl) (by kernel_rfl) (fun _ _ _ h => h) (by rfl) (fun _ _ => by go_simp; rfl) (by go_simp; rfl) hS ?_
      refine HeldBy.take (i := 2) rfl (by kernel_rfl) (by kernel_rfl) (by kernel_rfl) (fun _ _ _ h => h) (by rfl) (fun _ h => load_key h.1 rfl (by go_simp)) (by go_simp; rfl) hS ?_
      refine HeldBy.take (i := 3) rfl (by kernel_rfl) (by kernel_rfl) (by kernel_rfl) (fun _ _ _ h => h) (by rfl) (fun _ h => load_key h.2.1 rfl (by go_simp)) (by go_simp; rfl) hS ?_
      refine HeldBy.take (i := 10) rfl (by kernel_rfl) (by kernel_rfl) (by kernel_rfl) (fun _ _ _ h => h) (by rfl) (fun _ h => load_key h.1 rfl (by go_simp)) (by go_simp; rfl) hS ?_
      refine HeldBy.take (i := 11) rfl (by kernel_rfl) (by kernel_rfl) (by kernel_rfl) (fun _ _ _ h => h) (by rfl) (fun _ h => load_key h.2.1 rfl (by go_simp)) (by go_simp; rfl) hS ?_
      refine HeldBy.take (i := 12) (v := .bool true) rfl (by kernel_rfl) (by kernel_rfl) (by kernel_rfl) (fun _ _ _ h => h) (by rfl) (fun _ _ => neq_keys rfl (by go_simp) (by go_simp) hne.out) (by go_simp; rfl) hS ?_
      refine HeldBy.call (i := 4) (v := .bool false) rfl (by kernel_rfl) (by rfl) (by go_simp; exact ⟨rfl, rfl⟩) (by go_simp; rfl) ?_
      refine (less_any k0 k1 n0 n1 _).mono ?_
      rintro e V6 ⟨rfl, hb1⟩
      refine ⟨by rw [hab.out], ⟨hS.1.after hb1, hS.2.1.after hb1, hS.2.2.after hb1⟩, ?_⟩
      replace hS : BoxK V6 p k0 n0 ∧ BoxK V6 q k1 n1 ∧ BoxK V6 r k2 n2 := ⟨hS.1.after hb1, hS.2.1.after hb1, hS.2.2.after hb1⟩
      replace hlow := hlow.trans (hb1.mono hlow.size)
      clear hb1
      refine HeldBy.take (i := 5) rfl (by kernel_rfl) (by kernel_rfl) (by kernel_rfl) (fun _ _ _ h => h) (by rfl) (fun _ _ => by go_simp; rfl) (by go_simp; rfl) hS ?_
      refine HeldBy.take (i := 6) rfl (by kernel_rfl) (by kernel_rfl) (by kernel_rfl) (fun _ _ _ h => h) (by rfl) (fun _ h => load_key h.2.1 rfl (by go_simp)) (by go_simp; rfl) hS ?_
      refine HeldBy.take (i := 7) rfl (by kernel_rfl) (by kernel_rfl) (by kernel_rfl) (fun _ _ _ h => h) (by rfl) (fun _ h => load_key h.1 rfl (by go_simp)) (by go_simp; rfl) hS ?_
      refine HeldBy.call (i := 8) (v := .bool true) rfl (by kernel_rfl) (by rfl) (by go_simp; exact ⟨rfl, rfl⟩) (by go_simp; rfl) ?_
      refine (less_any k1 k0 n1 n0 _).mono ?_
      rintro e V7 ⟨rfl, hb1⟩
      refine ⟨by rw [hba.out], ⟨hS.1.after hb1, hS.2.1.after hb1, hS.2.2.after hb1⟩, ?_⟩
      replace hS : BoxK V7 p k0 n0 ∧ BoxK V7 q k1 n1 ∧ BoxK V7 r k2 n2 := ⟨hS.1.after hb1, hS.2.1.after hb1, hS.2.2.after hb1⟩
      replace hlow := hlow.trans (hb1.mono hlow.size)
      clear hb1
      refine HeldBy.take (i := 9) rfl (by kernel_rfl) (by kernel_rfl) (by kernel_rfl) (fun _ _ _ h => h) (by rfl) (fun _ _ => by go_simp; rfl) (by go_simp; rfl) hS ?_
      refine HeldBy.take (i := 13) rfl (by kernel_rfl) (by kernel_rfl) (by kernel_rfl) (fun _ _ _ h => h) (by rfl) (fun _ _ => by go_simp; rfl) (by go_simp; rfl) hS ?_
      refine HeldBy.take (i := 14) rfl (by kernel_rfl) (by kernel_rfl) (by kernel_rfl) (fun _ _ _ h => h) (by rfl) (fun _ _ => by go_simp; rfl) (by go_simp; rfl) hS ?_
      refine HeldBy.take (i := 15) rfl (by kernel_rfl) (by kernel_rfl) (by kernel_rfl) (fun _ _ _ h => h) (by rfl) (fun _ _ => by go_simp; rfl) (by go_simp; rfl) hS ?_
      refine wpAnyH_done (by kernel_rfl) ?_ _
      go_wp2
      go_ret
      exact ⟨rfl, hlow⟩
    | false =>
      have hba : Hid (lessB k1 n1 k0 n0 = false) := eba
      rw [eab, eba] at hne
      clear eab eba
      go_upto_region 2 with (fail)
      refine wp_region_held_drew (S := fun W => BoxK W p k0 n0 ∧ BoxK W q k1 n1 ∧ BoxK W r k2 n2) (by kernel_rfl) ⟨hS.1.drew, hS.2.1.drew, hS.2.2.drew⟩ (fun _ => ?_)
      refine HeldBy.gen (fun W => (BoxK W p k0 n0 ∧ BoxK W q k1 n1 ∧ BoxK W r k2 n2) ∧ Below w.heap.size w W) ⟨⟨hS.1.drew, hS.2.1.drew, hS.2.2.drew⟩, hlow.drew⟩ ?_
      clear hS hlow
      rintro V0 ⟨hS, hlow⟩
      refine HeldBy.take (i := 0) rfl (by kernel_rfl) (by kernel_rfl) (by kernel_rfl) (fun _ _ _ h => h) (by rfl) (fun _ h => load_key h.1 rfl (by go_simp)) (by go_simp; rfl) hS ?_
      refine HeldBy.take (i := 1) rfl (by kernel_rfl) (by kernel_rfl) (by kernel_rfl) (fun _ _ _ h => h) (by rfl) (fun _ h => load_key h.2.1 rfl (by go_simp)) (by go_simp; rfl) hS ?_
      refine HeldBy.take (i := 3) rfl (by kernel_rfl) (by kernel_rfl) (by kernel_rfl) (fun _ _ _ h => h) (by rfl) (fun _ h => load_key h.1 rfl (by go_simp)) (by go_simp; rfl) hS ?_
      refine HeldBy.take (i := 4) rfl (by kernel_rfl) (by kernel_rfl) (by kernel_rfl) (fun _ _ _ h => h) (by rfl) (fun _ h => load_key h.2.1 rfl (by go_simp)) (by go_simp; rfl) hS ?_
      refine HeldBy.call (i := 2) (v := .bool false) rfl (by kernel_rfl) (by rfl) (by go_simp; exact ⟨rfl, rfl⟩) (by go_simp; rfl) ?_
      refine (less_any k0 k1 n0 n1 _).mono ?_
      rintro e V1 ⟨rfl, hb1⟩
      refine ⟨by rw [hab.out], ⟨hS.1.after hb1, hS.2.1.after hb1, hS.2.2.after hb1⟩, ?_⟩
      replace hS : BoxK V1 p k0 n0 ∧ BoxK V1 q k1 n1 ∧ BoxK V1 r k2 n2 := ⟨hS.1.after hb1, hS.2.1.after hb1, hS.2.2.after hb1⟩
      replace hlow := hlow.trans (hb1.mono hlow.size)
      clear hb1
      refine HeldBy.call (i := 5) (v := .bool false) rfl (by kernel_rfl) (by rfl) (by go_simp; exact ⟨rfl, rfl⟩) (by go_simp; rfl) ?_
      refine (refLess_any k0 k1 n0 n1 _).mono ?_
      rintro e V2 ⟨rfl, hb1⟩
      refine ⟨by rw [hab.out], ⟨hS.1.after hb1, hS.2.1.after hb1, hS.2.2.after hb1⟩, ?_⟩
      replace hS : BoxK V2 p k0 n0 ∧ BoxK V2 q k1 n1 ∧ BoxK V2 r k2 n2 := ⟨hS.1.after hb1, hS.2.1.after hb1, hS.2.2.after hb1⟩
      replace hlow := hlow.trans (hb1.mono hlow.size)
      clear hb1
      refine HeldBy.take (i := 6) rfl (by kernel_rfl) (by kernel_rfl) (by kernel_rfl) (fun _ _ _ h => h) (by rfl) (fun _ _ => by go_simp; rfl) (by go_simp; rfl) hS ?_
      refine HeldBy.take (i := 7) rfl (by kernel_rfl) (by kernel_rfl) (by kernel_rfl) (fun _ _ _ h => h) (by rfl) (fun _ _ => by go_simp; rfl) (by go_simp; rfl) hS ?_
      refine HeldBy.take (i := 8) rfl (by kernel_rfl) (by kernel_rfl) (by kernel_rfl) (fun _ _ _ h => h) (by rfl) (fun _ h => load_key h.1 rfl (by go_simp)) (by go_simp; rfl) hS ?_
      refine HeldBy.take (i := 9) rfl (by kernel_rfl) (by kernel_rfl) (by kernel_rfl) (fun _ _ _ h => h) (by rfl) (fun _ h => load_key h.2.1 rfl (by go_simp)) (by go_simp; rfl) hS ?_
      refine HeldBy.call (i := 10) (v := .bool false) rfl (by kernel_rfl) (by rfl) (by go_simp; exact ⟨rfl, rfl⟩) (by go_simp; rfl) ?_
      refine (less_any k0 k1 n0 n1 _).mono ?_
      rintro e V3 ⟨rfl, hb1⟩
      refine ⟨by rw [hab.out], ⟨hS.1.after hb1, hS.2.1.after hb1, hS.2.2.after hb1⟩, ?_⟩
      replace hS : BoxK V3 p k0 n0 ∧ BoxK V3 q k1 n1 ∧ BoxK V3 r k2 n2 := ⟨hS.1.after hb1, hS.2.1.after hb1, hS.2.2.after hb1⟩
      replace hlow := hlow.trans (hb1.mono hlow.size)
      clear hb1
      refine HeldBy.take (i := 11) rfl (by kernel_rfl) (by kernel_rfl) (by kernel_rfl) (fun _ _ _ h => h) (by rfl) (fun _ _ => by go_simp; rfl) (by go_simp; rfl) hS ?_
      refine HeldBy.skip (i := 12) rfl (by kernel_rfl) (by kernel_rfl) (by kernel_rfl) (fun _ _ _ h => h) (by rfl) (by go_simp; rfl) hS ?_
      refine HeldBy.skip (i := 13) rfl (by kernel_rfl) (by kernel_rfl) (by kernel_rfl) (fun _ _ _ h => h) (by rfl) (by go_simp; rfl) hS ?_
      refine HeldBy.skip (i := 14) rfl (by kernel_rfl) (by kernel_rfl) (by kernel_rfl) (fun _ _ _ h => h) (by rfl) (by go_simp; rfl) hS ?_
      refine HeldBy.take (i := 15) rfl (by kernel_rfl) (by kernel_rfl) (by kernel_rfl) (fun _ _ _ h => h) (by rfl) (fun _ _ => by go_simp; rfl) (by go_simp; rfl) hS ?_
      refine HeldBy.take (i := 16) rfl (by kernel_rfl) (by kernel_rfl) (by kernel_rfl) (fun _ _ _ h => h) (by rfl) (fun _ _ => by go_simp; rfl) (by go_simp; rfl) hS ?_
      refine wpAnyH_done (by kernel_rfl) ?_ _
      go_wp2_with (first | ((with_reducible refine wpList_load_key ?_ rfl ?_ hS.1 ?_); rfl; rfl) | ((with_reducible refine wpList_load_key ?_ rfl ?_ hS.2.1 ?_); rfl; rfl) | ((with_reducible refine wpList_load_key ?_ rfl ?_ hS.2.2 ?_); rfl; rfl))
      refine (less_any k0 k1 n0 n1 _).mono ?_
      rintro e V4 ⟨rfl, hb1⟩
      rw [hab.out]
      replace hS : BoxK V4 p k0 n0 ∧ BoxK V4 q k1 n1 ∧ BoxK V4 r k2 n2 := ⟨hS.1.after hb1, hS.2.1.after hb1, hS.2.2.after hb1⟩
      replace hlow := hlow.trans (hb1.mono hlow.size)
      clear hb1
      go_upto_region 6 with (first | ((with_reducible refine wpList_load_key ?_ rfl ?_ hS.1 ?_); rfl; rfl) | ((with_reducible refine wpList_load_key ?_ rfl ?_ hS.2.1 ?_); rfl; rfl) | ((with_reducible refine wpList_load_key ?_ rfl ?_ hS.2.2 ?_); rfl; rfl))
      refine wp_region_held_drew (S := fun W => BoxK W p k0 n0 ∧ BoxK W q k1 n1 ∧ BoxK W r k2 n2) (by kernel_rfl) ⟨hS.1.drew, hS.2.1.drew, hS.2.2.drew⟩ (fun _ => ?_)
      refine HeldBy.gen (fun W => (BoxK W p k0 n0 ∧ BoxK W q k1 n1 ∧ BoxK W r k2 n2) ∧ Below w.heap.size w W) ⟨⟨hS.1.drew, hS.2.1.drew, hS.2.2.drew⟩, hlow.drew⟩ ?_
      clear hS hlow
      rintro V0 ⟨hS, hlow⟩
      refine HeldBy.call (i := 0) (v := .bool true) rfl (by kernel_rfl) (by rfl) (by go_simp; exact ⟨rfl, rfl⟩) (by go_simp; rfl) ?_
      refine (live_any _).mono ?_
      rintro e V5 ⟨rfl, hb1⟩
      refine ⟨rfl, ⟨hS.1.after hb1, hS.2.1.after hb1, hS.2.2.after hb1⟩, ?_⟩
      replace hS : BoxK V5 p k0 n0 ∧ BoxK V5 q k1 n1 ∧ BoxK V5 r k2 n2 := ⟨hS.1.after hb1, hS.2.1.after hb1, hS.2.2.after hb1⟩
      replace hlow := hlow.trans (hb1.mono hlow.size)
      clear hb1
      refine HeldBy.take (i := 1) rfl (by kernel_rfl) (by kernel_rfl) (by kernel_rfl) (fun _ _ _ h => h) (by rfl) (fun _ _ => by go_simp; rfl) (by go_simp; rfl) hS ?_
      refine HeldBy.take (i := 2) rfl (by kernel_rfl) (by kernel_rfl) (by kernel_rfl) (fun _ _ _ h => h) (by rfl) (fun _ h => load_key h.1 rfl (by go_simp)) (by go_simp; rfl) hS ?_
      refine HeldBy.take (i := 3) rfl (by kernel_rfl) (by kernel_rfl) (by kernel_rfl) (fun _ _ _ h => h) (by rfl) (fun _ h => load_key h.2.1 rfl (by go_simp)) (by go_simp; rfl) hS ?_
      refine HeldBy.take (i := 10) rfl (by kernel_rfl) (by kernel_rfl) (by kernel_rfl) (fun _ _ _ h => h) (by rfl) (fun _ h => load_key h.1 rfl (by go_simp)) (by go_simp; rfl) hS ?_
      refine HeldBy.take (i := 11) rfl (by kernel_rfl) (by kernel_rfl) (by kernel_rfl) (fun _ _ _ h => h) (by rfl) (fun _ h => load_key h.2.1 rfl (by go_simp)) (by go_simp; rfl) hS ?_
      refine HeldBy.take (i := 12) (v := .bool false) rfl (by kernel_rfl) (by kernel_rfl) (by kernel_rfl) (fun _ _ _ h => h) (by rfl) (fun _ _ => neq_keys rfl (by go_simp) (by go_simp) hne.out) (by go_simp; rfl) hS ?_
      refine HeldBy.call (i := 4) (v := .bool false) rfl (by kernel_rfl) (by rfl) (by go_simp; exact ⟨rfl, rfl⟩) (by go_simp; rfl) ?_
      refine (less_any k0 k1 n0 n1 _).mono ?_
      rintro e V6 ⟨rfl, hb1⟩
      refine ⟨by rw [hab.out], ⟨hS.1.after hb1, hS.2.1.after hb1, hS.2.2.after hb1⟩, ?_⟩
      replace hS : BoxK V6 p k0 n0 ∧ BoxK V6 q k1 n1 ∧ BoxK V6 r k2 n2 := ⟨hS.1.after hb1, hS.2.1.after hb1, hS.2.2.after hb1⟩
      replace hlow := hlow.trans (hb1.mono hlow.size)
      clear hb1
      refine HeldBy.take (i := 5) rfl (by kernel_rfl) (by kernel_rfl) (by kernel_rfl) (fun _ _ _ h => h) (by rfl) (fun _ _ => by go_simp; rfl) (by go_simp; rfl) hS ?_
      refine HeldBy.take (i := 6) rfl (by kernel_rfl) (by kernel_rfl) (by kernel_rfl) (fun _ _ _ h => h) (by rfl) (fun _ h => load_key h.2.1 rfl (by go_simp)) (by go_simp; rfl) hS ?_
      refine HeldBy.take (i := 7) rfl (by kernel_rfl) (by kernel_rfl) (by kernel_rfl) (fun _ _ _ h => h) (by rfl) (fun _ h => load_key h.1 rfl (by go_simp)) (by go_simp; rfl) hS ?_
      refine HeldBy.call (i := 8) (v := .bool false) rfl (by kernel_rfl) (by rfl) (by go_simp; exact ⟨rfl, rfl⟩) (by go_simp; rfl) ?_
      refine (less_any k1 k0 n1 n0 _).mono ?_
      rintro e V7 ⟨rfl, hb1⟩
      refine ⟨by rw [hba.out], ⟨hS.1.after hb1, hS.2.1.after hb1, hS.2.2.after hb1⟩, ?_⟩
      replace hS : BoxK V7 p k0 n0 ∧ BoxK V7 q k1 n1 ∧ BoxK V7 r k2 n2 := ⟨hS.1.after hb1, hS.2.1.after hb1, hS.2.2.after hb1⟩
      replace hlow := hlow.trans (hb1.mono hlow.size)
      clear hb1
      refine HeldBy.take (i := 9) rfl (by kernel_rfl) (by kernel_rfl) (by kernel_rfl) (fun _ _ _ h => h) (by rfl) (fun _ _ => by go_simp; rfl) (by go_simp; rfl) hS ?_
      refine HeldBy.take (i := 13) rfl (by kernel_rfl) (by kernel_rfl) (by kernel_rfl) (fun _ _ _ h => h) (by rfl) (fun _ _ => by go_simp; rfl) (by go_simp; rfl) hS ?_
      refine HeldBy.take (i := 14) rfl (by kernel_rfl) (by kernel_rfl) (by kernel_rfl) (fun _ _ _ h => h) (by rfl) (fun _ _ => by go_simp; rfl) (by go_simp; rfl) hS ?_
      refine HeldBy.take (i := 15) rfl (by kernel_rfl) (by kernel_rfl) (by kernel_rfl) (fun _ _ _ h => h) (by rfl) (fun _ _ => by go_simp; rfl) (by go_simp; rfl) hS ?_
      refine wpAnyH_done (by kernel_rfl) ?_ _
      go_wp2
      go_ret
      exact ⟨rfl, hlow⟩
end Go.Proofs.Ytlnkhngfecdflaa.O
