/- The law ObjectBare: its walk. Laid by mklaw.py. -/
import Derived.Test.YtlnkhngfecdflaaOLive
import Derived.Test.YtlnkhngfecdflaaHeldAlloc
namespace Go.Proofs.Ytlnkhngfecdflaa.O
open Go.RowKit T
open Go.Lib hiding intOf

theorem then_gen {K : Act → World → Prop} {Q : Exit → Act → World → Prop} {e : Exit} {a : Act} {W : World} (F : World → Prop) (hF : F W) (h : ∀ W1, F W1 → Exit.then K Q e a W1) : Exit.then K Q e a W := h W hF
/-- The whole object, stored. -/
theorem store_obj {W : World} {b : Nat} {o o' : Obj} (h : BoxO W b o') {oi : Oper} {a : Act} {x y : Operand} (ho : oi.op = .store 27 x y) (hx : a.eval x = .pointer (some ⟨b, 0, none⟩)) (hy : a.eval y = encO o) :
    (execOp a.eval oi).run Try.prog W = .ok .skip (W.setRow b (cellsO o)) := by
  have hq := run_storeVar_row (P := Try.prog) W b 27 27 (cellsO o') (cellsO o) h sizeObj (sz_cells _ _) (one_cells _)
  unfold execOp
  unfold encO at hy
  simp only [ho, hx, hy, Instr.storeAt, Instr.sureAddr, Sem.run_bind, Sem.run_pure, Result.andThen_ok, hq]
theorem makes_obj {oi : Oper} (ho : oi.op = .alloc 27) : HeldBy.Makes Try.prog oi (.cells (cellsO O0) 27) := by
  intro a w
  unfold execOp
  simp only [ho]
  kernel_rfl

set_option maxRecDepth 100000 in
set_option maxHeartbeats 4000000 in
theorem objectBare_any (o : Obj) (t : Int) (w : World) :
    Calls Try.prog 7 #[encO o, .int .u64 t] w fun e w' => e = .returned (.bool true) ∧ Below w.heap.size w w' := by
  unfold encO
  go_enter Try.func7, Try.ntmps7
  go_upto_region 1 with (fail)
  refine wp_gen (fun W => BoxO W w.heap.size o ∧ Below w.heap.size w W) ⟨BoxO.new w o, (Below.refl _ _).alloc (Nat.le_refl _) _⟩ ?_
  rintro W1 ⟨hS, hlow⟩
  refine wp_region_held_drew (S := fun W => BoxO W w.heap.size o) (by kernel_rfl) hS.drew (fun _ => ?_)
  refine HeldBy.gen (fun W => BoxO W w.heap.size o ∧ Below w.heap.size w W) ⟨hS.drew, hlow.drew⟩ ?_
  clear hS hlow
  rintro V0 ⟨hS, hlow⟩
  refine HeldBy.take (i := 0) rfl (by kernel_rfl) (by kernel_rfl) (by kernel_rfl) (fun _ _ _ h => h) (by rfl) (fun _ h => load_obj h rfl (by go_simp)) (by go_simp; rfl) hS ?_
  refine HeldBy.take (i := 1) rfl (by kernel_rfl) (by kernel_rfl) (by kernel_rfl) (fun _ _ _ h => h) (by rfl) (fun _ h => load_obj h rfl (by go_simp)) (by go_simp; rfl) hS ?_
  refine HeldBy.two_allocs (i := 2) (j := 3) (x := .cells (cellsO O0) 27) (y := .cells (cellsO O0) 27) (by kernel_rfl) (by kernel_rfl) (by kernel_rfl) rfl rfl rfl rfl (makes_obj rfl) (makes_obj rfl) rfl (by kernel_rfl) (fun p q => by unfold HeldBy.ptr; go_simp; rfl) (fun p q => by unfold HeldBy.ptr; go_simp; try rfl) (fun w' hb => hS.after hb) ?_
  intro p q V1 hp hq hpq xp xq hb
  have hlt := hS.lt
  have yp : BoxO V1 p O0 := xp
  have yq : BoxO V1 q O0 := xq
  have hpw : w.heap.size ≠ p := by omega
  have hqw : w.heap.size ≠ q := by omega
  have hp0 : w.heap.size ≤ p := by omega
  have hq0 : w.heap.size ≤ q := by omega
  replace hS := hS.after hb
  replace hlow := hlow.trans (hb.mono hlow.size)
  clear xp xq hb hp hq hlt
  refine HeldBy.store (i := 4) rfl (by kernel_rfl) (by rfl) (store_obj (o := o) yp rfl (by go_simp) (by go_simp)) (by go_simp; rfl) (hS.row hpw _) ?_
  replace hS := hS.row hpw (cellsO o)
  replace yq := yq.row (Ne.symm hpq) (cellsO o)
  replace yp := yp.setRow o
  replace hlow := below_setRow hlow hp0 (cellsO o)
  refine HeldBy.store (i := 5) rfl (by kernel_rfl) (by rfl) (store_obj (o := o) yq rfl (by go_simp) (by go_simp)) (by go_simp; rfl) (hS.row hqw _) ?_
  replace hS := hS.row hqw (cellsO o)
  replace yp := yp.row hpq (cellsO o)
  replace yq := yq.setRow o
  replace hlow := below_setRow hlow hq0 (cellsO o)
  refine wpAnyH_done (by kernel_rfl) ?_ _
  refine then_gen (fun W => (BoxO W w.heap.size o ∧ BoxO W p o ∧ BoxO W q o) ∧ Below w.heap.size w W) ⟨⟨hS, yp, yq⟩, hlow⟩ ?_
  clear hS hlow yp yq
  rintro W2 ⟨⟨hS, yp, yq⟩, hlow⟩
  have hF := And.intro (BoxO.free yp 19) (BoxO.free yq 11)
  obtain ⟨f1, f2⟩ := hF
  have d1 := yp.c19
  have d2 := yq.c11
  go_upto_region 4 with (fail)
  refine wp_gen (fun W => (BoxO W w.heap.size o ∧ BoxO W p { o with tag := t } ∧ BoxO W q { o with wait := true }) ∧ Below w.heap.size w W) ⟨⟨(hS.other hpw _).other hqw _, (yp.s19 t).other hpq _, (yq.other (Ne.symm hpq) _).s11 true⟩, (hlow.setCell hp0 _).setCell hq0 _⟩ ?_
  clear hS hlow yp yq f1 f2 d1 d2
  rintro W3 ⟨hS, hlow⟩
  go_wp2_with ((with_reducible refine wpList_load_obj ?_ rfl ?_ hS.1 ?_); rfl; rfl)
  refine (right_any o _).mono ?_
  rintro e W4 ⟨rfl, hb1⟩
  replace hS : BoxO W4 w.heap.size o ∧ BoxO W4 p { o with tag := t } ∧ BoxO W4 q { o with wait := true } := ⟨hS.1.after hb1, hS.2.1.after hb1, hS.2.2.after hb1⟩
  replace hlow := hlow.trans (hb1.mono hlow.size)
  clear hb1
  cases hr : rightB o with
  | false =>
    go_wp2_with fail
    refine (live_any _).mono ?_
    rintro e W5 ⟨rfl, hb1⟩
    replace hlow := hlow.trans (hb1.mono hlow.size)
    clear hb1 hS
    go_wp2
    go_ret
    exact ⟨rfl, hlow⟩
  | true =>
    have ht := right_tag hr t
    have hw := right_wait hr
    clear hr
    have q7 : ∃ k7, (o.kind == 7) = k7 ∧ decide (o.kind = 7) = k7 := ⟨_, rfl, by rw [Bool.eq_iff_iff]; simp⟩
    have q1 : ∃ k1, (o.kind == 1) = k1 ∧ decide (o.kind = 1) = k1 := ⟨_, rfl, by rw [Bool.eq_iff_iff]; simp⟩
    obtain ⟨k7, e7, g7⟩ := q7
    obtain ⟨k1, e1, g1⟩ := q1
    have hrw := Lib.hid (hw.trans g1)
    rw [g7] at ht
    clear hw g7 g1
    go_upto_region 6 with (fail)
    refine wp_region_held_drew (S := fun W => BoxO W w.heap.size o ∧ BoxO W p { o with tag := t } ∧ BoxO W q { o with wait := true }) (by kernel_rfl) ⟨hS.1.drew, hS.2.1.drew, hS.2.2.drew⟩ (fun _ => ?_)
    refine HeldBy.gen (fun W => (BoxO W w.heap.size o ∧ BoxO W p { o with tag := t } ∧ BoxO W q { o with wait := true }) ∧ Below w.heap.size w W) ⟨⟨hS.1.drew, hS.2.1.drew, hS.2.2.drew⟩, hlow.drew⟩ ?_
    clear hS hlow
    rintro V0 ⟨hS, hlow⟩
    by_cases hz : t = 0
    · have e0 : (t == 0) = true := by simpa using hz
      have hrt : Hid (rightB { o with tag := t } = true) := by show _ = _; rw [ht, decide_eq_true hz]; rfl
      clear ht hz
      refine HeldBy.call (i := 0) (v := .bool true) rfl (by kernel_rfl) (by rfl) (by go_simp; exact ⟨rfl, rfl⟩) (by go_simp; rfl) ?_
      refine (live_any _).mono ?_
      rintro e V1 ⟨rfl, hb1⟩
      refine ⟨rfl, ⟨(hS.1).after hb1, (hS.2.1).after hb1, (hS.2.2).after hb1⟩, ?_⟩
      replace hS : BoxO V1 w.heap.size o ∧ BoxO V1 p { o with tag := t } ∧ BoxO V1 q { o with wait := true } := ⟨(hS.1).after hb1, (hS.2.1).after hb1, (hS.2.2).after hb1⟩
      replace hlow := hlow.trans (hb1.mono hlow.size)
      clear hb1
      refine HeldBy.take (i := 1) rfl (by kernel_rfl) (by kernel_rfl) (by kernel_rfl) (fun _ _ _ h => h) (by rfl) (fun _ _ => by go_simp; rfl) (by go_simp; rfl) hS ?_
      refine HeldBy.take (i := 2) rfl (by kernel_rfl) (by kernel_rfl) (by kernel_rfl) (fun _ _ _ h => h) (by rfl) (fun _ h => load_obj h.2.1 rfl (by go_simp)) (by go_simp; rfl) hS ?_
      refine HeldBy.take (i := 4) rfl (by kernel_rfl) (by kernel_rfl) (by kernel_rfl) (fun _ _ _ h => h) (by rfl) (fun _ _ => by go_simp; rfl) (by go_simp; rfl) hS ?_
      refine HeldBy.take (i := 5) (v := .bool true) rfl (by kernel_rfl) (by kernel_rfl) (by kernel_rfl) (fun _ _ _ h => h) (by rfl) (fun _ _ => by first | (go_simp; done) | (go_simp; simp)) (by go_simp; rfl) hS ?_
      refine HeldBy.call (i := 3) (v := .bool true) rfl (by kernel_rfl) (by rfl) (by go_simp; exact ⟨rfl, rfl⟩) (by go_simp; rfl) ?_
      refine (right_any { o with tag := t } _).mono ?_
      rintro e V2 ⟨rfl, hb1⟩
      refine ⟨by rw [hrt.out], ⟨(hS.1).after hb1, (hS.2.1).after hb1, (hS.2.2).after hb1⟩, ?_⟩
      replace hS : BoxO V2 w.heap.size o ∧ BoxO V2 p { o with tag := t } ∧ BoxO V2 q { o with wait := true } := ⟨(hS.1).after hb1, (hS.2.1).after hb1, (hS.2.2).after hb1⟩
      replace hlow := hlow.trans (hb1.mono hlow.size)
      clear hb1
      refine HeldBy.take (i := 6) rfl (by kernel_rfl) (by kernel_rfl) (by kernel_rfl) (fun _ _ _ h => h) (by rfl) (fun _ _ => by go_simp; rfl) (by go_simp; rfl) hS ?_
      refine HeldBy.skip (i := 7) rfl (by kernel_rfl) (by kernel_rfl) (by kernel_rfl) (fun _ _ _ h => h) (by rfl) (by go_simp; rfl) hS ?_
      refine HeldBy.skip (i := 8) rfl (by kernel_rfl) (by kernel_rfl) (by kernel_rfl) (fun _ _ _ h => h) (by rfl) (by go_simp; rfl) hS ?_
      refine HeldBy.skip (i := 9) rfl (by kernel_rfl) (by kernel_rfl) (by kernel_rfl) (fun _ _ _ h => h) (by rfl) (by go_simp; rfl) hS ?_
      refine HeldBy.take (i := 10) rfl (by kernel_rfl) (by kernel_rfl) (by kernel_rfl) (fun _ _ _ h => h) (by rfl) (fun _ _ => by go_simp; rfl) (by go_simp; rfl) hS ?_
      refine HeldBy.take (i := 11) (v := .bool true) rfl (by kernel_rfl) (by kernel_rfl) (by kernel_rfl) (fun _ _ _ h => h) (by rfl) (fun _ _ => by first | (go_simp; done) | (go_simp; simp)) (by go_simp; rfl) hS ?_
      refine HeldBy.take (i := 12) rfl (by kernel_rfl) (by kernel_rfl) (by kernel_rfl) (fun _ _ _ h => h) (by rfl) (fun _ _ => by go_simp; rfl) (by go_simp; rfl) hS ?_
      refine HeldBy.take (i := 13) rfl (by kernel_rfl) (by kernel_rfl) (by kernel_rfl) (fun _ _ _ h => h) (by rfl) (fun _ _ => by go_simp; rfl) (by go_simp; rfl) hS ?_
      refine HeldBy.take (i := 14) rfl (by kernel_rfl) (by kernel_rfl) (by kernel_rfl) (fun _ _ _ h => h) (by rfl) (fun _ h => load_obj h.2.2 rfl (by go_simp)) (by go_simp; rfl) hS ?_
      refine HeldBy.take (i := 16) rfl (by kernel_rfl) (by kernel_rfl) (by kernel_rfl) (fun _ _ _ h => h) (by rfl) (fun _ _ => by go_simp; rfl) (by go_simp; rfl) hS ?_
      refine HeldBy.take (i := 17) rfl (by kernel_rfl) (by kernel_rfl) (by kernel_rfl) (fun _ _ _ h => h) (by rfl) (fun _ h => by have c := BoxO.c0 h.1; go_simp; rfl) (by go_simp; rfl) hS ?_
      refine HeldBy.take (i := 18) (v := .bool k1) rfl (by kernel_rfl) (by kernel_rfl) (by kernel_rfl) (fun _ _ _ h => h) (by rfl) (fun _ _ => by first | (go_simp; done) | (go_simp; simp)) (by go_simp; rfl) hS ?_
      refine HeldBy.call (i := 15) (v := .bool k1) rfl (by kernel_rfl) (by rfl) (by go_simp; exact ⟨rfl, rfl⟩) (by go_simp; rfl) ?_
      refine (right_any { o with wait := true } _).mono ?_
      rintro e V3 ⟨rfl, hb1⟩
      refine ⟨by rw [hrw.out], ⟨(hS.1).after hb1, (hS.2.1).after hb1, (hS.2.2).after hb1⟩, ?_⟩
      replace hS : BoxO V3 w.heap.size o ∧ BoxO V3 p { o with tag := t } ∧ BoxO V3 q { o with wait := true } := ⟨(hS.1).after hb1, (hS.2.1).after hb1, (hS.2.2).after hb1⟩
      replace hlow := hlow.trans (hb1.mono hlow.size)
      clear hb1
      refine HeldBy.take (i := 19) (v := .bool true) rfl (by kernel_rfl) (by kernel_rfl) (by kernel_rfl) (fun _ _ _ h => h) (by rfl) (fun _ _ => by first | (go_simp; done) | (go_simp; simp)) (by go_simp; rfl) hS ?_
      refine HeldBy.take (i := 20) rfl (by kernel_rfl) (by kernel_rfl) (by kernel_rfl) (fun _ _ _ h => h) (by rfl) (fun _ _ => by go_simp; rfl) (by go_simp; rfl) hS ?_
      refine HeldBy.take (i := 21) rfl (by kernel_rfl) (by kernel_rfl) (by kernel_rfl) (fun _ _ _ h => h) (by rfl) (fun _ _ => by go_simp; rfl) (by go_simp; rfl) hS ?_
      refine wpAnyH_done (by kernel_rfl) ?_ _
      go_wp2
      go_ret
      exact ⟨rfl, hlow⟩
    · have e0 : (t == 0) = false := by simpa using hz
      have hrt : Hid (rightB { o with tag := t } = k7) := by show _ = _; rw [ht, decide_eq_false hz]; rfl
      clear ht hz
      refine HeldBy.call (i := 0) (v := .bool true) rfl (by kernel_rfl) (by rfl) (by go_simp; exact ⟨rfl, rfl⟩) (by go_simp; rfl) ?_
      refine (live_any _).mono ?_
      rintro e V1 ⟨rfl, hb1⟩
      refine ⟨rfl, ⟨(hS.1).after hb1, (hS.2.1).after hb1, (hS.2.2).after hb1⟩, ?_⟩
      replace hS : BoxO V1 w.heap.size o ∧ BoxO V1 p { o with tag := t } ∧ BoxO V1 q { o with wait := true } := ⟨(hS.1).after hb1, (hS.2.1).after hb1, (hS.2.2).after hb1⟩
      replace hlow := hlow.trans (hb1.mono hlow.size)
      clear hb1
      refine HeldBy.take (i := 1) rfl (by kernel_rfl) (by kernel_rfl) (by kernel_rfl) (fun _ _ _ h => h) (by rfl) (fun _ _ => by go_simp; rfl) (by go_simp; rfl) hS ?_
      refine HeldBy.take (i := 2) rfl (by kernel_rfl) (by kernel_rfl) (by kernel_rfl) (fun _ _ _ h => h) (by rfl) (fun _ h => load_obj h.2.1 rfl (by go_simp)) (by go_simp; rfl) hS ?_
      refine HeldBy.take (i := 4) rfl (by kernel_rfl) (by kernel_rfl) (by kernel_rfl) (fun _ _ _ h => h) (by rfl) (fun _ _ => by go_simp; rfl) (by go_simp; rfl) hS ?_
      refine HeldBy.take (i := 5) (v := .bool false) rfl (by kernel_rfl) (by kernel_rfl) (by kernel_rfl) (fun _ _ _ h => h) (by rfl) (fun _ _ => by first | (go_simp; done) | (go_simp; simp)) (by go_simp; rfl) hS ?_
      refine HeldBy.call (i := 3) (v := .bool k7) rfl (by kernel_rfl) (by rfl) (by go_simp; exact ⟨rfl, rfl⟩) (by go_simp; rfl) ?_
      refine (right_any { o with tag := t } _).mono ?_
      rintro e V2 ⟨rfl, hb1⟩
      refine ⟨by rw [hrt.out], ⟨(hS.1).after hb1, (hS.2.1).after hb1, (hS.2.2).after hb1⟩, ?_⟩
      replace hS : BoxO V2 w.heap.size o ∧ BoxO V2 p { o with tag := t } ∧ BoxO V2 q { o with wait := true } := ⟨(hS.1).after hb1, (hS.2.1).after hb1, (hS.2.2).after hb1⟩
      replace hlow := hlow.trans (hb1.mono hlow.size)
      clear hb1
      refine HeldBy.take (i := 6) rfl (by kernel_rfl) (by kernel_rfl) (by kernel_rfl) (fun _ _ _ h => h) (by rfl) (fun _ _ => by go_simp; rfl) (by go_simp; rfl) hS ?_
      refine HeldBy.take (i := 7) rfl (by kernel_rfl) (by kernel_rfl) (by kernel_rfl) (fun _ _ _ h => h) (by rfl) (fun _ _ => by go_simp; rfl) (by go_simp; rfl) hS ?_
      refine HeldBy.take (i := 8) rfl (by kernel_rfl) (by kernel_rfl) (by kernel_rfl) (fun _ _ _ h => h) (by rfl) (fun _ h => by have c := BoxO.c0 h.1; go_simp; rfl) (by go_simp; rfl) hS ?_
      refine HeldBy.take (i := 9) (v := .bool k7) rfl (by kernel_rfl) (by kernel_rfl) (by kernel_rfl) (fun _ _ _ h => h) (by rfl) (fun _ _ => by first | (go_simp; done) | (go_simp; simp)) (by go_simp; rfl) hS ?_
      refine HeldBy.take (i := 10) rfl (by kernel_rfl) (by kernel_rfl) (by kernel_rfl) (fun _ _ _ h => h) (by rfl) (fun _ _ => by go_simp; rfl) (by go_simp; rfl) hS ?_
      refine HeldBy.take (i := 11) (v := .bool true) rfl (by kernel_rfl) (by kernel_rfl) (by kernel_rfl) (fun _ _ _ h => h) (by rfl) (fun _ _ => by first | (go_simp; done) | (go_simp; simp)) (by go_simp; rfl) hS ?_
      refine HeldBy.take (i := 12) rfl (by kernel_rfl) (by kernel_rfl) (by kernel_rfl) (fun _ _ _ h => h) (by rfl) (fun _ _ => by go_simp; rfl) (by go_simp; rfl) hS ?_
      refine HeldBy.take (i := 13) rfl (by kernel_rfl) (by kernel_rfl) (by kernel_rfl) (fun _ _ _ h => h) (by rfl) (fun _ _ => by go_simp; rfl) (by go_simp; rfl) hS ?_
      refine HeldBy.take (i := 14) rfl (by kernel_rfl) (by kernel_rfl) (by kernel_rfl) (fun _ _ _ h => h) (by rfl) (fun _ h => load_obj h.2.2 rfl (by go_simp)) (by go_simp; rfl) hS ?_
      refine HeldBy.take (i := 16) rfl (by kernel_rfl) (by kernel_rfl) (by kernel_rfl) (fun _ _ _ h => h) (by rfl) (fun _ _ => by go_simp; rfl) (by go_simp; rfl) hS ?_
      refine HeldBy.take (i := 17) rfl (by kernel_rfl) (by kernel_rfl) (by kernel_rfl) (fun _ _ _ h => h) (by rfl) (fun _ h => by have c := BoxO.c0 h.1; go_simp; rfl) (by go_simp; rfl) hS ?_
      refine HeldBy.take (i := 18) (v := .bool k1) rfl (by kernel_rfl) (by kernel_rfl) (by kernel_rfl) (fun _ _ _ h => h) (by rfl) (fun _ _ => by first | (go_simp; done) | (go_simp; simp)) (by go_simp; rfl) hS ?_
      refine HeldBy.call (i := 15) (v := .bool k1) rfl (by kernel_rfl) (by rfl) (by go_simp; exact ⟨rfl, rfl⟩) (by go_simp; rfl) ?_
      refine (right_any { o with wait := true } _).mono ?_
      rintro e V3 ⟨rfl, hb1⟩
      refine ⟨by rw [hrw.out], ⟨(hS.1).after hb1, (hS.2.1).after hb1, (hS.2.2).after hb1⟩, ?_⟩
      replace hS : BoxO V3 w.heap.size o ∧ BoxO V3 p { o with tag := t } ∧ BoxO V3 q { o with wait := true } := ⟨(hS.1).after hb1, (hS.2.1).after hb1, (hS.2.2).after hb1⟩
      replace hlow := hlow.trans (hb1.mono hlow.size)
      clear hb1
      refine HeldBy.take (i := 19) (v := .bool true) rfl (by kernel_rfl) (by kernel_rfl) (by kernel_rfl) (fun _ _ _ h => h) (by rfl) (fun _ _ => by first | (go_simp; done) | (go_simp; simp)) (by go_simp; rfl) hS ?_
      refine HeldBy.take (i := 20) rfl (by kernel_rfl) (by kernel_rfl) (by kernel_rfl) (fun _ _ _ h => h) (by rfl) (fun _ _ => by go_simp; rfl) (by go_simp; rfl) hS ?_
      refine HeldBy.take (i := 21) rfl (by kernel_rfl) (by kernel_rfl) (by kernel_rfl) (fun _ _ _ h => h) (by rfl) (fun _ _ => by go_simp; rfl) (by go_simp; rfl) hS ?_
      refine wpAnyH_done (by kernel_rfl) ?_ _
      go_wp2
      go_ret
      exact ⟨rfl, hlow⟩
end Go.Proofs.Ytlnkhngfecdflaa.O
