/- The document's own Right, in parts. Laid by mkref.py. -/
import Derived.Test.YtigoghhjncpgfaaR3J1
namespace Go.Proofs.Ytigoghhjncpgfaa.O
open Go.RowKit T
open Go.Lib

set_option maxRecDepth 100000 in
set_option maxHeartbeats 8000000 in
theorem refRight_bad0 (o : Obj) (w : World) (HF : Hid (Fit o)) (B : Hid (nameB o.name.data.toList = false)) :
    Calls Try.prog 23 #[encO o] w fun e w' => e = .returned (.bool (false)) ∧ Below w.heap.size w w' := by
  unfold encO
  go_enter Try.func23, Try.ntmps23
  go_upto_region 1 with (fail)
  refine wp_gen (fun W => BoxO W w.heap.size o ∧ Below w.heap.size w W) ⟨BoxO.new w o, (Below.refl _ _).alloc (Nat.le_refl _) _⟩ ?_
  rintro W1 ⟨hb, hlow⟩
  have c6 := hb.c6
  have c12 := hb.c12
  have c13 := hb.c13
  have c14 := hb.c14
  have c15 := hb.c15
  have c16 := hb.c16
  go_cut [3] (fun s3 wx => s3 = .bool (textsB o) ∧ W1 = wx)
  case first =>
    as_aux_lemma =>
      go_wp2_with fail
      refine (maybe_any o.cls _ HF.out.cls).mono ?_
      rintro e w' ⟨rfl, rfl⟩
      cases t0 : okT o.cls with
      | false =>
        go_wp2
        go_meet
        case rel => exact ⟨by simp [textsB, t0], rfl⟩
      | true =>
      go_wp2_with fail
      refine (maybe_any o.zone _ HF.out.zone).mono ?_
      rintro e w' ⟨rfl, rfl⟩
      cases t1 : okT o.zone with
      | false =>
        go_wp2
        go_meet
        case rel => exact ⟨by simp [textsB, t0, t1], rfl⟩
      | true =>
      go_wp2_with fail
      refine (maybe_any o.node _ HF.out.node).mono ?_
      rintro e w' ⟨rfl, rfl⟩
      cases t2 : okT o.node with
      | false =>
        go_wp2
        go_meet
        case rel => exact ⟨by simp [textsB, t0, t1, t2], rfl⟩
      | true =>
      go_wp2_with fail
      refine (maybe_any o.claim _ HF.out.claim).mono ?_
      rintro e w' ⟨rfl, rfl⟩
      cases t3 : okT o.claim with
      | false =>
        go_wp2
        go_meet
        case rel => exact ⟨by simp [textsB, t0, t1, t2, t3], rfl⟩
      | true =>
      go_wp2_with fail
      refine (maybe_any o.volume _ HF.out.volume).mono ?_
      rintro e w' ⟨rfl, rfl⟩
      cases t4 : okT o.volume with
      | false =>
        go_wp2
        go_meet
        case rel => exact ⟨by simp [textsB, t0, t1, t2, t3, t4], rfl⟩
      | true =>
      go_wp2_with fail
      refine (maybe_any o.source _ HF.out.source).mono ?_
      rintro e w' ⟨rfl, rfl⟩
      go_wp2
      go_meet
      case rel => exact ⟨by simp [textsB, t0, t1, t2, t3, t4], rfl⟩
  case rest =>
    obtain ⟨rfl, rfl⟩ := hcut
    clear c6 c12 c13 c14 c15 c16
    as_aux_lemma =>
      have b0 := B.out
      go_wp2_with fail
      refine wp_region_held_drew (S := fun W => BoxO W w.heap.size o) (by kernel_rfl) hb.drew (fun _ => ?_)
      refine HeldBy.gen (fun W => BoxO W w.heap.size o ∧ Below w.heap.size w W) ⟨hb.drew, hlow.drew⟩ ?_
      clear hb hlow
      rintro V0 ⟨hb, hlow⟩
      refine HeldBy.take (i := 0) rfl (by kernel_rfl) (by kernel_rfl) (by kernel_rfl) (fun _ _ _ h => h) (by rfl) (fun _ _ => by go_simp; rfl) (by go_simp; rfl) hb ?_
      refine HeldBy.take (i := 1) rfl (by kernel_rfl) (by kernel_rfl) (by kernel_rfl) (fun _ _ _ h => h) (by rfl) (fun _ h => by have c := BoxO.c1 h; go_simp; rfl) (by go_simp; rfl) hb ?_
      refine HeldBy.call (i := 2) (v := .bool false) rfl (by kernel_rfl) (by rfl) (by go_simp; exact ⟨rfl, rfl⟩) (by go_simp; rfl) ?_
      refine (refName_any o.name _ HF.out.name).mono ?_
      rintro e V1 ⟨rfl, hV⟩
      refine ⟨by first | rfl | simp [*], hV ▸ hb, ?_⟩
      replace hb : BoxO V1 _ _ := hV ▸ hb
      replace hlow : Below _ _ V1 := hV ▸ hlow
      clear hV
      refine HeldBy.take (i := 3) rfl (by kernel_rfl) (by kernel_rfl) (by kernel_rfl) (fun _ _ _ h => h) (by rfl) (fun _ _ => by go_simp; rfl) (by go_simp; rfl) hb ?_
      refine HeldBy.take (i := 4) rfl (by kernel_rfl) (by kernel_rfl) (by kernel_rfl) (fun _ _ _ h => h) (by rfl) (fun _ _ => by go_simp; rfl) (by go_simp; rfl) hb ?_
      refine HeldBy.skip (i := 5) rfl (by kernel_rfl) (by kernel_rfl) (by kernel_rfl) (fun _ _ _ h => h) (by rfl) (by go_simp; rfl) hb ?_
      refine HeldBy.skip (i := 6) rfl (by kernel_rfl) (by kernel_rfl) (by kernel_rfl) (fun _ _ _ h => h) (by rfl) (by go_simp; rfl) hb ?_
      refine HeldBy.skip (i := 7) rfl (by kernel_rfl) (by kernel_rfl) (by kernel_rfl) (fun _ _ _ h => h) (by rfl) (by go_simp; rfl) hb ?_
      refine HeldBy.skip (i := 8) rfl (by kernel_rfl) (by kernel_rfl) (by kernel_rfl) (fun _ _ _ h => h) (by rfl) (by go_simp; rfl) hb ?_
      refine HeldBy.take (i := 9) rfl (by kernel_rfl) (by kernel_rfl) (by kernel_rfl) (fun _ _ _ h => h) (by rfl) (fun _ _ => by go_simp; rfl) (by go_simp; rfl) hb ?_
      refine HeldBy.take (i := 10) rfl (by kernel_rfl) (by kernel_rfl) (by kernel_rfl) (fun _ _ _ h => h) (by rfl) (fun _ _ => by go_simp; rfl) (by go_simp; rfl) hb ?_
      refine HeldBy.skip (i := 11) rfl (by kernel_rfl) (by kernel_rfl) (by kernel_rfl) (fun _ _ _ h => h) (by rfl) (by go_simp; rfl) hb ?_
      refine HeldBy.skip (i := 12) rfl (by kernel_rfl) (by kernel_rfl) (by kernel_rfl) (fun _ _ _ h => h) (by rfl) (by go_simp; rfl) hb ?_
      refine HeldBy.take (i := 13) rfl (by kernel_rfl) (by kernel_rfl) (by kernel_rfl) (fun _ _ _ h => h) (by rfl) (fun _ _ => by go_simp; rfl) (by go_simp; rfl) hb ?_
      refine HeldBy.take (i := 14) rfl (by kernel_rfl) (by kernel_rfl) (by kernel_rfl) (fun _ _ _ h => h) (by rfl) (fun _ _ => by go_simp; rfl) (by go_simp; rfl) hb ?_
      refine HeldBy.skip (i := 15) rfl (by kernel_rfl) (by kernel_rfl) (by kernel_rfl) (fun _ _ _ h => h) (by rfl) (by go_simp; rfl) hb ?_
      refine HeldBy.skip (i := 16) rfl (by kernel_rfl) (by kernel_rfl) (by kernel_rfl) (fun _ _ _ h => h) (by rfl) (by go_simp; rfl) hb ?_
      refine HeldBy.skip (i := 17) rfl (by kernel_rfl) (by kernel_rfl) (by kernel_rfl) (fun _ _ _ h => h) (by rfl) (by go_simp; rfl) hb ?_
      refine HeldBy.take (i := 18) rfl (by kernel_rfl) (by kernel_rfl) (by kernel_rfl) (fun _ _ _ h => h) (by rfl) (fun _ _ => by go_simp; rfl) (by go_simp; rfl) hb ?_
      refine HeldBy.take (i := 19) rfl (by kernel_rfl) (by kernel_rfl) (by kernel_rfl) (fun _ _ _ h => h) (by rfl) (fun _ _ => by go_simp; rfl) (by go_simp; rfl) hb ?_
      refine HeldBy.skip (i := 20) rfl (by kernel_rfl) (by kernel_rfl) (by kernel_rfl) (fun _ _ _ h => h) (by rfl) (by go_simp; rfl) hb ?_
      refine HeldBy.skip (i := 21) rfl (by kernel_rfl) (by kernel_rfl) (by kernel_rfl) (fun _ _ _ h => h) (by rfl) (by go_simp; rfl) hb ?_
      refine HeldBy.skip (i := 22) rfl (by kernel_rfl) (by kernel_rfl) (by kernel_rfl) (fun _ _ _ h => h) (by rfl) (by go_simp; rfl) hb ?_
      refine HeldBy.take (i := 23) rfl (by kernel_rfl) (by kernel_rfl) (by kernel_rfl) (fun _ _ _ h => h) (by rfl) (fun _ _ => by go_simp; rfl) (by go_simp; rfl) hb ?_
      refine HeldBy.take (i := 24) rfl (by kernel_rfl) (by kernel_rfl) (by kernel_rfl) (fun _ _ _ h => h) (by rfl) (fun _ _ => by go_simp; rfl) (by go_simp; rfl) hb ?_
      refine HeldBy.skip (i := 25) rfl (by kernel_rfl) (by kernel_rfl) (by kernel_rfl) (fun _ _ _ h => h) (by rfl) (by go_simp; rfl) hb ?_
      refine HeldBy.skip (i := 26) rfl (by kernel_rfl) (by kernel_rfl) (by kernel_rfl) (fun _ _ _ h => h) (by rfl) (by go_simp; rfl) hb ?_
      refine HeldBy.skip (i := 27) rfl (by kernel_rfl) (by kernel_rfl) (by kernel_rfl) (fun _ _ _ h => h) (by rfl) (by go_simp; rfl) hb ?_
      refine HeldBy.take (i := 28) rfl (by kernel_rfl) (by kernel_rfl) (by kernel_rfl) (fun _ _ _ h => h) (by rfl) (fun _ _ => by go_simp; rfl) (by go_simp; rfl) hb ?_
      refine HeldBy.take (i := 29) rfl (by kernel_rfl) (by kernel_rfl) (by kernel_rfl) (fun _ _ _ h => h) (by rfl) (fun _ _ => by go_simp; rfl) (by go_simp; rfl) hb ?_
      refine HeldBy.skip (i := 30) rfl (by kernel_rfl) (by kernel_rfl) (by kernel_rfl) (fun _ _ _ h => h) (by rfl) (by go_simp; rfl) hb ?_
      refine HeldBy.skip (i := 31) rfl (by kernel_rfl) (by kernel_rfl) (by kernel_rfl) (fun _ _ _ h => h) (by rfl) (by go_simp; rfl) hb ?_
      refine HeldBy.skip (i := 32) rfl (by kernel_rfl) (by kernel_rfl) (by kernel_rfl) (fun _ _ _ h => h) (by rfl) (by go_simp; rfl) hb ?_
      refine HeldBy.take (i := 33) rfl (by kernel_rfl) (by kernel_rfl) (by kernel_rfl) (fun _ _ _ h => h) (by rfl) (fun _ _ => by go_simp; rfl) (by go_simp; rfl) hb ?_
      refine wpAnyH_done (by kernel_rfl) ?_ _
      go_wp2
      go_ret
      exact ⟨rfl, hlow⟩

set_option maxRecDepth 100000 in
set_option maxHeartbeats 8000000 in
theorem refRight_bad1 (o : Obj) (w : World) (HF : Hid (Fit o)) (B : Hid (nameB o.name.data.toList = true ∧ decide (o = bareO o) = false)) :
    Calls Try.prog 23 #[encO o] w fun e w' => e = .returned (.bool (false)) ∧ Below w.heap.size w w' := by
  unfold encO
  go_enter Try.func23, Try.ntmps23
  go_upto_region 1 with (fail)
  refine wp_gen (fun W => BoxO W w.heap.size o ∧ Below w.heap.size w W) ⟨BoxO.new w o, (Below.refl _ _).alloc (Nat.le_refl _) _⟩ ?_
  rintro W1 ⟨hb, hlow⟩
  have c6 := hb.c6
  have c12 := hb.c12
  have c13 := hb.c13
  have c14 := hb.c14
  have c15 := hb.c15
  have c16 := hb.c16
  go_cut [3] (fun s3 wx => s3 = .bool (textsB o) ∧ W1 = wx)
  case first =>
    as_aux_lemma =>
      go_wp2_with fail
      refine (maybe_any o.cls _ HF.out.cls).mono ?_
      rintro e w' ⟨rfl, rfl⟩
      cases t0 : okT o.cls with
      | false =>
        go_wp2
        go_meet
        case rel => exact ⟨by simp [textsB, t0], rfl⟩
      | true =>
      go_wp2_with fail
      refine (maybe_any o.zone _ HF.out.zone).mono ?_
      rintro e w' ⟨rfl, rfl⟩
      cases t1 : okT o.zone with
      | false =>
        go_wp2
        go_meet
        case rel => exact ⟨by simp [textsB, t0, t1], rfl⟩
      | true =>
      go_wp2_with fail
      refine (maybe_any o.node _ HF.out.node).mono ?_
      rintro e w' ⟨rfl, rfl⟩
      cases t2 : okT o.node with
      | false =>
        go_wp2
        go_meet
        case rel => exact ⟨by simp [textsB, t0, t1, t2], rfl⟩
      | true =>
      go_wp2_with fail
      refine (maybe_any o.claim _ HF.out.claim).mono ?_
      rintro e w' ⟨rfl, rfl⟩
      cases t3 : okT o.claim with
      | false =>
        go_wp2
        go_meet
        case rel => exact ⟨by simp [textsB, t0, t1, t2, t3], rfl⟩
      | true =>
      go_wp2_with fail
      refine (maybe_any o.volume _ HF.out.volume).mono ?_
      rintro e w' ⟨rfl, rfl⟩
      cases t4 : okT o.volume with
      | false =>
        go_wp2
        go_meet
        case rel => exact ⟨by simp [textsB, t0, t1, t2, t3, t4], rfl⟩
      | true =>
      go_wp2_with fail
      refine (maybe_any o.source _ HF.out.source).mono ?_
      rintro e w' ⟨rfl, rfl⟩
      go_wp2
      go_meet
      case rel => exact ⟨by simp [textsB, t0, t1, t2, t3, t4], rfl⟩
  case rest =>
    obtain ⟨rfl, rfl⟩ := hcut
    clear c6 c12 c13 c14 c15 c16
    as_aux_lemma =>
      obtain ⟨b0, b1⟩ := B.out
      go_wp2_with fail
      refine wp_region_held_drew (S := fun W => BoxO W w.heap.size o) (by kernel_rfl) hb.drew (fun _ => ?_)
      refine HeldBy.gen (fun W => BoxO W w.heap.size o ∧ Below w.heap.size w W) ⟨hb.drew, hlow.drew⟩ ?_
      clear hb hlow
      rintro V0 ⟨hb, hlow⟩
      refine HeldBy.take (i := 0) rfl (by kernel_rfl) (by kernel_rfl) (by kernel_rfl) (fun _ _ _ h => h) (by rfl) (fun _ _ => by go_simp; rfl) (by go_simp; rfl) hb ?_
      refine HeldBy.take (i := 1) rfl (by kernel_rfl) (by kernel_rfl) (by kernel_rfl) (fun _ _ _ h => h) (by rfl) (fun _ h => by have c := BoxO.c1 h; go_simp; rfl) (by go_simp; rfl) hb ?_
      refine HeldBy.call (i := 2) (v := .bool true) rfl (by kernel_rfl) (by rfl) (by go_simp; exact ⟨rfl, rfl⟩) (by go_simp; rfl) ?_
      refine (refName_any o.name _ HF.out.name).mono ?_
      rintro e V1 ⟨rfl, hV⟩
      refine ⟨by first | rfl | simp [*], hV ▸ hb, ?_⟩
      replace hb : BoxO V1 _ _ := hV ▸ hb
      replace hlow : Below _ _ V1 := hV ▸ hlow
      clear hV
      refine HeldBy.take (i := 3) rfl (by kernel_rfl) (by kernel_rfl) (by kernel_rfl) (fun _ _ _ h => h) (by rfl) (fun _ _ => by go_simp; rfl) (by go_simp; rfl) hb ?_
      refine HeldBy.take (i := 4) rfl (by kernel_rfl) (by kernel_rfl) (by kernel_rfl) (fun _ _ _ h => h) (by rfl) (fun _ _ => by go_simp; rfl) (by go_simp; rfl) hb ?_
      refine HeldBy.take (i := 5) rfl (by kernel_rfl) (by kernel_rfl) (by kernel_rfl) (fun _ _ _ h => h) (by rfl) (fun _ h => load_obj h rfl (by go_simp)) (by go_simp; rfl) hb ?_
      refine HeldBy.take (i := 6) rfl (by kernel_rfl) (by kernel_rfl) (by kernel_rfl) (fun _ _ _ h => h) (by rfl) (fun _ h => load_obj h rfl (by go_simp)) (by go_simp; rfl) hb ?_
      refine HeldBy.call (i := 7) (v := encO (bareO o)) rfl (by kernel_rfl) (by rfl) (by go_simp; exact ⟨rfl, rfl⟩) (by go_simp; rfl) ?_
      refine (bare_any o _).mono ?_
      rintro e V2 ⟨rfl, hb1⟩
      refine ⟨by first | rfl | simp [*], hb.after hb1, ?_⟩
      replace hb := hb.after hb1
      replace hlow := hlow.trans (hb1.mono hlow.size)
      clear hb1
      refine HeldBy.take (i := 8) (v := .bool true) rfl (by kernel_rfl) (by kernel_rfl) (by kernel_rfl) (fun _ _ _ h => h) (by rfl) (fun _ _ => neq_objs rfl (by go_simp) (by go_simp) b1) (by go_simp; rfl) hb ?_
      refine HeldBy.take (i := 9) rfl (by kernel_rfl) (by kernel_rfl) (by kernel_rfl) (fun _ _ _ h => h) (by rfl) (fun _ _ => by go_simp; rfl) (by go_simp; rfl) hb ?_
      refine HeldBy.take (i := 10) rfl (by kernel_rfl) (by kernel_rfl) (by kernel_rfl) (fun _ _ _ h => h) (by rfl) (fun _ _ => by go_simp; rfl) (by go_simp; rfl) hb ?_
      refine HeldBy.skip (i := 11) rfl (by kernel_rfl) (by kernel_rfl) (by kernel_rfl) (fun _ _ _ h => h) (by rfl) (by go_simp; rfl) hb ?_
      refine HeldBy.skip (i := 12) rfl (by kernel_rfl) (by kernel_rfl) (by kernel_rfl) (fun _ _ _ h => h) (by rfl) (by go_simp; rfl) hb ?_
      refine HeldBy.take (i := 13) rfl (by kernel_rfl) (by kernel_rfl) (by kernel_rfl) (fun _ _ _ h => h) (by rfl) (fun _ _ => by go_simp; rfl) (by go_simp; rfl) hb ?_
      refine HeldBy.take (i := 14) rfl (by kernel_rfl) (by kernel_rfl) (by kernel_rfl) (fun _ _ _ h => h) (by rfl) (fun _ _ => by go_simp; rfl) (by go_simp; rfl) hb ?_
      refine HeldBy.skip (i := 15) rfl (by kernel_rfl) (by kernel_rfl) (by kernel_rfl) (fun _ _ _ h => h) (by rfl) (by go_simp; rfl) hb ?_
      refine HeldBy.skip (i := 16) rfl (by kernel_rfl) (by kernel_rfl) (by kernel_rfl) (fun _ _ _ h => h) (by rfl) (by go_simp; rfl) hb ?_
      refine HeldBy.skip (i := 17) rfl (by kernel_rfl) (by kernel_rfl) (by kernel_rfl) (fun _ _ _ h => h) (by rfl) (by go_simp; rfl) hb ?_
      refine HeldBy.take (i := 18) rfl (by kernel_rfl) (by kernel_rfl) (by kernel_rfl) (fun _ _ _ h => h) (by rfl) (fun _ _ => by go_simp; rfl) (by go_simp; rfl) hb ?_
      refine HeldBy.take (i := 19) rfl (by kernel_rfl) (by kernel_rfl) (by kernel_rfl) (fun _ _ _ h => h) (by rfl) (fun _ _ => by go_simp; rfl) (by go_simp; rfl) hb ?_
      refine HeldBy.skip (i := 20) rfl (by kernel_rfl) (by kernel_rfl) (by kernel_rfl) (fun _ _ _ h => h) (by rfl) (by go_simp; rfl) hb ?_
      refine HeldBy.skip (i := 21) rfl (by kernel_rfl) (by kernel_rfl) (by kernel_rfl) (fun _ _ _ h => h) (by rfl) (by go_simp; rfl) hb ?_
      refine HeldBy.skip (i := 22) rfl (by kernel_rfl) (by kernel_rfl) (by kernel_rfl) (fun _ _ _ h => h) (by rfl) (by go_simp; rfl) hb ?_
      refine HeldBy.take (i := 23) rfl (by kernel_rfl) (by kernel_rfl) (by kernel_rfl) (fun _ _ _ h => h) (by rfl) (fun _ _ => by go_simp; rfl) (by go_simp; rfl) hb ?_
      refine HeldBy.take (i := 24) rfl (by kernel_rfl) (by kernel_rfl) (by kernel_rfl) (fun _ _ _ h => h) (by rfl) (fun _ _ => by go_simp; rfl) (by go_simp; rfl) hb ?_
      refine HeldBy.skip (i := 25) rfl (by kernel_rfl) (by kernel_rfl) (by kernel_rfl) (fun _ _ _ h => h) (by rfl) (by go_simp; rfl) hb ?_
      refine HeldBy.skip (i := 26) rfl (by kernel_rfl) (by kernel_rfl) (by kernel_rfl) (fun _ _ _ h => h) (by rfl) (by go_simp; rfl) hb ?_
      refine HeldBy.skip (i := 27) rfl (by kernel_rfl) (by kernel_rfl) (by kernel_rfl) (fun _ _ _ h => h) (by rfl) (by go_simp; rfl) hb ?_
      refine HeldBy.take (i := 28) rfl (by kernel_rfl) (by kernel_rfl) (by kernel_rfl) (fun _ _ _ h => h) (by rfl) (fun _ _ => by go_simp; rfl) (by go_simp; rfl) hb ?_
      refine HeldBy.take (i := 29) rfl (by kernel_rfl) (by kernel_rfl) (by kernel_rfl) (fun _ _ _ h => h) (by rfl) (fun _ _ => by go_simp; rfl) (by go_simp; rfl) hb ?_
      refine HeldBy.skip (i := 30) rfl (by kernel_rfl) (by kernel_rfl) (by kernel_rfl) (fun _ _ _ h => h) (by rfl) (by go_simp; rfl) hb ?_
      refine HeldBy.skip (i := 31) rfl (by kernel_rfl) (by kernel_rfl) (by kernel_rfl) (fun _ _ _ h => h) (by rfl) (by go_simp; rfl) hb ?_
      refine HeldBy.skip (i := 32) rfl (by kernel_rfl) (by kernel_rfl) (by kernel_rfl) (fun _ _ _ h => h) (by rfl) (by go_simp; rfl) hb ?_
      refine HeldBy.take (i := 33) rfl (by kernel_rfl) (by kernel_rfl) (by kernel_rfl) (fun _ _ _ h => h) (by rfl) (fun _ _ => by go_simp; rfl) (by go_simp; rfl) hb ?_
      refine wpAnyH_done (by kernel_rfl) ?_ _
      go_wp2
      go_ret
      exact ⟨rfl, hlow⟩

set_option maxRecDepth 100000 in
set_option maxHeartbeats 8000000 in
theorem refRight_bad2 (o : Obj) (w : World) (HF : Hid (Fit o)) (B : Hid (nameB o.name.data.toList = true ∧ decide (o = bareO o) = true ∧ textsB o = false)) :
    Calls Try.prog 23 #[encO o] w fun e w' => e = .returned (.bool (false)) ∧ Below w.heap.size w w' := by
  unfold encO
  go_enter Try.func23, Try.ntmps23
  go_upto_region 1 with (fail)
  refine wp_gen (fun W => BoxO W w.heap.size o ∧ Below w.heap.size w W) ⟨BoxO.new w o, (Below.refl _ _).alloc (Nat.le_refl _) _⟩ ?_
  rintro W1 ⟨hb, hlow⟩
  have c6 := hb.c6
  have c12 := hb.c12
  have c13 := hb.c13
  have c14 := hb.c14
  have c15 := hb.c15
  have c16 := hb.c16
  go_cut [3] (fun s3 wx => s3 = .bool (textsB o) ∧ W1 = wx)
  case first =>
    as_aux_lemma =>
      go_wp2_with fail
      refine (maybe_any o.cls _ HF.out.cls).mono ?_
      rintro e w' ⟨rfl, rfl⟩
      cases t0 : okT o.cls with
      | false =>
        go_wp2
        go_meet
        case rel => exact ⟨by simp [textsB, t0], rfl⟩
      | true =>
      go_wp2_with fail
      refine (maybe_any o.zone _ HF.out.zone).mono ?_
      rintro e w' ⟨rfl, rfl⟩
      cases t1 : okT o.zone with
      | false =>
        go_wp2
        go_meet
        case rel => exact ⟨by simp [textsB, t0, t1], rfl⟩
      | true =>
      go_wp2_with fail
      refine (maybe_any o.node _ HF.out.node).mono ?_
      rintro e w' ⟨rfl, rfl⟩
      cases t2 : okT o.node with
      | false =>
        go_wp2
        go_meet
        case rel => exact ⟨by simp [textsB, t0, t1, t2], rfl⟩
      | true =>
      go_wp2_with fail
      refine (maybe_any o.claim _ HF.out.claim).mono ?_
      rintro e w' ⟨rfl, rfl⟩
      cases t3 : okT o.claim with
      | false =>
        go_wp2
        go_meet
        case rel => exact ⟨by simp [textsB, t0, t1, t2, t3], rfl⟩
      | true =>
      go_wp2_with fail
      refine (maybe_any o.volume _ HF.out.volume).mono ?_
      rintro e w' ⟨rfl, rfl⟩
      cases t4 : okT o.volume with
      | false =>
        go_wp2
        go_meet
        case rel => exact ⟨by simp [textsB, t0, t1, t2, t3, t4], rfl⟩
      | true =>
      go_wp2_with fail
      refine (maybe_any o.source _ HF.out.source).mono ?_
      rintro e w' ⟨rfl, rfl⟩
      go_wp2
      go_meet
      case rel => exact ⟨by simp [textsB, t0, t1, t2, t3, t4], rfl⟩
  case rest =>
    obtain ⟨rfl, rfl⟩ := hcut
    clear c6 c12 c13 c14 c15 c16
    as_aux_lemma =>
      obtain ⟨b0, b1, b2⟩ := B.out
      go_wp2_with fail
      refine wp_region_held_drew (S := fun W => BoxO W w.heap.size o) (by kernel_rfl) hb.drew (fun _ => ?_)
      refine HeldBy.gen (fun W => BoxO W w.heap.size o ∧ Below w.heap.size w W) ⟨hb.drew, hlow.drew⟩ ?_
      clear hb hlow
      rintro V0 ⟨hb, hlow⟩
      refine HeldBy.take (i := 0) rfl (by kernel_rfl) (by kernel_rfl) (by kernel_rfl) (fun _ _ _ h => h) (by rfl) (fun _ _ => by go_simp; rfl) (by go_simp; rfl) hb ?_
      refine HeldBy.take (i := 1) rfl (by kernel_rfl) (by kernel_rfl) (by kernel_rfl) (fun _ _ _ h => h) (by rfl) (fun _ h => by have c := BoxO.c1 h; go_simp; rfl) (by go_simp; rfl) hb ?_
      refine HeldBy.call (i := 2) (v := .bool true) rfl (by kernel_rfl) (by rfl) (by go_simp; exact ⟨rfl, rfl⟩) (by go_simp; rfl) ?_
      refine (refName_any o.name _ HF.out.name).mono ?_
      rintro e V1 ⟨rfl, hV⟩
      refine ⟨by first | rfl | simp [*], hV ▸ hb, ?_⟩
      replace hb : BoxO V1 _ _ := hV ▸ hb
      replace hlow : Below _ _ V1 := hV ▸ hlow
      clear hV
      refine HeldBy.take (i := 3) rfl (by kernel_rfl) (by kernel_rfl) (by kernel_rfl) (fun _ _ _ h => h) (by rfl) (fun _ _ => by go_simp; rfl) (by go_simp; rfl) hb ?_
      refine HeldBy.take (i := 4) rfl (by kernel_rfl) (by kernel_rfl) (by kernel_rfl) (fun _ _ _ h => h) (by rfl) (fun _ _ => by go_simp; rfl) (by go_simp; rfl) hb ?_
      refine HeldBy.take (i := 5) rfl (by kernel_rfl) (by kernel_rfl) (by kernel_rfl) (fun _ _ _ h => h) (by rfl) (fun _ h => load_obj h rfl (by go_simp)) (by go_simp; rfl) hb ?_
      refine HeldBy.take (i := 6) rfl (by kernel_rfl) (by kernel_rfl) (by kernel_rfl) (fun _ _ _ h => h) (by rfl) (fun _ h => load_obj h rfl (by go_simp)) (by go_simp; rfl) hb ?_
      refine HeldBy.call (i := 7) (v := encO (bareO o)) rfl (by kernel_rfl) (by rfl) (by go_simp; exact ⟨rfl, rfl⟩) (by go_simp; rfl) ?_
      refine (bare_any o _).mono ?_
      rintro e V2 ⟨rfl, hb1⟩
      refine ⟨by first | rfl | simp [*], hb.after hb1, ?_⟩
      replace hb := hb.after hb1
      replace hlow := hlow.trans (hb1.mono hlow.size)
      clear hb1
      refine HeldBy.take (i := 8) (v := .bool false) rfl (by kernel_rfl) (by kernel_rfl) (by kernel_rfl) (fun _ _ _ h => h) (by rfl) (fun _ _ => neq_objs rfl (by go_simp) (by go_simp) b1) (by go_simp; rfl) hb ?_
      refine HeldBy.take (i := 9) rfl (by kernel_rfl) (by kernel_rfl) (by kernel_rfl) (fun _ _ _ h => h) (by rfl) (fun _ _ => by go_simp; rfl) (by go_simp; rfl) hb ?_
      refine HeldBy.take (i := 10) rfl (by kernel_rfl) (by kernel_rfl) (by kernel_rfl) (fun _ _ _ h => h) (by rfl) (fun _ _ => by go_simp; rfl) (by go_simp; rfl) hb ?_
      refine HeldBy.take (i := 11) rfl (by kernel_rfl) (by kernel_rfl) (by kernel_rfl) (fun _ _ _ h => h) (by rfl) (fun _ _ => by go_simp; rfl) (by go_simp; rfl) hb ?_
      refine HeldBy.take (i := 12) rfl (by kernel_rfl) (by kernel_rfl) (by kernel_rfl) (fun _ _ _ h => h) (by rfl) (fun _ _ => by go_simp; rfl) (by go_simp; rfl) hb ?_
      refine HeldBy.take (i := 13) rfl (by kernel_rfl) (by kernel_rfl) (by kernel_rfl) (fun _ _ _ h => h) (by rfl) (fun _ _ => by go_simp; rfl) (by go_simp; rfl) hb ?_
      refine HeldBy.take (i := 14) rfl (by kernel_rfl) (by kernel_rfl) (by kernel_rfl) (fun _ _ _ h => h) (by rfl) (fun _ _ => by go_simp; rfl) (by go_simp; rfl) hb ?_
      refine HeldBy.skip (i := 15) rfl (by kernel_rfl) (by kernel_rfl) (by kernel_rfl) (fun _ _ _ h => h) (by rfl) (by go_simp; rfl) hb ?_
      refine HeldBy.skip (i := 16) rfl (by kernel_rfl) (by kernel_rfl) (by kernel_rfl) (fun _ _ _ h => h) (by rfl) (by go_simp; rfl) hb ?_
      refine HeldBy.skip (i := 17) rfl (by kernel_rfl) (by kernel_rfl) (by kernel_rfl) (fun _ _ _ h => h) (by rfl) (by go_simp; rfl) hb ?_
      refine HeldBy.take (i := 18) rfl (by kernel_rfl) (by kernel_rfl) (by kernel_rfl) (fun _ _ _ h => h) (by rfl) (fun _ _ => by go_simp; rfl) (by go_simp; rfl) hb ?_
      refine HeldBy.take (i := 19) rfl (by kernel_rfl) (by kernel_rfl) (by kernel_rfl) (fun _ _ _ h => h) (by rfl) (fun _ _ => by go_simp; rfl) (by go_simp; rfl) hb ?_
      refine HeldBy.skip (i := 20) rfl (by kernel_rfl) (by kernel_rfl) (by kernel_rfl) (fun _ _ _ h => h) (by rfl) (by go_simp; rfl) hb ?_
      refine HeldBy.skip (i := 21) rfl (by kernel_rfl) (by kernel_rfl) (by kernel_rfl) (fun _ _ _ h => h) (by rfl) (by go_simp; rfl) hb ?_
      refine HeldBy.skip (i := 22) rfl (by kernel_rfl) (by kernel_rfl) (by kernel_rfl) (fun _ _ _ h => h) (by rfl) (by go_simp; rfl) hb ?_
      refine HeldBy.take (i := 23) rfl (by kernel_rfl) (by kernel_rfl) (by kernel_rfl) (fun _ _ _ h => h) (by rfl) (fun _ _ => by go_simp; rfl) (by go_simp; rfl) hb ?_
      refine HeldBy.take (i := 24) rfl (by kernel_rfl) (by kernel_rfl) (by kernel_rfl) (fun _ _ _ h => h) (by rfl) (fun _ _ => by go_simp; rfl) (by go_simp; rfl) hb ?_
      refine HeldBy.skip (i := 25) rfl (by kernel_rfl) (by kernel_rfl) (by kernel_rfl) (fun _ _ _ h => h) (by rfl) (by go_simp; rfl) hb ?_
      refine HeldBy.skip (i := 26) rfl (by kernel_rfl) (by kernel_rfl) (by kernel_rfl) (fun _ _ _ h => h) (by rfl) (by go_simp; rfl) hb ?_
      refine HeldBy.skip (i := 27) rfl (by kernel_rfl) (by kernel_rfl) (by kernel_rfl) (fun _ _ _ h => h) (by rfl) (by go_simp; rfl) hb ?_
      refine HeldBy.take (i := 28) rfl (by kernel_rfl) (by kernel_rfl) (by kernel_rfl) (fun _ _ _ h => h) (by rfl) (fun _ _ => by go_simp; rfl) (by go_simp; rfl) hb ?_
      refine HeldBy.take (i := 29) rfl (by kernel_rfl) (by kernel_rfl) (by kernel_rfl) (fun _ _ _ h => h) (by rfl) (fun _ _ => by go_simp; rfl) (by go_simp; rfl) hb ?_
      refine HeldBy.skip (i := 30) rfl (by kernel_rfl) (by kernel_rfl) (by kernel_rfl) (fun _ _ _ h => h) (by rfl) (by go_simp; rfl) hb ?_
      refine HeldBy.skip (i := 31) rfl (by kernel_rfl) (by kernel_rfl) (by kernel_rfl) (fun _ _ _ h => h) (by rfl) (by go_simp; rfl) hb ?_
      refine HeldBy.skip (i := 32) rfl (by kernel_rfl) (by kernel_rfl) (by kernel_rfl) (fun _ _ _ h => h) (by rfl) (by go_simp; rfl) hb ?_
      refine HeldBy.take (i := 33) rfl (by kernel_rfl) (by kernel_rfl) (by kernel_rfl) (fun _ _ _ h => h) (by rfl) (fun _ _ => by go_simp; rfl) (by go_simp; rfl) hb ?_
      refine wpAnyH_done (by kernel_rfl) ?_ _
      go_wp2
      go_ret
      exact ⟨rfl, hlow⟩

set_option maxRecDepth 100000 in
set_option maxHeartbeats 8000000 in
theorem refRight_bad3 (o : Obj) (w : World) (HF : Hid (Fit o)) (B : Hid (nameB o.name.data.toList = true ∧ decide (o = bareO o) = true ∧ textsB o = true ∧ decide (o.size < 0) = true)) :
    Calls Try.prog 23 #[encO o] w fun e w' => e = .returned (.bool (false)) ∧ Below w.heap.size w w' := by
  unfold encO
  go_enter Try.func23, Try.ntmps23
  go_upto_region 1 with (fail)
  refine wp_gen (fun W => BoxO W w.heap.size o ∧ Below w.heap.size w W) ⟨BoxO.new w o, (Below.refl _ _).alloc (Nat.le_refl _) _⟩ ?_
  rintro W1 ⟨hb, hlow⟩
  have c6 := hb.c6
  have c12 := hb.c12
  have c13 := hb.c13
  have c14 := hb.c14
  have c15 := hb.c15
  have c16 := hb.c16
  go_cut [3] (fun s3 wx => s3 = .bool (textsB o) ∧ W1 = wx)
  case first =>
    as_aux_lemma =>
      go_wp2_with fail
      refine (maybe_any o.cls _ HF.out.cls).mono ?_
      rintro e w' ⟨rfl, rfl⟩
      cases t0 : okT o.cls with
      | false =>
        go_wp2
        go_meet
        case rel => exact ⟨by simp [textsB, t0], rfl⟩
      | true =>
      go_wp2_with fail
      refine (maybe_any o.zone _ HF.out.zone).mono ?_
      rintro e w' ⟨rfl, rfl⟩
      cases t1 : okT o.zone with
      | false =>
        go_wp2
        go_meet
        case rel => exact ⟨by simp [textsB, t0, t1], rfl⟩
      | true =>
      go_wp2_with fail
      refine (maybe_any o.node _ HF.out.node).mono ?_
      rintro e w' ⟨rfl, rfl⟩
      cases t2 : okT o.node with
      | false =>
        go_wp2
        go_meet
        case rel => exact ⟨by simp [textsB, t0, t1, t2], rfl⟩
      | true =>
      go_wp2_with fail
      refine (maybe_any o.claim _ HF.out.claim).mono ?_
      rintro e w' ⟨rfl, rfl⟩
      cases t3 : okT o.claim with
      | false =>
        go_wp2
        go_meet
        case rel => exact ⟨by simp [textsB, t0, t1, t2, t3], rfl⟩
      | true =>
      go_wp2_with fail
      refine (maybe_any o.volume _ HF.out.volume).mono ?_
      rintro e w' ⟨rfl, rfl⟩
      cases t4 : okT o.volume with
      | false =>
        go_wp2
        go_meet
        case rel => exact ⟨by simp [textsB, t0, t1, t2, t3, t4], rfl⟩
      | true =>
      go_wp2_with fail
      refine (maybe_any o.source _ HF.out.source).mono ?_
      rintro e w' ⟨rfl, rfl⟩
      go_wp2
      go_meet
      case rel => exact ⟨by simp [textsB, t0, t1, t2, t3, t4], rfl⟩
  case rest =>
    obtain ⟨rfl, rfl⟩ := hcut
    clear c6 c12 c13 c14 c15 c16
    as_aux_lemma =>
      obtain ⟨b0, b1, b2, b3⟩ := B.out
      go_wp2_with fail
      refine wp_region_held_drew (S := fun W => BoxO W w.heap.size o) (by kernel_rfl) hb.drew (fun _ => ?_)
      refine HeldBy.gen (fun W => BoxO W w.heap.size o ∧ Below w.heap.size w W) ⟨hb.drew, hlow.drew⟩ ?_
      clear hb hlow
      rintro V0 ⟨hb, hlow⟩
      refine HeldBy.take (i := 0) rfl (by kernel_rfl) (by kernel_rfl) (by kernel_rfl) (fun _ _ _ h => h) (by rfl) (fun _ _ => by go_simp; rfl) (by go_simp; rfl) hb ?_
      refine HeldBy.take (i := 1) rfl (by kernel_rfl) (by kernel_rfl) (by kernel_rfl) (fun _ _ _ h => h) (by rfl) (fun _ h => by have c := BoxO.c1 h; go_simp; rfl) (by go_simp; rfl) hb ?_
      refine HeldBy.call (i := 2) (v := .bool true) rfl (by kernel_rfl) (by rfl) (by go_simp; exact ⟨rfl, rfl⟩) (by go_simp; rfl) ?_
      refine (refName_any o.name _ HF.out.name).mono ?_
      rintro e V1 ⟨rfl, hV⟩
      refine ⟨by first | rfl | simp [*], hV ▸ hb, ?_⟩
      replace hb : BoxO V1 _ _ := hV ▸ hb
      replace hlow : Below _ _ V1 := hV ▸ hlow
      clear hV
      refine HeldBy.take (i := 3) rfl (by kernel_rfl) (by kernel_rfl) (by kernel_rfl) (fun _ _ _ h => h) (by rfl) (fun _ _ => by go_simp; rfl) (by go_simp; rfl) hb ?_
      refine HeldBy.take (i := 4) rfl (by kernel_rfl) (by kernel_rfl) (by kernel_rfl) (fun _ _ _ h => h) (by rfl) (fun _ _ => by go_simp; rfl) (by go_simp; rfl) hb ?_
      refine HeldBy.take (i := 5) rfl (by kernel_rfl) (by kernel_rfl) (by kernel_rfl) (fun _ _ _ h => h) (by rfl) (fun _ h => load_obj h rfl (by go_simp)) (by go_simp; rfl) hb ?_
      refine HeldBy.take (i := 6) rfl (by kernel_rfl) (by kernel_rfl) (by kernel_rfl) (fun _ _ _ h => h) (by rfl) (fun _ h => load_obj h rfl (by go_simp)) (by go_simp; rfl) hb ?_
      refine HeldBy.call (i := 7) (v := encO (bareO o)) rfl (by kernel_rfl) (by rfl) (by go_simp; exact ⟨rfl, rfl⟩) (by go_simp; rfl) ?_
      refine (bare_any o _).mono ?_
      rintro e V2 ⟨rfl, hb1⟩
      refine ⟨by first | rfl | simp [*], hb.after hb1, ?_⟩
      replace hb := hb.after hb1
      replace hlow := hlow.trans (hb1.mono hlow.size)
      clear hb1
      refine HeldBy.take (i := 8) (v := .bool false) rfl (by kernel_rfl) (by kernel_rfl) (by kernel_rfl) (fun _ _ _ h => h) (by rfl) (fun _ _ => neq_objs rfl (by go_simp) (by go_simp) b1) (by go_simp; rfl) hb ?_
      refine HeldBy.take (i := 9) rfl (by kernel_rfl) (by kernel_rfl) (by kernel_rfl) (fun _ _ _ h => h) (by rfl) (fun _ _ => by go_simp; rfl) (by go_simp; rfl) hb ?_
      refine HeldBy.take (i := 10) rfl (by kernel_rfl) (by kernel_rfl) (by kernel_rfl) (fun _ _ _ h => h) (by rfl) (fun _ _ => by go_simp; rfl) (by go_simp; rfl) hb ?_
      refine HeldBy.take (i := 11) rfl (by kernel_rfl) (by kernel_rfl) (by kernel_rfl) (fun _ _ _ h => h) (by rfl) (fun _ _ => by go_simp; rfl) (by go_simp; rfl) hb ?_
      refine HeldBy.take (i := 12) rfl (by kernel_rfl) (by kernel_rfl) (by kernel_rfl) (fun _ _ _ h => h) (by rfl) (fun _ _ => by go_simp; rfl) (by go_simp; rfl) hb ?_
      refine HeldBy.take (i := 13) rfl (by kernel_rfl) (by kernel_rfl) (by kernel_rfl) (fun _ _ _ h => h) (by rfl) (fun _ _ => by go_simp; rfl) (by go_simp; rfl) hb ?_
      refine HeldBy.take (i := 14) rfl (by kernel_rfl) (by kernel_rfl) (by kernel_rfl) (fun _ _ _ h => h) (by rfl) (fun _ _ => by go_simp; rfl) (by go_simp; rfl) hb ?_
      refine HeldBy.take (i := 15) rfl (by kernel_rfl) (by kernel_rfl) (by kernel_rfl) (fun _ _ _ h => h) (by rfl) (fun _ _ => by go_simp; rfl) (by go_simp; rfl) hb ?_
      refine HeldBy.take (i := 16) rfl (by kernel_rfl) (by kernel_rfl) (by kernel_rfl) (fun _ _ _ h => h) (by rfl) (fun _ h => by have c := BoxO.c7 h; go_simp; rfl) (by go_simp; rfl) hb ?_
      refine HeldBy.take (i := 17) rfl (by kernel_rfl) (by kernel_rfl) (by kernel_rfl) (fun _ _ _ h => h) (by rfl) (fun _ _ => by go_simp; rfl) (by go_simp; rfl) hb ?_
      refine HeldBy.take (i := 18) rfl (by kernel_rfl) (by kernel_rfl) (by kernel_rfl) (fun _ _ _ h => h) (by rfl) (fun _ _ => by go_simp; rfl) (by go_simp; rfl) hb ?_
      refine HeldBy.take (i := 19) rfl (by kernel_rfl) (by kernel_rfl) (by kernel_rfl) (fun _ _ _ h => h) (by rfl) (fun _ _ => by go_simp; rfl) (by go_simp; rfl) hb ?_
      refine HeldBy.skip (i := 20) rfl (by kernel_rfl) (by kernel_rfl) (by kernel_rfl) (fun _ _ _ h => h) (by rfl) (by go_simp; rfl) hb ?_
      refine HeldBy.skip (i := 21) rfl (by kernel_rfl) (by kernel_rfl) (by kernel_rfl) (fun _ _ _ h => h) (by rfl) (by go_simp; rfl) hb ?_
      refine HeldBy.skip (i := 22) rfl (by kernel_rfl) (by kernel_rfl) (by kernel_rfl) (fun _ _ _ h => h) (by rfl) (by go_simp; rfl) hb ?_
      refine HeldBy.take (i := 23) rfl (by kernel_rfl) (by kernel_rfl) (by kernel_rfl) (fun _ _ _ h => h) (by rfl) (fun _ _ => by go_simp; rfl) (by go_simp; rfl) hb ?_
      refine HeldBy.take (i := 24) rfl (by kernel_rfl) (by kernel_rfl) (by kernel_rfl) (fun _ _ _ h => h) (by rfl) (fun _ _ => by go_simp; rfl) (by go_simp; rfl) hb ?_
      refine HeldBy.skip (i := 25) rfl (by kernel_rfl) (by kernel_rfl) (by kernel_rfl) (fun _ _ _ h => h) (by rfl) (by go_simp; rfl) hb ?_
      refine HeldBy.skip (i := 26) rfl (by kernel_rfl) (by kernel_rfl) (by kernel_rfl) (fun _ _ _ h => h) (by rfl) (by go_simp; rfl) hb ?_
      refine HeldBy.skip (i := 27) rfl (by kernel_rfl) (by kernel_rfl) (by kernel_rfl) (fun _ _ _ h => h) (by rfl) (by go_simp; rfl) hb ?_
      refine HeldBy.take (i := 28) rfl (by kernel_rfl) (by kernel_rfl) (by kernel_rfl) (fun _ _ _ h => h) (by rfl) (fun _ _ => by go_simp; rfl) (by go_simp; rfl) hb ?_
      refine HeldBy.take (i := 29) rfl (by kernel_rfl) (by kernel_rfl) (by kernel_rfl) (fun _ _ _ h => h) (by rfl) (fun _ _ => by go_simp; rfl) (by go_simp; rfl) hb ?_
      refine HeldBy.skip (i := 30) rfl (by kernel_rfl) (by kernel_rfl) (by kernel_rfl) (fun _ _ _ h => h) (by rfl) (by go_simp; rfl) hb ?_
      refine HeldBy.skip (i := 31) rfl (by kernel_rfl) (by kernel_rfl) (by kernel_rfl) (fun _ _ _ h => h) (by rfl) (by go_simp; rfl) hb ?_
      refine HeldBy.skip (i := 32) rfl (by kernel_rfl) (by kernel_rfl) (by kernel_rfl) (fun _ _ _ h => h) (by rfl) (by go_simp; rfl) hb ?_
      refine HeldBy.take (i := 33) rfl (by kernel_rfl) (by kernel_rfl) (by kernel_rfl) (fun _ _ _ h => h) (by rfl) (fun _ _ => by go_simp; rfl) (by go_simp; rfl) hb ?_
      refine wpAnyH_done (by kernel_rfl) ?_ _
      go_wp2
      go_ret
      exact ⟨rfl, hlow⟩
end Go.Proofs.Ytigoghhjncpgfaa.O
namespace Go.Proofs.Ytigoghhjncpgfaa.O
open Go.RowKit T
open Go.Lib

set_option maxRecDepth 100000 in
set_option maxHeartbeats 8000000 in
theorem refRight_kind2 (o : Obj) (w : World) (HF : Hid (Fit o)) (B : Hid ((nameB o.name.data.toList = true ∧ decide (o = bareO o) = true ∧ textsB o = true ∧ decide (o.size < 0) = false ∧ decide (1125899906842624 < o.size) = false ∧ decide (o.got < 0) = false ∧ decide (1125899906842624 < o.got) = false) ∧ ¬ o.kind = 1 ∧ o.kind = 2)) :
    Calls Try.prog 23 #[encO o] w fun e w' => e = .returned (.bool (rightB o)) ∧ Below w.heap.size w w' := by
  unfold encO
  go_enter Try.func23, Try.ntmps23
  go_upto_region 1 with (fail)
  refine wp_gen (fun W => BoxO W w.heap.size o ∧ Below w.heap.size w W) ⟨BoxO.new w o, (Below.refl _ _).alloc (Nat.le_refl _) _⟩ ?_
  rintro W1 ⟨hb, hlow⟩
  have c6 := hb.c6
  have c12 := hb.c12
  have c13 := hb.c13
  have c14 := hb.c14
  have c15 := hb.c15
  have c16 := hb.c16
  go_cut [3] (fun s3 wx => s3 = .bool (textsB o) ∧ W1 = wx)
  case first =>
    as_aux_lemma =>
      go_wp2_with fail
      refine (maybe_any o.cls _ HF.out.cls).mono ?_
      rintro e w' ⟨rfl, rfl⟩
      cases t0 : okT o.cls with
      | false =>
        go_wp2
        go_meet
        case rel => exact ⟨by simp [textsB, t0], rfl⟩
      | true =>
      go_wp2_with fail
      refine (maybe_any o.zone _ HF.out.zone).mono ?_
      rintro e w' ⟨rfl, rfl⟩
      cases t1 : okT o.zone with
      | false =>
        go_wp2
        go_meet
        case rel => exact ⟨by simp [textsB, t0, t1], rfl⟩
      | true =>
      go_wp2_with fail
      refine (maybe_any o.node _ HF.out.node).mono ?_
      rintro e w' ⟨rfl, rfl⟩
      cases t2 : okT o.node with
      | false =>
        go_wp2
        go_meet
        case rel => exact ⟨by simp [textsB, t0, t1, t2], rfl⟩
      | true =>
      go_wp2_with fail
      refine (maybe_any o.claim _ HF.out.claim).mono ?_
      rintro e w' ⟨rfl, rfl⟩
      cases t3 : okT o.claim with
      | false =>
        go_wp2
        go_meet
        case rel => exact ⟨by simp [textsB, t0, t1, t2, t3], rfl⟩
      | true =>
      go_wp2_with fail
      refine (maybe_any o.volume _ HF.out.volume).mono ?_
      rintro e w' ⟨rfl, rfl⟩
      cases t4 : okT o.volume with
      | false =>
        go_wp2
        go_meet
        case rel => exact ⟨by simp [textsB, t0, t1, t2, t3, t4], rfl⟩
      | true =>
      go_wp2_with fail
      refine (maybe_any o.source _ HF.out.source).mono ?_
      rintro e w' ⟨rfl, rfl⟩
      go_wp2
      go_meet
      case rel => exact ⟨by simp [textsB, t0, t1, t2, t3, t4], rfl⟩
  case rest =>
    obtain ⟨rfl, rfl⟩ := hcut
    clear c6 c12 c13 c14 c15 c16
    as_aux_lemma =>
      obtain ⟨b0, b1, b2, b3, b4, b5, b6⟩ := B.out.1
      have HR : Hid (rightB o = kindB o) := by show _ = _; unfold rightB; simp only [inR_eq]; simp [b0, b1, b2, b3, b4, b5, b6]
      go_wp2_with fail
      refine wp_region_held_drew (S := fun W => BoxO W w.heap.size o) (by kernel_rfl) hb.drew (fun _ => ?_)
      refine HeldBy.gen (fun W => BoxO W w.heap.size o ∧ Below w.heap.size w W) ⟨hb.drew, hlow.drew⟩ ?_
      clear hb hlow
      rintro V0 ⟨hb, hlow⟩
      refine HeldBy.take (i := 0) rfl (by kernel_rfl) (by kernel_rfl) (by kernel_rfl) (fun _ _ _ h => h) (by rfl) (fun _ _ => by go_simp; rfl) (by go_simp; rfl) hb ?_
      refine HeldBy.take (i := 1) rfl (by kernel_rfl) (by kernel_rfl) (by kernel_rfl) (fun _ _ _ h => h) (by rfl) (fun _ h => by have c := BoxO.c1 h; go_simp; rfl) (by go_simp; rfl) hb ?_
      refine HeldBy.call (i := 2) (v := .bool true) rfl (by kernel_rfl) (by rfl) (by go_simp; exact ⟨rfl, rfl⟩) (by go_simp; rfl) ?_
      refine (refName_any o.name _ HF.out.name).mono ?_
      rintro e V1 ⟨rfl, hV⟩
      refine ⟨by first | rfl | simp [*], hV ▸ hb, ?_⟩
      replace hb : BoxO V1 _ _ := hV ▸ hb
      replace hlow : Below _ _ V1 := hV ▸ hlow
      clear hV
      refine HeldBy.take (i := 3) rfl (by kernel_rfl) (by kernel_rfl) (by kernel_rfl) (fun _ _ _ h => h) (by rfl) (fun _ _ => by go_simp; rfl) (by go_simp; rfl) hb ?_
      refine HeldBy.take (i := 4) rfl (by kernel_rfl) (by kernel_rfl) (by kernel_rfl) (fun _ _ _ h => h) (by rfl) (fun _ _ => by go_simp; rfl) (by go_simp; rfl) hb ?_
      refine HeldBy.take (i := 5) rfl (by kernel_rfl) (by kernel_rfl) (by kernel_rfl) (fun _ _ _ h => h) (by rfl) (fun _ h => load_obj h rfl (by go_simp)) (by go_simp; rfl) hb ?_
      refine HeldBy.take (i := 6) rfl (by kernel_rfl) (by kernel_rfl) (by kernel_rfl) (fun _ _ _ h => h) (by rfl) (fun _ h => load_obj h rfl (by go_simp)) (by go_simp; rfl) hb ?_
      refine HeldBy.call (i := 7) (v := encO (bareO o)) rfl (by kernel_rfl) (by rfl) (by go_simp; exact ⟨rfl, rfl⟩) (by go_simp; rfl) ?_
      refine (bare_any o _).mono ?_
      rintro e V2 ⟨rfl, hb1⟩
      refine ⟨by first | rfl | simp [*], hb.after hb1, ?_⟩
      replace hb := hb.after hb1
      replace hlow := hlow.trans (hb1.mono hlow.size)
      clear hb1
      refine HeldBy.take (i := 8) (v := .bool false) rfl (by kernel_rfl) (by kernel_rfl) (by kernel_rfl) (fun _ _ _ h => h) (by rfl) (fun _ _ => neq_objs rfl (by go_simp) (by go_simp) b1) (by go_simp; rfl) hb ?_
      refine HeldBy.take (i := 9) rfl (by kernel_rfl) (by kernel_rfl) (by kernel_rfl) (fun _ _ _ h => h) (by rfl) (fun _ _ => by go_simp; rfl) (by go_simp; rfl) hb ?_
      refine HeldBy.take (i := 10) rfl (by kernel_rfl) (by kernel_rfl) (by kernel_rfl) (fun _ _ _ h => h) (by rfl) (fun _ _ => by go_simp; rfl) (by go_simp; rfl) hb ?_
      refine HeldBy.take (i := 11) rfl (by kernel_rfl) (by kernel_rfl) (by kernel_rfl) (fun _ _ _ h => h) (by rfl) (fun _ _ => by go_simp; rfl) (by go_simp; rfl) hb ?_
      refine HeldBy.take (i := 12) rfl (by kernel_rfl) (by kernel_rfl) (by kernel_rfl) (fun _ _ _ h => h) (by rfl) (fun _ _ => by go_simp; rfl) (by go_simp; rfl) hb ?_
      refine HeldBy.take (i := 13) rfl (by kernel_rfl) (by kernel_rfl) (by kernel_rfl) (fun _ _ _ h => h) (by rfl) (fun _ _ => by go_simp; rfl) (by go_simp; rfl) hb ?_
      refine HeldBy.take (i := 14) rfl (by kernel_rfl) (by kernel_rfl) (by kernel_rfl) (fun _ _ _ h => h) (by rfl) (fun _ _ => by go_simp; rfl) (by go_simp; rfl) hb ?_
      refine HeldBy.take (i := 15) rfl (by kernel_rfl) (by kernel_rfl) (by kernel_rfl) (fun _ _ _ h => h) (by rfl) (fun _ _ => by go_simp; rfl) (by go_simp; rfl) hb ?_
      refine HeldBy.take (i := 16) rfl (by kernel_rfl) (by kernel_rfl) (by kernel_rfl) (fun _ _ _ h => h) (by rfl) (fun _ h => by have c := BoxO.c7 h; go_simp; rfl) (by go_simp; rfl) hb ?_
      refine HeldBy.take (i := 17) rfl (by kernel_rfl) (by kernel_rfl) (by kernel_rfl) (fun _ _ _ h => h) (by rfl) (fun _ _ => by go_simp; rfl) (by go_simp; rfl) hb ?_
      refine HeldBy.take (i := 18) rfl (by kernel_rfl) (by kernel_rfl) (by kernel_rfl) (fun _ _ _ h => h) (by rfl) (fun _ _ => by go_simp; rfl) (by go_simp; rfl) hb ?_
      refine HeldBy.take (i := 19) rfl (by kernel_rfl) (by kernel_rfl) (by kernel_rfl) (fun _ _ _ h => h) (by rfl) (fun _ _ => by go_simp; rfl) (by go_simp; rfl) hb ?_
      refine HeldBy.take (i := 20) rfl (by kernel_rfl) (by kernel_rfl) (by kernel_rfl) (fun _ _ _ h => h) (by rfl) (fun _ _ => by go_simp; rfl) (by go_simp; rfl) hb ?_
      refine HeldBy.take (i := 21) rfl (by kernel_rfl) (by kernel_rfl) (by kernel_rfl) (fun _ _ _ h => h) (by rfl) (fun _ h => by have c := BoxO.c7 h; go_simp; rfl) (by go_simp; rfl) hb ?_
      refine HeldBy.take (i := 22) rfl (by kernel_rfl) (by kernel_rfl) (by kernel_rfl) (fun _ _ _ h => h) (by rfl) (fun _ _ => by go_simp; rfl) (by go_simp; rfl) hb ?_
      refine HeldBy.take (i := 23) rfl (by kernel_rfl) (by kernel_rfl) (by kernel_rfl) (fun _ _ _ h => h) (by rfl) (fun _ _ => by go_simp; rfl) (by go_simp; rfl) hb ?_
      refine HeldBy.take (i := 24) rfl (by kernel_rfl) (by kernel_rfl) (by kernel_rfl) (fun _ _ _ h => h) (by rfl) (fun _ _ => by go_simp; rfl) (by go_simp; rfl) hb ?_
      refine HeldBy.take (i := 25) rfl (by kernel_rfl) (by kernel_rfl) (by kernel_rfl) (fun _ _ _ h => h) (by rfl) (fun _ _ => by go_simp; rfl) (by go_simp; rfl) hb ?_
      refine HeldBy.take (i := 26) rfl (by kernel_rfl) (by kernel_rfl) (by kernel_rfl) (fun _ _ _ h => h) (by rfl) (fun _ h => by have c := BoxO.c8 h; go_simp; rfl) (by go_simp; rfl) hb ?_
      refine HeldBy.take (i := 27) rfl (by kernel_rfl) (by kernel_rfl) (by kernel_rfl) (fun _ _ _ h => h) (by rfl) (fun _ _ => by go_simp; rfl) (by go_simp; rfl) hb ?_
      refine HeldBy.take (i := 28) rfl (by kernel_rfl) (by kernel_rfl) (by kernel_rfl) (fun _ _ _ h => h) (by rfl) (fun _ _ => by go_simp; rfl) (by go_simp; rfl) hb ?_
      refine HeldBy.take (i := 29) rfl (by kernel_rfl) (by kernel_rfl) (by kernel_rfl) (fun _ _ _ h => h) (by rfl) (fun _ _ => by go_simp; rfl) (by go_simp; rfl) hb ?_
      refine HeldBy.take (i := 30) rfl (by kernel_rfl) (by kernel_rfl) (by kernel_rfl) (fun _ _ _ h => h) (by rfl) (fun _ _ => by go_simp; rfl) (by go_simp; rfl) hb ?_
      refine HeldBy.take (i := 31) rfl (by kernel_rfl) (by kernel_rfl) (by kernel_rfl) (fun _ _ _ h => h) (by rfl) (fun _ h => by have c := BoxO.c8 h; go_simp; rfl) (by go_simp; rfl) hb ?_
      refine HeldBy.take (i := 32) rfl (by kernel_rfl) (by kernel_rfl) (by kernel_rfl) (fun _ _ _ h => h) (by rfl) (fun _ _ => by go_simp; rfl) (by go_simp; rfl) hb ?_
      refine HeldBy.take (i := 33) rfl (by kernel_rfl) (by kernel_rfl) (by kernel_rfl) (fun _ _ _ h => h) (by rfl) (fun _ _ => by go_simp; rfl) (by go_simp; rfl) hb ?_
      refine wpAnyH_done (by kernel_rfl) ?_ _
      go_upto_region 4 with (fail)
      refine wp_gen (fun W => BoxO W w.heap.size o ∧ Below w.heap.size w W) ⟨hb, hlow⟩ ?_
      clear hb hlow
      rintro V9 ⟨hb, hlow⟩
      have hz := texts_le b2
      clear b0 b1 b2 b3 b4 b5 b6
      as_aux_lemma =>
        have c9 := hb.c9
        go_cut [4] (fun s4 wx => s4 = .bool (modeB o.mode) ∧ V9 = wx)
        case first =>
          as_aux_lemma =>
            have ed : Hid (modeB o.mode = (decide (o.mode = 1) || decide (o.mode = 2))) := rfl
            by_cases h1 : o.mode = 1
            · have e1 := beq_yes h1
              have h1' := Lib.hid h1
              clear h1
              go_wp2
              go_meet
              case rel => exact ⟨by rw [ed.out, h1'.out]; rfl, rfl⟩
            · have e1 := beq_no h1
              have h1' := Lib.hid h1
              have e2 := beqD o.mode 2
              clear h1
              go_wp2
              go_meet
              case rel => exact ⟨by rw [ed.out, decide_eq_false h1'.out]; simp, rfl⟩
        case rest =>
        obtain ⟨rfl, rfl⟩ := hcut
        have c0 := hb.c0
        have c6 := hb.c6
        have c7 := hb.c7
        have c8 := hb.c8
        have c12 := hb.c12
        have c13 := hb.c13
        have c14 := hb.c14
        have c15 := hb.c15
        have c16 := hb.c16
        have c17 := hb.c17
        have c1 := hb.c1
        clear c9
        obtain ⟨k1, k2⟩ := B.out.2
        have e1 := beq_no k1
        have e2 := beq_yes k2
        replace HR := Lib.hid (HR.out.trans (show kindB o = _ by unfold kindB; rw [if_neg k1, if_pos k2]))
        clear k1 k2
        cases p0 : emp o.zone with
        | true =>
          have sp0 := emp_true p0
          have rp0 := emp_true' p0
          have H' : Hid (rightB o = false) := by show _ = _; rw [HR.out, p0] <;> rfl
          go_wp2
          go_ret
          exact ⟨ret_bool H'.out.symm, hlow⟩
        | false =>
        have sp0 := emp_false p0
        have H' : Hid (rightB o = noSl o.name) := by show _ = _; rw [HR.out, p0] <;> rfl
        go_wp2_with fail
        refine (plain_any o.name _ HF.out.name).mono ?_
        rintro e w' ⟨rfl, rfl⟩
        go_wp2
        go_ret
        exact ⟨ret_bool (by first | exact H'.out.symm | (rw [H'.out]; simp [*])), hlow⟩
end Go.Proofs.Ytigoghhjncpgfaa.O
namespace Go.Proofs.Ytigoghhjncpgfaa.O
open Go.RowKit T
open Go.Lib

set_option maxRecDepth 100000 in
set_option maxHeartbeats 8000000 in
theorem refRight_kind3 (o : Obj) (w : World) (HF : Hid (Fit o)) (B : Hid ((nameB o.name.data.toList = true ∧ decide (o = bareO o) = true ∧ textsB o = true ∧ decide (o.size < 0) = false ∧ decide (1125899906842624 < o.size) = false ∧ decide (o.got < 0) = false ∧ decide (1125899906842624 < o.got) = false) ∧ ¬ o.kind = 1 ∧ ¬ o.kind = 2 ∧ o.kind = 3)) :
    Calls Try.prog 23 #[encO o] w fun e w' => e = .returned (.bool (rightB o)) ∧ Below w.heap.size w w' := by
  unfold encO
  go_enter Try.func23, Try.ntmps23
  go_upto_region 1 with (fail)
  refine wp_gen (fun W => BoxO W w.heap.size o ∧ Below w.heap.size w W) ⟨BoxO.new w o, (Below.refl _ _).alloc (Nat.le_refl _) _⟩ ?_
  rintro W1 ⟨hb, hlow⟩
  have c6 := hb.c6
  have c12 := hb.c12
  have c13 := hb.c13
  have c14 := hb.c14
  have c15 := hb.c15
  have c16 := hb.c16
  go_cut [3] (fun s3 wx => s3 = .bool (textsB o) ∧ W1 = wx)
  case first =>
    as_aux_lemma =>
      go_wp2_with fail
      refine (maybe_any o.cls _ HF.out.cls).mono ?_
      rintro e w' ⟨rfl, rfl⟩
      cases t0 : okT o.cls with
      | false =>
        go_wp2
        go_meet
        case rel => exact ⟨by simp [textsB, t0], rfl⟩
      | true =>
      go_wp2_with fail
      refine (maybe_any o.zone _ HF.out.zone).mono ?_
      rintro e w' ⟨rfl, rfl⟩
      cases t1 : okT o.zone with
      | false =>
        go_wp2
        go_meet
        case rel => exact ⟨by simp [textsB, t0, t1], rfl⟩
      | true =>
      go_wp2_with fail
      refine (maybe_any o.node _ HF.out.node).mono ?_
      rintro e w' ⟨rfl, rfl⟩
      cases t2 : okT o.node with
      | false =>
        go_wp2
        go_meet
        case rel => exact ⟨by simp [textsB, t0, t1, t2], rfl⟩
      | true =>
      go_wp2_with fail
      refine (maybe_any o.claim _ HF.out.claim).mono ?_
      rintro e w' ⟨rfl, rfl⟩
      cases t3 : okT o.claim with
      | false =>
        go_wp2
        go_meet
        case rel => exact ⟨by simp [textsB, t0, t1, t2, t3], rfl⟩
      | true =>
      go_wp2_with fail
      refine (maybe_any o.volume _ HF.out.volume).mono ?_
      rintro e w' ⟨rfl, rfl⟩
      cases t4 : okT o.volume with
      | false =>
        go_wp2
        go_meet
        case rel => exact ⟨by simp [textsB, t0, t1, t2, t3, t4], rfl⟩
      | true =>
      go_wp2_with fail
      refine (maybe_any o.source _ HF.out.source).mono ?_
      rintro e w' ⟨rfl, rfl⟩
      go_wp2
      go_meet
      case rel => exact ⟨by simp [textsB, t0, t1, t2, t3, t4], rfl⟩
  case rest =>
    obtain ⟨rfl, rfl⟩ := hcut
    clear c6 c12 c13 c14 c15 c16
    as_aux_lemma =>
      obtain ⟨b0, b1, b2, b3, b4, b5, b6⟩ := B.out.1
      have HR : Hid (rightB o = kindB o) := by show _ = _; unfold rightB; simp only [inR_eq]; simp [b0, b1, b2, b3, b4, b5, b6]
      go_wp2_with fail
      refine wp_region_held_drew (S := fun W => BoxO W w.heap.size o) (by kernel_rfl) hb.drew (fun _ => ?_)
      refine HeldBy.gen (fun W => BoxO W w.heap.size o ∧ Below w.heap.size w W) ⟨hb.drew, hlow.drew⟩ ?_
      clear hb hlow
      rintro V0 ⟨hb, hlow⟩
      refine HeldBy.take (i := 0) rfl (by kernel_rfl) (by kernel_rfl) (by kernel_rfl) (fun _ _ _ h => h) (by rfl) (fun _ _ => by go_simp; rfl) (by go_simp; rfl) hb ?_
      refine HeldBy.take (i := 1) rfl (by kernel_rfl) (by kernel_rfl) (by kernel_rfl) (fun _ _ _ h => h) (by rfl) (fun _ h => by have c := BoxO.c1 h; go_simp; rfl) (by go_simp; rfl) hb ?_
      refine HeldBy.call (i := 2) (v := .bool true) rfl (by kernel_rfl) (by rfl) (by go_simp; exact ⟨rfl, rfl⟩) (by go_simp; rfl) ?_
      refine (refName_any o.name _ HF.out.name).mono ?_
      rintro e V1 ⟨rfl, hV⟩
      refine ⟨by first | rfl | simp [*], hV ▸ hb, ?_⟩
      replace hb : BoxO V1 _ _ := hV ▸ hb
      replace hlow : Below _ _ V1 := hV ▸ hlow
      clear hV
      refine HeldBy.take (i := 3) rfl (by kernel_rfl) (by kernel_rfl) (by kernel_rfl) (fun _ _ _ h => h) (by rfl) (fun _ _ => by go_simp; rfl) (by go_simp; rfl) hb ?_
      refine HeldBy.take (i := 4) rfl (by kernel_rfl) (by kernel_rfl) (by kernel_rfl) (fun _ _ _ h => h) (by rfl) (fun _ _ => by go_simp; rfl) (by go_simp; rfl) hb ?_
      refine HeldBy.take (i := 5) rfl (by kernel_rfl) (by kernel_rfl) (by kernel_rfl) (fun _ _ _ h => h) (by rfl) (fun _ h => load_obj h rfl (by go_simp)) (by go_simp; rfl) hb ?_
      refine HeldBy.take (i := 6) rfl (by kernel_rfl) (by kernel_rfl) (by kernel_rfl) (fun _ _ _ h => h) (by rfl) (fun _ h => load_obj h rfl (by go_simp)) (by go_simp; rfl) hb ?_
      refine HeldBy.call (i := 7) (v := encO (bareO o)) rfl (by kernel_rfl) (by rfl) (by go_simp; exact ⟨rfl, rfl⟩) (by go_simp; rfl) ?_
      refine (bare_any o _).mono ?_
      rintro e V2 ⟨rfl, hb1⟩
      refine ⟨by first | rfl | simp [*], hb.after hb1, ?_⟩
      replace hb := hb.after hb1
      replace hlow := hlow.trans (hb1.mono hlow.size)
      clear hb1
      refine HeldBy.take (i := 8) (v := .bool false) rfl (by kernel_rfl) (by kernel_rfl) (by kernel_rfl) (fun _ _ _ h => h) (by rfl) (fun _ _ => neq_objs rfl (by go_simp) (by go_simp) b1) (by go_simp; rfl) hb ?_
      refine HeldBy.take (i := 9) rfl (by kernel_rfl) (by kernel_rfl) (by kernel_rfl) (fun _ _ _ h => h) (by rfl) (fun _ _ => by go_simp; rfl) (by go_simp; rfl) hb ?_
      refine HeldBy.take (i := 10) rfl (by kernel_rfl) (by kernel_rfl) (by kernel_rfl) (fun _ _ _ h => h) (by rfl) (fun _ _ => by go_simp; rfl) (by go_simp; rfl) hb ?_
      refine HeldBy.take (i := 11) rfl (by kernel_rfl) (by kernel_rfl) (by kernel_rfl) (fun _ _ _ h => h) (by rfl) (fun _ _ => by go_simp; rfl) (by go_simp; rfl) hb ?_
      refine HeldBy.take (i := 12) rfl (by kernel_rfl) (by kernel_rfl) (by kernel_rfl) (fun _ _ _ h => h) (by rfl) (fun _ _ => by go_simp; rfl) (by go_simp; rfl) hb ?_
      refine HeldBy.take (i := 13) rfl (by kernel_rfl) (by kernel_rfl) (by kernel_rfl) (fun _ _ _ h => h) (by rfl) (fun _ _ => by go_simp; rfl) (by go_simp; rfl) hb ?_
      refine HeldBy.take (i := 14) rfl (by kernel_rfl) (by kernel_rfl) (by kernel_rfl) (fun _ _ _ h => h) (by rfl) (fun _ _ => by go_simp; rfl) (by go_simp; rfl) hb ?_
      refine HeldBy.take (i := 15) rfl (by kernel_rfl) (by kernel_rfl) (by kernel_rfl) (fun _ _ _ h => h) (by rfl) (fun _ _ => by go_simp; rfl) (by go_simp; rfl) hb ?_
      refine HeldBy.take (i := 16) rfl (by kernel_rfl) (by kernel_rfl) (by kernel_rfl) (fun _ _ _ h => h) (by rfl) (fun _ h => by have c := BoxO.c7 h; go_simp; rfl) (by go_simp; rfl) hb ?_
      refine HeldBy.take (i := 17) rfl (by kernel_rfl) (by kernel_rfl) (by kernel_rfl) (fun _ _ _ h => h) (by rfl) (fun _ _ => by go_simp; rfl) (by go_simp; rfl) hb ?_
      refine HeldBy.take (i := 18) rfl (by kernel_rfl) (by kernel_rfl) (by kernel_rfl) (fun _ _ _ h => h) (by rfl) (fun _ _ => by go_simp; rfl) (by go_simp; rfl) hb ?_
      refine HeldBy.take (i := 19) rfl (by kernel_rfl) (by kernel_rfl) (by kernel_rfl) (fun _ _ _ h => h) (by rfl) (fun _ _ => by go_simp; rfl) (by go_simp; rfl) hb ?_
      refine HeldBy.take (i := 20) rfl (by kernel_rfl) (by kernel_rfl) (by kernel_rfl) (fun _ _ _ h => h) (by rfl) (fun _ _ => by go_simp; rfl) (by go_simp; rfl) hb ?_
      refine HeldBy.take (i := 21) rfl (by kernel_rfl) (by kernel_rfl) (by kernel_rfl) (fun _ _ _ h => h) (by rfl) (fun _ h => by have c := BoxO.c7 h; go_simp; rfl) (by go_simp; rfl) hb ?_
      refine HeldBy.take (i := 22) rfl (by kernel_rfl) (by kernel_rfl) (by kernel_rfl) (fun _ _ _ h => h) (by rfl) (fun _ _ => by go_simp; rfl) (by go_simp; rfl) hb ?_
      refine HeldBy.take (i := 23) rfl (by kernel_rfl) (by kernel_rfl) (by kernel_rfl) (fun _ _ _ h => h) (by rfl) (fun _ _ => by go_simp; rfl) (by go_simp; rfl) hb ?_
      refine HeldBy.take (i := 24) rfl (by kernel_rfl) (by kernel_rfl) (by kernel_rfl) (fun _ _ _ h => h) (by rfl) (fun _ _ => by go_simp; rfl) (by go_simp; rfl) hb ?_
      refine HeldBy.take (i := 25) rfl (by kernel_rfl) (by kernel_rfl) (by kernel_rfl) (fun _ _ _ h => h) (by rfl) (fun _ _ => by go_simp; rfl) (by go_simp; rfl) hb ?_
      refine HeldBy.take (i := 26) rfl (by kernel_rfl) (by kernel_rfl) (by kernel_rfl) (fun _ _ _ h => h) (by rfl) (fun _ h => by have c := BoxO.c8 h; go_simp; rfl) (by go_simp; rfl) hb ?_
      refine HeldBy.take (i := 27) rfl (by kernel_rfl) (by kernel_rfl) (by kernel_rfl) (fun _ _ _ h => h) (by rfl) (fun _ _ => by go_simp; rfl) (by go_simp; rfl) hb ?_
      refine HeldBy.take (i := 28) rfl (by kernel_rfl) (by kernel_rfl) (by kernel_rfl) (fun _ _ _ h => h) (by rfl) (fun _ _ => by go_simp; rfl) (by go_simp; rfl) hb ?_
      refine HeldBy.take (i := 29) rfl (by kernel_rfl) (by kernel_rfl) (by kernel_rfl) (fun _ _ _ h => h) (by rfl) (fun _ _ => by go_simp; rfl) (by go_simp; rfl) hb ?_
      refine HeldBy.take (i := 30) rfl (by kernel_rfl) (by kernel_rfl) (by kernel_rfl) (fun _ _ _ h => h) (by rfl) (fun _ _ => by go_simp; rfl) (by go_simp; rfl) hb ?_
      refine HeldBy.take (i := 31) rfl (by kernel_rfl) (by kernel_rfl) (by kernel_rfl) (fun _ _ _ h => h) (by rfl) (fun _ h => by have c := BoxO.c8 h; go_simp; rfl) (by go_simp; rfl) hb ?_
      refine HeldBy.take (i := 32) rfl (by kernel_rfl) (by kernel_rfl) (by kernel_rfl) (fun _ _ _ h => h) (by rfl) (fun _ _ => by go_simp; rfl) (by go_simp; rfl) hb ?_
      refine HeldBy.take (i := 33) rfl (by kernel_rfl) (by kernel_rfl) (by kernel_rfl) (fun _ _ _ h => h) (by rfl) (fun _ _ => by go_simp; rfl) (by go_simp; rfl) hb ?_
      refine wpAnyH_done (by kernel_rfl) ?_ _
      go_upto_region 4 with (fail)
      refine wp_gen (fun W => BoxO W w.heap.size o ∧ Below w.heap.size w W) ⟨hb, hlow⟩ ?_
      clear hb hlow
      rintro V9 ⟨hb, hlow⟩
      have hz := texts_le b2
      clear b0 b1 b2 b3 b4 b5 b6
      as_aux_lemma =>
        have c9 := hb.c9
        go_cut [4] (fun s4 wx => s4 = .bool (modeB o.mode) ∧ V9 = wx)
        case first =>
          as_aux_lemma =>
            have ed : Hid (modeB o.mode = (decide (o.mode = 1) || decide (o.mode = 2))) := rfl
            by_cases h1 : o.mode = 1
            · have e1 := beq_yes h1
              have h1' := Lib.hid h1
              clear h1
              go_wp2
              go_meet
              case rel => exact ⟨by rw [ed.out, h1'.out]; rfl, rfl⟩
            · have e1 := beq_no h1
              have h1' := Lib.hid h1
              have e2 := beqD o.mode 2
              clear h1
              go_wp2
              go_meet
              case rel => exact ⟨by rw [ed.out, decide_eq_false h1'.out]; simp, rfl⟩
        case rest =>
        obtain ⟨rfl, rfl⟩ := hcut
        have c0 := hb.c0
        have c6 := hb.c6
        have c7 := hb.c7
        have c8 := hb.c8
        have c12 := hb.c12
        have c13 := hb.c13
        have c14 := hb.c14
        have c15 := hb.c15
        have c16 := hb.c16
        have c17 := hb.c17
        have c1 := hb.c1
        clear c9
        obtain ⟨k1, k2, k3⟩ := B.out.2
        have e1 := beq_no k1
        have e2 := beq_no k2
        have e3 := beq_yes k3
        replace HR := Lib.hid (HR.out.trans (show kindB o = _ by unfold kindB; rw [if_neg k1, if_neg k2, if_pos k3]))
        clear k1 k2 k3
        go_upto_region 11 with (fail)
        go_cut [5] (fun s wx => s = .bool (ph3 o.phase 1 2 3) ∧ V9 = wx)
        case first =>
          as_aux_lemma =>
            have ed : Hid (ph3 o.phase 1 2 3 = (decide (o.phase = 1) || (decide (o.phase = 2) || decide (o.phase = 3)))) := rfl
            by_cases h1 : o.phase = 1
            · have f1 := beq_yes h1
              have g1 := Lib.hid h1
              clear h1
              go_wp2
              go_meet
              case rel => exact ⟨by rw [ed.out, g1.out]; simp, rfl⟩
            have f1 := beq_no h1
            have g1 := Lib.hid h1
            clear h1
            by_cases h2 : o.phase = 2
            · have f2 := beq_yes h2
              have g2 := Lib.hid h2
              clear h2
              go_wp2
              go_meet
              case rel => exact ⟨by rw [ed.out, g2.out]; simp, rfl⟩
            have f2 := beq_no h2
            have g2 := Lib.hid h2
            clear h2
            have f3 := beqD o.phase 3
            go_wp2
            go_meet
            case rel => exact ⟨by rw [ed.out, decide_eq_false g1.out, decide_eq_false g2.out]; simp, rfl⟩
        case rest =>
        obtain ⟨rfl, rfl⟩ := hcut
        as_aux_lemma =>
          have e17 := beqD o.phase 3
          cases p0 : emp o.cls with
          | true =>
            have sp0 := emp_true p0
            have rp0 := emp_true' p0
            have H' : Hid (rightB o = false) := by show _ = _; rw [HR.out, claimB_eq, p0] <;> rfl
            go_wp2
            go_ret
            exact ⟨ret_bool H'.out.symm, hlow⟩
          | false =>
          have sp0 := emp_false p0
          cases p1 : (o.size != 0) with
          | false =>
            have H' : Hid (rightB o = false) := by show _ = _; rw [HR.out, claimB_eq, p0, p1] <;> rfl
            go_wp2
            go_ret
            exact ⟨ret_bool H'.out.symm, hlow⟩
          | true =>
          cases p2 : modeB o.mode with
          | false =>
            have H' : Hid (rightB o = false) := by show _ = _; rw [HR.out, claimB_eq, p0, p1, p2] <;> rfl
            go_wp2
            go_ret
            exact ⟨ret_bool H'.out.symm, hlow⟩
          | true =>
          cases p3 : ph3 o.phase 1 2 3 with
          | false =>
            have H' : Hid (rightB o = false) := by show _ = _; rw [HR.out, claimB_eq, p0, p1, p2, p3] <;> rfl
            go_wp2
            go_ret
            exact ⟨ret_bool H'.out.symm, hlow⟩
          | true =>
          have H' : Hid (rightB o = ((!o.volume.toList.isEmpty) == decide (o.phase = 3))) := by show _ = _; rw [HR.out, claimB_eq, p0, p1, p2, p3, empI] <;> rfl
          go_wp2
          go_ret
          exact ⟨ret_bool (by first | exact H'.out.symm | (rw [H'.out]; simp [*])), hlow⟩
end Go.Proofs.Ytigoghhjncpgfaa.O
namespace Go.Proofs.Ytigoghhjncpgfaa.O
open Go.RowKit T
open Go.Lib

set_option maxRecDepth 100000 in
set_option maxHeartbeats 8000000 in
theorem refRight_kind4 (o : Obj) (w : World) (HF : Hid (Fit o)) (B : Hid ((nameB o.name.data.toList = true ∧ decide (o = bareO o) = true ∧ textsB o = true ∧ decide (o.size < 0) = false ∧ decide (1125899906842624 < o.size) = false ∧ decide (o.got < 0) = false ∧ decide (1125899906842624 < o.got) = false) ∧ ¬ o.kind = 1 ∧ ¬ o.kind = 2 ∧ ¬ o.kind = 3 ∧ o.kind = 4)) :
    Calls Try.prog 23 #[encO o] w fun e w' => e = .returned (.bool (rightB o)) ∧ Below w.heap.size w w' := by
  unfold encO
  go_enter Try.func23, Try.ntmps23
  go_upto_region 1 with (fail)
  refine wp_gen (fun W => BoxO W w.heap.size o ∧ Below w.heap.size w W) ⟨BoxO.new w o, (Below.refl _ _).alloc (Nat.le_refl _) _⟩ ?_
  rintro W1 ⟨hb, hlow⟩
  have c6 := hb.c6
  have c12 := hb.c12
  have c13 := hb.c13
  have c14 := hb.c14
  have c15 := hb.c15
  have c16 := hb.c16
  go_cut [3] (fun s3 wx => s3 = .bool (textsB o) ∧ W1 = wx)
  case first =>
    as_aux_lemma =>
      go_wp2_with fail
      refine (maybe_any o.cls _ HF.out.cls).mono ?_
      rintro e w' ⟨rfl, rfl⟩
      cases t0 : okT o.cls with
      | false =>
        go_wp2
        go_meet
        case rel => exact ⟨by simp [textsB, t0], rfl⟩
      | true =>
      go_wp2_with fail
      refine (maybe_any o.zone _ HF.out.zone).mono ?_
      rintro e w' ⟨rfl, rfl⟩
      cases t1 : okT o.zone with
      | false =>
        go_wp2
        go_meet
        case rel => exact ⟨by simp [textsB, t0, t1], rfl⟩
      | true =>
      go_wp2_with fail
      refine (maybe_any o.node _ HF.out.node).mono ?_
      rintro e w' ⟨rfl, rfl⟩
      cases t2 : okT o.node with
      | false =>
        go_wp2
        go_meet
        case rel => exact ⟨by simp [textsB, t0, t1, t2], rfl⟩
      | true =>
      go_wp2_with fail
      refine (maybe_any o.claim _ HF.out.claim).mono ?_
      rintro e w' ⟨rfl, rfl⟩
      cases t3 : okT o.claim with
      | false =>
        go_wp2
        go_meet
        case rel => exact ⟨by simp [textsB, t0, t1, t2, t3], rfl⟩
      | true =>
      go_wp2_with fail
      refine (maybe_any o.volume _ HF.out.volume).mono ?_
      rintro e w' ⟨rfl, rfl⟩
      cases t4 : okT o.volume with
      | false =>
        go_wp2
        go_meet
        case rel => exact ⟨by simp [textsB, t0, t1, t2, t3, t4], rfl⟩
      | true =>
      go_wp2_with fail
      refine (maybe_any o.source _ HF.out.source).mono ?_
      rintro e w' ⟨rfl, rfl⟩
      go_wp2
      go_meet
      case rel => exact ⟨by simp [textsB, t0, t1, t2, t3, t4], rfl⟩
  case rest =>
    obtain ⟨rfl, rfl⟩ := hcut
    clear c6 c12 c13 c14 c15 c16
    as_aux_lemma =>
      obtain ⟨b0, b1, b2, b3, b4, b5, b6⟩ := B.out.1
      have HR : Hid (rightB o = kindB o) := by show _ = _; unfold rightB; simp only [inR_eq]; simp [b0, b1, b2, b3, b4, b5, b6]
      go_wp2_with fail
      refine wp_region_held_drew (S := fun W => BoxO W w.heap.size o) (by kernel_rfl) hb.drew (fun _ => ?_)
      refine HeldBy.gen (fun W => BoxO W w.heap.size o ∧ Below w.heap.size w W) ⟨hb.drew, hlow.drew⟩ ?_
      clear hb hlow
      rintro V0 ⟨hb, hlow⟩
      refine HeldBy.take (i := 0) rfl (by kernel_rfl) (by kernel_rfl) (by kernel_rfl) (fun _ _ _ h => h) (by rfl) (fun _ _ => by go_simp; rfl) (by go_simp; rfl) hb ?_
      refine HeldBy.take (i := 1) rfl (by kernel_rfl) (by kernel_rfl) (by kernel_rfl) (fun _ _ _ h => h) (by rfl) (fun _ h => by have c := BoxO.c1 h; go_simp; rfl) (by go_simp; rfl) hb ?_
      refine HeldBy.call (i := 2) (v := .bool true) rfl (by kernel_rfl) (by rfl) (by go_simp; exact ⟨rfl, rfl⟩) (by go_simp; rfl) ?_
      refine (refName_any o.name _ HF.out.name).mono ?_
      rintro e V1 ⟨rfl, hV⟩
      refine ⟨by first | rfl | simp [*], hV ▸ hb, ?_⟩
      replace hb : BoxO V1 _ _ := hV ▸ hb
      replace hlow : Below _ _ V1 := hV ▸ hlow
      clear hV
      refine HeldBy.take (i := 3) rfl (by kernel_rfl) (by kernel_rfl) (by kernel_rfl) (fun _ _ _ h => h) (by rfl) (fun _ _ => by go_simp; rfl) (by go_simp; rfl) hb ?_
      refine HeldBy.take (i := 4) rfl (by kernel_rfl) (by kernel_rfl) (by kernel_rfl) (fun _ _ _ h => h) (by rfl) (fun _ _ => by go_simp; rfl) (by go_simp; rfl) hb ?_
      refine HeldBy.take (i := 5) rfl (by kernel_rfl) (by kernel_rfl) (by kernel_rfl) (fun _ _ _ h => h) (by rfl) (fun _ h => load_obj h rfl (by go_simp)) (by go_simp; rfl) hb ?_
      refine HeldBy.take (i := 6) rfl (by kernel_rfl) (by kernel_rfl) (by kernel_rfl) (fun _ _ _ h => h) (by rfl) (fun _ h => load_obj h rfl (by go_simp)) (by go_simp; rfl) hb ?_
      refine HeldBy.call (i := 7) (v := encO (bareO o)) rfl (by kernel_rfl) (by rfl) (by go_simp; exact ⟨rfl, rfl⟩) (by go_simp; rfl) ?_
      refine (bare_any o _).mono ?_
      rintro e V2 ⟨rfl, hb1⟩
      refine ⟨by first | rfl | simp [*], hb.after hb1, ?_⟩
      replace hb := hb.after hb1
      replace hlow := hlow.trans (hb1.mono hlow.size)
      clear hb1
      refine HeldBy.take (i := 8) (v := .bool false) rfl (by kernel_rfl) (by kernel_rfl) (by kernel_rfl) (fun _ _ _ h => h) (by rfl) (fun _ _ => neq_objs rfl (by go_simp) (by go_simp) b1) (by go_simp; rfl) hb ?_
      refine HeldBy.take (i := 9) rfl (by kernel_rfl) (by kernel_rfl) (by kernel_rfl) (fun _ _ _ h => h) (by rfl) (fun _ _ => by go_simp; rfl) (by go_simp; rfl) hb ?_
      refine HeldBy.take (i := 10) rfl (by kernel_rfl) (by kernel_rfl) (by kernel_rfl) (fun _ _ _ h => h) (by rfl) (fun _ _ => by go_simp; rfl) (by go_simp; rfl) hb ?_
      refine HeldBy.take (i := 11) rfl (by kernel_rfl) (by kernel_rfl) (by kernel_rfl) (fun _ _ _ h => h) (by rfl) (fun _ _ => by go_simp; rfl) (by go_simp; rfl) hb ?_
      refine HeldBy.take (i := 12) rfl (by kernel_rfl) (by kernel_rfl) (by kernel_rfl) (fun _ _ _ h => h) (by rfl) (fun _ _ => by go_simp; rfl) (by go_simp; rfl) hb ?_
      refine HeldBy.take (i := 13) rfl (by kernel_rfl) (by kernel_rfl) (by kernel_rfl) (fun _ _ _ h => h) (by rfl) (fun _ _ => by go_simp; rfl) (by go_simp; rfl) hb ?_
      refine HeldBy.take (i := 14) rfl (by kernel_rfl) (by kernel_rfl) (by kernel_rfl) (fun _ _ _ h => h) (by rfl) (fun _ _ => by go_simp; rfl) (by go_simp; rfl) hb ?_
      refine HeldBy.take (i := 15) rfl (by kernel_rfl) (by kernel_rfl) (by kernel_rfl) (fun _ _ _ h => h) (by rfl) (fun _ _ => by go_simp; rfl) (by go_simp; rfl) hb ?_
      refine HeldBy.take (i := 16) rfl (by kernel_rfl) (by kernel_rfl) (by kernel_rfl) (fun _ _ _ h => h) (by rfl) (fun _ h => by have c := BoxO.c7 h; go_simp; rfl) (by go_simp; rfl) hb ?_
      refine HeldBy.take (i := 17) rfl (by kernel_rfl) (by kernel_rfl) (by kernel_rfl) (fun _ _ _ h => h) (by rfl) (fun _ _ => by go_simp; rfl) (by go_simp; rfl) hb ?_
      refine HeldBy.take (i := 18) rfl (by kernel_rfl) (by kernel_rfl) (by kernel_rfl) (fun _ _ _ h => h) (by rfl) (fun _ _ => by go_simp; rfl) (by go_simp; rfl) hb ?_
      refine HeldBy.take (i := 19) rfl (by kernel_rfl) (by kernel_rfl) (by kernel_rfl) (fun _ _ _ h => h) (by rfl) (fun _ _ => by go_simp; rfl) (by go_simp; rfl) hb ?_
      refine HeldBy.take (i := 20) rfl (by kernel_rfl) (by kernel_rfl) (by kernel_rfl) (fun _ _ _ h => h) (by rfl) (fun _ _ => by go_simp; rfl) (by go_simp; rfl) hb ?_
      refine HeldBy.take (i := 21) rfl (by kernel_rfl) (by kernel_rfl) (by kernel_rfl) (fun _ _ _ h => h) (by rfl) (fun _ h => by have c := BoxO.c7 h; go_simp; rfl) (by go_simp; rfl) hb ?_
      refine HeldBy.take (i := 22) rfl (by kernel_rfl) (by kernel_rfl) (by kernel_rfl) (fun _ _ _ h => h) (by rfl) (fun _ _ => by go_simp; rfl) (by go_simp; rfl) hb ?_
      refine HeldBy.take (i := 23) rfl (by kernel_rfl) (by kernel_rfl) (by kernel_rfl) (fun _ _ _ h => h) (by rfl) (fun _ _ => by go_simp; rfl) (by go_simp; rfl) hb ?_
      refine HeldBy.take (i := 24) rfl (by kernel_rfl) (by kernel_rfl) (by kernel_rfl) (fun _ _ _ h => h) (by rfl) (fun _ _ => by go_simp; rfl) (by go_simp; rfl) hb ?_
      refine HeldBy.take (i := 25) rfl (by kernel_rfl) (by kernel_rfl) (by kernel_rfl) (fun _ _ _ h => h) (by rfl) (fun _ _ => by go_simp; rfl) (by go_simp; rfl) hb ?_
      refine HeldBy.take (i := 26) rfl (by kernel_rfl) (by kernel_rfl) (by kernel_rfl) (fun _ _ _ h => h) (by rfl) (fun _ h => by have c := BoxO.c8 h; go_simp; rfl) (by go_simp; rfl) hb ?_
      refine HeldBy.take (i := 27) rfl (by kernel_rfl) (by kernel_rfl) (by kernel_rfl) (fun _ _ _ h => h) (by rfl) (fun _ _ => by go_simp; rfl) (by go_simp; rfl) hb ?_
      refine HeldBy.take (i := 28) rfl (by kernel_rfl) (by kernel_rfl) (by kernel_rfl) (fun _ _ _ h => h) (by rfl) (fun _ _ => by go_simp; rfl) (by go_simp; rfl) hb ?_
      refine HeldBy.take (i := 29) rfl (by kernel_rfl) (by kernel_rfl) (by kernel_rfl) (fun _ _ _ h => h) (by rfl) (fun _ _ => by go_simp; rfl) (by go_simp; rfl) hb ?_
      refine HeldBy.take (i := 30) rfl (by kernel_rfl) (by kernel_rfl) (by kernel_rfl) (fun _ _ _ h => h) (by rfl) (fun _ _ => by go_simp; rfl) (by go_simp; rfl) hb ?_
      refine HeldBy.take (i := 31) rfl (by kernel_rfl) (by kernel_rfl) (by kernel_rfl) (fun _ _ _ h => h) (by rfl) (fun _ h => by have c := BoxO.c8 h; go_simp; rfl) (by go_simp; rfl) hb ?_
      refine HeldBy.take (i := 32) rfl (by kernel_rfl) (by kernel_rfl) (by kernel_rfl) (fun _ _ _ h => h) (by rfl) (fun _ _ => by go_simp; rfl) (by go_simp; rfl) hb ?_
      refine HeldBy.take (i := 33) rfl (by kernel_rfl) (by kernel_rfl) (by kernel_rfl) (fun _ _ _ h => h) (by rfl) (fun _ _ => by go_simp; rfl) (by go_simp; rfl) hb ?_
      refine wpAnyH_done (by kernel_rfl) ?_ _
      go_upto_region 4 with (fail)
      refine wp_gen (fun W => BoxO W w.heap.size o ∧ Below w.heap.size w W) ⟨hb, hlow⟩ ?_
      clear hb hlow
      rintro V9 ⟨hb, hlow⟩
      have hz := texts_le b2
      clear b0 b1 b2 b3 b4 b5 b6
      as_aux_lemma =>
        have c9 := hb.c9
        go_cut [4] (fun s4 wx => s4 = .bool (modeB o.mode) ∧ V9 = wx)
        case first =>
          as_aux_lemma =>
            have ed : Hid (modeB o.mode = (decide (o.mode = 1) || decide (o.mode = 2))) := rfl
            by_cases h1 : o.mode = 1
            · have e1 := beq_yes h1
              have h1' := Lib.hid h1
              clear h1
              go_wp2
              go_meet
              case rel => exact ⟨by rw [ed.out, h1'.out]; rfl, rfl⟩
            · have e1 := beq_no h1
              have h1' := Lib.hid h1
              have e2 := beqD o.mode 2
              clear h1
              go_wp2
              go_meet
              case rel => exact ⟨by rw [ed.out, decide_eq_false h1'.out]; simp, rfl⟩
        case rest =>
        obtain ⟨rfl, rfl⟩ := hcut
        have c0 := hb.c0
        have c6 := hb.c6
        have c7 := hb.c7
        have c8 := hb.c8
        have c12 := hb.c12
        have c13 := hb.c13
        have c14 := hb.c14
        have c15 := hb.c15
        have c16 := hb.c16
        have c17 := hb.c17
        have c1 := hb.c1
        clear c9
        obtain ⟨k1, k2, k3, k4⟩ := B.out.2
        have e1 := beq_no k1
        have e2 := beq_no k2
        have e3 := beq_no k3
        have e4 := beq_yes k4
        replace HR := Lib.hid (HR.out.trans (show kindB o = _ by unfold kindB; rw [if_neg k1, if_neg k2, if_neg k3, if_pos k4]))
        clear k1 k2 k3 k4
        go_upto_region 14 with (fail)
        go_cut [6] (fun s wx => s = .bool (ph4 o.phase 4 3 5 6) ∧ V9 = wx)
        case first =>
          as_aux_lemma =>
            have ed : Hid (ph4 o.phase 4 3 5 6 = (decide (o.phase = 4) || (decide (o.phase = 3) || (decide (o.phase = 5) || decide (o.phase = 6))))) := rfl
            by_cases h4 : o.phase = 4
            · have f4 := beq_yes h4
              have g4 := Lib.hid h4
              clear h4
              go_wp2
              go_meet
              case rel => exact ⟨by rw [ed.out, g4.out]; simp, rfl⟩
            have f4 := beq_no h4
            have g4 := Lib.hid h4
            clear h4
            by_cases h3 : o.phase = 3
            · have f3 := beq_yes h3
              have g3 := Lib.hid h3
              clear h3
              go_wp2
              go_meet
              case rel => exact ⟨by rw [ed.out, g3.out]; simp, rfl⟩
            have f3 := beq_no h3
            have g3 := Lib.hid h3
            clear h3
            by_cases h5 : o.phase = 5
            · have f5 := beq_yes h5
              have g5 := Lib.hid h5
              clear h5
              go_wp2
              go_meet
              case rel => exact ⟨by rw [ed.out, g5.out]; simp, rfl⟩
            have f5 := beq_no h5
            have g5 := Lib.hid h5
            clear h5
            have f6 := beqD o.phase 6
            go_wp2
            go_meet
            case rel => exact ⟨by rw [ed.out, decide_eq_false g4.out, decide_eq_false g3.out, decide_eq_false g5.out]; simp, rfl⟩
        case rest =>
        obtain ⟨rfl, rfl⟩ := hcut
        as_aux_lemma =>
          cases p0 : emp o.cls with
          | true =>
            have sp0 := emp_true p0
            have rp0 := emp_true' p0
            have H' : Hid (rightB o = false) := by show _ = _; rw [HR.out, volumeB_eq, p0] <;> rfl
            go_wp2
            go_ret
            exact ⟨ret_bool H'.out.symm, hlow⟩
          | false =>
          have sp0 := emp_false p0
          cases p1 : emp o.zone with
          | true =>
            have sp1 := emp_true p1
            have rp1 := emp_true' p1
            have H' : Hid (rightB o = false) := by show _ = _; rw [HR.out, volumeB_eq, p0, p1] <;> rfl
            go_wp2
            go_ret
            exact ⟨ret_bool H'.out.symm, hlow⟩
          | false =>
          have sp1 := emp_false p1
          cases p2 : (o.size != 0) with
          | false =>
            have H' : Hid (rightB o = false) := by show _ = _; rw [HR.out, volumeB_eq, p0, p1, p2] <;> rfl
            go_wp2
            go_ret
            exact ⟨ret_bool H'.out.symm, hlow⟩
          | true =>
          cases p3 : (o.got != 0) with
          | false =>
            have H' : Hid (rightB o = false) := by show _ = _; rw [HR.out, volumeB_eq, p0, p1, p2, p3] <;> rfl
            go_wp2
            go_ret
            exact ⟨ret_bool H'.out.symm, hlow⟩
          | true =>
          cases p4 : modeB o.mode with
          | false =>
            have H' : Hid (rightB o = false) := by show _ = _; rw [HR.out, volumeB_eq, p0, p1, p2, p3, p4] <;> rfl
            go_wp2
            go_ret
            exact ⟨ret_bool H'.out.symm, hlow⟩
          | true =>
          cases p5 : ph4 o.phase 4 3 5 6 with
          | false =>
            have H' : Hid (rightB o = false) := by show _ = _; rw [HR.out, volumeB_eq, p0, p1, p2, p3, p4, p5] <;> rfl
            go_wp2
            go_ret
            exact ⟨ret_bool H'.out.symm, hlow⟩
          | true =>
          cases p6 : emp o.claim with
          | false =>
            have sp6 := emp_false p6
            have H' : Hid (rightB o = true) := by show _ = _; rw [HR.out, volumeB_eq, p0, p1, p2, p3, p4, p5, p6] <;> rfl
            go_wp2
            go_ret
            exact ⟨ret_bool H'.out.symm, hlow⟩
          | true =>
          have sp6 := emp_true p6
          have rp6 := emp_true' p6
          cases p7 : (o.phase != 3) with
          | false =>
            have H' : Hid (rightB o = false) := by show _ = _; rw [HR.out, volumeB_eq, p0, p1, p2, p3, p4, p5, p6, p7] <;> rfl
            go_wp2
            go_ret
            exact ⟨ret_bool H'.out.symm, hlow⟩
          | true =>
          have H' : Hid (rightB o = (o.phase != 5)) := by show _ = _; rw [HR.out, volumeB_eq, p0, p1, p2, p3, p4, p5, p6, p7] <;> rfl
          go_wp2
          go_ret
          exact ⟨ret_bool H'.out.symm, hlow⟩
end Go.Proofs.Ytigoghhjncpgfaa.O
namespace Go.Proofs.Ytigoghhjncpgfaa.O
open Go.RowKit T
open Go.Lib

set_option maxRecDepth 100000 in
set_option maxHeartbeats 8000000 in
theorem refRight_kind6 (o : Obj) (w : World) (HF : Hid (Fit o)) (B : Hid ((nameB o.name.data.toList = true ∧ decide (o = bareO o) = true ∧ textsB o = true ∧ decide (o.size < 0) = false ∧ decide (1125899906842624 < o.size) = false ∧ decide (o.got < 0) = false ∧ decide (1125899906842624 < o.got) = false) ∧ ¬ o.kind = 1 ∧ ¬ o.kind = 2 ∧ ¬ o.kind = 3 ∧ ¬ o.kind = 4 ∧ ¬ o.kind = 5 ∧ o.kind = 6)) :
    Calls Try.prog 23 #[encO o] w fun e w' => e = .returned (.bool (rightB o)) ∧ Below w.heap.size w w' := by
  unfold encO
  go_enter Try.func23, Try.ntmps23
  go_upto_region 1 with (fail)
  refine wp_gen (fun W => BoxO W w.heap.size o ∧ Below w.heap.size w W) ⟨BoxO.new w o, (Below.refl _ _).alloc (Nat.le_refl _) _⟩ ?_
  rintro W1 ⟨hb, hlow⟩
  have c6 := hb.c6
  have c12 := hb.c12
  have c13 := hb.c13
  have c14 := hb.c14
  have c15 := hb.c15
  have c16 := hb.c16
  go_cut [3] (fun s3 wx => s3 = .bool (textsB o) ∧ W1 = wx)
  case first =>
    as_aux_lemma =>
      go_wp2_with fail
      refine (maybe_any o.cls _ HF.out.cls).mono ?_
      rintro e w' ⟨rfl, rfl⟩
      cases t0 : okT o.cls with
      | false =>
        go_wp2
        go_meet
        case rel => exact ⟨by simp [textsB, t0], rfl⟩
      | true =>
      go_wp2_with fail
      refine (maybe_any o.zone _ HF.out.zone).mono ?_
      rintro e w' ⟨rfl, rfl⟩
      cases t1 : okT o.zone with
      | false =>
        go_wp2
        go_meet
        case rel => exact ⟨by simp [textsB, t0, t1], rfl⟩
      | true =>
      go_wp2_with fail
      refine (maybe_any o.node _ HF.out.node).mono ?_
      rintro e w' ⟨rfl, rfl⟩
      cases t2 : okT o.node with
      | false =>
        go_wp2
        go_meet
        case rel => exact ⟨by simp [textsB, t0, t1, t2], rfl⟩
      | true =>
      go_wp2_with fail
      refine (maybe_any o.claim _ HF.out.claim).mono ?_
      rintro e w' ⟨rfl, rfl⟩
      cases t3 : okT o.claim with
      | false =>
        go_wp2
        go_meet
        case rel => exact ⟨by simp [textsB, t0, t1, t2, t3], rfl⟩
      | true =>
      go_wp2_with fail
      refine (maybe_any o.volume _ HF.out.volume).mono ?_
      rintro e w' ⟨rfl, rfl⟩
      cases t4 : okT o.volume with
      | false =>
        go_wp2
        go_meet
        case rel => exact ⟨by simp [textsB, t0, t1, t2, t3, t4], rfl⟩
      | true =>
      go_wp2_with fail
      refine (maybe_any o.source _ HF.out.source).mono ?_
      rintro e w' ⟨rfl, rfl⟩
      go_wp2
      go_meet
      case rel => exact ⟨by simp [textsB, t0, t1, t2, t3, t4], rfl⟩
  case rest =>
    obtain ⟨rfl, rfl⟩ := hcut
    clear c6 c12 c13 c14 c15 c16
    as_aux_lemma =>
      obtain ⟨b0, b1, b2, b3, b4, b5, b6⟩ := B.out.1
      have HR : Hid (rightB o = kindB o) := by show _ = _; unfold rightB; simp only [inR_eq]; simp [b0, b1, b2, b3, b4, b5, b6]
      go_wp2_with fail
      refine wp_region_held_drew (S := fun W => BoxO W w.heap.size o) (by kernel_rfl) hb.drew (fun _ => ?_)
      refine HeldBy.gen (fun W => BoxO W w.heap.size o ∧ Below w.heap.size w W) ⟨hb.drew, hlow.drew⟩ ?_
      clear hb hlow
      rintro V0 ⟨hb, hlow⟩
      refine HeldBy.take (i := 0) rfl (by kernel_rfl) (by kernel_rfl) (by kernel_rfl) (fun _ _ _ h => h) (by rfl) (fun _ _ => by go_simp; rfl) (by go_simp; rfl) hb ?_
      refine HeldBy.take (i := 1) rfl (by kernel_rfl) (by kernel_rfl) (by kernel_rfl) (fun _ _ _ h => h) (by rfl) (fun _ h => by have c := BoxO.c1 h; go_simp; rfl) (by go_simp; rfl) hb ?_
      refine HeldBy.call (i := 2) (v := .bool true) rfl (by kernel_rfl) (by rfl) (by go_simp; exact ⟨rfl, rfl⟩) (by go_simp; rfl) ?_
      refine (refName_any o.name _ HF.out.name).mono ?_
      rintro e V1 ⟨rfl, hV⟩
      refine ⟨by first | rfl | simp [*], hV ▸ hb, ?_⟩
      replace hb : BoxO V1 _ _ := hV ▸ hb
      replace hlow : Below _ _ V1 := hV ▸ hlow
      clear hV
      refine HeldBy.take (i := 3) rfl (by kernel_rfl) (by kernel_rfl) (by kernel_rfl) (fun _ _ _ h => h) (by rfl) (fun _ _ => by go_simp; rfl) (by go_simp; rfl) hb ?_
      refine HeldBy.take (i := 4) rfl (by kernel_rfl) (by kernel_rfl) (by kernel_rfl) (fun _ _ _ h => h) (by rfl) (fun _ _ => by go_simp; rfl) (by go_simp; rfl) hb ?_
      refine HeldBy.take (i := 5) rfl (by kernel_rfl) (by kernel_rfl) (by kernel_rfl) (fun _ _ _ h => h) (by rfl) (fun _ h => load_obj h rfl (by go_simp)) (by go_simp; rfl) hb ?_
      refine HeldBy.take (i := 6) rfl (by kernel_rfl) (by kernel_rfl) (by kernel_rfl) (fun _ _ _ h => h) (by rfl) (fun _ h => load_obj h rfl (by go_simp)) (by go_simp; rfl) hb ?_
      refine HeldBy.call (i := 7) (v := encO (bareO o)) rfl (by kernel_rfl) (by rfl) (by go_simp; exact ⟨rfl, rfl⟩) (by go_simp; rfl) ?_
      refine (bare_any o _).mono ?_
      rintro e V2 ⟨rfl, hb1⟩
      refine ⟨by first | rfl | simp [*], hb.after hb1, ?_⟩
      replace hb := hb.after hb1
      replace hlow := hlow.trans (hb1.mono hlow.size)
      clear hb1
      refine HeldBy.take (i := 8) (v := .bool false) rfl (by kernel_rfl) (by kernel_rfl) (by kernel_rfl) (fun _ _ _ h => h) (by rfl) (fun _ _ => neq_objs rfl (by go_simp) (by go_simp) b1) (by go_simp; rfl) hb ?_
      refine HeldBy.take (i := 9) rfl (by kernel_rfl) (by kernel_rfl) (by kernel_rfl) (fun _ _ _ h => h) (by rfl) (fun _ _ => by go_simp; rfl) (by go_simp; rfl) hb ?_
      refine HeldBy.take (i := 10) rfl (by kernel_rfl) (by kernel_rfl) (by kernel_rfl) (fun _ _ _ h => h) (by rfl) (fun _ _ => by go_simp; rfl) (by go_simp; rfl) hb ?_
      refine HeldBy.take (i := 11) rfl (by kernel_rfl) (by kernel_rfl) (by kernel_rfl) (fun _ _ _ h => h) (by rfl) (fun _ _ => by go_simp; rfl) (by go_simp; rfl) hb ?_
      refine HeldBy.take (i := 12) rfl (by kernel_rfl) (by kernel_rfl) (by kernel_rfl) (fun _ _ _ h => h) (by rfl) (fun _ _ => by go_simp; rfl) (by go_simp; rfl) hb ?_
      refine HeldBy.take (i := 13) rfl (by kernel_rfl) (by kernel_rfl) (by kernel_rfl) (fun _ _ _ h => h) (by rfl) (fun _ _ => by go_simp; rfl) (by go_simp; rfl) hb ?_
      refine HeldBy.take (i := 14) rfl (by kernel_rfl) (by kernel_rfl) (by kernel_rfl) (fun _ _ _ h => h) (by rfl) (fun _ _ => by go_simp; rfl) (by go_simp; rfl) hb ?_
      refine HeldBy.take (i := 15) rfl (by kernel_rfl) (by kernel_rfl) (by kernel_rfl) (fun _ _ _ h => h) (by rfl) (fun _ _ => by go_simp; rfl) (by go_simp; rfl) hb ?_
      refine HeldBy.take (i := 16) rfl (by kernel_rfl) (by kernel_rfl) (by kernel_rfl) (fun _ _ _ h => h) (by rfl) (fun _ h => by have c := BoxO.c7 h; go_simp; rfl) (by go_simp; rfl) hb ?_
      refine HeldBy.take (i := 17) rfl (by kernel_rfl) (by kernel_rfl) (by kernel_rfl) (fun _ _ _ h => h) (by rfl) (fun _ _ => by go_simp; rfl) (by go_simp; rfl) hb ?_
      refine HeldBy.take (i := 18) rfl (by kernel_rfl) (by kernel_rfl) (by kernel_rfl) (fun _ _ _ h => h) (by rfl) (fun _ _ => by go_simp; rfl) (by go_simp; rfl) hb ?_
      refine HeldBy.take (i := 19) rfl (by kernel_rfl) (by kernel_rfl) (by kernel_rfl) (fun _ _ _ h => h) (by rfl) (fun _ _ => by go_simp; rfl) (by go_simp; rfl) hb ?_
      refine HeldBy.take (i := 20) rfl (by kernel_rfl) (by kernel_rfl) (by kernel_rfl) (fun _ _ _ h => h) (by rfl) (fun _ _ => by go_simp; rfl) (by go_simp; rfl) hb ?_
      refine HeldBy.take (i := 21) rfl (by kernel_rfl) (by kernel_rfl) (by kernel_rfl) (fun _ _ _ h => h) (by rfl) (fun _ h => by have c := BoxO.c7 h; go_simp; rfl) (by go_simp; rfl) hb ?_
      refine HeldBy.take (i := 22) rfl (by kernel_rfl) (by kernel_rfl) (by kernel_rfl) (fun _ _ _ h => h) (by rfl) (fun _ _ => by go_simp; rfl) (by go_simp; rfl) hb ?_
      refine HeldBy.take (i := 23) rfl (by kernel_rfl) (by kernel_rfl) (by kernel_rfl) (fun _ _ _ h => h) (by rfl) (fun _ _ => by go_simp; rfl) (by go_simp; rfl) hb ?_
      refine HeldBy.take (i := 24) rfl (by kernel_rfl) (by kernel_rfl) (by kernel_rfl) (fun _ _ _ h => h) (by rfl) (fun _ _ => by go_simp; rfl) (by go_simp; rfl) hb ?_
      refine HeldBy.take (i := 25) rfl (by kernel_rfl) (by kernel_rfl) (by kernel_rfl) (fun _ _ _ h => h) (by rfl) (fun _ _ => by go_simp; rfl) (by go_simp; rfl) hb ?_
      refine HeldBy.take (i := 26) rfl (by kernel_rfl) (by kernel_rfl) (by kernel_rfl) (fun _ _ _ h => h) (by rfl) (fun _ h => by have c := BoxO.c8 h; go_simp; rfl) (by go_simp; rfl) hb ?_
      refine HeldBy.take (i := 27) rfl (by kernel_rfl) (by kernel_rfl) (by kernel_rfl) (fun _ _ _ h => h) (by rfl) (fun _ _ => by go_simp; rfl) (by go_simp; rfl) hb ?_
      refine HeldBy.take (i := 28) rfl (by kernel_rfl) (by kernel_rfl) (by kernel_rfl) (fun _ _ _ h => h) (by rfl) (fun _ _ => by go_simp; rfl) (by go_simp; rfl) hb ?_
      refine HeldBy.take (i := 29) rfl (by kernel_rfl) (by kernel_rfl) (by kernel_rfl) (fun _ _ _ h => h) (by rfl) (fun _ _ => by go_simp; rfl) (by go_simp; rfl) hb ?_
      refine HeldBy.take (i := 30) rfl (by kernel_rfl) (by kernel_rfl) (by kernel_rfl) (fun _ _ _ h => h) (by rfl) (fun _ _ => by go_simp; rfl) (by go_simp; rfl) hb ?_
      refine HeldBy.take (i := 31) rfl (by kernel_rfl) (by kernel_rfl) (by kernel_rfl) (fun _ _ _ h => h) (by rfl) (fun _ h => by have c := BoxO.c8 h; go_simp; rfl) (by go_simp; rfl) hb ?_
      refine HeldBy.take (i := 32) rfl (by kernel_rfl) (by kernel_rfl) (by kernel_rfl) (fun _ _ _ h => h) (by rfl) (fun _ _ => by go_simp; rfl) (by go_simp; rfl) hb ?_
      refine HeldBy.take (i := 33) rfl (by kernel_rfl) (by kernel_rfl) (by kernel_rfl) (fun _ _ _ h => h) (by rfl) (fun _ _ => by go_simp; rfl) (by go_simp; rfl) hb ?_
      refine wpAnyH_done (by kernel_rfl) ?_ _
      go_upto_region 4 with (fail)
      refine wp_gen (fun W => BoxO W w.heap.size o ∧ Below w.heap.size w W) ⟨hb, hlow⟩ ?_
      clear hb hlow
      rintro V9 ⟨hb, hlow⟩
      have hz := texts_le b2
      clear b0 b1 b2 b3 b4 b5 b6
      as_aux_lemma =>
        have c9 := hb.c9
        go_cut [4] (fun s4 wx => s4 = .bool (modeB o.mode) ∧ V9 = wx)
        case first =>
          as_aux_lemma =>
            have ed : Hid (modeB o.mode = (decide (o.mode = 1) || decide (o.mode = 2))) := rfl
            by_cases h1 : o.mode = 1
            · have e1 := beq_yes h1
              have h1' := Lib.hid h1
              clear h1
              go_wp2
              go_meet
              case rel => exact ⟨by rw [ed.out, h1'.out]; rfl, rfl⟩
            · have e1 := beq_no h1
              have h1' := Lib.hid h1
              have e2 := beqD o.mode 2
              clear h1
              go_wp2
              go_meet
              case rel => exact ⟨by rw [ed.out, decide_eq_false h1'.out]; simp, rfl⟩
        case rest =>
        obtain ⟨rfl, rfl⟩ := hcut
        have c0 := hb.c0
        have c6 := hb.c6
        have c7 := hb.c7
        have c8 := hb.c8
        have c12 := hb.c12
        have c13 := hb.c13
        have c14 := hb.c14
        have c15 := hb.c15
        have c16 := hb.c16
        have c17 := hb.c17
        have c1 := hb.c1
        clear c9
        obtain ⟨k1, k2, k3, k4, k5, k6⟩ := B.out.2
        have e1 := beq_no k1
        have e2 := beq_no k2
        have e3 := beq_no k3
        have e4 := beq_no k4
        have e5 := beq_no k5
        have e6 := beq_yes k6
        replace HR := Lib.hid (HR.out.trans (show kindB o = _ by unfold kindB; rw [if_neg k1, if_neg k2, if_neg k3, if_neg k4, if_neg k5, if_pos k6]))
        clear k1 k2 k3 k4 k5 k6
        have H' : Hid (rightB o = !o.claim.toList.isEmpty) := by show _ = _; rw [HR.out, empI]
        go_wp2
        go_ret
        exact ⟨ret_bool H'.out.symm, hlow⟩
end Go.Proofs.Ytigoghhjncpgfaa.O
