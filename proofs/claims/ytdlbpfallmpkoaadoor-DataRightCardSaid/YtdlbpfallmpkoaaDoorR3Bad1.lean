/- The document's own Right, in parts. Laid by mkref.py. -/
import Derived.Test.YtdlbpfallmpkoaaDoorR3Base
namespace Go.Proofs.YtdlbpfallmpkoaaDoor.O
open Go.RowKit T
open Go.Lib

set_option maxRecDepth 100000 in
set_option maxHeartbeats 8000000 in
theorem refRight_bad0 (o : Obj) (w : World) (HF : Hid (Fit o)) (B : Hid (nameB o.name.data.toList = false)) :
    Calls Tryd.prog 18 #[encO o] w fun e w' => e = .returned (.bool (false)) ∧ Below w.heap.size w w' := by
  unfold encO
  go_enter Tryd.func18, Tryd.ntmps18
  go_upto_region 1 with (fail)
  refine wp_gen (fun W => BoxO W w.heap.size o ∧ Below w.heap.size w W) ⟨BoxO.new w o, (Below.refl _ _).alloc (Nat.le_refl _) _⟩ ?_
  rintro W1 ⟨hb, hlow⟩
  have c6 := hb.c6
  have c12 := hb.c12
  have c13 := hb.c13
  have c14 := hb.c14
  have c15 := hb.c15
  have c16 := hb.c16
  go_cut [3] (fun s3 wx => s3 = .bool (textsB o) ∧ W1 = wx)
  case first =>
    as_aux_lemma =>
      go_wp2_with fail
      refine (maybe_any o.cls _ HF.out.cls).mono ?_
      rintro e w' ⟨rfl, rfl⟩
      cases t0 : okT o.cls with
      | false =>
        go_wp2
        go_meet
        case rel => exact ⟨by simp [textsB, t0], rfl⟩
      | true =>
      go_wp2_with fail
      refine (maybe_any o.zone _ HF.out.zone).mono ?_
      rintro e w' ⟨rfl, rfl⟩
      cases t1 : okT o.zone with
      | false =>
        go_wp2
        go_meet
        case rel => exact ⟨by simp [textsB, t0, t1], rfl⟩
      | true =>
      go_wp2_with fail
      refine (maybe_any o.node _ HF.out.node).mono ?_
      rintro e w' ⟨rfl, rfl⟩
      cases t2 : okT o.node with
      | false =>
        go_wp2
        go_meet
        case rel => exact ⟨by simp [textsB, t0, t1, t2], rfl⟩
      | true =>
      go_wp2_with fail
      refine (maybe_any o.claim _ HF.out.claim).mono ?_
      rintro e w' ⟨rfl, rfl⟩
      cases t3 : okT o.claim with
      | false =>
        go_wp2
        go_meet
        case rel => exact ⟨by simp [textsB, t0, t1, t2, t3], rfl⟩
      | true =>
      go_wp2_with fail
      refine (maybe_any o.volume _ HF.out.volume).mono ?_
      rintro e w' ⟨rfl, rfl⟩
      cases t4 : okT o.volume with
      | false =>
        go_wp2
        go_meet
        case rel => exact ⟨by simp [textsB, t0, t1, t2, t3, t4], rfl⟩
      | true =>
      go_wp2_with fail
      refine (maybe_any o.source _ HF.out.source).mono ?_
      rintro e w' ⟨rfl, rfl⟩
      go_wp2
      go_meet
      case rel => exact ⟨by simp [textsB, t0, t1, t2, t3, t4], rfl⟩
  case rest =>
    obtain ⟨rfl, rfl⟩ := hcut
    clear c6 c12 c13 c14 c15 c16
    as_aux_lemma =>
      have b0 := B.out
      go_wp2_with fail
      refine wp_region_held_drew (S := fun W => BoxO W w.heap.size o) (by kernel_rfl) hb.drew (fun _ => ?_)
      refine HeldBy.gen (fun W => BoxO W w.heap.size o ∧ Below w.heap.size w W) ⟨hb.drew, hlow.drew⟩ ?_
      clear hb hlow
      rintro V0 ⟨hb, hlow⟩
      refine HeldBy.take (i := 0) rfl (by kernel_rfl) (by kernel_rfl) (by kernel_rfl) (fun _ _ _ h => h) (by rfl) (fun _ _ => by go_simp; rfl) (by go_simp; rfl) hb ?_
      refine HeldBy.take (i := 1) rfl (by kernel_rfl) (by kernel_rfl) (by kernel_rfl) (fun _ _ _ h => h) (by rfl) (fun _ h => by have c := BoxO.c1 h; go_simp; rfl) (by go_simp; rfl) hb ?_
      refine HeldBy.call (i := 2) (v := .bool false) rfl (by kernel_rfl) (by rfl) (by go_simp; exact ⟨rfl, rfl⟩) (by go_simp; rfl) ?_
      refine (refName_any o.name _ HF.out.name).mono ?_
      rintro e V1 ⟨rfl, hV⟩
      refine ⟨by first | rfl | simp [*], hV ▸ hb, ?_⟩
      replace hb : BoxO V1 _ _ := hV ▸ hb
      replace hlow : Below _ _ V1 := hV ▸ hlow
      clear hV
      refine HeldBy.take (i := 3) rfl (by kernel_rfl) (by kernel_rfl) (by kernel_rfl) (fun _ _ _ h => h) (by rfl) (fun _ _ => by go_simp; rfl) (by go_simp; rfl) hb ?_
      refine HeldBy.take (i := 4) rfl (by kernel_rfl) (by kernel_rfl) (by kernel_rfl) (fun _ _ _ h => h) (by rfl) (fun _ _ => by go_simp; rfl) (by go_simp; rfl) hb ?_
      refine HeldBy.skip (i := 5) rfl (by kernel_rfl) (by kernel_rfl) (by kernel_rfl) (fun _ _ _ h => h) (by rfl) (by go_simp; rfl) hb ?_
      refine HeldBy.skip (i := 6) rfl (by kernel_rfl) (by kernel_rfl) (by kernel_rfl) (fun _ _ _ h => h) (by rfl) (by go_simp; rfl) hb ?_
      refine HeldBy.skip (i := 7) rfl (by kernel_rfl) (by kernel_rfl) (by kernel_rfl) (fun _ _ _ h => h) (by rfl) (by go_simp; rfl) hb ?_
      refine HeldBy.skip (i := 8) rfl (by kernel_rfl) (by kernel_rfl) (by kernel_rfl) (fun _ _ _ h => h) (by rfl) (by go_simp; rfl) hb ?_
      refine HeldBy.take (i := 9) rfl (by kernel_rfl) (by kernel_rfl) (by kernel_rfl) (fun _ _ _ h => h) (by rfl) (fun _ _ => by go_simp; rfl) (by go_simp; rfl) hb ?_
      refine HeldBy.take (i := 10) rfl (by kernel_rfl) (by kernel_rfl) (by kernel_rfl) (fun _ _ _ h => h) (by rfl) (fun _ _ => by go_simp; rfl) (by go_simp; rfl) hb ?_
      refine HeldBy.skip (i := 11) rfl (by kernel_rfl) (by kernel_rfl) (by kernel_rfl) (fun _ _ _ h => h) (by rfl) (by go_simp; rfl) hb ?_
      refine HeldBy.skip (i := 12) rfl (by kernel_rfl) (by kernel_rfl) (by kernel_rfl) (fun _ _ _ h => h) (by rfl) (by go_simp; rfl) hb ?_
      refine HeldBy.take (i := 13) rfl (by kernel_rfl) (by kernel_rfl) (by kernel_rfl) (fun _ _ _ h => h) (by rfl) (fun _ _ => by go_simp; rfl) (by go_simp; rfl) hb ?_
      refine HeldBy.take (i := 14) rfl (by kernel_rfl) (by kernel_rfl) (by kernel_rfl) (fun _ _ _ h => h) (by rfl) (fun _ _ => by go_simp; rfl) (by go_simp; rfl) hb ?_
      refine HeldBy.skip (i := 15) rfl (by kernel_rfl) (by kernel_rfl) (by kernel_rfl) (fun _ _ _ h => h) (by rfl) (by go_simp; rfl) hb ?_
      refine HeldBy.skip (i := 16) rfl (by kernel_rfl) (by kernel_rfl) (by kernel_rfl) (fun _ _ _ h => h) (by rfl) (by go_simp; rfl) hb ?_
      refine HeldBy.skip (i := 17) rfl (by kernel_rfl) (by kernel_rfl) (by kernel_rfl) (fun _ _ _ h => h) (by rfl) (by go_simp; rfl) hb ?_
      refine HeldBy.take (i := 18) rfl (by kernel_rfl) (by kernel_rfl) (by kernel_rfl) (fun _ _ _ h => h) (by rfl) (fun _ _ => by go_simp; rfl) (by go_simp; rfl) hb ?_
      refine HeldBy.take (i := 19) rfl (by kernel_rfl) (by kernel_rfl) (by kernel_rfl) (fun _ _ _ h => h) (by rfl) (fun _ _ => by go_simp; rfl) (by go_simp; rfl) hb ?_
      refine HeldBy.skip (i := 20) rfl (by kernel_rfl) (by kernel_rfl) (by kernel_rfl) (fun _ _ _ h => h) (by rfl) (by go_simp; rfl) hb ?_
      refine HeldBy.skip (i := 21) rfl (by kernel_rfl) (by kernel_rfl) (by kernel_rfl) (fun _ _ _ h => h) (by rfl) (by go_simp; rfl) hb ?_
      refine HeldBy.skip (i := 22) rfl (by kernel_rfl) (by kernel_rfl) (by kernel_rfl) (fun _ _ _ h => h) (by rfl) (by go_simp; rfl) hb ?_
      refine HeldBy.take (i := 23) rfl (by kernel_rfl) (by kernel_rfl) (by kernel_rfl) (fun _ _ _ h => h) (by rfl) (fun _ _ => by go_simp; rfl) (by go_simp; rfl) hb ?_
      refine HeldBy.take (i := 24) rfl (by kernel_rfl) (by kernel_rfl) (by kernel_rfl) (fun _ _ _ h => h) (by rfl) (fun _ _ => by go_simp; rfl) (by go_simp; rfl) hb ?_
      refine HeldBy.skip (i := 25) rfl (by kernel_rfl) (by kernel_rfl) (by kernel_rfl) (fun _ _ _ h => h) (by rfl) (by go_simp; rfl) hb ?_
      refine HeldBy.skip (i := 26) rfl (by kernel_rfl) (by kernel_rfl) (by kernel_rfl) (fun _ _ _ h => h) (by rfl) (by go_simp; rfl) hb ?_
      refine HeldBy.skip (i := 27) rfl (by kernel_rfl) (by kernel_rfl) (by kernel_rfl) (fun _ _ _ h => h) (by rfl) (by go_simp; rfl) hb ?_
      refine HeldBy.take (i := 28) rfl (by kernel_rfl) (by kernel_rfl) (by kernel_rfl) (fun _ _ _ h => h) (by rfl) (fun _ _ => by go_simp; rfl) (by go_simp; rfl) hb ?_
      refine HeldBy.take (i := 29) rfl (by kernel_rfl) (by kernel_rfl) (by kernel_rfl) (fun _ _ _ h => h) (by rfl) (fun _ _ => by go_simp; rfl) (by go_simp; rfl) hb ?_
      refine HeldBy.skip (i := 30) rfl (by kernel_rfl) (by kernel_rfl) (by kernel_rfl) (fun _ _ _ h => h) (by rfl) (by go_simp; rfl) hb ?_
      refine HeldBy.skip (i := 31) rfl (by kernel_rfl) (by kernel_rfl) (by kernel_rfl) (fun _ _ _ h => h) (by rfl) (by go_simp; rfl) hb ?_
      refine HeldBy.skip (i := 32) rfl (by kernel_rfl) (by kernel_rfl) (by kernel_rfl) (fun _ _ _ h => h) (by rfl) (by go_simp; rfl) hb ?_
      refine HeldBy.take (i := 33) rfl (by kernel_rfl) (by kernel_rfl) (by kernel_rfl) (fun _ _ _ h => h) (by rfl) (fun _ _ => by go_simp; rfl) (by go_simp; rfl) hb ?_
      refine wpAnyH_done (by kernel_rfl) ?_ _
      go_wp2
      go_ret
      exact ⟨rfl, hlow⟩

set_option maxRecDepth 100000 in
set_option maxHeartbeats 8000000 in
theorem refRight_bad1 (o : Obj) (w : World) (HF : Hid (Fit o)) (B : Hid (nameB o.name.data.toList = true ∧ decide (o = bareO o) = false)) :
    Calls Tryd.prog 18 #[encO o] w fun e w' => e = .returned (.bool (false)) ∧ Below w.heap.size w w' := by
  unfold encO
  go_enter Tryd.func18, Tryd.ntmps18
  go_upto_region 1 with (fail)
  refine wp_gen (fun W => BoxO W w.heap.size o ∧ Below w.heap.size w W) ⟨BoxO.new w o, (Below.refl _ _).alloc (Nat.le_refl _) _⟩ ?_
  rintro W1 ⟨hb, hlow⟩
  have c6 := hb.c6
  have c12 := hb.c12
  have c13 := hb.c13
  have c14 := hb.c14
  have c15 := hb.c15
  have c16 := hb.c16
  go_cut [3] (fun s3 wx => s3 = .bool (textsB o) ∧ W1 = wx)
  case first =>
    as_aux_lemma =>
      go_wp2_with fail
      refine (maybe_any o.cls _ HF.out.cls).mono ?_
      rintro e w' ⟨rfl, rfl⟩
      cases t0 : okT o.cls with
      | false =>
        go_wp2
        go_meet
        case rel => exact ⟨by simp [textsB, t0], rfl⟩
      | true =>
      go_wp2_with fail
      refine (maybe_any o.zone _ HF.out.zone).mono ?_
      rintro e w' ⟨rfl, rfl⟩
      cases t1 : okT o.zone with
      | false =>
        go_wp2
        go_meet
        case rel => exact ⟨by simp [textsB, t0, t1], rfl⟩
      | true =>
      go_wp2_with fail
      refine (maybe_any o.node _ HF.out.node).mono ?_
      rintro e w' ⟨rfl, rfl⟩
      cases t2 : okT o.node with
      | false =>
        go_wp2
        go_meet
        case rel => exact ⟨by simp [textsB, t0, t1, t2], rfl⟩
      | true =>
      go_wp2_with fail
      refine (maybe_any o.claim _ HF.out.claim).mono ?_
      rintro e w' ⟨rfl, rfl⟩
      cases t3 : okT o.claim with
      | false =>
        go_wp2
        go_meet
        case rel => exact ⟨by simp [textsB, t0, t1, t2, t3], rfl⟩
      | true =>
      go_wp2_with fail
      refine (maybe_any o.volume _ HF.out.volume).mono ?_
      rintro e w' ⟨rfl, rfl⟩
      cases t4 : okT o.volume with
      | false =>
        go_wp2
        go_meet
        case rel => exact ⟨by simp [textsB, t0, t1, t2, t3, t4], rfl⟩
      | true =>
      go_wp2_with fail
      refine (maybe_any o.source _ HF.out.source).mono ?_
      rintro e w' ⟨rfl, rfl⟩
      go_wp2
      go_meet
      case rel => exact ⟨by simp [textsB, t0, t1, t2, t3, t4], rfl⟩
  case rest =>
    obtain ⟨rfl, rfl⟩ := hcut
    clear c6 c12 c13 c14 c15 c16
    as_aux_lemma =>
      obtain ⟨b0, b1⟩ := B.out
      go_wp2_with fail
      refine wp_region_held_drew (S := fun W => BoxO W w.heap.size o) (by kernel_rfl) hb.drew (fun _ => ?_)
      refine HeldBy.gen (fun W => BoxO W w.heap.size o ∧ Below w.heap.size w W) ⟨hb.drew, hlow.drew⟩ ?_
      clear hb hlow
      rintro V0 ⟨hb, hlow⟩
      refine HeldBy.take (i := 0) rfl (by kernel_rfl) (by kernel_rfl) (by kernel_rfl) (fun _ _ _ h => h) (by rfl) (fun _ _ => by go_simp; rfl) (by go_simp; rfl) hb ?_
      refine HeldBy.take (i := 1) rfl (by kernel_rfl) (by kernel_rfl) (by kernel_rfl) (fun _ _ _ h => h) (by rfl) (fun _ h => by have c := BoxO.c1 h; go_simp; rfl) (by go_simp; rfl) hb ?_
      refine HeldBy.call (i := 2) (v := .bool true) rfl (by kernel_rfl) (by rfl) (by go_simp; exact ⟨rfl, rfl⟩) (by go_simp; rfl) ?_
      refine (refName_any o.name _ HF.out.name).mono ?_
      rintro e V1 ⟨rfl, hV⟩
      refine ⟨by first | rfl | simp [*], hV ▸ hb, ?_⟩
      replace hb : BoxO V1 _ _ := hV ▸ hb
      replace hlow : Below _ _ V1 := hV ▸ hlow
      clear hV
      refine HeldBy.take (i := 3) rfl (by kernel_rfl) (by kernel_rfl) (by kernel_rfl) (fun _ _ _ h => h) (by rfl) (fun _ _ => by go_simp; rfl) (by go_simp; rfl) hb ?_
      refine HeldBy.take (i := 4) rfl (by kernel_rfl) (by kernel_rfl) (by kernel_rfl) (fun _ _ _ h => h) (by rfl) (fun _ _ => by go_simp; rfl) (by go_simp; rfl) hb ?_
      refine HeldBy.take (i := 5) rfl (by kernel_rfl) (by kernel_rfl) (by kernel_rfl) (fun _ _ _ h => h) (by rfl) (fun _ h => load_obj h rfl (by go_simp)) (by go_simp; rfl) hb ?_
      refine HeldBy.take (i := 6) rfl (by kernel_rfl) (by kernel_rfl) (by kernel_rfl) (fun _ _ _ h => h) (by rfl) (fun _ h => load_obj h rfl (by go_simp)) (by go_simp; rfl) hb ?_
      refine HeldBy.call (i := 7) (v := encO (bareO o)) rfl (by kernel_rfl) (by rfl) (by go_simp; exact ⟨rfl, rfl⟩) (by go_simp; rfl) ?_
      refine (bare_any o _).mono ?_
      rintro e V2 ⟨rfl, hb1⟩
      refine ⟨by first | rfl | simp [*], hb.after hb1, ?_⟩
      replace hb := hb.after hb1
      replace hlow := hlow.trans (hb1.mono hlow.size)
      clear hb1
      refine HeldBy.take (i := 8) (v := .bool true) rfl (by kernel_rfl) (by kernel_rfl) (by kernel_rfl) (fun _ _ _ h => h) (by rfl) (fun _ _ => neq_objs rfl (by go_simp) (by go_simp) b1) (by go_simp; rfl) hb ?_
      refine HeldBy.take (i := 9) rfl (by kernel_rfl) (by kernel_rfl) (by kernel_rfl) (fun _ _ _ h => h) (by rfl) (fun _ _ => by go_simp; rfl) (by go_simp; rfl) hb ?_
      refine HeldBy.take (i := 10) rfl (by kernel_rfl) (by kernel_rfl) (by kernel_rfl) (fun _ _ _ h => h) (by rfl) (fun _ _ => by go_simp; rfl) (by go_simp; rfl) hb ?_
      refine HeldBy.skip (i := 11) rfl (by kernel_rfl) (by kernel_rfl) (by kernel_rfl) (fun _ _ _ h => h) (by rfl) (by go_simp; rfl) hb ?_
      refine HeldBy.skip (i := 12) rfl (by kernel_rfl) (by kernel_rfl) (by kernel_rfl) (fun _ _ _ h => h) (by rfl) (by go_simp; rfl) hb ?_
      refine HeldBy.take (i := 13) rfl (by kernel_rfl) (by kernel_rfl) (by kernel_rfl) (fun _ _ _ h => h) (by rfl) (fun _ _ => by go_simp; rfl) (by go_simp; rfl) hb ?_
      refine HeldBy.take (i := 14) rfl (by kernel_rfl) (by kernel_rfl) (by kernel_rfl) (fun _ _ _ h => h) (by rfl) (fun _ _ => by go_simp; rfl) (by go_simp; rfl) hb ?_
      refine HeldBy.skip (i := 15) rfl (by kernel_rfl) (by kernel_rfl) (by kernel_rfl) (fun _ _ _ h => h) (by rfl) (by go_simp; rfl) hb ?_
      refine HeldBy.skip (i := 16) rfl (by kernel_rfl) (by kernel_rfl) (by kernel_rfl) (fun _ _ _ h => h) (by rfl) (by go_simp; rfl) hb ?_
      refine HeldBy.skip (i := 17) rfl (by kernel_rfl) (by kernel_rfl) (by kernel_rfl) (fun _ _ _ h => h) (by rfl) (by go_simp; rfl) hb ?_
      refine HeldBy.take (i := 18) rfl (by kernel_rfl) (by kernel_rfl) (by kernel_rfl) (fun _ _ _ h => h) (by rfl) (fun _ _ => by go_simp; rfl) (by go_simp; rfl) hb ?_
      refine HeldBy.take (i := 19) rfl (by kernel_rfl) (by kernel_rfl) (by kernel_rfl) (fun _ _ _ h => h) (by rfl) (fun _ _ => by go_simp; rfl) (by go_simp; rfl) hb ?_
      refine HeldBy.skip (i := 20) rfl (by kernel_rfl) (by kernel_rfl) (by kernel_rfl) (fun _ _ _ h => h) (by rfl) (by go_simp; rfl) hb ?_
      refine HeldBy.skip (i := 21) rfl (by kernel_rfl) (by kernel_rfl) (by kernel_rfl) (fun _ _ _ h => h) (by rfl) (by go_simp; rfl) hb ?_
      refine HeldBy.skip (i := 22) rfl (by kernel_rfl) (by kernel_rfl) (by kernel_rfl) (fun _ _ _ h => h) (by rfl) (by go_simp; rfl) hb ?_
      refine HeldBy.take (i := 23) rfl (by kernel_rfl) (by kernel_rfl) (by kernel_rfl) (fun _ _ _ h => h) (by rfl) (fun _ _ => by go_simp; rfl) (by go_simp; rfl) hb ?_
      refine HeldBy.take (i := 24) rfl (by kernel_rfl) (by kernel_rfl) (by kernel_rfl) (fun _ _ _ h => h) (by rfl) (fun _ _ => by go_simp; rfl) (by go_simp; rfl) hb ?_
      refine HeldBy.skip (i := 25) rfl (by kernel_rfl) (by kernel_rfl) (by kernel_rfl) (fun _ _ _ h => h) (by rfl) (by go_simp; rfl) hb ?_
      refine HeldBy.skip (i := 26) rfl (by kernel_rfl) (by kernel_rfl) (by kernel_rfl) (fun _ _ _ h => h) (by rfl) (by go_simp; rfl) hb ?_
      refine HeldBy.skip (i := 27) rfl (by kernel_rfl) (by kernel_rfl) (by kernel_rfl) (fun _ _ _ h => h) (by rfl) (by go_simp; rfl) hb ?_
      refine HeldBy.take (i := 28) rfl (by kernel_rfl) (by kernel_rfl) (by kernel_rfl) (fun _ _ _ h => h) (by rfl) (fun _ _ => by go_simp; rfl) (by go_simp; rfl) hb ?_
      refine HeldBy.take (i := 29) rfl (by kernel_rfl) (by kernel_rfl) (by kernel_rfl) (fun _ _ _ h => h) (by rfl) (fun _ _ => by go_simp; rfl) (by go_simp; rfl) hb ?_
      refine HeldBy.skip (i := 30) rfl (by kernel_rfl) (by kernel_rfl) (by kernel_rfl) (fun _ _ _ h => h) (by rfl) (by go_simp; rfl) hb ?_
      refine HeldBy.skip (i := 31) rfl (by kernel_rfl) (by kernel_rfl) (by kernel_rfl) (fun _ _ _ h => h) (by rfl) (by go_simp; rfl) hb ?_
      refine HeldBy.skip (i := 32) rfl (by kernel_rfl) (by kernel_rfl) (by kernel_rfl) (fun _ _ _ h => h) (by rfl) (by go_simp; rfl) hb ?_
      refine HeldBy.take (i := 33) rfl (by kernel_rfl) (by kernel_rfl) (by kernel_rfl) (fun _ _ _ h => h) (by rfl) (fun _ _ => by go_simp; rfl) (by go_simp; rfl) hb ?_
      refine wpAnyH_done (by kernel_rfl) ?_ _
      go_wp2
      go_ret
      exact ⟨rfl, hlow⟩

set_option maxRecDepth 100000 in
set_option maxHeartbeats 8000000 in
theorem refRight_bad2 (o : Obj) (w : World) (HF : Hid (Fit o)) (B : Hid (nameB o.name.data.toList = true ∧ decide (o = bareO o) = true ∧ textsB o = false)) :
    Calls Tryd.prog 18 #[encO o] w fun e w' => e = .returned (.bool (false)) ∧ Below w.heap.size w w' := by
  unfold encO
  go_enter Tryd.func18, Tryd.ntmps18
  go_upto_region 1 with (fail)
  refine wp_gen (fun W => BoxO W w.heap.size o ∧ Below w.heap.size w W) ⟨BoxO.new w o, (Below.refl _ _).alloc (Nat.le_refl _) _⟩ ?_
  rintro W1 ⟨hb, hlow⟩
  have c6 := hb.c6
  have c12 := hb.c12
  have c13 := hb.c13
  have c14 := hb.c14
  have c15 := hb.c15
  have c16 := hb.c16
  go_cut [3] (fun s3 wx => s3 = .bool (textsB o) ∧ W1 = wx)
  case first =>
    as_aux_lemma =>
      go_wp2_with fail
      refine (maybe_any o.cls _ HF.out.cls).mono ?_
      rintro e w' ⟨rfl, rfl⟩
      cases t0 : okT o.cls with
      | false =>
        go_wp2
        go_meet
        case rel => exact ⟨by simp [textsB, t0], rfl⟩
      | true =>
      go_wp2_with fail
      refine (maybe_any o.zone _ HF.out.zone).mono ?_
      rintro e w' ⟨rfl, rfl⟩
      cases t1 : okT o.zone with
      | false =>
        go_wp2
        go_meet
        case rel => exact ⟨by simp [textsB, t0, t1], rfl⟩
      | true =>
      go_wp2_with fail
      refine (maybe_any o.node _ HF.out.node).mono ?_
      rintro e w' ⟨rfl, rfl⟩
      cases t2 : okT o.node with
      | false =>
        go_wp2
        go_meet
        case rel => exact ⟨by simp [textsB, t0, t1, t2], rfl⟩
      | true =>
      go_wp2_with fail
      refine (maybe_any o.claim _ HF.out.claim).mono ?_
      rintro e w' ⟨rfl, rfl⟩
      cases t3 : okT o.claim with
      | false =>
        go_wp2
        go_meet
        case rel => exact ⟨by simp [textsB, t0, t1, t2, t3], rfl⟩
      | true =>
      go_wp2_with fail
      refine (maybe_any o.volume _ HF.out.volume).mono ?_
      rintro e w' ⟨rfl, rfl⟩
      cases t4 : okT o.volume with
      | false =>
        go_wp2
        go_meet
        case rel => exact ⟨by simp [textsB, t0, t1, t2, t3, t4], rfl⟩
      | true =>
      go_wp2_with fail
      refine (maybe_any o.source _ HF.out.source).mono ?_
      rintro e w' ⟨rfl, rfl⟩
      go_wp2
      go_meet
      case rel => exact ⟨by simp [textsB, t0, t1, t2, t3, t4], rfl⟩
  case rest =>
    obtain ⟨rfl, rfl⟩ := hcut
    clear c6 c12 c13 c14 c15 c16
    as_aux_lemma =>
      obtain ⟨b0, b1, b2⟩ := B.out
      go_wp2_with fail
      refine wp_region_held_drew (S := fun W => BoxO W w.heap.size o) (by kernel_rfl) hb.drew (fun _ => ?_)
      refine HeldBy.gen (fun W => BoxO W w.heap.size o ∧ Below w.heap.size w W) ⟨hb.drew, hlow.drew⟩ ?_
      clear hb hlow
      rintro V0 ⟨hb, hlow⟩
      refine HeldBy.take (i := 0) rfl (by kernel_rfl) (by kernel_rfl) (by kernel_rfl) (fun _ _ _ h => h) (by rfl) (fun _ _ => by go_simp; rfl) (by go_simp; rfl) hb ?_
      refine HeldBy.take (i := 1) rfl (by kernel_rfl) (by kernel_rfl) (by kernel_rfl) (fun _ _ _ h => h) (by rfl) (fun _ h => by have c := BoxO.c1 h; go_simp; rfl) (by go_simp; rfl) hb ?_
      refine HeldBy.call (i := 2) (v := .bool true) rfl (by kernel_rfl) (by rfl) (by go_simp; exact ⟨rfl, rfl⟩) (by go_simp; rfl) ?_
      refine (refName_any o.name _ HF.out.name).mono ?_
      rintro e V1 ⟨rfl, hV⟩
      refine ⟨by first | rfl | simp [*], hV ▸ hb, ?_⟩
      replace hb : BoxO V1 _ _ := hV ▸ hb
      replace hlow : Below _ _ V1 := hV ▸ hlow
      clear hV
      refine HeldBy.take (i := 3) rfl (by kernel_rfl) (by kernel_rfl) (by kernel_rfl) (fun _ _ _ h => h) (by rfl) (fun _ _ => by go_simp; rfl) (by go_simp; rfl) hb ?_
      refine HeldBy.take (i := 4) rfl (by kernel_rfl) (by kernel_rfl) (by kernel_rfl) (fun _ _ _ h => h) (by rfl) (fun _ _ => by go_simp; rfl) (by go_simp; rfl) hb ?_
      refine HeldBy.take (i := 5) rfl (by kernel_rfl) (by kernel_rfl) (by kernel_rfl) (fun _ _ _ h => h) (by rfl) (fun _ h => load_obj h rfl (by go_simp)) (by go_simp; rfl) hb ?_
      refine HeldBy.take (i := 6) rfl (by kernel_rfl) (by kernel_rfl) (by kernel_rfl) (fun _ _ _ h => h) (by rfl) (fun _ h => load_obj h rfl (by go_simp)) (by go_simp; rfl) hb ?_
      refine HeldBy.call (i := 7) (v := encO (bareO o)) rfl (by kernel_rfl) (by rfl) (by go_simp; exact ⟨rfl, rfl⟩) (by go_simp; rfl) ?_
      refine (bare_any o _).mono ?_
      rintro e V2 ⟨rfl, hb1⟩
      refine ⟨by first | rfl | simp [*], hb.after hb1, ?_⟩
      replace hb := hb.after hb1
      replace hlow := hlow.trans (hb1.mono hlow.size)
      clear hb1
      refine HeldBy.take (i := 8) (v := .bool false) rfl (by kernel_rfl) (by kernel_rfl) (by kernel_rfl) (fun _ _ _ h => h) (by rfl) (fun _ _ => neq_objs rfl (by go_simp) (by go_simp) b1) (by go_simp; rfl) hb ?_
      refine HeldBy.take (i := 9) rfl (by kernel_rfl) (by kernel_rfl) (by kernel_rfl) (fun _ _ _ h => h) (by rfl) (fun _ _ => by go_simp; rfl) (by go_simp; rfl) hb ?_
      refine HeldBy.take (i := 10) rfl (by kernel_rfl) (by kernel_rfl) (by kernel_rfl) (fun _ _ _ h => h) (by rfl) (fun _ _ => by go_simp; rfl) (by go_simp; rfl) hb ?_
      refine HeldBy.take (i := 11) rfl (by kernel_rfl) (by kernel_rfl) (by kernel_rfl) (fun _ _ _ h => h) (by rfl) (fun _ _ => by go_simp; rfl) (by go_simp; rfl) hb ?_
      refine HeldBy.take (i := 12) rfl (by kernel_rfl) (by kernel_rfl) (by kernel_rfl) (fun _ _ _ h => h) (by rfl) (fun _ _ => by go_simp; rfl) (by go_simp; rfl) hb ?_
      refine HeldBy.take (i := 13) rfl (by kernel_rfl) (by kernel_rfl) (by kernel_rfl) (fun _ _ _ h => h) (by rfl) (fun _ _ => by go_simp; rfl) (by go_simp; rfl) hb ?_
      refine HeldBy.take (i := 14) rfl (by kernel_rfl) (by kernel_rfl) (by kernel_rfl) (fun _ _ _ h => h) (by rfl) (fun _ _ => by go_simp; rfl) (by go_simp; rfl) hb ?_
      refine HeldBy.skip (i := 15) rfl (by kernel_rfl) (by kernel_rfl) (by kernel_rfl) (fun _ _ _ h => h) (by rfl) (by go_simp; rfl) hb ?_
      refine HeldBy.skip (i := 16) rfl (by kernel_rfl) (by kernel_rfl) (by kernel_rfl) (fun _ _ _ h => h) (by rfl) (by go_simp; rfl) hb ?_
      refine HeldBy.skip (i := 17) rfl (by kernel_rfl) (by kernel_rfl) (by kernel_rfl) (fun _ _ _ h => h) (by rfl) (by go_simp; rfl) hb ?_
      refine HeldBy.take (i := 18) rfl (by kernel_rfl) (by kernel_rfl) (by kernel_rfl) (fun _ _ _ h => h) (by rfl) (fun _ _ => by go_simp; rfl) (by go_simp; rfl) hb ?_
      refine HeldBy.take (i := 19) rfl (by kernel_rfl) (by kernel_rfl) (by kernel_rfl) (fun _ _ _ h => h) (by rfl) (fun _ _ => by go_simp; rfl) (by go_simp; rfl) hb ?_
      refine HeldBy.skip (i := 20) rfl (by kernel_rfl) (by kernel_rfl) (by kernel_rfl) (fun _ _ _ h => h) (by rfl) (by go_simp; rfl) hb ?_
      refine HeldBy.skip (i := 21) rfl (by kernel_rfl) (by kernel_rfl) (by kernel_rfl) (fun _ _ _ h => h) (by rfl) (by go_simp; rfl) hb ?_
      refine HeldBy.skip (i := 22) rfl (by kernel_rfl) (by kernel_rfl) (by kernel_rfl) (fun _ _ _ h => h) (by rfl) (by go_simp; rfl) hb ?_
      refine HeldBy.take (i := 23) rfl (by kernel_rfl) (by kernel_rfl) (by kernel_rfl) (fun _ _ _ h => h) (by rfl) (fun _ _ => by go_simp; rfl) (by go_simp; rfl) hb ?_
      refine HeldBy.take (i := 24) rfl (by kernel_rfl) (by kernel_rfl) (by kernel_rfl) (fun _ _ _ h => h) (by rfl) (fun _ _ => by go_simp; rfl) (by go_simp; rfl) hb ?_
      refine HeldBy.skip (i := 25) rfl (by kernel_rfl) (by kernel_rfl) (by kernel_rfl) (fun _ _ _ h => h) (by rfl) (by go_simp; rfl) hb ?_
      refine HeldBy.skip (i := 26) rfl (by kernel_rfl) (by kernel_rfl) (by kernel_rfl) (fun _ _ _ h => h) (by rfl) (by go_simp; rfl) hb ?_
      refine HeldBy.skip (i := 27) rfl (by kernel_rfl) (by kernel_rfl) (by kernel_rfl) (fun _ _ _ h => h) (by rfl) (by go_simp; rfl) hb ?_
      refine HeldBy.take (i := 28) rfl (by kernel_rfl) (by kernel_rfl) (by kernel_rfl) (fun _ _ _ h => h) (by rfl) (fun _ _ => by go_simp; rfl) (by go_simp; rfl) hb ?_
      refine HeldBy.take (i := 29) rfl (by kernel_rfl) (by kernel_rfl) (by kernel_rfl) (fun _ _ _ h => h) (by rfl) (fun _ _ => by go_simp; rfl) (by go_simp; rfl) hb ?_
      refine HeldBy.skip (i := 30) rfl (by kernel_rfl) (by kernel_rfl) (by kernel_rfl) (fun _ _ _ h => h) (by rfl) (by go_simp; rfl) hb ?_
      refine HeldBy.skip (i := 31) rfl (by kernel_rfl) (by kernel_rfl) (by kernel_rfl) (fun _ _ _ h => h) (by rfl) (by go_simp; rfl) hb ?_
      refine HeldBy.skip (i := 32) rfl (by kernel_rfl) (by kernel_rfl) (by kernel_rfl) (fun _ _ _ h => h) (by rfl) (by go_simp; rfl) hb ?_
      refine HeldBy.take (i := 33) rfl (by kernel_rfl) (by kernel_rfl) (by kernel_rfl) (fun _ _ _ h => h) (by rfl) (fun _ _ => by go_simp; rfl) (by go_simp; rfl) hb ?_
      refine wpAnyH_done (by kernel_rfl) ?_ _
      go_wp2
      go_ret
      exact ⟨rfl, hlow⟩

set_option maxRecDepth 100000 in
set_option maxHeartbeats 8000000 in
theorem refRight_bad3 (o : Obj) (w : World) (HF : Hid (Fit o)) (B : Hid (nameB o.name.data.toList = true ∧ decide (o = bareO o) = true ∧ textsB o = true ∧ decide (o.size < 0) = true)) :
    Calls Tryd.prog 18 #[encO o] w fun e w' => e = .returned (.bool (false)) ∧ Below w.heap.size w w' := by
  unfold encO
  go_enter Tryd.func18, Tryd.ntmps18
  go_upto_region 1 with (fail)
  refine wp_gen (fun W => BoxO W w.heap.size o ∧ Below w.heap.size w W) ⟨BoxO.new w o, (Below.refl _ _).alloc (Nat.le_refl _) _⟩ ?_
  rintro W1 ⟨hb, hlow⟩
  have c6 := hb.c6
  have c12 := hb.c12
  have c13 := hb.c13
  have c14 := hb.c14
  have c15 := hb.c15
  have c16 := hb.c16
  go_cut [3] (fun s3 wx => s3 = .bool (textsB o) ∧ W1 = wx)
  case first =>
    as_aux_lemma =>
      go_wp2_with fail
      refine (maybe_any o.cls _ HF.out.cls).mono ?_
      rintro e w' ⟨rfl, rfl⟩
      cases t0 : okT o.cls with
      | false =>
        go_wp2
        go_meet
        case rel => exact ⟨by simp [textsB, t0], rfl⟩
      | true =>
      go_wp2_with fail
      refine (maybe_any o.zone _ HF.out.zone).mono ?_
      rintro e w' ⟨rfl, rfl⟩
      cases t1 : okT o.zone with
      | false =>
        go_wp2
        go_meet
        case rel => exact ⟨by simp [textsB, t0, t1], rfl⟩
      | true =>
      go_wp2_with fail
      refine (maybe_any o.node _ HF.out.node).mono ?_
      rintro e w' ⟨rfl, rfl⟩
      cases t2 : okT o.node with
      | false =>
        go_wp2
        go_meet
        case rel => exact ⟨by simp [textsB, t0, t1, t2], rfl⟩
      | true =>
      go_wp2_with fail
      refine (maybe_any o.claim _ HF.out.claim).mono ?_
      rintro e w' ⟨rfl, rfl⟩
      cases t3 : okT o.claim with
      | false =>
        go_wp2
        go_meet
        case rel => exact ⟨by simp [textsB, t0, t1, t2, t3], rfl⟩
      | true =>
      go_wp2_with fail
      refine (maybe_any o.volume _ HF.out.volume).mono ?_
      rintro e w' ⟨rfl, rfl⟩
      cases t4 : okT o.volume with
      | false =>
        go_wp2
        go_meet
        case rel => exact ⟨by simp [textsB, t0, t1, t2, t3, t4], rfl⟩
      | true =>
      go_wp2_with fail
      refine (maybe_any o.source _ HF.out.source).mono ?_
      rintro e w' ⟨rfl, rfl⟩
      go_wp2
      go_meet
      case rel => exact ⟨by simp [textsB, t0, t1, t2, t3, t4], rfl⟩
  case rest =>
    obtain ⟨rfl, rfl⟩ := hcut
    clear c6 c12 c13 c14 c15 c16
    as_aux_lemma =>
      obtain ⟨b0, b1, b2, b3⟩ := B.out
      go_wp2_with fail
      refine wp_region_held_drew (S := fun W => BoxO W w.heap.size o) (by kernel_rfl) hb.drew (fun _ => ?_)
      refine HeldBy.gen (fun W => BoxO W w.heap.size o ∧ Below w.heap.size w W) ⟨hb.drew, hlow.drew⟩ ?_
      clear hb hlow
      rintro V0 ⟨hb, hlow⟩
      refine HeldBy.take (i := 0) rfl (by kernel_rfl) (by kernel_rfl) (by kernel_rfl) (fun _ _ _ h => h) (by rfl) (fun _ _ => by go_simp; rfl) (by go_simp; rfl) hb ?_
      refine HeldBy.take (i := 1) rfl (by kernel_rfl) (by kernel_rfl) (by kernel_rfl) (fun _ _ _ h => h) (by rfl) (fun _ h => by have c := BoxO.c1 h; go_simp; rfl) (by go_simp; rfl) hb ?_
      refine HeldBy.call (i := 2) (v := .bool true) rfl (by kernel_rfl) (by rfl) (by go_simp; exact ⟨rfl, rfl⟩) (by go_simp; rfl) ?_
      refine (refName_any o.name _ HF.out.name).mono ?_
      rintro e V1 ⟨rfl, hV⟩
      refine ⟨by first | rfl | simp [*], hV ▸ hb, ?_⟩
      replace hb : BoxO V1 _ _ := hV ▸ hb
      replace hlow : Below _ _ V1 := hV ▸ hlow
      clear hV
      refine HeldBy.take (i := 3) rfl (by kernel_rfl) (by kernel_rfl) (by kernel_rfl) (fun _ _ _ h => h) (by rfl) (fun _ _ => by go_simp; rfl) (by go_simp; rfl) hb ?_
      refine HeldBy.take (i := 4) rfl (by kernel_rfl) (by kernel_rfl) (by kernel_rfl) (fun _ _ _ h => h) (by rfl) (fun _ _ => by go_simp; rfl) (by go_simp; rfl) hb ?_
      refine HeldBy.take (i := 5) rfl (by kernel_rfl) (by kernel_rfl) (by kernel_rfl) (fun _ _ _ h => h) (by rfl) (fun _ h => load_obj h rfl (by go_simp)) (by go_simp; rfl) hb ?_
      refine HeldBy.take (i := 6) rfl (by kernel_rfl) (by kernel_rfl) (by kernel_rfl) (fun _ _ _ h => h) (by rfl) (fun _ h => load_obj h rfl (by go_simp)) (by go_simp; rfl) hb ?_
      refine HeldBy.call (i := 7) (v := encO (bareO o)) rfl (by kernel_rfl) (by rfl) (by go_simp; exact ⟨rfl, rfl⟩) (by go_simp; rfl) ?_
      refine (bare_any o _).mono ?_
      rintro e V2 ⟨rfl, hb1⟩
      refine ⟨by first | rfl | simp [*], hb.after hb1, ?_⟩
      replace hb := hb.after hb1
      replace hlow := hlow.trans (hb1.mono hlow.size)
      clear hb1
      refine HeldBy.take (i := 8) (v := .bool false) rfl (by kernel_rfl) (by kernel_rfl) (by kernel_rfl) (fun _ _ _ h => h) (by rfl) (fun _ _ => neq_objs rfl (by go_simp) (by go_simp) b1) (by go_simp; rfl) hb ?_
      refine HeldBy.take (i := 9) rfl (by kernel_rfl) (by kernel_rfl) (by kernel_rfl) (fun _ _ _ h => h) (by rfl) (fun _ _ => by go_simp; rfl) (by go_simp; rfl) hb ?_
      refine HeldBy.take (i := 10) rfl (by kernel_rfl) (by kernel_rfl) (by kernel_rfl) (fun _ _ _ h => h) (by rfl) (fun _ _ => by go_simp; rfl) (by go_simp; rfl) hb ?_
      refine HeldBy.take (i := 11) rfl (by kernel_rfl) (by kernel_rfl) (by kernel_rfl) (fun _ _ _ h => h) (by rfl) (fun _ _ => by go_simp; rfl) (by go_simp; rfl) hb ?_
      refine HeldBy.take (i := 12) rfl (by kernel_rfl) (by kernel_rfl) (by kernel_rfl) (fun _ _ _ h => h) (by rfl) (fun _ _ => by go_simp; rfl) (by go_simp; rfl) hb ?_
      refine HeldBy.take (i := 13) rfl (by kernel_rfl) (by kernel_rfl) (by kernel_rfl) (fun _ _ _ h => h) (by rfl) (fun _ _ => by go_simp; rfl) (by go_simp; rfl) hb ?_
      refine HeldBy.take (i := 14) rfl (by kernel_rfl) (by kernel_rfl) (by kernel_rfl) (fun _ _ _ h => h) (by rfl) (fun _ _ => by go_simp; rfl) (by go_simp; rfl) hb ?_
      refine HeldBy.take (i := 15) rfl (by kernel_rfl) (by kernel_rfl) (by kernel_rfl) (fun _ _ _ h => h) (by rfl) (fun _ _ => by go_simp; rfl) (by go_simp; rfl) hb ?_
      refine HeldBy.take (i := 16) rfl (by kernel_rfl) (by kernel_rfl) (by kernel_rfl) (fun _ _ _ h => h) (by rfl) (fun _ h => by have c := BoxO.c7 h; go_simp; rfl) (by go_simp; rfl) hb ?_
      refine HeldBy.take (i := 17) rfl (by kernel_rfl) (by kernel_rfl) (by kernel_rfl) (fun _ _ _ h => h) (by rfl) (fun _ _ => by go_simp; rfl) (by go_simp; rfl) hb ?_
      refine HeldBy.take (i := 18) rfl (by kernel_rfl) (by kernel_rfl) (by kernel_rfl) (fun _ _ _ h => h) (by rfl) (fun _ _ => by go_simp; rfl) (by go_simp; rfl) hb ?_
      refine HeldBy.take (i := 19) rfl (by kernel_rfl) (by kernel_rfl) (by kernel_rfl) (fun _ _ _ h => h) (by rfl) (fun _ _ => by go_simp; rfl) (by go_simp; rfl) hb ?_
      refine HeldBy.skip (i := 20) rfl (by kernel_rfl) (by kernel_rfl) (by kernel_rfl) (fun _ _ _ h => h) (by rfl) (by go_simp; rfl) hb ?_
      refine HeldBy.skip (i := 21) rfl (by kernel_rfl) (by kernel_rfl) (by kernel_rfl) (fun _ _ _ h => h) (by rfl) (by go_simp; rfl) hb ?_
      refine HeldBy.skip (i := 22) rfl (by kernel_rfl) (by kernel_rfl) (by kernel_rfl) (fun _ _ _ h => h) (by rfl) (by go_simp; rfl) hb ?_
      refine HeldBy.take (i := 23) rfl (by kernel_rfl) (by kernel_rfl) (by kernel_rfl) (fun _ _ _ h => h) (by rfl) (fun _ _ => by go_simp; rfl) (by go_simp; rfl) hb ?_
      refine HeldBy.take (i := 24) rfl (by kernel_rfl) (by kernel_rfl) (by kernel_rfl) (fun _ _ _ h => h) (by rfl) (fun _ _ => by go_simp; rfl) (by go_simp; rfl) hb ?_
      refine HeldBy.skip (i := 25) rfl (by kernel_rfl) (by kernel_rfl) (by kernel_rfl) (fun _ _ _ h => h) (by rfl) (by go_simp; rfl) hb ?_
      refine HeldBy.skip (i := 26) rfl (by kernel_rfl) (by kernel_rfl) (by kernel_rfl) (fun _ _ _ h => h) (by rfl) (by go_simp; rfl) hb ?_
      refine HeldBy.skip (i := 27) rfl (by kernel_rfl) (by kernel_rfl) (by kernel_rfl) (fun _ _ _ h => h) (by rfl) (by go_simp; rfl) hb ?_
      refine HeldBy.take (i := 28) rfl (by kernel_rfl) (by kernel_rfl) (by kernel_rfl) (fun _ _ _ h => h) (by rfl) (fun _ _ => by go_simp; rfl) (by go_simp; rfl) hb ?_
      refine HeldBy.take (i := 29) rfl (by kernel_rfl) (by kernel_rfl) (by kernel_rfl) (fun _ _ _ h => h) (by rfl) (fun _ _ => by go_simp; rfl) (by go_simp; rfl) hb ?_
      refine HeldBy.skip (i := 30) rfl (by kernel_rfl) (by kernel_rfl) (by kernel_rfl) (fun _ _ _ h => h) (by rfl) (by go_simp; rfl) hb ?_
      refine HeldBy.skip (i := 31) rfl (by kernel_rfl) (by kernel_rfl) (by kernel_rfl) (fun _ _ _ h => h) (by rfl) (by go_simp; rfl) hb ?_
      refine HeldBy.skip (i := 32) rfl (by kernel_rfl) (by kernel_rfl) (by kernel_rfl) (fun _ _ _ h => h) (by rfl) (by go_simp; rfl) hb ?_
      refine HeldBy.take (i := 33) rfl (by kernel_rfl) (by kernel_rfl) (by kernel_rfl) (fun _ _ _ h => h) (by rfl) (fun _ _ => by go_simp; rfl) (by go_simp; rfl) hb ?_
      refine wpAnyH_done (by kernel_rfl) ?_ _
      go_wp2
      go_ret
      exact ⟨rfl, hlow⟩
end Go.Proofs.YtdlbpfallmpkoaaDoor.O
