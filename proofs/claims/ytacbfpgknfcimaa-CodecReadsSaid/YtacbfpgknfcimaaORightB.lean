/- What a claim and an attachment must be to be right: drawn regions, walked by hand. Laid by mkright.py. -/
import Derived.Test.YtacbfpgknfcimaaORightA
import Derived.Test.YtacbfpgknfcimaaHeldBy
namespace Go.Proofs.Ytacbfpgknfcimaa.O
open Go.RowKit T
open Go.Lib hiding intOf

set_option maxRecDepth 100000 in
set_option maxHeartbeats 4000000 in
theorem rightAttach_any (o : Obj) (w : World) (hz : o.volume.size ≤ 140737488351232 ∧ o.node.size ≤ 140737488351232) :
    Calls Try.prog 75 #[encO o] w fun e w' => e = .returned (.bool (attachB o)) ∧ Below w.heap.size w w' := by
  unfold encO
  cases b0 : (!emp o.volume && !emp o.node) with
  | false =>
    have H : Hid (attachB o = false) := by show _ = _; unfold attachB; simp [b0]
    go_enter Try.func75, Try.ntmps75
    go_upto_region 1 with (fail)
    refine wp_gen (fun W => BoxO W w.heap.size o ∧ Below w.heap.size w W) ⟨BoxO.new w o, (Below.refl _ _).alloc (Nat.le_refl _) _⟩ ?_
    rintro W1 ⟨hb, hlow⟩
    refine wp_region_held_drew (S := fun W => BoxO W w.heap.size o) (by kernel_rfl) hb.drew (fun _ => ?_)
    refine HeldBy.gen (fun W => BoxO W w.heap.size o ∧ Below w.heap.size w W) ⟨hb.drew, hlow.drew⟩ ?_
    clear hb hlow
    rintro V0 ⟨hb, hlow⟩
    refine HeldBy.take (i := 0) rfl (by kernel_rfl) (by kernel_rfl) (by kernel_rfl) (fun _ _ _ h => h) (by rfl) (fun _ _ => by go_simp; rfl) (by go_simp; rfl) hb ?_
    refine HeldBy.take (i := 1) rfl (by kernel_rfl) (by kernel_rfl) (by kernel_rfl) (fun _ _ _ h => h) (by rfl) (fun _ h => by have c := BoxO.c15 h; go_simp; rfl) (by go_simp; rfl) hb ?_
    refine HeldBy.take (i := 2) rfl (by kernel_rfl) (by kernel_rfl) (by kernel_rfl) (fun _ _ _ h => h) (by rfl) (fun _ _ => by go_simp; rfl) (by go_simp; rfl) hb ?_
    refine HeldBy.take (i := 3) rfl (by kernel_rfl) (by kernel_rfl) (by kernel_rfl) (fun _ _ _ h => h) (by rfl) (fun _ h => by have c := BoxO.c13 h; go_simp; rfl) (by go_simp; rfl) hb ?_
    refine HeldBy.value (i := 4) rfl (by kernel_rfl) (by rfl) (by go_simp; exact ⟨rfl, rfl⟩) (by go_simp; rfl) (hb.alloc _) ?_
    refine HeldBy.call (i := 5) (v := .bool false) rfl (by kernel_rfl) (by rfl) (by go_simp; exact ⟨rfl, rfl⟩) (by go_simp; rfl) ?_
    refine (noneEmpty2 o.volume o.node _ _ ?_ ?_).mono ?_
    · go_simp
    · go_simp
    rintro e V2 ⟨rfl, hV⟩
    refine ⟨by first | rfl | simp [*], hV ▸ hb.alloc _, ?_⟩
    replace hb : BoxO V2 _ _ := hV ▸ hb.alloc _
    replace hlow : Below _ _ V2 := hV ▸ hlow.alloc hlow.size _
    clear hV
    refine HeldBy.take (i := 6) rfl (by kernel_rfl) (by kernel_rfl) (by kernel_rfl) (fun _ _ _ h => h) (by rfl) (fun _ _ => by go_simp; rfl) (by go_simp; rfl) hb ?_
    refine HeldBy.skip (i := 7) rfl (by kernel_rfl) (by kernel_rfl) (by kernel_rfl) (fun _ _ _ h => h) (by rfl) (by go_simp; rfl) hb ?_
    refine HeldBy.skip (i := 8) rfl (by kernel_rfl) (by kernel_rfl) (by kernel_rfl) (fun _ _ _ h => h) (by rfl) (by go_simp; rfl) hb ?_
    refine HeldBy.skip (i := 9) rfl (by kernel_rfl) (by kernel_rfl) (by kernel_rfl) (fun _ _ _ h => h) (by rfl) (by go_simp; rfl) hb ?_
    refine HeldBy.take (i := 10) rfl (by kernel_rfl) (by kernel_rfl) (by kernel_rfl) (fun _ _ _ h => h) (by rfl) (fun _ _ => by go_simp; rfl) (by go_simp; rfl) hb ?_
    refine HeldBy.take (i := 11) rfl (by kernel_rfl) (by kernel_rfl) (by kernel_rfl) (fun _ _ _ h => h) (by rfl) (fun _ _ => by go_simp; rfl) (by go_simp; rfl) hb ?_
    refine HeldBy.skip (i := 12) rfl (by kernel_rfl) (by kernel_rfl) (by kernel_rfl) (fun _ _ _ h => h) (by rfl) (by go_simp; rfl) hb ?_
    refine HeldBy.skip (i := 13) rfl (by kernel_rfl) (by kernel_rfl) (by kernel_rfl) (fun _ _ _ h => h) (by rfl) (by go_simp; rfl) hb ?_
    refine HeldBy.skip (i := 14) rfl (by kernel_rfl) (by kernel_rfl) (by kernel_rfl) (fun _ _ _ h => h) (by rfl) (by go_simp; rfl) hb ?_
    refine HeldBy.skip (i := 15) rfl (by kernel_rfl) (by kernel_rfl) (by kernel_rfl) (fun _ _ _ h => h) (by rfl) (by go_simp; rfl) hb ?_
    refine HeldBy.skip (i := 16) rfl (by kernel_rfl) (by kernel_rfl) (by kernel_rfl) (fun _ _ _ h => h) (by rfl) (by go_simp; rfl) hb ?_
    refine HeldBy.skip (i := 17) rfl (by kernel_rfl) (by kernel_rfl) (by kernel_rfl) (fun _ _ _ h => h) (by rfl) (by go_simp; rfl) hb ?_
    refine HeldBy.skip (i := 18) rfl (by kernel_rfl) (by kernel_rfl) (by kernel_rfl) (fun _ _ _ h => h) (by rfl) (by go_simp; rfl) hb ?_
    refine HeldBy.skip (i := 19) rfl (by kernel_rfl) (by kernel_rfl) (by kernel_rfl) (fun _ _ _ h => h) (by rfl) (by go_simp; rfl) hb ?_
    refine HeldBy.take (i := 20) rfl (by kernel_rfl) (by kernel_rfl) (by kernel_rfl) (fun _ _ _ h => h) (by rfl) (fun _ _ => by go_simp; rfl) (by go_simp; rfl) hb ?_
    refine HeldBy.take (i := 21) rfl (by kernel_rfl) (by kernel_rfl) (by kernel_rfl) (fun _ _ _ h => h) (by rfl) (fun _ _ => by go_simp; rfl) (by go_simp; rfl) hb ?_
    refine HeldBy.skip (i := 22) rfl (by kernel_rfl) (by kernel_rfl) (by kernel_rfl) (fun _ _ _ h => h) (by rfl) (by go_simp; rfl) hb ?_
    refine HeldBy.skip (i := 23) rfl (by kernel_rfl) (by kernel_rfl) (by kernel_rfl) (fun _ _ _ h => h) (by rfl) (by go_simp; rfl) hb ?_
    refine HeldBy.skip (i := 24) rfl (by kernel_rfl) (by kernel_rfl) (by kernel_rfl) (fun _ _ _ h => h) (by rfl) (by go_simp; rfl) hb ?_
    refine HeldBy.skip (i := 25) rfl (by kernel_rfl) (by kernel_rfl) (by kernel_rfl) (fun _ _ _ h => h) (by rfl) (by go_simp; rfl) hb ?_
    refine HeldBy.take (i := 26) rfl (by kernel_rfl) (by kernel_rfl) (by kernel_rfl) (fun _ _ _ h => h) (by rfl) (fun _ _ => by go_simp; rfl) (by go_simp; rfl) hb ?_
    refine HeldBy.take (i := 27) rfl (by kernel_rfl) (by kernel_rfl) (by kernel_rfl) (fun _ _ _ h => h) (by rfl) (fun _ _ => by go_simp; rfl) (by go_simp; rfl) hb ?_
    refine wpAnyH_done (by kernel_rfl) ?_ _
    go_wp2
    go_ret
    exact ⟨ret_bool (by rw [H.out]), hlow⟩
  | true =>
    cases b1 : noSl o.node with
    | false =>
      have H : Hid (attachB o = false) := by show _ = _; unfold attachB; simp [b0, b1]
      go_enter Try.func75, Try.ntmps75
      go_upto_region 1 with (fail)
      refine wp_gen (fun W => BoxO W w.heap.size o ∧ Below w.heap.size w W) ⟨BoxO.new w o, (Below.refl _ _).alloc (Nat.le_refl _) _⟩ ?_
      rintro W1 ⟨hb, hlow⟩
      refine wp_region_held_drew (S := fun W => BoxO W w.heap.size o) (by kernel_rfl) hb.drew (fun _ => ?_)
      refine HeldBy.gen (fun W => BoxO W w.heap.size o ∧ Below w.heap.size w W) ⟨hb.drew, hlow.drew⟩ ?_
      clear hb hlow
      rintro V0 ⟨hb, hlow⟩
      refine HeldBy.take (i := 0) rfl (by kernel_rfl) (by kernel_rfl) (by kernel_rfl) (fun _ _ _ h => h) (by rfl) (fun _ _ => by go_simp; rfl) (by go_simp; rfl) hb ?_
      refine HeldBy.take (i := 1) rfl (by kernel_rfl) (by kernel_rfl) (by kernel_rfl) (fun _ _ _ h => h) (by rfl) (fun _ h => by have c := BoxO.c15 h; go_simp; rfl) (by go_simp; rfl) hb ?_
      refine HeldBy.take (i := 2) rfl (by kernel_rfl) (by kernel_rfl) (by kernel_rfl) (fun _ _ _ h => h) (by rfl) (fun _ _ => by go_simp; rfl) (by go_simp; rfl) hb ?_
      refine HeldBy.take (i := 3) rfl (by kernel_rfl) (by kernel_rfl) (by kernel_rfl) (fun _ _ _ h => h) (by rfl) (fun _ h => by have c := BoxO.c13 h; go_simp; rfl) (by go_simp; rfl) hb ?_
      refine HeldBy.value (i := 4) rfl (by kernel_rfl) (by rfl) (by go_simp; exact ⟨rfl, rfl⟩) (by go_simp; rfl) (hb.alloc _) ?_
      refine HeldBy.call (i := 5) (v := .bool true) rfl (by kernel_rfl) (by rfl) (by go_simp; exact ⟨rfl, rfl⟩) (by go_simp; rfl) ?_
      refine (noneEmpty2 o.volume o.node _ _ ?_ ?_).mono ?_
      · go_simp
      · go_simp
      rintro e V2 ⟨rfl, hV⟩
      refine ⟨by first | rfl | simp [*], hV ▸ hb.alloc _, ?_⟩
      replace hb : BoxO V2 _ _ := hV ▸ hb.alloc _
      replace hlow : Below _ _ V2 := hV ▸ hlow.alloc hlow.size _
      clear hV
      refine HeldBy.take (i := 6) rfl (by kernel_rfl) (by kernel_rfl) (by kernel_rfl) (fun _ _ _ h => h) (by rfl) (fun _ _ => by go_simp; rfl) (by go_simp; rfl) hb ?_
      refine HeldBy.take (i := 7) rfl (by kernel_rfl) (by kernel_rfl) (by kernel_rfl) (fun _ _ _ h => h) (by rfl) (fun _ _ => by go_simp; rfl) (by go_simp; rfl) hb ?_
      refine HeldBy.take (i := 8) rfl (by kernel_rfl) (by kernel_rfl) (by kernel_rfl) (fun _ _ _ h => h) (by rfl) (fun _ h => by have c := BoxO.c13 h; go_simp; rfl) (by go_simp; rfl) hb ?_
      refine HeldBy.call (i := 9) (v := .bool false) rfl (by kernel_rfl) (by rfl) (by go_simp; exact ⟨rfl, rfl⟩) (by go_simp; rfl) ?_
      refine (noSlash_any o.node _).mono ?_
      rintro e V3 ⟨rfl, hV⟩
      refine ⟨by first | rfl | simp [*], hV ▸ hb, ?_⟩
      replace hb : BoxO V3 _ _ := hV ▸ hb
      replace hlow : Below _ _ V3 := hV ▸ hlow
      clear hV
      refine HeldBy.take (i := 10) rfl (by kernel_rfl) (by kernel_rfl) (by kernel_rfl) (fun _ _ _ h => h) (by rfl) (fun _ _ => by go_simp; rfl) (by go_simp; rfl) hb ?_
      refine HeldBy.take (i := 11) rfl (by kernel_rfl) (by kernel_rfl) (by kernel_rfl) (fun _ _ _ h => h) (by rfl) (fun _ _ => by go_simp; rfl) (by go_simp; rfl) hb ?_
      refine HeldBy.skip (i := 12) rfl (by kernel_rfl) (by kernel_rfl) (by kernel_rfl) (fun _ _ _ h => h) (by rfl) (by go_simp; rfl) hb ?_
      refine HeldBy.skip (i := 13) rfl (by kernel_rfl) (by kernel_rfl) (by kernel_rfl) (fun _ _ _ h => h) (by rfl) (by go_simp; rfl) hb ?_
      refine HeldBy.skip (i := 14) rfl (by kernel_rfl) (by kernel_rfl) (by kernel_rfl) (fun _ _ _ h => h) (by rfl) (by go_simp; rfl) hb ?_
      refine HeldBy.skip (i := 15) rfl (by kernel_rfl) (by kernel_rfl) (by kernel_rfl) (fun _ _ _ h => h) (by rfl) (by go_simp; rfl) hb ?_
      refine HeldBy.skip (i := 16) rfl (by kernel_rfl) (by kernel_rfl) (by kernel_rfl) (fun _ _ _ h => h) (by rfl) (by go_simp; rfl) hb ?_
      refine HeldBy.skip (i := 17) rfl (by kernel_rfl) (by kernel_rfl) (by kernel_rfl) (fun _ _ _ h => h) (by rfl) (by go_simp; rfl) hb ?_
      refine HeldBy.skip (i := 18) rfl (by kernel_rfl) (by kernel_rfl) (by kernel_rfl) (fun _ _ _ h => h) (by rfl) (by go_simp; rfl) hb ?_
      refine HeldBy.skip (i := 19) rfl (by kernel_rfl) (by kernel_rfl) (by kernel_rfl) (fun _ _ _ h => h) (by rfl) (by go_simp; rfl) hb ?_
      refine HeldBy.take (i := 20) rfl (by kernel_rfl) (by kernel_rfl) (by kernel_rfl) (fun _ _ _ h => h) (by rfl) (fun _ _ => by go_simp; rfl) (by go_simp; rfl) hb ?_
      refine HeldBy.take (i := 21) rfl (by kernel_rfl) (by kernel_rfl) (by kernel_rfl) (fun _ _ _ h => h) (by rfl) (fun _ _ => by go_simp; rfl) (by go_simp; rfl) hb ?_
      refine HeldBy.skip (i := 22) rfl (by kernel_rfl) (by kernel_rfl) (by kernel_rfl) (fun _ _ _ h => h) (by rfl) (by go_simp; rfl) hb ?_
      refine HeldBy.skip (i := 23) rfl (by kernel_rfl) (by kernel_rfl) (by kernel_rfl) (fun _ _ _ h => h) (by rfl) (by go_simp; rfl) hb ?_
      refine HeldBy.skip (i := 24) rfl (by kernel_rfl) (by kernel_rfl) (by kernel_rfl) (fun _ _ _ h => h) (by rfl) (by go_simp; rfl) hb ?_
      refine HeldBy.skip (i := 25) rfl (by kernel_rfl) (by kernel_rfl) (by kernel_rfl) (fun _ _ _ h => h) (by rfl) (by go_simp; rfl) hb ?_
      refine HeldBy.take (i := 26) rfl (by kernel_rfl) (by kernel_rfl) (by kernel_rfl) (fun _ _ _ h => h) (by rfl) (fun _ _ => by go_simp; rfl) (by go_simp; rfl) hb ?_
      refine HeldBy.take (i := 27) rfl (by kernel_rfl) (by kernel_rfl) (by kernel_rfl) (fun _ _ _ h => h) (by rfl) (fun _ _ => by go_simp; rfl) (by go_simp; rfl) hb ?_
      refine wpAnyH_done (by kernel_rfl) ?_ _
      go_wp2
      go_ret
      exact ⟨ret_bool (by rw [H.out]), hlow⟩
    | true =>
      cases b2 : decide (o.name = attachN o.volume o.node) with
      | false =>
        have H : Hid (attachB o = false) := by show _ = _; unfold attachB; simp [b0, b1, b2]
        have en : (o.name.toList == (attachN o.volume o.node).toList) = false := by rw [eqB]; exact b2
        go_enter Try.func75, Try.ntmps75
        go_upto_region 1 with (fail)
        refine wp_gen (fun W => BoxO W w.heap.size o ∧ Below w.heap.size w W) ⟨BoxO.new w o, (Below.refl _ _).alloc (Nat.le_refl _) _⟩ ?_
        rintro W1 ⟨hb, hlow⟩
        refine wp_region_held_drew (S := fun W => BoxO W w.heap.size o) (by kernel_rfl) hb.drew (fun _ => ?_)
        refine HeldBy.gen (fun W => BoxO W w.heap.size o ∧ Below w.heap.size w W) ⟨hb.drew, hlow.drew⟩ ?_
        clear hb hlow
        rintro V0 ⟨hb, hlow⟩
        refine HeldBy.take (i := 0) rfl (by kernel_rfl) (by kernel_rfl) (by kernel_rfl) (fun _ _ _ h => h) (by rfl) (fun _ _ => by go_simp; rfl) (by go_simp; rfl) hb ?_
        refine HeldBy.take (i := 1) rfl (by kernel_rfl) (by kernel_rfl) (by kernel_rfl) (fun _ _ _ h => h) (by rfl) (fun _ h => by have c := BoxO.c15 h; go_simp; rfl) (by go_simp; rfl) hb ?_
        refine HeldBy.take (i := 2) rfl (by kernel_rfl) (by kernel_rfl) (by kernel_rfl) (fun _ _ _ h => h) (by rfl) (fun _ _ => by go_simp; rfl) (by go_simp; rfl) hb ?_
        refine HeldBy.take (i := 3) rfl (by kernel_rfl) (by kernel_rfl) (by kernel_rfl) (fun _ _ _ h => h) (by rfl) (fun _ h => by have c := BoxO.c13 h; go_simp; rfl) (by go_simp; rfl) hb ?_
        refine HeldBy.value (i := 4) rfl (by kernel_rfl) (by rfl) (by go_simp; exact ⟨rfl, rfl⟩) (by go_simp; rfl) (hb.alloc _) ?_
        refine HeldBy.call (i := 5) (v := .bool true) rfl (by kernel_rfl) (by rfl) (by go_simp; exact ⟨rfl, rfl⟩) (by go_simp; rfl) ?_
        refine (noneEmpty2 o.volume o.node _ _ ?_ ?_).mono ?_
        · go_simp
        · go_simp
        rintro e V2 ⟨rfl, hV⟩
        refine ⟨by first | rfl | simp [*], hV ▸ hb.alloc _, ?_⟩
        replace hb : BoxO V2 _ _ := hV ▸ hb.alloc _
        replace hlow : Below _ _ V2 := hV ▸ hlow.alloc hlow.size _
        clear hV
        refine HeldBy.take (i := 6) rfl (by kernel_rfl) (by kernel_rfl) (by kernel_rfl) (fun _ _ _ h => h) (by rfl) (fun _ _ => by go_simp; rfl) (by go_simp; rfl) hb ?_
        refine HeldBy.take (i := 7) rfl (by kernel_rfl) (by kernel_rfl) (by kernel_rfl) (fun _ _ _ h => h) (by rfl) (fun _ _ => by go_simp; rfl) (by go_simp; rfl) hb ?_
        refine HeldBy.take (i := 8) rfl (by kernel_rfl) (by kernel_rfl) (by kernel_rfl) (fun _ _ _ h => h) (by rfl) (fun _ h => by have c := BoxO.c13 h; go_simp; rfl) (by go_simp; rfl) hb ?_
        refine HeldBy.call (i := 9) (v := .bool true) rfl (by kernel_rfl) (by rfl) (by go_simp; exact ⟨rfl, rfl⟩) (by go_simp; rfl) ?_
        refine (noSlash_any o.node _).mono ?_
        rintro e V3 ⟨rfl, hV⟩
        refine ⟨by first | rfl | simp [*], hV ▸ hb, ?_⟩
        replace hb : BoxO V3 _ _ := hV ▸ hb
        replace hlow : Below _ _ V3 := hV ▸ hlow
        clear hV
        refine HeldBy.take (i := 10) rfl (by kernel_rfl) (by kernel_rfl) (by kernel_rfl) (fun _ _ _ h => h) (by rfl) (fun _ _ => by go_simp; rfl) (by go_simp; rfl) hb ?_
        refine HeldBy.take (i := 11) rfl (by kernel_rfl) (by kernel_rfl) (by kernel_rfl) (fun _ _ _ h => h) (by rfl) (fun _ _ => by go_simp; rfl) (by go_simp; rfl) hb ?_
        refine HeldBy.take (i := 12) rfl (by kernel_rfl) (by kernel_rfl) (by kernel_rfl) (fun _ _ _ h => h) (by rfl) (fun _ _ => by go_simp; rfl) (by go_simp; rfl) hb ?_
        refine HeldBy.take (i := 13) rfl (by kernel_rfl) (by kernel_rfl) (by kernel_rfl) (fun _ _ _ h => h) (by rfl) (fun _ h => by have c := BoxO.c1 h; go_simp; rfl) (by go_simp; rfl) hb ?_
        refine HeldBy.take (i := 14) rfl (by kernel_rfl) (by kernel_rfl) (by kernel_rfl) (fun _ _ _ h => h) (by rfl) (fun _ _ => by go_simp; rfl) (by go_simp; rfl) hb ?_
        refine HeldBy.take (i := 15) rfl (by kernel_rfl) (by kernel_rfl) (by kernel_rfl) (fun _ _ _ h => h) (by rfl) (fun _ h => by have c := BoxO.c15 h; go_simp; rfl) (by go_simp; rfl) hb ?_
        refine HeldBy.take (i := 16) rfl (by kernel_rfl) (by kernel_rfl) (by kernel_rfl) (fun _ _ _ h => h) (by rfl) (fun _ _ => by go_simp; rfl) (by go_simp; rfl) hb ?_
        refine HeldBy.take (i := 17) rfl (by kernel_rfl) (by kernel_rfl) (by kernel_rfl) (fun _ _ _ h => h) (by rfl) (fun _ h => by have c := BoxO.c13 h; go_simp; rfl) (by go_simp; rfl) hb ?_
        refine HeldBy.call (i := 18) (v := .string (attachN o.volume o.node)) rfl (by kernel_rfl) (by rfl) (by go_simp; exact ⟨rfl, rfl⟩) (by go_simp; rfl) ?_
        refine (attachName_any o.volume o.node _ hz.1 hz.2).mono ?_
        rintro e V4 ⟨rfl, hV⟩
        refine ⟨by first | rfl | simp [*], hV ▸ hb, ?_⟩
        replace hb : BoxO V4 _ _ := hV ▸ hb
        replace hlow : Below _ _ V4 := hV ▸ hlow
        clear hV
        refine HeldBy.take (i := 19) rfl (by kernel_rfl) (by kernel_rfl) (by kernel_rfl) (fun _ _ _ h => h) (by rfl) (fun _ _ => by go_simp; rfl) (by go_simp; rfl) hb ?_
        refine HeldBy.take (i := 20) rfl (by kernel_rfl) (by kernel_rfl) (by kernel_rfl) (fun _ _ _ h => h) (by rfl) (fun _ _ => by go_simp; rfl) (by go_simp; rfl) hb ?_
        refine HeldBy.take (i := 21) rfl (by kernel_rfl) (by kernel_rfl) (by kernel_rfl) (fun _ _ _ h => h) (by rfl) (fun _ _ => by go_simp; rfl) (by go_simp; rfl) hb ?_
        refine HeldBy.skip (i := 22) rfl (by kernel_rfl) (by kernel_rfl) (by kernel_rfl) (fun _ _ _ h => h) (by rfl) (by go_simp; rfl) hb ?_
        refine HeldBy.skip (i := 23) rfl (by kernel_rfl) (by kernel_rfl) (by kernel_rfl) (fun _ _ _ h => h) (by rfl) (by go_simp; rfl) hb ?_
        refine HeldBy.skip (i := 24) rfl (by kernel_rfl) (by kernel_rfl) (by kernel_rfl) (fun _ _ _ h => h) (by rfl) (by go_simp; rfl) hb ?_
        refine HeldBy.skip (i := 25) rfl (by kernel_rfl) (by kernel_rfl) (by kernel_rfl) (fun _ _ _ h => h) (by rfl) (by go_simp; rfl) hb ?_
        refine HeldBy.take (i := 26) rfl (by kernel_rfl) (by kernel_rfl) (by kernel_rfl) (fun _ _ _ h => h) (by rfl) (fun _ _ => by go_simp; rfl) (by go_simp; rfl) hb ?_
        refine HeldBy.take (i := 27) rfl (by kernel_rfl) (by kernel_rfl) (by kernel_rfl) (fun _ _ _ h => h) (by rfl) (fun _ _ => by go_simp; rfl) (by go_simp; rfl) hb ?_
        refine wpAnyH_done (by kernel_rfl) ?_ _
        go_wp2
        go_ret
        exact ⟨ret_bool (by rw [H.out]), hlow⟩
      | true =>
        have H : Hid (attachB o = ph3 o.phase 7 8 9) := by show _ = _; unfold attachB; simp [b0, b1, b2]
        have en : (o.name.toList == (attachN o.volume o.node).toList) = true := by rw [eqB]; exact b2
        go_enter Try.func75, Try.ntmps75
        go_upto_region 1 with (fail)
        refine wp_gen (fun W => BoxO W w.heap.size o ∧ Below w.heap.size w W) ⟨BoxO.new w o, (Below.refl _ _).alloc (Nat.le_refl _) _⟩ ?_
        rintro W1 ⟨hb, hlow⟩
        refine wp_region_held_drew (S := fun W => BoxO W w.heap.size o) (by kernel_rfl) hb.drew (fun _ => ?_)
        refine HeldBy.gen (fun W => BoxO W w.heap.size o ∧ Below w.heap.size w W) ⟨hb.drew, hlow.drew⟩ ?_
        clear hb hlow
        rintro V0 ⟨hb, hlow⟩
        refine HeldBy.take (i := 0) rfl (by kernel_rfl) (by kernel_rfl) (by kernel_rfl) (fun _ _ _ h => h) (by rfl) (fun _ _ => by go_simp; rfl) (by go_simp; rfl) hb ?_
        refine HeldBy.take (i := 1) rfl (by kernel_rfl) (by kernel_rfl) (by kernel_rfl) (fun _ _ _ h => h) (by rfl) (fun _ h => by have c := BoxO.c15 h; go_simp; rfl) (by go_simp; rfl) hb ?_
        refine HeldBy.take (i := 2) rfl (by kernel_rfl) (by kernel_rfl) (by kernel_rfl) (fun _ _ _ h => h) (by rfl) (fun _ _ => by go_simp; rfl) (by go_simp; rfl) hb ?_
        refine HeldBy.take (i := 3) rfl (by kernel_rfl) (by kernel_rfl) (by kernel_rfl) (fun _ _ _ h => h) (by rfl) (fun _ h => by have c := BoxO.c13 h; go_simp; rfl) (by go_simp; rfl) hb ?_
        refine HeldBy.value (i := 4) rfl (by kernel_rfl) (by rfl) (by go_simp; exact ⟨rfl, rfl⟩) (by go_simp; rfl) (hb.alloc _) ?_
        refine HeldBy.call (i := 5) (v := .bool true) rfl (by kernel_rfl) (by rfl) (by go_simp; exact ⟨rfl, rfl⟩) (by go_simp; rfl) ?_
        refine (noneEmpty2 o.volume o.node _ _ ?_ ?_).mono ?_
        · go_simp
        · go_simp
        rintro e V2 ⟨rfl, hV⟩
        refine ⟨by first | rfl | simp [*], hV ▸ hb.alloc _, ?_⟩
        replace hb : BoxO V2 _ _ := hV ▸ hb.alloc _
        replace hlow : Below _ _ V2 := hV ▸ hlow.alloc hlow.size _
        clear hV
        refine HeldBy.take (i := 6) rfl (by kernel_rfl) (by kernel_rfl) (by kernel_rfl) (fun _ _ _ h => h) (by rfl) (fun _ _ => by go_simp; rfl) (by go_simp; rfl) hb ?_
        refine HeldBy.take (i := 7) rfl (by kernel_rfl) (by kernel_rfl) (by kernel_rfl) (fun _ _ _ h => h) (by rfl) (fun _ _ => by go_simp; rfl) (by go_simp; rfl) hb ?_
        refine HeldBy.take (i := 8) rfl (by kernel_rfl) (by kernel_rfl) (by kernel_rfl) (fun _ _ _ h => h) (by rfl) (fun _ h => by have c := BoxO.c13 h; go_simp; rfl) (by go_simp; rfl) hb ?_
        refine HeldBy.call (i := 9) (v := .bool true) rfl (by kernel_rfl) (by rfl) (by go_simp; exact ⟨rfl, rfl⟩) (by go_simp; rfl) ?_
        refine (noSlash_any o.node _).mono ?_
        rintro e V3 ⟨rfl, hV⟩
        refine ⟨by first | rfl | simp [*], hV ▸ hb, ?_⟩
        replace hb : BoxO V3 _ _ := hV ▸ hb
        replace hlow : Below _ _ V3 := hV ▸ hlow
        clear hV
        refine HeldBy.take (i := 10) rfl (by kernel_rfl) (by kernel_rfl) (by kernel_rfl) (fun _ _ _ h => h) (by rfl) (fun _ _ => by go_simp; rfl) (by go_simp; rfl) hb ?_
        refine HeldBy.take (i := 11) rfl (by kernel_rfl) (by kernel_rfl) (by kernel_rfl) (fun _ _ _ h => h) (by rfl) (fun _ _ => by go_simp; rfl) (by go_simp; rfl) hb ?_
        refine HeldBy.take (i := 12) rfl (by kernel_rfl) (by kernel_rfl) (by kernel_rfl) (fun _ _ _ h => h) (by rfl) (fun _ _ => by go_simp; rfl) (by go_simp; rfl) hb ?_
        refine HeldBy.take (i := 13) rfl (by kernel_rfl) (by kernel_rfl) (by kernel_rfl) (fun _ _ _ h => h) (by rfl) (fun _ h => by have c := BoxO.c1 h; go_simp; rfl) (by go_simp; rfl) hb ?_
        refine HeldBy.take (i := 14) rfl (by kernel_rfl) (by kernel_rfl) (by kernel_rfl) (fun _ _ _ h => h) (by rfl) (fun _ _ => by go_simp; rfl) (by go_simp; rfl) hb ?_
        refine HeldBy.take (i := 15) rfl (by kernel_rfl) (by kernel_rfl) (by kernel_rfl) (fun _ _ _ h => h) (by rfl) (fun _ h => by have c := BoxO.c15 h; go_simp; rfl) (by go_simp; rfl) hb ?_
        refine HeldBy.take (i := 16) rfl (by kernel_rfl) (by kernel_rfl) (by kernel_rfl) (fun _ _ _ h => h) (by rfl) (fun _ _ => by go_simp; rfl) (by go_simp; rfl) hb ?_
        refine HeldBy.take (i := 17) rfl (by kernel_rfl) (by kernel_rfl) (by kernel_rfl) (fun _ _ _ h => h) (by rfl) (fun _ h => by have c := BoxO.c13 h; go_simp; rfl) (by go_simp; rfl) hb ?_
        refine HeldBy.call (i := 18) (v := .string (attachN o.volume o.node)) rfl (by kernel_rfl) (by rfl) (by go_simp; exact ⟨rfl, rfl⟩) (by go_simp; rfl) ?_
        refine (attachName_any o.volume o.node _ hz.1 hz.2).mono ?_
        rintro e V4 ⟨rfl, hV⟩
        refine ⟨by first | rfl | simp [*], hV ▸ hb, ?_⟩
        replace hb : BoxO V4 _ _ := hV ▸ hb
        replace hlow : Below _ _ V4 := hV ▸ hlow
        clear hV
        refine HeldBy.take (i := 19) rfl (by kernel_rfl) (by kernel_rfl) (by kernel_rfl) (fun _ _ _ h => h) (by rfl) (fun _ _ => by go_simp; rfl) (by go_simp; rfl) hb ?_
        refine HeldBy.take (i := 20) rfl (by kernel_rfl) (by kernel_rfl) (by kernel_rfl) (fun _ _ _ h => h) (by rfl) (fun _ _ => by go_simp; rfl) (by go_simp; rfl) hb ?_
        refine HeldBy.take (i := 21) rfl (by kernel_rfl) (by kernel_rfl) (by kernel_rfl) (fun _ _ _ h => h) (by rfl) (fun _ _ => by go_simp; rfl) (by go_simp; rfl) hb ?_
        refine HeldBy.take (i := 22) rfl (by kernel_rfl) (by kernel_rfl) (by kernel_rfl) (fun _ _ _ h => h) (by rfl) (fun _ _ => by go_simp; rfl) (by go_simp; rfl) hb ?_
        refine HeldBy.take (i := 23) rfl (by kernel_rfl) (by kernel_rfl) (by kernel_rfl) (fun _ _ _ h => h) (by rfl) (fun _ h => by have c := BoxO.c17 h; go_simp; rfl) (by go_simp; rfl) hb ?_
        refine HeldBy.value (i := 24) rfl (by kernel_rfl) (by rfl) (by go_simp; exact ⟨rfl, rfl⟩) (by go_simp; rfl) (hb.alloc _) ?_
        refine HeldBy.call (i := 25) (v := .bool (ph3 o.phase 7 8 9)) rfl (by kernel_rfl) (by rfl) (by go_simp; exact ⟨rfl, rfl⟩) (by go_simp; rfl) ?_
        refine (oneOf3 o.phase 7 8 9 _ _ ?_ ?_ ?_).mono ?_
        · go_simp
        · go_simp
        · go_simp
        rintro e V6 ⟨rfl, hV⟩
        refine ⟨by first | rfl | simp [*], hV ▸ hb.alloc _, ?_⟩
        replace hb : BoxO V6 _ _ := hV ▸ hb.alloc _
        replace hlow : Below _ _ V6 := hV ▸ hlow.alloc hlow.size _
        clear hV
        refine HeldBy.take (i := 26) rfl (by kernel_rfl) (by kernel_rfl) (by kernel_rfl) (fun _ _ _ h => h) (by rfl) (fun _ _ => by go_simp; rfl) (by go_simp; rfl) hb ?_
        refine HeldBy.take (i := 27) rfl (by kernel_rfl) (by kernel_rfl) (by kernel_rfl) (fun _ _ _ h => h) (by rfl) (fun _ _ => by go_simp; rfl) (by go_simp; rfl) hb ?_
        refine wpAnyH_done (by kernel_rfl) ?_ _
        go_wp2
        go_ret
        exact ⟨ret_bool (H.out.symm), hlow⟩
set_option maxRecDepth 100000 in
set_option maxHeartbeats 4000000 in
theorem rightClaim_any (o : Obj) (w : World) :
    Calls Try.prog 73 #[encO o] w fun e w' => e = .returned (.bool (claimB o)) ∧ Below w.heap.size w w' := by
  unfold encO
  cases b0 : (!emp o.cls) with
  | false =>
    have H : Hid (claimB o = false) := by show _ = _; unfold claimB; simp [b0]
    go_enter Try.func73, Try.ntmps73
    go_upto_region 1 with (fail)
    refine wp_gen (fun W => BoxO W w.heap.size o ∧ Below w.heap.size w W) ⟨BoxO.new w o, (Below.refl _ _).alloc (Nat.le_refl _) _⟩ ?_
    rintro W1 ⟨hb, hlow⟩
    refine wp_region_held_drew (S := fun W => BoxO W w.heap.size o) (by kernel_rfl) hb.drew (fun _ => ?_)
    refine HeldBy.gen (fun W => BoxO W w.heap.size o ∧ Below w.heap.size w W) ⟨hb.drew, hlow.drew⟩ ?_
    clear hb hlow
    rintro V0 ⟨hb, hlow⟩
    refine HeldBy.take (i := 0) rfl (by kernel_rfl) (by kernel_rfl) (by kernel_rfl) (fun _ _ _ h => h) (by rfl) (fun _ _ => by go_simp; rfl) (by go_simp; rfl) hb ?_
    refine HeldBy.take (i := 1) rfl (by kernel_rfl) (by kernel_rfl) (by kernel_rfl) (fun _ _ _ h => h) (by rfl) (fun _ h => by have c := BoxO.c6 h; go_simp; rfl) (by go_simp; rfl) hb ?_
    refine HeldBy.value (i := 2) rfl (by kernel_rfl) (by rfl) (by go_simp; exact ⟨rfl, rfl⟩) (by go_simp; rfl) (hb.alloc _) ?_
    refine HeldBy.call (i := 3) (v := .bool false) rfl (by kernel_rfl) (by rfl) (by go_simp; exact ⟨rfl, rfl⟩) (by go_simp; rfl) ?_
    refine (noneEmpty1 o.cls _ _ ?_).mono ?_
    · go_simp
    rintro e V2 ⟨rfl, hV⟩
    refine ⟨by first | rfl | simp [*], hV ▸ hb.alloc _, ?_⟩
    replace hb : BoxO V2 _ _ := hV ▸ hb.alloc _
    replace hlow : Below _ _ V2 := hV ▸ hlow.alloc hlow.size _
    clear hV
    refine HeldBy.take (i := 4) rfl (by kernel_rfl) (by kernel_rfl) (by kernel_rfl) (fun _ _ _ h => h) (by rfl) (fun _ _ => by go_simp; rfl) (by go_simp; rfl) hb ?_
    refine HeldBy.skip (i := 5) rfl (by kernel_rfl) (by kernel_rfl) (by kernel_rfl) (fun _ _ _ h => h) (by rfl) (by go_simp; rfl) hb ?_
    refine HeldBy.skip (i := 6) rfl (by kernel_rfl) (by kernel_rfl) (by kernel_rfl) (fun _ _ _ h => h) (by rfl) (by go_simp; rfl) hb ?_
    refine HeldBy.skip (i := 7) rfl (by kernel_rfl) (by kernel_rfl) (by kernel_rfl) (fun _ _ _ h => h) (by rfl) (by go_simp; rfl) hb ?_
    refine HeldBy.take (i := 8) rfl (by kernel_rfl) (by kernel_rfl) (by kernel_rfl) (fun _ _ _ h => h) (by rfl) (fun _ _ => by go_simp; rfl) (by go_simp; rfl) hb ?_
    refine HeldBy.take (i := 9) rfl (by kernel_rfl) (by kernel_rfl) (by kernel_rfl) (fun _ _ _ h => h) (by rfl) (fun _ _ => by go_simp; rfl) (by go_simp; rfl) hb ?_
    refine HeldBy.skip (i := 10) rfl (by kernel_rfl) (by kernel_rfl) (by kernel_rfl) (fun _ _ _ h => h) (by rfl) (by go_simp; rfl) hb ?_
    refine HeldBy.skip (i := 11) rfl (by kernel_rfl) (by kernel_rfl) (by kernel_rfl) (fun _ _ _ h => h) (by rfl) (by go_simp; rfl) hb ?_
    refine HeldBy.skip (i := 12) rfl (by kernel_rfl) (by kernel_rfl) (by kernel_rfl) (fun _ _ _ h => h) (by rfl) (by go_simp; rfl) hb ?_
    refine HeldBy.take (i := 13) rfl (by kernel_rfl) (by kernel_rfl) (by kernel_rfl) (fun _ _ _ h => h) (by rfl) (fun _ _ => by go_simp; rfl) (by go_simp; rfl) hb ?_
    refine HeldBy.take (i := 14) rfl (by kernel_rfl) (by kernel_rfl) (by kernel_rfl) (fun _ _ _ h => h) (by rfl) (fun _ _ => by go_simp; rfl) (by go_simp; rfl) hb ?_
    refine HeldBy.skip (i := 15) rfl (by kernel_rfl) (by kernel_rfl) (by kernel_rfl) (fun _ _ _ h => h) (by rfl) (by go_simp; rfl) hb ?_
    refine HeldBy.skip (i := 16) rfl (by kernel_rfl) (by kernel_rfl) (by kernel_rfl) (fun _ _ _ h => h) (by rfl) (by go_simp; rfl) hb ?_
    refine HeldBy.skip (i := 17) rfl (by kernel_rfl) (by kernel_rfl) (by kernel_rfl) (fun _ _ _ h => h) (by rfl) (by go_simp; rfl) hb ?_
    refine HeldBy.skip (i := 18) rfl (by kernel_rfl) (by kernel_rfl) (by kernel_rfl) (fun _ _ _ h => h) (by rfl) (by go_simp; rfl) hb ?_
    refine HeldBy.take (i := 19) rfl (by kernel_rfl) (by kernel_rfl) (by kernel_rfl) (fun _ _ _ h => h) (by rfl) (fun _ _ => by go_simp; rfl) (by go_simp; rfl) hb ?_
    refine HeldBy.take (i := 20) rfl (by kernel_rfl) (by kernel_rfl) (by kernel_rfl) (fun _ _ _ h => h) (by rfl) (fun _ _ => by go_simp; rfl) (by go_simp; rfl) hb ?_
    refine HeldBy.skip (i := 21) rfl (by kernel_rfl) (by kernel_rfl) (by kernel_rfl) (fun _ _ _ h => h) (by rfl) (by go_simp; rfl) hb ?_
    refine HeldBy.skip (i := 22) rfl (by kernel_rfl) (by kernel_rfl) (by kernel_rfl) (fun _ _ _ h => h) (by rfl) (by go_simp; rfl) hb ?_
    refine HeldBy.skip (i := 23) rfl (by kernel_rfl) (by kernel_rfl) (by kernel_rfl) (fun _ _ _ h => h) (by rfl) (by go_simp; rfl) hb ?_
    refine HeldBy.skip (i := 24) rfl (by kernel_rfl) (by kernel_rfl) (by kernel_rfl) (fun _ _ _ h => h) (by rfl) (by go_simp; rfl) hb ?_
    refine HeldBy.skip (i := 25) rfl (by kernel_rfl) (by kernel_rfl) (by kernel_rfl) (fun _ _ _ h => h) (by rfl) (by go_simp; rfl) hb ?_
    refine HeldBy.skip (i := 26) rfl (by kernel_rfl) (by kernel_rfl) (by kernel_rfl) (fun _ _ _ h => h) (by rfl) (by go_simp; rfl) hb ?_
    refine HeldBy.skip (i := 27) rfl (by kernel_rfl) (by kernel_rfl) (by kernel_rfl) (fun _ _ _ h => h) (by rfl) (by go_simp; rfl) hb ?_
    refine HeldBy.skip (i := 28) rfl (by kernel_rfl) (by kernel_rfl) (by kernel_rfl) (fun _ _ _ h => h) (by rfl) (by go_simp; rfl) hb ?_
    refine HeldBy.take (i := 29) rfl (by kernel_rfl) (by kernel_rfl) (by kernel_rfl) (fun _ _ _ h => h) (by rfl) (fun _ _ => by go_simp; rfl) (by go_simp; rfl) hb ?_
    refine HeldBy.take (i := 30) rfl (by kernel_rfl) (by kernel_rfl) (by kernel_rfl) (fun _ _ _ h => h) (by rfl) (fun _ _ => by go_simp; rfl) (by go_simp; rfl) hb ?_
    refine wpAnyH_done (by kernel_rfl) ?_ _
    go_wp2
    go_ret
    exact ⟨ret_bool (by rw [H.out]), hlow⟩
  | true =>
    cases b1 : decide (o.size ≠ 0) with
    | false =>
      have H : Hid (claimB o = false) := by show _ = _; unfold claimB; simp [b0, b1]
      have es : (o.size != 0) = false := by rw [← b1]; exact neB o.size
      go_enter Try.func73, Try.ntmps73
      go_upto_region 1 with (fail)
      refine wp_gen (fun W => BoxO W w.heap.size o ∧ Below w.heap.size w W) ⟨BoxO.new w o, (Below.refl _ _).alloc (Nat.le_refl _) _⟩ ?_
      rintro W1 ⟨hb, hlow⟩
      refine wp_region_held_drew (S := fun W => BoxO W w.heap.size o) (by kernel_rfl) hb.drew (fun _ => ?_)
      refine HeldBy.gen (fun W => BoxO W w.heap.size o ∧ Below w.heap.size w W) ⟨hb.drew, hlow.drew⟩ ?_
      clear hb hlow
      rintro V0 ⟨hb, hlow⟩
      refine HeldBy.take (i := 0) rfl (by kernel_rfl) (by kernel_rfl) (by kernel_rfl) (fun _ _ _ h => h) (by rfl) (fun _ _ => by go_simp; rfl) (by go_simp; rfl) hb ?_
      refine HeldBy.take (i := 1) rfl (by kernel_rfl) (by kernel_rfl) (by kernel_rfl) (fun _ _ _ h => h) (by rfl) (fun _ h => by have c := BoxO.c6 h; go_simp; rfl) (by go_simp; rfl) hb ?_
      refine HeldBy.value (i := 2) rfl (by kernel_rfl) (by rfl) (by go_simp; exact ⟨rfl, rfl⟩) (by go_simp; rfl) (hb.alloc _) ?_
      refine HeldBy.call (i := 3) (v := .bool true) rfl (by kernel_rfl) (by rfl) (by go_simp; exact ⟨rfl, rfl⟩) (by go_simp; rfl) ?_
      refine (noneEmpty1 o.cls _ _ ?_).mono ?_
      · go_simp
      rintro e V2 ⟨rfl, hV⟩
      refine ⟨by first | rfl | simp [*], hV ▸ hb.alloc _, ?_⟩
      replace hb : BoxO V2 _ _ := hV ▸ hb.alloc _
      replace hlow : Below _ _ V2 := hV ▸ hlow.alloc hlow.size _
      clear hV
      refine HeldBy.take (i := 4) rfl (by kernel_rfl) (by kernel_rfl) (by kernel_rfl) (fun _ _ _ h => h) (by rfl) (fun _ _ => by go_simp; rfl) (by go_simp; rfl) hb ?_
      refine HeldBy.take (i := 5) rfl (by kernel_rfl) (by kernel_rfl) (by kernel_rfl) (fun _ _ _ h => h) (by rfl) (fun _ _ => by go_simp; rfl) (by go_simp; rfl) hb ?_
      refine HeldBy.take (i := 6) rfl (by kernel_rfl) (by kernel_rfl) (by kernel_rfl) (fun _ _ _ h => h) (by rfl) (fun _ h => by have c := BoxO.c7 h; go_simp; rfl) (by go_simp; rfl) hb ?_
      refine HeldBy.take (i := 7) rfl (by kernel_rfl) (by kernel_rfl) (by kernel_rfl) (fun _ _ _ h => h) (by rfl) (fun _ _ => by go_simp; rfl) (by go_simp; rfl) hb ?_
      refine HeldBy.take (i := 8) rfl (by kernel_rfl) (by kernel_rfl) (by kernel_rfl) (fun _ _ _ h => h) (by rfl) (fun _ _ => by go_simp; rfl) (by go_simp; rfl) hb ?_
      refine HeldBy.take (i := 9) rfl (by kernel_rfl) (by kernel_rfl) (by kernel_rfl) (fun _ _ _ h => h) (by rfl) (fun _ _ => by go_simp; rfl) (by go_simp; rfl) hb ?_
      refine HeldBy.skip (i := 10) rfl (by kernel_rfl) (by kernel_rfl) (by kernel_rfl) (fun _ _ _ h => h) (by rfl) (by go_simp; rfl) hb ?_
      refine HeldBy.skip (i := 11) rfl (by kernel_rfl) (by kernel_rfl) (by kernel_rfl) (fun _ _ _ h => h) (by rfl) (by go_simp; rfl) hb ?_
      refine HeldBy.skip (i := 12) rfl (by kernel_rfl) (by kernel_rfl) (by kernel_rfl) (fun _ _ _ h => h) (by rfl) (by go_simp; rfl) hb ?_
      refine HeldBy.take (i := 13) rfl (by kernel_rfl) (by kernel_rfl) (by kernel_rfl) (fun _ _ _ h => h) (by rfl) (fun _ _ => by go_simp; rfl) (by go_simp; rfl) hb ?_
      refine HeldBy.take (i := 14) rfl (by kernel_rfl) (by kernel_rfl) (by kernel_rfl) (fun _ _ _ h => h) (by rfl) (fun _ _ => by go_simp; rfl) (by go_simp; rfl) hb ?_
      refine HeldBy.skip (i := 15) rfl (by kernel_rfl) (by kernel_rfl) (by kernel_rfl) (fun _ _ _ h => h) (by rfl) (by go_simp; rfl) hb ?_
      refine HeldBy.skip (i := 16) rfl (by kernel_rfl) (by kernel_rfl) (by kernel_rfl) (fun _ _ _ h => h) (by rfl) (by go_simp; rfl) hb ?_
      refine HeldBy.skip (i := 17) rfl (by kernel_rfl) (by kernel_rfl) (by kernel_rfl) (fun _ _ _ h => h) (by rfl) (by go_simp; rfl) hb ?_
      refine HeldBy.skip (i := 18) rfl (by kernel_rfl) (by kernel_rfl) (by kernel_rfl) (fun _ _ _ h => h) (by rfl) (by go_simp; rfl) hb ?_
      refine HeldBy.take (i := 19) rfl (by kernel_rfl) (by kernel_rfl) (by kernel_rfl) (fun _ _ _ h => h) (by rfl) (fun _ _ => by go_simp; rfl) (by go_simp; rfl) hb ?_
      refine HeldBy.take (i := 20) rfl (by kernel_rfl) (by kernel_rfl) (by kernel_rfl) (fun _ _ _ h => h) (by rfl) (fun _ _ => by go_simp; rfl) (by go_simp; rfl) hb ?_
      refine HeldBy.skip (i := 21) rfl (by kernel_rfl) (by kernel_rfl) (by kernel_rfl) (fun _ _ _ h => h) (by rfl) (by go_simp; rfl) hb ?_
      refine HeldBy.skip (i := 22) rfl (by kernel_rfl) (by kernel_rfl) (by kernel_rfl) (fun _ _ _ h => h) (by rfl) (by go_simp; rfl) hb ?_
      refine HeldBy.skip (i := 23) rfl (by kernel_rfl) (by kernel_rfl) (by kernel_rfl) (fun _ _ _ h => h) (by rfl) (by go_simp; rfl) hb ?_
      refine HeldBy.skip (i := 24) rfl (by kernel_rfl) (by kernel_rfl) (by kernel_rfl) (fun _ _ _ h => h) (by rfl) (by go_simp; rfl) hb ?_
      refine HeldBy.skip (i := 25) rfl (by kernel_rfl) (by kernel_rfl) (by kernel_rfl) (fun _ _ _ h => h) (by rfl) (by go_simp; rfl) hb ?_
      refine HeldBy.skip (i := 26) rfl (by kernel_rfl) (by kernel_rfl) (by kernel_rfl) (fun _ _ _ h => h) (by rfl) (by go_simp; rfl) hb ?_
      refine HeldBy.skip (i := 27) rfl (by kernel_rfl) (by kernel_rfl) (by kernel_rfl) (fun _ _ _ h => h) (by rfl) (by go_simp; rfl) hb ?_
      refine HeldBy.skip (i := 28) rfl (by kernel_rfl) (by kernel_rfl) (by kernel_rfl) (fun _ _ _ h => h) (by rfl) (by go_simp; rfl) hb ?_
      refine HeldBy.take (i := 29) rfl (by kernel_rfl) (by kernel_rfl) (by kernel_rfl) (fun _ _ _ h => h) (by rfl) (fun _ _ => by go_simp; rfl) (by go_simp; rfl) hb ?_
      refine HeldBy.take (i := 30) rfl (by kernel_rfl) (by kernel_rfl) (by kernel_rfl) (fun _ _ _ h => h) (by rfl) (fun _ _ => by go_simp; rfl) (by go_simp; rfl) hb ?_
      refine wpAnyH_done (by kernel_rfl) ?_ _
      go_wp2
      go_ret
      exact ⟨ret_bool (by rw [H.out]), hlow⟩
    | true =>
      cases b2 : modeB o.mode with
      | false =>
        have H : Hid (claimB o = false) := by show _ = _; unfold claimB; simp [b0, b1, b2]
        have es : (o.size != 0) = true := by rw [← b1]; exact neB o.size
        go_enter Try.func73, Try.ntmps73
        go_upto_region 1 with (fail)
        refine wp_gen (fun W => BoxO W w.heap.size o ∧ Below w.heap.size w W) ⟨BoxO.new w o, (Below.refl _ _).alloc (Nat.le_refl _) _⟩ ?_
        rintro W1 ⟨hb, hlow⟩
        refine wp_region_held_drew (S := fun W => BoxO W w.heap.size o) (by kernel_rfl) hb.drew (fun _ => ?_)
        refine HeldBy.gen (fun W => BoxO W w.heap.size o ∧ Below w.heap.size w W) ⟨hb.drew, hlow.drew⟩ ?_
        clear hb hlow
        rintro V0 ⟨hb, hlow⟩
        refine HeldBy.take (i := 0) rfl (by kernel_rfl) (by kernel_rfl) (by kernel_rfl) (fun _ _ _ h => h) (by rfl) (fun _ _ => by go_simp; rfl) (by go_simp; rfl) hb ?_
        refine HeldBy.take (i := 1) rfl (by kernel_rfl) (by kernel_rfl) (by kernel_rfl) (fun _ _ _ h => h) (by rfl) (fun _ h => by have c := BoxO.c6 h; go_simp; rfl) (by go_simp; rfl) hb ?_
        refine HeldBy.value (i := 2) rfl (by kernel_rfl) (by rfl) (by go_simp; exact ⟨rfl, rfl⟩) (by go_simp; rfl) (hb.alloc _) ?_
        refine HeldBy.call (i := 3) (v := .bool true) rfl (by kernel_rfl) (by rfl) (by go_simp; exact ⟨rfl, rfl⟩) (by go_simp; rfl) ?_
        refine (noneEmpty1 o.cls _ _ ?_).mono ?_
        · go_simp
        rintro e V2 ⟨rfl, hV⟩
        refine ⟨by first | rfl | simp [*], hV ▸ hb.alloc _, ?_⟩
        replace hb : BoxO V2 _ _ := hV ▸ hb.alloc _
        replace hlow : Below _ _ V2 := hV ▸ hlow.alloc hlow.size _
        clear hV
        refine HeldBy.take (i := 4) rfl (by kernel_rfl) (by kernel_rfl) (by kernel_rfl) (fun _ _ _ h => h) (by rfl) (fun _ _ => by go_simp; rfl) (by go_simp; rfl) hb ?_
        refine HeldBy.take (i := 5) rfl (by kernel_rfl) (by kernel_rfl) (by kernel_rfl) (fun _ _ _ h => h) (by rfl) (fun _ _ => by go_simp; rfl) (by go_simp; rfl) hb ?_
        refine HeldBy.take (i := 6) rfl (by kernel_rfl) (by kernel_rfl) (by kernel_rfl) (fun _ _ _ h => h) (by rfl) (fun _ h => by have c := BoxO.c7 h; go_simp; rfl) (by go_simp; rfl) hb ?_
        refine HeldBy.take (i := 7) rfl (by kernel_rfl) (by kernel_rfl) (by kernel_rfl) (fun _ _ _ h => h) (by rfl) (fun _ _ => by go_simp; rfl) (by go_simp; rfl) hb ?_
        refine HeldBy.take (i := 8) rfl (by kernel_rfl) (by kernel_rfl) (by kernel_rfl) (fun _ _ _ h => h) (by rfl) (fun _ _ => by go_simp; rfl) (by go_simp; rfl) hb ?_
        refine HeldBy.take (i := 9) rfl (by kernel_rfl) (by kernel_rfl) (by kernel_rfl) (fun _ _ _ h => h) (by rfl) (fun _ _ => by go_simp; rfl) (by go_simp; rfl) hb ?_
        refine HeldBy.take (i := 10) rfl (by kernel_rfl) (by kernel_rfl) (by kernel_rfl) (fun _ _ _ h => h) (by rfl) (fun _ _ => by go_simp; rfl) (by go_simp; rfl) hb ?_
        refine HeldBy.take (i := 11) rfl (by kernel_rfl) (by kernel_rfl) (by kernel_rfl) (fun _ _ _ h => h) (by rfl) (fun _ h => by have c := BoxO.c9 h; go_simp; rfl) (by go_simp; rfl) hb ?_
        refine HeldBy.call (i := 12) (v := .bool false) rfl (by kernel_rfl) (by rfl) (by go_simp; exact ⟨rfl, rfl⟩) (by go_simp; rfl) ?_
        refine (rightMode_any o.mode _).mono ?_
        rintro e V3 ⟨rfl, hV⟩
        refine ⟨by first | rfl | simp [*], hV ▸ hb, ?_⟩
        replace hb : BoxO V3 _ _ := hV ▸ hb
        replace hlow : Below _ _ V3 := hV ▸ hlow
        clear hV
        refine HeldBy.take (i := 13) rfl (by kernel_rfl) (by kernel_rfl) (by kernel_rfl) (fun _ _ _ h => h) (by rfl) (fun _ _ => by go_simp; rfl) (by go_simp; rfl) hb ?_
        refine HeldBy.take (i := 14) rfl (by kernel_rfl) (by kernel_rfl) (by kernel_rfl) (fun _ _ _ h => h) (by rfl) (fun _ _ => by go_simp; rfl) (by go_simp; rfl) hb ?_
        refine HeldBy.skip (i := 15) rfl (by kernel_rfl) (by kernel_rfl) (by kernel_rfl) (fun _ _ _ h => h) (by rfl) (by go_simp; rfl) hb ?_
        refine HeldBy.skip (i := 16) rfl (by kernel_rfl) (by kernel_rfl) (by kernel_rfl) (fun _ _ _ h => h) (by rfl) (by go_simp; rfl) hb ?_
        refine HeldBy.skip (i := 17) rfl (by kernel_rfl) (by kernel_rfl) (by kernel_rfl) (fun _ _ _ h => h) (by rfl) (by go_simp; rfl) hb ?_
        refine HeldBy.skip (i := 18) rfl (by kernel_rfl) (by kernel_rfl) (by kernel_rfl) (fun _ _ _ h => h) (by rfl) (by go_simp; rfl) hb ?_
        refine HeldBy.take (i := 19) rfl (by kernel_rfl) (by kernel_rfl) (by kernel_rfl) (fun _ _ _ h => h) (by rfl) (fun _ _ => by go_simp; rfl) (by go_simp; rfl) hb ?_
        refine HeldBy.take (i := 20) rfl (by kernel_rfl) (by kernel_rfl) (by kernel_rfl) (fun _ _ _ h => h) (by rfl) (fun _ _ => by go_simp; rfl) (by go_simp; rfl) hb ?_
        refine HeldBy.skip (i := 21) rfl (by kernel_rfl) (by kernel_rfl) (by kernel_rfl) (fun _ _ _ h => h) (by rfl) (by go_simp; rfl) hb ?_
        refine HeldBy.skip (i := 22) rfl (by kernel_rfl) (by kernel_rfl) (by kernel_rfl) (fun _ _ _ h => h) (by rfl) (by go_simp; rfl) hb ?_
        refine HeldBy.skip (i := 23) rfl (by kernel_rfl) (by kernel_rfl) (by kernel_rfl) (fun _ _ _ h => h) (by rfl) (by go_simp; rfl) hb ?_
        refine HeldBy.skip (i := 24) rfl (by kernel_rfl) (by kernel_rfl) (by kernel_rfl) (fun _ _ _ h => h) (by rfl) (by go_simp; rfl) hb ?_
        refine HeldBy.skip (i := 25) rfl (by kernel_rfl) (by kernel_rfl) (by kernel_rfl) (fun _ _ _ h => h) (by rfl) (by go_simp; rfl) hb ?_
        refine HeldBy.skip (i := 26) rfl (by kernel_rfl) (by kernel_rfl) (by kernel_rfl) (fun _ _ _ h => h) (by rfl) (by go_simp; rfl) hb ?_
        refine HeldBy.skip (i := 27) rfl (by kernel_rfl) (by kernel_rfl) (by kernel_rfl) (fun _ _ _ h => h) (by rfl) (by go_simp; rfl) hb ?_
        refine HeldBy.skip (i := 28) rfl (by kernel_rfl) (by kernel_rfl) (by kernel_rfl) (fun _ _ _ h => h) (by rfl) (by go_simp; rfl) hb ?_
        refine HeldBy.take (i := 29) rfl (by kernel_rfl) (by kernel_rfl) (by kernel_rfl) (fun _ _ _ h => h) (by rfl) (fun _ _ => by go_simp; rfl) (by go_simp; rfl) hb ?_
        refine HeldBy.take (i := 30) rfl (by kernel_rfl) (by kernel_rfl) (by kernel_rfl) (fun _ _ _ h => h) (by rfl) (fun _ _ => by go_simp; rfl) (by go_simp; rfl) hb ?_
        refine wpAnyH_done (by kernel_rfl) ?_ _
        go_wp2
        go_ret
        exact ⟨ret_bool (by rw [H.out]), hlow⟩
      | true =>
        cases b3 : ph3 o.phase 1 2 3 with
        | false =>
          have H : Hid (claimB o = false) := by show _ = _; unfold claimB; simp [b0, b1, b2, b3]
          have es : (o.size != 0) = true := by rw [← b1]; exact neB o.size
          go_enter Try.func73, Try.ntmps73
          go_upto_region 1 with (fail)
          refine wp_gen (fun W => BoxO W w.heap.size o ∧ Below w.heap.size w W) ⟨BoxO.new w o, (Below.refl _ _).alloc (Nat.le_refl _) _⟩ ?_
          rintro W1 ⟨hb, hlow⟩
          refine wp_region_held_drew (S := fun W => BoxO W w.heap.size o) (by kernel_rfl) hb.drew (fun _ => ?_)
          refine HeldBy.gen (fun W => BoxO W w.heap.size o ∧ Below w.heap.size w W) ⟨hb.drew, hlow.drew⟩ ?_
          clear hb hlow
          rintro V0 ⟨hb, hlow⟩
          refine HeldBy.take (i := 0) rfl (by kernel_rfl) (by kernel_rfl) (by kernel_rfl) (fun _ _ _ h => h) (by rfl) (fun _ _ => by go_simp; rfl) (by go_simp; rfl) hb ?_
          refine HeldBy.take (i := 1) rfl (by kernel_rfl) (by kernel_rfl) (by kernel_rfl) (fun _ _ _ h => h) (by rfl) (fun _ h => by have c := BoxO.c6 h; go_simp; rfl) (by go_simp; rfl) hb ?_
          refine HeldBy.value (i := 2) rfl (by kernel_rfl) (by rfl) (by go_simp; exact ⟨rfl, rfl⟩) (by go_simp; rfl) (hb.alloc _) ?_
          refine HeldBy.call (i := 3) (v := .bool true) rfl (by kernel_rfl) (by rfl) (by go_simp; exact ⟨rfl, rfl⟩) (by go_simp; rfl) ?_
          refine (noneEmpty1 o.cls _ _ ?_).mono ?_
          · go_simp
          rintro e V2 ⟨rfl, hV⟩
          refine ⟨by first | rfl | simp [*], hV ▸ hb.alloc _, ?_⟩
          replace hb : BoxO V2 _ _ := hV ▸ hb.alloc _
          replace hlow : Below _ _ V2 := hV ▸ hlow.alloc hlow.size _
          clear hV
          refine HeldBy.take (i := 4) rfl (by kernel_rfl) (by kernel_rfl) (by kernel_rfl) (fun _ _ _ h => h) (by rfl) (fun _ _ => by go_simp; rfl) (by go_simp; rfl) hb ?_
          refine HeldBy.take (i := 5) rfl (by kernel_rfl) (by kernel_rfl) (by kernel_rfl) (fun _ _ _ h => h) (by rfl) (fun _ _ => by go_simp; rfl) (by go_simp; rfl) hb ?_
          refine HeldBy.take (i := 6) rfl (by kernel_rfl) (by kernel_rfl) (by kernel_rfl) (fun _ _ _ h => h) (by rfl) (fun _ h => by have c := BoxO.c7 h; go_simp; rfl) (by go_simp; rfl) hb ?_
          refine HeldBy.take (i := 7) rfl (by kernel_rfl) (by kernel_rfl) (by kernel_rfl) (fun _ _ _ h => h) (by rfl) (fun _ _ => by go_simp; rfl) (by go_simp; rfl) hb ?_
          refine HeldBy.take (i := 8) rfl (by kernel_rfl) (by kernel_rfl) (by kernel_rfl) (fun _ _ _ h => h) (by rfl) (fun _ _ => by go_simp; rfl) (by go_simp; rfl) hb ?_
          refine HeldBy.take (i := 9) rfl (by kernel_rfl) (by kernel_rfl) (by kernel_rfl) (fun _ _ _ h => h) (by rfl) (fun _ _ => by go_simp; rfl) (by go_simp; rfl) hb ?_
          refine HeldBy.take (i := 10) rfl (by kernel_rfl) (by kernel_rfl) (by kernel_rfl) (fun _ _ _ h => h) (by rfl) (fun _ _ => by go_simp; rfl) (by go_simp; rfl) hb ?_
          refine HeldBy.take (i := 11) rfl (by kernel_rfl) (by kernel_rfl) (by kernel_rfl) (fun _ _ _ h => h) (by rfl) (fun _ h => by have c := BoxO.c9 h; go_simp; rfl) (by go_simp; rfl) hb ?_
          refine HeldBy.call (i := 12) (v := .bool true) rfl (by kernel_rfl) (by rfl) (by go_simp; exact ⟨rfl, rfl⟩) (by go_simp; rfl) ?_
          refine (rightMode_any o.mode _).mono ?_
          rintro e V3 ⟨rfl, hV⟩
          refine ⟨by first | rfl | simp [*], hV ▸ hb, ?_⟩
          replace hb : BoxO V3 _ _ := hV ▸ hb
          replace hlow : Below _ _ V3 := hV ▸ hlow
          clear hV
          refine HeldBy.take (i := 13) rfl (by kernel_rfl) (by kernel_rfl) (by kernel_rfl) (fun _ _ _ h => h) (by rfl) (fun _ _ => by go_simp; rfl) (by go_simp; rfl) hb ?_
          refine HeldBy.take (i := 14) rfl (by kernel_rfl) (by kernel_rfl) (by kernel_rfl) (fun _ _ _ h => h) (by rfl) (fun _ _ => by go_simp; rfl) (by go_simp; rfl) hb ?_
          refine HeldBy.take (i := 15) rfl (by kernel_rfl) (by kernel_rfl) (by kernel_rfl) (fun _ _ _ h => h) (by rfl) (fun _ _ => by go_simp; rfl) (by go_simp; rfl) hb ?_
          refine HeldBy.take (i := 16) rfl (by kernel_rfl) (by kernel_rfl) (by kernel_rfl) (fun _ _ _ h => h) (by rfl) (fun _ h => by have c := BoxO.c17 h; go_simp; rfl) (by go_simp; rfl) hb ?_
          refine HeldBy.value (i := 17) rfl (by kernel_rfl) (by rfl) (by go_simp; exact ⟨rfl, rfl⟩) (by go_simp; rfl) (hb.alloc _) ?_
          refine HeldBy.call (i := 18) (v := .bool false) rfl (by kernel_rfl) (by rfl) (by go_simp; exact ⟨rfl, rfl⟩) (by go_simp; rfl) ?_
          refine (oneOf3 o.phase 1 2 3 _ _ ?_ ?_ ?_).mono ?_
          · go_simp
          · go_simp
          · go_simp
          rintro e V5 ⟨rfl, hV⟩
          refine ⟨by first | rfl | simp [*], hV ▸ hb.alloc _, ?_⟩
          replace hb : BoxO V5 _ _ := hV ▸ hb.alloc _
          replace hlow : Below _ _ V5 := hV ▸ hlow.alloc hlow.size _
          clear hV
          refine HeldBy.take (i := 19) rfl (by kernel_rfl) (by kernel_rfl) (by kernel_rfl) (fun _ _ _ h => h) (by rfl) (fun _ _ => by go_simp; rfl) (by go_simp; rfl) hb ?_
          refine HeldBy.take (i := 20) rfl (by kernel_rfl) (by kernel_rfl) (by kernel_rfl) (fun _ _ _ h => h) (by rfl) (fun _ _ => by go_simp; rfl) (by go_simp; rfl) hb ?_
          refine HeldBy.skip (i := 21) rfl (by kernel_rfl) (by kernel_rfl) (by kernel_rfl) (fun _ _ _ h => h) (by rfl) (by go_simp; rfl) hb ?_
          refine HeldBy.skip (i := 22) rfl (by kernel_rfl) (by kernel_rfl) (by kernel_rfl) (fun _ _ _ h => h) (by rfl) (by go_simp; rfl) hb ?_
          refine HeldBy.skip (i := 23) rfl (by kernel_rfl) (by kernel_rfl) (by kernel_rfl) (fun _ _ _ h => h) (by rfl) (by go_simp; rfl) hb ?_
          refine HeldBy.skip (i := 24) rfl (by kernel_rfl) (by kernel_rfl) (by kernel_rfl) (fun _ _ _ h => h) (by rfl) (by go_simp; rfl) hb ?_
          refine HeldBy.skip (i := 25) rfl (by kernel_rfl) (by kernel_rfl) (by kernel_rfl) (fun _ _ _ h => h) (by rfl) (by go_simp; rfl) hb ?_
          refine HeldBy.skip (i := 26) rfl (by kernel_rfl) (by kernel_rfl) (by kernel_rfl) (fun _ _ _ h => h) (by rfl) (by go_simp; rfl) hb ?_
          refine HeldBy.skip (i := 27) rfl (by kernel_rfl) (by kernel_rfl) (by kernel_rfl) (fun _ _ _ h => h) (by rfl) (by go_simp; rfl) hb ?_
          refine HeldBy.skip (i := 28) rfl (by kernel_rfl) (by kernel_rfl) (by kernel_rfl) (fun _ _ _ h => h) (by rfl) (by go_simp; rfl) hb ?_
          refine HeldBy.take (i := 29) rfl (by kernel_rfl) (by kernel_rfl) (by kernel_rfl) (fun _ _ _ h => h) (by rfl) (fun _ _ => by go_simp; rfl) (by go_simp; rfl) hb ?_
          refine HeldBy.take (i := 30) rfl (by kernel_rfl) (by kernel_rfl) (by kernel_rfl) (fun _ _ _ h => h) (by rfl) (fun _ _ => by go_simp; rfl) (by go_simp; rfl) hb ?_
          refine wpAnyH_done (by kernel_rfl) ?_ _
          go_wp2
          go_ret
          exact ⟨ret_bool (by rw [H.out]), hlow⟩
        | true =>
          have H : Hid (claimB o = ((!emp o.volume) == decide (o.phase = 3))) := by show _ = _; unfold claimB; simp [b0, b1, b2, b3]
          have es : (o.size != 0) = true := by rw [← b1]; exact neB o.size
          go_enter Try.func73, Try.ntmps73
          go_upto_region 1 with (fail)
          refine wp_gen (fun W => BoxO W w.heap.size o ∧ Below w.heap.size w W) ⟨BoxO.new w o, (Below.refl _ _).alloc (Nat.le_refl _) _⟩ ?_
          rintro W1 ⟨hb, hlow⟩
          refine wp_region_held_drew (S := fun W => BoxO W w.heap.size o) (by kernel_rfl) hb.drew (fun _ => ?_)
          refine HeldBy.gen (fun W => BoxO W w.heap.size o ∧ Below w.heap.size w W) ⟨hb.drew, hlow.drew⟩ ?_
          clear hb hlow
          rintro V0 ⟨hb, hlow⟩
          refine HeldBy.take (i := 0) rfl (by kernel_rfl) (by kernel_rfl) (by kernel_rfl) (fun _ _ _ h => h) (by rfl) (fun _ _ => by go_simp; rfl) (by go_simp; rfl) hb ?_
          refine HeldBy.take (i := 1) rfl (by kernel_rfl) (by kernel_rfl) (by kernel_rfl) (fun _ _ _ h => h) (by rfl) (fun _ h => by have c := BoxO.c6 h; go_simp; rfl) (by go_simp; rfl) hb ?_
          refine HeldBy.value (i := 2) rfl (by kernel_rfl) (by rfl) (by go_simp; exact ⟨rfl, rfl⟩) (by go_simp; rfl) (hb.alloc _) ?_
          refine HeldBy.call (i := 3) (v := .bool true) rfl (by kernel_rfl) (by rfl) (by go_simp; exact ⟨rfl, rfl⟩) (by go_simp; rfl) ?_
          refine (noneEmpty1 o.cls _ _ ?_).mono ?_
          · go_simp
          rintro e V2 ⟨rfl, hV⟩
          refine ⟨by first | rfl | simp [*], hV ▸ hb.alloc _, ?_⟩
          replace hb : BoxO V2 _ _ := hV ▸ hb.alloc _
          replace hlow : Below _ _ V2 := hV ▸ hlow.alloc hlow.size _
          clear hV
          refine HeldBy.take (i := 4) rfl (by kernel_rfl) (by kernel_rfl) (by kernel_rfl) (fun _ _ _ h => h) (by rfl) (fun _ _ => by go_simp; rfl) (by go_simp; rfl) hb ?_
          refine HeldBy.take (i := 5) rfl (by kernel_rfl) (by kernel_rfl) (by kernel_rfl) (fun _ _ _ h => h) (by rfl) (fun _ _ => by go_simp; rfl) (by go_simp; rfl) hb ?_
          refine HeldBy.take (i := 6) rfl (by kernel_rfl) (by kernel_rfl) (by kernel_rfl) (fun _ _ _ h => h) (by rfl) (fun _ h => by have c := BoxO.c7 h; go_simp; rfl) (by go_simp; rfl) hb ?_
          refine HeldBy.take (i := 7) rfl (by kernel_rfl) (by kernel_rfl) (by kernel_rfl) (fun _ _ _ h => h) (by rfl) (fun _ _ => by go_simp; rfl) (by go_simp; rfl) hb ?_
          refine HeldBy.take (i := 8) rfl (by kernel_rfl) (by kernel_rfl) (by kernel_rfl) (fun _ _ _ h => h) (by rfl) (fun _ _ => by go_simp; rfl) (by go_simp; rfl) hb ?_
          refine HeldBy.take (i := 9) rfl (by kernel_rfl) (by kernel_rfl) (by kernel_rfl) (fun _ _ _ h => h) (by rfl) (fun _ _ => by go_simp; rfl) (by go_simp; rfl) hb ?_
          refine HeldBy.take (i := 10) rfl (by kernel_rfl) (by kernel_rfl) (by kernel_rfl) (fun _ _ _ h => h) (by rfl) (fun _ _ => by go_simp; rfl) (by go_simp; rfl) hb ?_
          refine HeldBy.take (i := 11) rfl (by kernel_rfl) (by kernel_rfl) (by kernel_rfl) (fun _ _ _ h => h) (by rfl) (fun _ h => by have c := BoxO.c9 h; go_simp; rfl) (by go_simp; rfl) hb ?_
          refine HeldBy.call (i := 12) (v := .bool true) rfl (by kernel_rfl) (by rfl) (by go_simp; exact ⟨rfl, rfl⟩) (by go_simp; rfl) ?_
          refine (rightMode_any o.mode _).mono ?_
          rintro e V3 ⟨rfl, hV⟩
          refine ⟨by first | rfl | simp [*], hV ▸ hb, ?_⟩
          replace hb : BoxO V3 _ _ := hV ▸ hb
          replace hlow : Below _ _ V3 := hV ▸ hlow
          clear hV
          refine HeldBy.take (i := 13) rfl (by kernel_rfl) (by kernel_rfl) (by kernel_rfl) (fun _ _ _ h => h) (by rfl) (fun _ _ => by go_simp; rfl) (by go_simp; rfl) hb ?_
          refine HeldBy.take (i := 14) rfl (by kernel_rfl) (by kernel_rfl) (by kernel_rfl) (fun _ _ _ h => h) (by rfl) (fun _ _ => by go_simp; rfl) (by go_simp; rfl) hb ?_
          refine HeldBy.take (i := 15) rfl (by kernel_rfl) (by kernel_rfl) (by kernel_rfl) (fun _ _ _ h => h) (by rfl) (fun _ _ => by go_simp; rfl) (by go_simp; rfl) hb ?_
          refine HeldBy.take (i := 16) rfl (by kernel_rfl) (by kernel_rfl) (by kernel_rfl) (fun _ _ _ h => h) (by rfl) (fun _ h => by have c := BoxO.c17 h; go_simp; rfl) (by go_simp; rfl) hb ?_
          refine HeldBy.value (i := 17) rfl (by kernel_rfl) (by rfl) (by go_simp; exact ⟨rfl, rfl⟩) (by go_simp; rfl) (hb.alloc _) ?_
          refine HeldBy.call (i := 18) (v := .bool true) rfl (by kernel_rfl) (by rfl) (by go_simp; exact ⟨rfl, rfl⟩) (by go_simp; rfl) ?_
          refine (oneOf3 o.phase 1 2 3 _ _ ?_ ?_ ?_).mono ?_
          · go_simp
          · go_simp
          · go_simp
          rintro e V5 ⟨rfl, hV⟩
          refine ⟨by first | rfl | simp [*], hV ▸ hb.alloc _, ?_⟩
          replace hb : BoxO V5 _ _ := hV ▸ hb.alloc _
          replace hlow : Below _ _ V5 := hV ▸ hlow.alloc hlow.size _
          clear hV
          refine HeldBy.take (i := 19) rfl (by kernel_rfl) (by kernel_rfl) (by kernel_rfl) (fun _ _ _ h => h) (by rfl) (fun _ _ => by go_simp; rfl) (by go_simp; rfl) hb ?_
          refine HeldBy.take (i := 20) rfl (by kernel_rfl) (by kernel_rfl) (by kernel_rfl) (fun _ _ _ h => h) (by rfl) (fun _ _ => by go_simp; rfl) (by go_simp; rfl) hb ?_
          refine HeldBy.take (i := 21) rfl (by kernel_rfl) (by kernel_rfl) (by kernel_rfl) (fun _ _ _ h => h) (by rfl) (fun _ _ => by go_simp; rfl) (by go_simp; rfl) hb ?_
          refine HeldBy.take (i := 22) rfl (by kernel_rfl) (by kernel_rfl) (by kernel_rfl) (fun _ _ _ h => h) (by rfl) (fun _ h => by have c := BoxO.c15 h; go_simp; rfl) (by go_simp; rfl) hb ?_
          refine HeldBy.take (i := 25) rfl (by kernel_rfl) (by kernel_rfl) (by kernel_rfl) (fun _ _ _ h => h) (by rfl) (fun _ _ => by go_simp; rfl) (by go_simp; rfl) hb ?_
          refine HeldBy.take (i := 26) rfl (by kernel_rfl) (by kernel_rfl) (by kernel_rfl) (fun _ _ _ h => h) (by rfl) (fun _ h => by have c := BoxO.c17 h; go_simp; rfl) (by go_simp; rfl) hb ?_
          refine HeldBy.take (i := 27) rfl (by kernel_rfl) (by kernel_rfl) (by kernel_rfl) (fun _ _ _ h => h) (by rfl) (fun _ _ => by go_simp; rfl) (by go_simp; rfl) hb ?_
          refine HeldBy.value (i := 23) rfl (by kernel_rfl) (by rfl) (by go_simp; exact ⟨rfl, rfl⟩) (by go_simp; rfl) (hb.alloc _) ?_
          refine HeldBy.call (i := 24) (v := .bool (!emp o.volume)) rfl (by kernel_rfl) (by rfl) (by go_simp; exact ⟨rfl, rfl⟩) (by go_simp; rfl) ?_
          refine (noneEmpty1 o.volume _ _ ?_).mono ?_
          · go_simp
          rintro e V7 ⟨rfl, hV⟩
          refine ⟨by first | rfl | simp [*], hV ▸ hb.alloc _, ?_⟩
          replace hb : BoxO V7 _ _ := hV ▸ hb.alloc _
          replace hlow : Below _ _ V7 := hV ▸ hlow.alloc hlow.size _
          clear hV
          refine HeldBy.take (i := 28) rfl (by kernel_rfl) (by kernel_rfl) (by kernel_rfl) (fun _ _ _ h => h) (by rfl) (fun _ _ => by go_simp; rfl) (by go_simp; rfl) hb ?_
          refine HeldBy.take (i := 29) rfl (by kernel_rfl) (by kernel_rfl) (by kernel_rfl) (fun _ _ _ h => h) (by rfl) (fun _ _ => by go_simp; rfl) (by go_simp; rfl) hb ?_
          refine HeldBy.take (i := 30) rfl (by kernel_rfl) (by kernel_rfl) (by kernel_rfl) (fun _ _ _ h => h) (by rfl) (fun _ _ => by go_simp; rfl) (by go_simp; rfl) hb ?_
          refine wpAnyH_done (by kernel_rfl) ?_ _
          go_wp2
          go_ret
          exact ⟨ret_bool (H.out.symm), hlow⟩
end Go.Proofs.Ytacbfpgknfcimaa.O
