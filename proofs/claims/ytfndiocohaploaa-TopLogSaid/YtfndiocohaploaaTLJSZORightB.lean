/- Own work. -/
import Derived.Test.YtfndiocohaploaaTLJLawEnd
import Derived.Test.YtfndiocohaploaaTLJSZHeldBy
import Derived.Lib.SlBytesConst
import Derived.StillTactics
import Derived.StillTail
import Derived.Test.YtfndiocohaploaaTLSZLApp
import Derived.Laws.Cover3
import Derived.OpenShut
import Derived.SizedLaws
import Derived.Deep.Fields
import Derived.Deep.Slices
import Derived.Deep.Strs
namespace Go.Proofs.Ytfndiocohaploaa.O
open Go.RowKit T
open Go.Lib hiding intOf
set_option maxRecDepth 100000 in
set_option maxHeartbeats 4000000 in
theorem rightAttach_any (o : Obj) (w : World) (hz : o.volume.size ≤ 140737488351232 ∧ o.node.size ≤ 140737488351232) :
    Calls Try.prog 76 #[encO o] w fun e w' => e = .returned (.bool (attachB o)) ∧ Below w.heap.size w w' := by
  unfold encO
  cases b0 : (!emp o.volume && !emp o.node) with
  | false =>
    have H : Hid (attachB o = false) := by show _ = _; unfold attachB; simp [b0]
    go_enter Try.func76, Try.ntmps76
    go_upto_region 1 with (fail)
    refine wp_gen (fun W => BoxO W w.heap.size o ∧ Below w.heap.size w W) ⟨BoxO.new w o, (Below.refl _ _).alloc (Nat.le_refl _) _⟩ ?_
    rintro W1 ⟨hb, hlow⟩
    refine wp_region_held_drew (S := fun W => BoxO W w.heap.size o) (by kernel_rfl) hb.drew (fun _ => ?_)
    refine HeldBy.gen (fun W => BoxO W w.heap.size o ∧ Below w.heap.size w W) ⟨hb.drew, hlow.drew⟩ ?_
    clear hb hlow
    rintro V0 ⟨hb, hlow⟩
    refine HeldBy.take (i := 0) rfl (by kernel_rfl) (by kernel_rfl) (by kernel_rfl) (fun _ _ _ h => h) (by rfl) (fun _ _ => by go_simp; rfl) (by go_simp; rfl) hb ?_
    refine HeldBy.take (i := 1) rfl (by kernel_rfl) (by kernel_rfl) (by kernel_rfl) (fun _ _ _ h => h) (by rfl) (fun _ h => by have c := BoxO.c15 h; go_simp; rfl) (by go_simp; rfl) hb ?_
    refine HeldBy.take (i := 2) rfl (by kernel_rfl) (by kernel_rfl) (by kernel_rfl) (fun _ _ _ h => h) (by rfl) (fun _ _ => by go_simp; rfl) (by go_simp; rfl) hb ?_
    refine HeldBy.take (i := 3) rfl (by kernel_rfl) (by kernel_rfl) (by kernel_rfl) (fun _ _ _ h => h) (by rfl) (fun _ h => by have c := BoxO.c13 h; go_simp; rfl) (by go_simp; rfl) hb ?_
    refine HeldBy.value (i := 4) rfl (by kernel_rfl) (by rfl) (by go_simp; exact ⟨rfl, rfl⟩) (by go_simp; rfl) (hb.alloc _) ?_
    refine HeldBy.call (i := 5) (v := .bool false) rfl (by kernel_rfl) (by rfl) (by go_simp; exact ⟨rfl, rfl⟩) (by go_simp; rfl) ?_
    refine (noneEmpty2 o.volume o.node _ _ ?_ ?_).mono ?_
    · go_simp
    · go_simp
    rintro e V2 ⟨rfl, hV⟩
    refine ⟨by first | rfl | simp [*], hV ▸ hb.alloc _, ?_⟩
    replace hb : BoxO V2 _ _ := hV ▸ hb.alloc _
    replace hlow : Below _ _ V2 := hV ▸ hlow.alloc hlow.size _
    clear hV
    refine HeldBy.take (i := 6) rfl (by kernel_rfl) (by kernel_rfl) (by kernel_rfl) (fun _ _ _ h => h) (by rfl) (fun _ _ => by go_simp; rfl) (by go_simp; rfl) hb ?_
    refine HeldBy.skip (i := 7) rfl (by kernel_rfl) (by kernel_rfl) (by kernel_rfl) (fun _ _ _ h => h) (by rfl) (by go_simp; rfl) hb ?_
    refine HeldBy.skip (i := 8) rfl (by kernel_rfl) (by kernel_rfl) (by kernel_rfl) (fun _ _ _ h => h) (by rfl) (by go_simp; rfl) hb ?_
    refine HeldBy.skip (i := 9) rfl (by kernel_rfl) (by kernel_rfl) (by kernel_rfl) (fun _ _ _ h => h) (by rfl) (by go_simp; rfl) hb ?_
    refine HeldBy.take (i := 10) rfl (by kernel_rfl) (by kernel_rfl) (by kernel_rfl) (fun _ _ _ h => h) (by rfl) (fun _ _ => by go_simp; rfl) (by go_simp; rfl) hb ?_
    refine HeldBy.take (i := 11) rfl (by kernel_rfl) (by kernel_rfl) (by kernel_rfl) (fun _ _ _ h => h) (by rfl) (fun _ _ => by go_simp; rfl) (by go_simp; rfl) hb ?_
    refine HeldBy.skip (i := 12) rfl (by kernel_rfl) (by kernel_rfl) (by kernel_rfl) (fun _ _ _ h => h) (by rfl) (by go_simp; rfl) hb ?_
    refine HeldBy.skip (i := 13) rfl (by kernel_rfl) (by kernel_rfl) (by kernel_rfl) (fun _ _ _ h => h) (by rfl) (by go_simp; rfl) hb ?_
    refine HeldBy.skip (i := 14) rfl (by kernel_rfl) (by kernel_rfl) (by kernel_rfl) (fun _ _ _ h => h) (by rfl) (by go_simp; rfl) hb ?_
    refine HeldBy.skip (i := 15) rfl (by kernel_rfl) (by kernel_rfl) (by kernel_rfl) (fun _ _ _ h => h) (by rfl) (by go_simp; rfl) hb ?_
    refine HeldBy.skip (i := 16) rfl (by kernel_rfl) (by kernel_rfl) (by kernel_rfl) (fun _ _ _ h => h) (by rfl) (by go_simp; rfl) hb ?_
    refine HeldBy.skip (i := 17) rfl (by kernel_rfl) (by kernel_rfl) (by kernel_rfl) (fun _ _ _ h => h) (by rfl) (by go_simp; rfl) hb ?_
    refine HeldBy.skip (i := 18) rfl (by kernel_rfl) (by kernel_rfl) (by kernel_rfl) (fun _ _ _ h => h) (by rfl) (by go_simp; rfl) hb ?_
    refine HeldBy.skip (i := 19) rfl (by kernel_rfl) (by kernel_rfl) (by kernel_rfl) (fun _ _ _ h => h) (by rfl) (by go_simp; rfl) hb ?_
    refine HeldBy.take (i := 20) rfl (by kernel_rfl) (by kernel_rfl) (by kernel_rfl) (fun _ _ _ h => h) (by rfl) (fun _ _ => by go_simp; rfl) (by go_simp; rfl) hb ?_
    refine HeldBy.take (i := 21) rfl (by kernel_rfl) (by kernel_rfl) (by kernel_rfl) (fun _ _ _ h => h) (by rfl) (fun _ _ => by go_simp; rfl) (by go_simp; rfl) hb ?_
    refine HeldBy.skip (i := 22) rfl (by kernel_rfl) (by kernel_rfl) (by kernel_rfl) (fun _ _ _ h => h) (by rfl) (by go_simp; rfl) hb ?_
    refine HeldBy.skip (i := 23) rfl (by kernel_rfl) (by kernel_rfl) (by kernel_rfl) (fun _ _ _ h => h) (by rfl) (by go_simp; rfl) hb ?_
    refine HeldBy.skip (i := 24) rfl (by kernel_rfl) (by kernel_rfl) (by kernel_rfl) (fun _ _ _ h => h) (by rfl) (by go_simp; rfl) hb ?_
    refine HeldBy.skip (i := 25) rfl (by kernel_rfl) (by kernel_rfl) (by kernel_rfl) (fun _ _ _ h => h) (by rfl) (by go_simp; rfl) hb ?_
    refine HeldBy.take (i := 26) rfl (by kernel_rfl) (by kernel_rfl) (by kernel_rfl) (fun _ _ _ h => h) (by rfl) (fun _ _ => by go_simp; rfl) (by go_simp; rfl) hb ?_
    refine HeldBy.take (i := 27) rfl (by kernel_rfl) (by kernel_rfl) (by kernel_rfl) (fun _ _ _ h => h) (by rfl) (fun _ _ => by go_simp; rfl) (by go_simp; rfl) hb ?_
    refine wpAnyH_done (by kernel_rfl) ?_ _
    go_wp2
    go_ret
    exact ⟨ret_bool (by rw [H.out]), hlow⟩
  | true =>
    cases b1 : noSl o.node with
    | false =>
      have H : Hid (attachB o = false) := by show _ = _; unfold attachB; simp [b0, b1]
      go_enter Try.func76, Try.ntmps76
      go_upto_region 1 with (fail)
      refine wp_gen (fun W => BoxO W w.heap.size o ∧ Below w.heap.size w W) ⟨BoxO.new w o, (Below.refl _ _).alloc (Nat.le_refl _) _⟩ ?_
      rintro W1 ⟨hb, hlow⟩
      refine wp_region_held_drew (S := fun W => BoxO W w.heap.size o) (by kernel_rfl) hb.drew (fun _ => ?_)
      refine HeldBy.gen (fun W => BoxO W w.heap.size o ∧ Below w.heap.size w W) ⟨hb.drew, hlow.drew⟩ ?_
      clear hb hlow
      rintro V0 ⟨hb, hlow⟩
      refine HeldBy.take (i := 0) rfl (by kernel_rfl) (by kernel_rfl) (by kernel_rfl) (fun _ _ _ h => h) (by rfl) (fun _ _ => by go_simp; rfl) (by go_simp; rfl) hb ?_
      refine HeldBy.take (i := 1) rfl (by kernel_rfl) (by kernel_rfl) (by kernel_rfl) (fun _ _ _ h => h) (by rfl) (fun _ h => by have c := BoxO.c15 h; go_simp; rfl) (by go_simp; rfl) hb ?_
      refine HeldBy.take (i := 2) rfl (by kernel_rfl) (by kernel_rfl) (by kernel_rfl) (fun _ _ _ h => h) (by rfl) (fun _ _ => by go_simp; rfl) (by go_simp; rfl) hb ?_
      refine HeldBy.take (i := 3) rfl (by kernel_rfl) (by kernel_rfl) (by kernel_rfl) (fun _ _ _ h => h) (by rfl) (fun _ h => by have c := BoxO.c13 h; go_simp; rfl) (by go_simp; rfl) hb ?_
      refine HeldBy.value (i := 4) rfl (by kernel_rfl) (by rfl) (by go_simp; exact ⟨rfl, rfl⟩) (by go_simp; rfl) (hb.alloc _) ?_
      refine HeldBy.call (i := 5) (v := .bool true) rfl (by kernel_rfl) (by rfl) (by go_simp; exact ⟨rfl, rfl⟩) (by go_simp; rfl) ?_
      refine (noneEmpty2 o.volume o.node _ _ ?_ ?_).mono ?_
      · go_simp
      · go_simp
      rintro e V2 ⟨rfl, hV⟩
      refine ⟨by first | rfl | simp [*], hV ▸ hb.alloc _, ?_⟩
      replace hb : BoxO V2 _ _ := hV ▸ hb.alloc _
      replace hlow : Below _ _ V2 := hV ▸ hlow.alloc hlow.size _
      clear hV
      refine HeldBy.take (i := 6) rfl (by kernel_rfl) (by kernel_rfl) (by kernel_rfl) (fun _ _ _ h => h) (by rfl) (fun _ _ => by go_simp; rfl) (by go_simp; rfl) hb ?_
      refine HeldBy.take (i := 7) rfl (by kernel_rfl) (by kernel_rfl) (by kernel_rfl) (fun _ _ _ h => h) (by rfl) (fun _ _ => by go_simp; rfl) (by go_simp; rfl) hb ?_
      refine HeldBy.take (i := 8) rfl (by kernel_rfl) (by kernel_rfl) (by kernel_rfl) (fun _ _ _ h => h) (by rfl) (fun _ h => by have c := BoxO.c13 h; go_simp; rfl) (by go_simp; rfl) hb ?_
      refine HeldBy.call (i := 9) (v := .bool false) rfl (by kernel_rfl) (by rfl) (by go_simp; exact ⟨rfl, rfl⟩) (by go_simp; rfl) ?_
      refine (noSlash_any o.node _).mono ?_
      rintro e V3 ⟨rfl, hV⟩
      refine ⟨by first | rfl | simp [*], hV ▸ hb, ?_⟩
      replace hb : BoxO V3 _ _ := hV ▸ hb
      replace hlow : Below _ _ V3 := hV ▸ hlow
      clear hV
      refine HeldBy.take (i := 10) rfl (by kernel_rfl) (by kernel_rfl) (by kernel_rfl) (fun _ _ _ h => h) (by rfl) (fun _ _ => by go_simp; rfl) (by go_simp; rfl) hb ?_
      refine HeldBy.take (i := 11) rfl (by kernel_rfl) (by kernel_rfl) (by kernel_rfl) (fun _ _ _ h => h) (by rfl) (fun _ _ => by go_simp; rfl) (by go_simp; rfl) hb ?_
      refine HeldBy.skip (i := 12) rfl (by kernel_rfl) (by kernel_rfl) (by kernel_rfl) (fun _ _ _ h => h) (by rfl) (by go_simp; rfl) hb ?_
      refine HeldBy.skip (i := 13) rfl (by kernel_rfl) (by kernel_rfl) (by kernel_rfl) (fun _ _ _ h => h) (by rfl) (by go_simp; rfl) hb ?_
      refine HeldBy.skip (i := 14) rfl (by kernel_rfl) (by kernel_rfl) (by kernel_rfl) (fun _ _ _ h => h) (by rfl) (by go_simp; rfl) hb ?_
      refine HeldBy.skip (i := 15) rfl (by kernel_rfl) (by kernel_rfl) (by kernel_rfl) (fun _ _ _ h => h) (by rfl) (by go_simp; rfl) hb ?_
      refine HeldBy.skip (i := 16) rfl (by kernel_rfl) (by kernel_rfl) (by kernel_rfl) (fun _ _ _ h => h) (by rfl) (by go_simp; rfl) hb ?_
      refine HeldBy.skip (i := 17) rfl (by kernel_rfl) (by kernel_rfl) (by kernel_rfl) (fun _ _ _ h => h) (by rfl) (by go_simp; rfl) hb ?_
      refine HeldBy.skip (i := 18) rfl (by kernel_rfl) (by kernel_rfl) (by kernel_rfl) (fun _ _ _ h => h) (by rfl) (by go_simp; rfl) hb ?_
      refine HeldBy.skip (i := 19) rfl (by kernel_rfl) (by kernel_rfl) (by kernel_rfl) (fun _ _ _ h => h) (by rfl) (by go_simp; rfl) hb ?_
      refine HeldBy.take (i := 20) rfl (by kernel_rfl) (by kernel_rfl) (by kernel_rfl) (fun _ _ _ h => h) (by rfl) (fun _ _ => by go_simp; rfl) (by go_simp; rfl) hb ?_
      refine HeldBy.take (i := 21) rfl (by kernel_rfl) (by kernel_rfl) (by kernel_rfl) (fun _ _ _ h => h) (by rfl) (fun _ _ => by go_simp; rfl) (by go_simp; rfl) hb ?_
      refine HeldBy.skip (i := 22) rfl (by kernel_rfl) (by kernel_rfl) (by kernel_rfl) (fun _ _ _ h => h) (by rfl) (by go_simp; rfl) hb ?_
      refine HeldBy.skip (i := 23) rfl (by kernel_rfl) (by kernel_rfl) (by kernel_rfl) (fun _ _ _ h => h) (by rfl) (by go_simp; rfl) hb ?_
      refine HeldBy.skip (i := 24) rfl (by kernel_rfl) (by kernel_rfl) (by kernel_rfl) (fun _ _ _ h => h) (by rfl) (by go_simp; rfl) hb ?_
      refine HeldBy.skip (i := 25) rfl (by kernel_rfl) (by kernel_rfl) (by kernel_rfl) (fun _ _ _ h => h) (by rfl) (by go_simp; rfl) hb ?_
      refine HeldBy.take (i := 26) rfl (by kernel_rfl) (by kernel_rfl) (by kernel_rfl) (fun _ _ _ h => h) (by rfl) (fun _ _ => by go_simp; rfl) (by go_simp; rfl) hb ?_
      refine HeldBy.take (i := 27) rfl (by kernel_rfl) (by kernel_rfl) (by kernel_rfl) (fun _ _ _ h => h) (by rfl) (fun _ _ => by go_simp; rfl) (by go_simp; rfl) hb ?_
      refine wpAnyH_done (by kernel_rfl) ?_ _
      go_wp2
      go_ret
      exact ⟨ret_bool (by rw [H.out]), hlow⟩
    | true =>
      cases b2 : decide (o.name = attachN o.volume o.node) with
      | false =>
        have H : Hid (attachB o = false) := by show _ = _; unfold attachB; simp [b0, b1, b2]
        have en : (o.name.toList == (attachN o.volume o.node).toList) = false := by rw [eqB]; exact b2
        go_enter Try.func76, Try.ntmps76
        go_upto_region 1 with (fail)
        refine wp_gen (fun W => BoxO W w.heap.size o ∧ Below w.heap.size w W) ⟨BoxO.new w o, (Below.refl _ _).alloc (Nat.le_refl _) _⟩ ?_
        rintro W1 ⟨hb, hlow⟩
        refine wp_region_held_drew (S := fun W => BoxO W w.heap.size o) (by kernel_rfl) hb.drew (fun _ => ?_)
        refine HeldBy.gen (fun W => BoxO W w.heap.size o ∧ Below w.heap.size w W) ⟨hb.drew, hlow.drew⟩ ?_
        clear hb hlow
        rintro V0 ⟨hb, hlow⟩
        refine HeldBy.take (i := 0) rfl (by kernel_rfl) (by kernel_rfl) (by kernel_rfl) (fun _ _ _ h => h) (by rfl) (fun _ _ => by go_simp; rfl) (by go_simp; rfl) hb ?_
        refine HeldBy.take (i := 1) rfl (by kernel_rfl) (by kernel_rfl) (by kernel_rfl) (fun _ _ _ h => h) (by rfl) (fun _ h => by have c := BoxO.c15 h; go_simp; rfl) (by go_simp; rfl) hb ?_
        refine HeldBy.take (i := 2) rfl (by kernel_rfl) (by kernel_rfl) (by kernel_rfl) (fun _ _ _ h => h) (by rfl) (fun _ _ => by go_simp; rfl) (by go_simp; rfl) hb ?_
        refine HeldBy.take (i := 3) rfl (by kernel_rfl) (by kernel_rfl) (by kernel_rfl) (fun _ _ _ h => h) (by rfl) (fun _ h => by have c := BoxO.c13 h; go_simp; rfl) (by go_simp; rfl) hb ?_
        refine HeldBy.value (i := 4) rfl (by kernel_rfl) (by rfl) (by go_simp; exact ⟨rfl, rfl⟩) (by go_simp; rfl) (hb.alloc _) ?_
        refine HeldBy.call (i := 5) (v := .bool true) rfl (by kernel_rfl) (by rfl) (by go_simp; exact ⟨rfl, rfl⟩) (by go_simp; rfl) ?_
        refine (noneEmpty2 o.volume o.node _ _ ?_ ?_).mono ?_
        · go_simp
        · go_simp
        rintro e V2 ⟨rfl, hV⟩
        refine ⟨by first | rfl | simp [*], hV ▸ hb.alloc _, ?_⟩
        replace hb : BoxO V2 _ _ := hV ▸ hb.alloc _
        replace hlow : Below _ _ V2 := hV ▸ hlow.alloc hlow.size _
        clear hV
        refine HeldBy.take (i := 6) rfl (by kernel_rfl) (by kernel_rfl) (by kernel_rfl) (fun _ _ _ h => h) (by rfl) (fun _ _ => by go_simp; rfl) (by go_simp; rfl) hb ?_
        refine HeldBy.take (i := 7) rfl (by kernel_rfl) (by kernel_rfl) (by kernel_rfl) (fun _ _ _ h => h) (by rfl) (fun _ _ => by go_simp; rfl) (by go_simp; rfl) hb ?_
        refine HeldBy.take (i := 8) rfl (by kernel_rfl) (by kernel_rfl) (by kernel_rfl) (fun _ _ _ h => h) (by rfl) (fun _ h => by have c := BoxO.c13 h; go_simp; rfl) (by go_simp; rfl) hb ?_
        refine HeldBy.call (i := 9) (v := .bool true) rfl (by kernel_rfl) (by rfl) (by go_simp; exact ⟨rfl, rfl⟩) (by go_simp; rfl) ?_
        refine (noSlash_any o.node _).mono ?_
        rintro e V3 ⟨rfl, hV⟩
        refine ⟨by first | rfl | simp [*], hV ▸ hb, ?_⟩
        replace hb : BoxO V3 _ _ := hV ▸ hb
        replace hlow : Below _ _ V3 := hV ▸ hlow
        clear hV
        refine HeldBy.take (i := 10) rfl (by kernel_rfl) (by kernel_rfl) (by kernel_rfl) (fun _ _ _ h => h) (by rfl) (fun _ _ => by go_simp; rfl) (by go_simp; rfl) hb ?_
        refine HeldBy.take (i := 11) rfl (by kernel_rfl) (by kernel_rfl) (by kernel_rfl) (fun _ _ _ h => h) (by rfl) (fun _ _ => by go_simp; rfl) (by go_simp; rfl) hb ?_
        refine HeldBy.take (i := 12) rfl (by kernel_rfl) (by kernel_rfl) (by kernel_rfl) (fun _ _ _ h => h) (by rfl) (fun _ _ => by go_simp; rfl) (by go_simp; rfl) hb ?_
        refine HeldBy.take (i := 13) rfl (by kernel_rfl) (by kernel_rfl) (by kernel_rfl) (fun _ _ _ h => h) (by rfl) (fun _ h => by have c := BoxO.c1 h; go_simp; rfl) (by go_simp; rfl) hb ?_
        refine HeldBy.take (i := 14) rfl (by kernel_rfl) (by kernel_rfl) (by kernel_rfl) (fun _ _ _ h => h) (by rfl) (fun _ _ => by go_simp; rfl) (by go_simp; rfl) hb ?_
        refine HeldBy.take (i := 15) rfl (by kernel_rfl) (by kernel_rfl) (by kernel_rfl) (fun _ _ _ h => h) (by rfl) (fun _ h => by have c := BoxO.c15 h; go_simp; rfl) (by go_simp; rfl) hb ?_
        refine HeldBy.take (i := 16) rfl (by kernel_rfl) (by kernel_rfl) (by kernel_rfl) (fun _ _ _ h => h) (by rfl) (fun _ _ => by go_simp; rfl) (by go_simp; rfl) hb ?_
        refine HeldBy.take (i := 17) rfl (by kernel_rfl) (by kernel_rfl) (by kernel_rfl) (fun _ _ _ h => h) (by rfl) (fun _ h => by have c := BoxO.c13 h; go_simp; rfl) (by go_simp; rfl) hb ?_
        refine HeldBy.call (i := 18) (v := .string (attachN o.volume o.node)) rfl (by kernel_rfl) (by rfl) (by go_simp; exact ⟨rfl, rfl⟩) (by go_simp; rfl) ?_
        refine (attachName_any o.volume o.node _ hz.1 hz.2).mono ?_
        rintro e V4 ⟨rfl, hV⟩
        refine ⟨by first | rfl | simp [*], hV ▸ hb, ?_⟩
        replace hb : BoxO V4 _ _ := hV ▸ hb
        replace hlow : Below _ _ V4 := hV ▸ hlow
        clear hV
        refine HeldBy.take (i := 19) rfl (by kernel_rfl) (by kernel_rfl) (by kernel_rfl) (fun _ _ _ h => h) (by rfl) (fun _ _ => by go_simp; rfl) (by go_simp; rfl) hb ?_
        refine HeldBy.take (i := 20) rfl (by kernel_rfl) (by kernel_rfl) (by kernel_rfl) (fun _ _ _ h => h) (by rfl) (fun _ _ => by go_simp; rfl) (by go_simp; rfl) hb ?_
        refine HeldBy.take (i := 21) rfl (by kernel_rfl) (by kernel_rfl) (by kernel_rfl) (fun _ _ _ h => h) (by rfl) (fun _ _ => by go_simp; rfl) (by go_simp; rfl) hb ?_
        refine HeldBy.skip (i := 22) rfl (by kernel_rfl) (by kernel_rfl) (by kernel_rfl) (fun _ _ _ h => h) (by rfl) (by go_simp; rfl) hb ?_
        refine HeldBy.skip (i := 23) rfl (by kernel_rfl) (by kernel_rfl) (by kernel_rfl) (fun _ _ _ h => h) (by rfl) (by go_simp; rfl) hb ?_
        refine HeldBy.skip (i := 24) rfl (by kernel_rfl) (by kernel_rfl) (by kernel_rfl) (fun _ _ _ h => h) (by rfl) (by go_simp; rfl) hb ?_
        refine HeldBy.skip (i := 25) rfl (by kernel_rfl) (by kernel_rfl) (by kernel_rfl) (fun _ _ _ h => h) (by rfl) (by go_simp; rfl) hb ?_
        refine HeldBy.take (i := 26) rfl (by kernel_rfl) (by kernel_rfl) (by kernel_rfl) (fun _ _ _ h => h) (by rfl) (fun _ _ => by go_simp; rfl) (by go_simp; rfl) hb ?_
        refine HeldBy.take (i := 27) rfl (by kernel_rfl) (by kernel_rfl) (by kernel_rfl) (fun _ _ _ h => h) (by rfl) (fun _ _ => by go_simp; rfl) (by go_simp; rfl) hb ?_
        refine wpAnyH_done (by kernel_rfl) ?_ _
        go_wp2
        go_ret
        exact ⟨ret_bool (by rw [H.out]), hlow⟩
      | true =>
        have H : Hid (attachB o = ph3 o.phase 7 8 9) := by show _ = _; unfold attachB; simp [b0, b1, b2]
        have en : (o.name.toList == (attachN o.volume o.node).toList) = true := by rw [eqB]; exact b2
        go_enter Try.func76, Try.ntmps76
        go_upto_region 1 with (fail)
        refine wp_gen (fun W => BoxO W w.heap.size o ∧ Below w.heap.size w W) ⟨BoxO.new w o, (Below.refl _ _).alloc (Nat.le_refl _) _⟩ ?_
        rintro W1 ⟨hb, hlow⟩
        refine wp_region_held_drew (S := fun W => BoxO W w.heap.size o) (by kernel_rfl) hb.drew (fun _ => ?_)
        refine HeldBy.gen (fun W => BoxO W w.heap.size o ∧ Below w.heap.size w W) ⟨hb.drew, hlow.drew⟩ ?_
        clear hb hlow
        rintro V0 ⟨hb, hlow⟩
        refine HeldBy.take (i := 0) rfl (by kernel_rfl) (by kernel_rfl) (by kernel_rfl) (fun _ _ _ h => h) (by rfl) (fun _ _ => by go_simp; rfl) (by go_simp; rfl) hb ?_
        refine HeldBy.take (i := 1) rfl (by kernel_rfl) (by kernel_rfl) (by kernel_rfl) (fun _ _ _ h => h) (by rfl) (fun _ h => by have c := BoxO.c15 h; go_simp; rfl) (by go_simp; rfl) hb ?_
        refine HeldBy.take (i := 2) rfl (by kernel_rfl) (by kernel_rfl) (by kernel_rfl) (fun _ _ _ h => h) (by rfl) (fun _ _ => by go_simp; rfl) (by go_simp; rfl) hb ?_
        refine HeldBy.take (i := 3) rfl (by kernel_rfl) (by kernel_rfl) (by kernel_rfl) (fun _ _ _ h => h) (by rfl) (fun _ h => by have c := BoxO.c13 h; go_simp; rfl) (by go_simp; rfl) hb ?_
        refine HeldBy.value (i := 4) rfl (by kernel_rfl) (by rfl) (by go_simp; exact ⟨rfl, rfl⟩) (by go_simp; rfl) (hb.alloc _) ?_
        refine HeldBy.call (i := 5) (v := .bool true) rfl (by kernel_rfl) (by rfl) (by go_simp; exact ⟨rfl, rfl⟩) (by go_simp; rfl) ?_
        refine (noneEmpty2 o.volume o.node _ _ ?_ ?_).mono ?_
        · go_simp
        · go_simp
        rintro e V2 ⟨rfl, hV⟩
        refine ⟨by first | rfl | simp [*], hV ▸ hb.alloc _, ?_⟩
        replace hb : BoxO V2 _ _ := hV ▸ hb.alloc _
        replace hlow : Below _ _ V2 := hV ▸ hlow.alloc hlow.size _
        clear hV
        refine HeldBy.take (i := 6) rfl (by kernel_rfl) (by kernel_rfl) (by kernel_rfl) (fun _ _ _ h => h) (by rfl) (fun _ _ => by go_simp; rfl) (by go_simp; rfl) hb ?_
        refine HeldBy.take (i := 7) rfl (by kernel_rfl) (by kernel_rfl) (by kernel_rfl) (fun _ _ _ h => h) (by rfl) (fun _ _ => by go_simp; rfl) (by go_simp; rfl) hb ?_
        refine HeldBy.take (i := 8) rfl (by kernel_rfl) (by kernel_rfl) (by kernel_rfl) (fun _ _ _ h => h) (by rfl) (fun _ h => by have c := BoxO.c13 h; go_simp; rfl) (by go_simp; rfl) hb ?_
        refine HeldBy.call (i := 9) (v := .bool true) rfl (by kernel_rfl) (by rfl) (by go_simp; exact ⟨rfl, rfl⟩) (by go_simp; rfl) ?_
        refine (noSlash_any o.node _).mono ?_
        rintro e V3 ⟨rfl, hV⟩
        refine ⟨by first | rfl | simp [*], hV ▸ hb, ?_⟩
        replace hb : BoxO V3 _ _ := hV ▸ hb
        replace hlow : Below _ _ V3 := hV ▸ hlow
        clear hV
        refine HeldBy.take (i := 10) rfl (by kernel_rfl) (by kernel_rfl) (by kernel_rfl) (fun _ _ _ h => h) (by rfl) (fun _ _ => by go_simp; rfl) (by go_simp; rfl) hb ?_
        refine HeldBy.take (i := 11) rfl (by kernel_rfl) (by kernel_rfl) (by kernel_rfl) (fun _ _ _ h => h) (by rfl) (fun _ _ => by go_simp; rfl) (by go_simp; rfl) hb ?_
        refine HeldBy.take (i := 12) rfl (by kernel_rfl) (by kernel_rfl) (by kernel_rfl) (fun _ _ _ h => h) (by rfl) (fun _ _ => by go_simp; rfl) (by go_simp; rfl) hb ?_
        refine HeldBy.take (i := 13) rfl (by kernel_rfl) (by kernel_rfl) (by kernel_rfl) (fun _ _ _ h => h) (by rfl) (fun _ h => by have c := BoxO.c1 h; go_simp; rfl) (by go_simp; rfl) hb ?_
        refine HeldBy.take (i := 14) rfl (by kernel_rfl) (by kernel_rfl) (by kernel_rfl) (fun _ _ _ h => h) (by rfl) (fun _ _ => by go_simp; rfl) (by go_simp; rfl) hb ?_
        refine HeldBy.take (i := 15) rfl (by kernel_rfl) (by kernel_rfl) (by kernel_rfl) (fun _ _ _ h => h) (by rfl) (fun _ h => by have c := BoxO.c15 h; go_simp; rfl) (by go_simp; rfl) hb ?_
        refine HeldBy.take (i := 16) rfl (by kernel_rfl) (by kernel_rfl) (by kernel_rfl) (fun _ _ _ h => h) (by rfl) (fun _ _ => by go_simp; rfl) (by go_simp; rfl) hb ?_
        refine HeldBy.take (i := 17) rfl (by kernel_rfl) (by kernel_rfl) (by kernel_rfl) (fun _ _ _ h => h) (by rfl) (fun _ h => by have c := BoxO.c13 h; go_simp; rfl) (by go_simp; rfl) hb ?_
        refine HeldBy.call (i := 18) (v := .string (attachN o.volume o.node)) rfl (by kernel_rfl) (by rfl) (by go_simp; exact ⟨rfl, rfl⟩) (by go_simp; rfl) ?_
        refine (attachName_any o.volume o.node _ hz.1 hz.2).mono ?_
        rintro e V4 ⟨rfl, hV⟩
        refine ⟨by first | rfl | simp [*], hV ▸ hb, ?_⟩
        replace hb : BoxO V4 _ _ := hV ▸ hb
        replace hlow : Below _ _ V4 := hV ▸ hlow
        clear hV
        refine HeldBy.take (i := 19) rfl (by kernel_rfl) (by kernel_rfl) (by kernel_rfl) (fun _ _ _ h => h) (by rfl) (fun _ _ => by go_simp; rfl) (by go_simp; rfl) hb ?_
        refine HeldBy.take (i := 20) rfl (by kernel_rfl) (by kernel_rfl) (by kernel_rfl) (fun _ _ _ h => h) (by rfl) (fun _ _ => by go_simp; rfl) (by go_simp; rfl) hb ?_
        refine HeldBy.take (i := 21) rfl (by kernel_rfl) (by kernel_rfl) (by kernel_rfl) (fun _ _ _ h => h) (by rfl) (fun _ _ => by go_simp; rfl) (by go_simp; rfl) hb ?_
        refine HeldBy.take (i := 22) rfl (by kernel_rfl) (by kernel_rfl) (by kernel_rfl) (fun _ _ _ h => h) (by rfl) (fun _ _ => by go_simp; rfl) (by go_simp; rfl) hb ?_
        refine HeldBy.take (i := 23) rfl (by kernel_rfl) (by kernel_rfl) (by kernel_rfl) (fun _ _ _ h => h) (by rfl) (fun _ h => by have c := BoxO.c17 h; go_simp; rfl) (by go_simp; rfl) hb ?_
        refine HeldBy.value (i := 24) rfl (by kernel_rfl) (by rfl) (by go_simp; exact ⟨rfl, rfl⟩) (by go_simp; rfl) (hb.alloc _) ?_
        refine HeldBy.call (i := 25) (v := .bool (ph3 o.phase 7 8 9)) rfl (by kernel_rfl) (by rfl) (by go_simp; exact ⟨rfl, rfl⟩) (by go_simp; rfl) ?_
        refine (oneOf3 o.phase 7 8 9 _ _ ?_ ?_ ?_).mono ?_
        · go_simp
        · go_simp
        · go_simp
        rintro e V6 ⟨rfl, hV⟩
        refine ⟨by first | rfl | simp [*], hV ▸ hb.alloc _, ?_⟩
        replace hb : BoxO V6 _ _ := hV ▸ hb.alloc _
        replace hlow : Below _ _ V6 := hV ▸ hlow.alloc hlow.size _
        clear hV
        refine HeldBy.take (i := 26) rfl (by kernel_rfl) (by kernel_rfl) (by kernel_rfl) (fun _ _ _ h => h) (by rfl) (fun _ _ => by go_simp; rfl) (by go_simp; rfl) hb ?_
        refine HeldBy.take (i := 27) rfl (by kernel_rfl) (by kernel_rfl) (by kernel_rfl) (fun _ _ _ h => h) (by rfl) (fun _ _ => by go_simp; rfl) (by go_simp; rfl) hb ?_
        refine wpAnyH_done (by kernel_rfl) ?_ _
        go_wp2
        go_ret
        exact ⟨ret_bool (H.out.symm), hlow⟩
set_option maxRecDepth 100000 in
set_option maxHeartbeats 4000000 in
theorem rightClaim_any (o : Obj) (w : World) :
    Calls Try.prog 74 #[encO o] w fun e w' => e = .returned (.bool (claimB o)) ∧ Below w.heap.size w w' := by
  unfold encO
  cases b0 : (!emp o.cls) with
  | false =>
    have H : Hid (claimB o = false) := by show _ = _; unfold claimB; simp [b0]
    go_enter Try.func74, Try.ntmps74
    go_upto_region 1 with (fail)
    refine wp_gen (fun W => BoxO W w.heap.size o ∧ Below w.heap.size w W) ⟨BoxO.new w o, (Below.refl _ _).alloc (Nat.le_refl _) _⟩ ?_
    rintro W1 ⟨hb, hlow⟩
    refine wp_region_held_drew (S := fun W => BoxO W w.heap.size o) (by kernel_rfl) hb.drew (fun _ => ?_)
    refine HeldBy.gen (fun W => BoxO W w.heap.size o ∧ Below w.heap.size w W) ⟨hb.drew, hlow.drew⟩ ?_
    clear hb hlow
    rintro V0 ⟨hb, hlow⟩
    refine HeldBy.take (i := 0) rfl (by kernel_rfl) (by kernel_rfl) (by kernel_rfl) (fun _ _ _ h => h) (by rfl) (fun _ _ => by go_simp; rfl) (by go_simp; rfl) hb ?_
    refine HeldBy.take (i := 1) rfl (by kernel_rfl) (by kernel_rfl) (by kernel_rfl) (fun _ _ _ h => h) (by rfl) (fun _ h => by have c := BoxO.c6 h; go_simp; rfl) (by go_simp; rfl) hb ?_
    refine HeldBy.value (i := 2) rfl (by kernel_rfl) (by rfl) (by go_simp; exact ⟨rfl, rfl⟩) (by go_simp; rfl) (hb.alloc _) ?_
    refine HeldBy.call (i := 3) (v := .bool false) rfl (by kernel_rfl) (by rfl) (by go_simp; exact ⟨rfl, rfl⟩) (by go_simp; rfl) ?_
    refine (noneEmpty1 o.cls _ _ ?_).mono ?_
    · go_simp
    rintro e V2 ⟨rfl, hV⟩
    refine ⟨by first | rfl | simp [*], hV ▸ hb.alloc _, ?_⟩
    replace hb : BoxO V2 _ _ := hV ▸ hb.alloc _
    replace hlow : Below _ _ V2 := hV ▸ hlow.alloc hlow.size _
    clear hV
    refine HeldBy.take (i := 4) rfl (by kernel_rfl) (by kernel_rfl) (by kernel_rfl) (fun _ _ _ h => h) (by rfl) (fun _ _ => by go_simp; rfl) (by go_simp; rfl) hb ?_
    refine HeldBy.skip (i := 5) rfl (by kernel_rfl) (by kernel_rfl) (by kernel_rfl) (fun _ _ _ h => h) (by rfl) (by go_simp; rfl) hb ?_
    refine HeldBy.skip (i := 6) rfl (by kernel_rfl) (by kernel_rfl) (by kernel_rfl) (fun _ _ _ h => h) (by rfl) (by go_simp; rfl) hb ?_
    refine HeldBy.skip (i := 7) rfl (by kernel_rfl) (by kernel_rfl) (by kernel_rfl) (fun _ _ _ h => h) (by rfl) (by go_simp; rfl) hb ?_
    refine HeldBy.take (i := 8) rfl (by kernel_rfl) (by kernel_rfl) (by kernel_rfl) (fun _ _ _ h => h) (by rfl) (fun _ _ => by go_simp; rfl) (by go_simp; rfl) hb ?_
    refine HeldBy.take (i := 9) rfl (by kernel_rfl) (by kernel_rfl) (by kernel_rfl) (fun _ _ _ h => h) (by rfl) (fun _ _ => by go_simp; rfl) (by go_simp; rfl) hb ?_
    refine HeldBy.skip (i := 10) rfl (by kernel_rfl) (by kernel_rfl) (by kernel_rfl) (fun _ _ _ h => h) (by rfl) (by go_simp; rfl) hb ?_
    refine HeldBy.skip (i := 11) rfl (by kernel_rfl) (by kernel_rfl) (by kernel_rfl) (fun _ _ _ h => h) (by rfl) (by go_simp; rfl) hb ?_
    refine HeldBy.skip (i := 12) rfl (by kernel_rfl) (by kernel_rfl) (by kernel_rfl) (fun _ _ _ h => h) (by rfl) (by go_simp; rfl) hb ?_
    refine HeldBy.take (i := 13) rfl (by kernel_rfl) (by kernel_rfl) (by kernel_rfl) (fun _ _ _ h => h) (by rfl) (fun _ _ => by go_simp; rfl) (by go_simp; rfl) hb ?_
    refine HeldBy.take (i := 14) rfl (by kernel_rfl) (by kernel_rfl) (by kernel_rfl) (fun _ _ _ h => h) (by rfl) (fun _ _ => by go_simp; rfl) (by go_simp; rfl) hb ?_
    refine HeldBy.skip (i := 15) rfl (by kernel_rfl) (by kernel_rfl) (by kernel_rfl) (fun _ _ _ h => h) (by rfl) (by go_simp; rfl) hb ?_
    refine HeldBy.skip (i := 16) rfl (by kernel_rfl) (by kernel_rfl) (by kernel_rfl) (fun _ _ _ h => h) (by rfl) (by go_simp; rfl) hb ?_
    refine HeldBy.skip (i := 17) rfl (by kernel_rfl) (by kernel_rfl) (by kernel_rfl) (fun _ _ _ h => h) (by rfl) (by go_simp; rfl) hb ?_
    refine HeldBy.skip (i := 18) rfl (by kernel_rfl) (by kernel_rfl) (by kernel_rfl) (fun _ _ _ h => h) (by rfl) (by go_simp; rfl) hb ?_
    refine HeldBy.take (i := 19) rfl (by kernel_rfl) (by kernel_rfl) (by kernel_rfl) (fun _ _ _ h => h) (by rfl) (fun _ _ => by go_simp; rfl) (by go_simp; rfl) hb ?_
    refine HeldBy.take (i := 20) rfl (by kernel_rfl) (by kernel_rfl) (by kernel_rfl) (fun _ _ _ h => h) (by rfl) (fun _ _ => by go_simp; rfl) (by go_simp; rfl) hb ?_
    refine HeldBy.skip (i := 21) rfl (by kernel_rfl) (by kernel_rfl) (by kernel_rfl) (fun _ _ _ h => h) (by rfl) (by go_simp; rfl) hb ?_
    refine HeldBy.skip (i := 22) rfl (by kernel_rfl) (by kernel_rfl) (by kernel_rfl) (fun _ _ _ h => h) (by rfl) (by go_simp; rfl) hb ?_
    refine HeldBy.skip (i := 23) rfl (by kernel_rfl) (by kernel_rfl) (by kernel_rfl) (fun _ _ _ h => h) (by rfl) (by go_simp; rfl) hb ?_
    refine HeldBy.skip (i := 24) rfl (by kernel_rfl) (by kernel_rfl) (by kernel_rfl) (fun _ _ _ h => h) (by rfl) (by go_simp; rfl) hb ?_
    refine HeldBy.skip (i := 25) rfl (by kernel_rfl) (by kernel_rfl) (by kernel_rfl) (fun _ _ _ h => h) (by rfl) (by go_simp; rfl) hb ?_
    refine HeldBy.skip (i := 26) rfl (by kernel_rfl) (by kernel_rfl) (by kernel_rfl) (fun _ _ _ h => h) (by rfl) (by go_simp; rfl) hb ?_
    refine HeldBy.skip (i := 27) rfl (by kernel_rfl) (by kernel_rfl) (by kernel_rfl) (fun _ _ _ h => h) (by rfl) (by go_simp; rfl) hb ?_
    refine HeldBy.skip (i := 28) rfl (by kernel_rfl) (by kernel_rfl) (by kernel_rfl) (fun _ _ _ h => h) (by rfl) (by go_simp; rfl) hb ?_
    refine HeldBy.take (i := 29) rfl (by kernel_rfl) (by kernel_rfl) (by kernel_rfl) (fun _ _ _ h => h) (by rfl) (fun _ _ => by go_simp; rfl) (by go_simp; rfl) hb ?_
    refine HeldBy.take (i := 30) rfl (by kernel_rfl) (by kernel_rfl) (by kernel_rfl) (fun _ _ _ h => h) (by rfl) (fun _ _ => by go_simp; rfl) (by go_simp; rfl) hb ?_
    refine wpAnyH_done (by kernel_rfl) ?_ _
    go_wp2
    go_ret
    exact ⟨ret_bool (by rw [H.out]), hlow⟩
  | true =>
    cases b1 : decide (o.size ≠ 0) with
    | false =>
      have H : Hid (claimB o = false) := by show _ = _; unfold claimB; simp [b0, b1]
      have es : (o.size != 0) = false := by rw [← b1]; exact neB o.size
      go_enter Try.func74, Try.ntmps74
      go_upto_region 1 with (fail)
      refine wp_gen (fun W => BoxO W w.heap.size o ∧ Below w.heap.size w W) ⟨BoxO.new w o, (Below.refl _ _).alloc (Nat.le_refl _) _⟩ ?_
      rintro W1 ⟨hb, hlow⟩
      refine wp_region_held_drew (S := fun W => BoxO W w.heap.size o) (by kernel_rfl) hb.drew (fun _ => ?_)
      refine HeldBy.gen (fun W => BoxO W w.heap.size o ∧ Below w.heap.size w W) ⟨hb.drew, hlow.drew⟩ ?_
      clear hb hlow
      rintro V0 ⟨hb, hlow⟩
      refine HeldBy.take (i := 0) rfl (by kernel_rfl) (by kernel_rfl) (by kernel_rfl) (fun _ _ _ h => h) (by rfl) (fun _ _ => by go_simp; rfl) (by go_simp; rfl) hb ?_
      refine HeldBy.take (i := 1) rfl (by kernel_rfl) (by kernel_rfl) (by kernel_rfl) (fun _ _ _ h => h) (by rfl) (fun _ h => by have c := BoxO.c6 h; go_simp; rfl) (by go_simp; rfl) hb ?_
      refine HeldBy.value (i := 2) rfl (by kernel_rfl) (by rfl) (by go_simp; exact ⟨rfl, rfl⟩) (by go_simp; rfl) (hb.alloc _) ?_
      refine HeldBy.call (i := 3) (v := .bool true) rfl (by kernel_rfl) (by rfl) (by go_simp; exact ⟨rfl, rfl⟩) (by go_simp; rfl) ?_
      refine (noneEmpty1 o.cls _ _ ?_).mono ?_
      · go_simp
      rintro e V2 ⟨rfl, hV⟩
      refine ⟨by first | rfl | simp [*], hV ▸ hb.alloc _, ?_⟩
      replace hb : BoxO V2 _ _ := hV ▸ hb.alloc _
      replace hlow : Below _ _ V2 := hV ▸ hlow.alloc hlow.size _
      clear hV
      refine HeldBy.take (i := 4) rfl (by kernel_rfl) (by kernel_rfl) (by kernel_rfl) (fun _ _ _ h => h) (by rfl) (fun _ _ => by go_simp; rfl) (by go_simp; rfl) hb ?_
      refine HeldBy.take (i := 5) rfl (by kernel_rfl) (by kernel_rfl) (by kernel_rfl) (fun _ _ _ h => h) (by rfl) (fun _ _ => by go_simp; rfl) (by go_simp; rfl) hb ?_
      refine HeldBy.take (i := 6) rfl (by kernel_rfl) (by kernel_rfl) (by kernel_rfl) (fun _ _ _ h => h) (by rfl) (fun _ h => by have c := BoxO.c7 h; go_simp; rfl) (by go_simp; rfl) hb ?_
      refine HeldBy.take (i := 7) rfl (by kernel_rfl) (by kernel_rfl) (by kernel_rfl) (fun _ _ _ h => h) (by rfl) (fun _ _ => by go_simp; rfl) (by go_simp; rfl) hb ?_
      refine HeldBy.take (i := 8) rfl (by kernel_rfl) (by kernel_rfl) (by kernel_rfl) (fun _ _ _ h => h) (by rfl) (fun _ _ => by go_simp; rfl) (by go_simp; rfl) hb ?_
      refine HeldBy.take (i := 9) rfl (by kernel_rfl) (by kernel_rfl) (by kernel_rfl) (fun _ _ _ h => h) (by rfl) (fun _ _ => by go_simp; rfl) (by go_simp; rfl) hb ?_
      refine HeldBy.skip (i := 10) rfl (by kernel_rfl) (by kernel_rfl) (by kernel_rfl) (fun _ _ _ h => h) (by rfl) (by go_simp; rfl) hb ?_
      refine HeldBy.skip (i := 11) rfl (by kernel_rfl) (by kernel_rfl) (by kernel_rfl) (fun _ _ _ h => h) (by rfl) (by go_simp; rfl) hb ?_
      refine HeldBy.skip (i := 12) rfl (by kernel_rfl) (by kernel_rfl) (by kernel_rfl) (fun _ _ _ h => h) (by rfl) (by go_simp; rfl) hb ?_
      refine HeldBy.take (i := 13) rfl (by kernel_rfl) (by kernel_rfl) (by kernel_rfl) (fun _ _ _ h => h) (by rfl) (fun _ _ => by go_simp; rfl) (by go_simp; rfl) hb ?_
      refine HeldBy.take (i := 14) rfl (by kernel_rfl) (by kernel_rfl) (by kernel_rfl) (fun _ _ _ h => h) (by rfl) (fun _ _ => by go_simp; rfl) (by go_simp; rfl) hb ?_
      refine HeldBy.skip (i := 15) rfl (by kernel_rfl) (by kernel_rfl) (by kernel_rfl) (fun _ _ _ h => h) (by rfl) (by go_simp; rfl) hb ?_
      refine HeldBy.skip (i := 16) rfl (by kernel_rfl) (by kernel_rfl) (by kernel_rfl) (fun _ _ _ h => h) (by rfl) (by go_simp; rfl) hb ?_
      refine HeldBy.skip (i := 17) rfl (by kernel_rfl) (by kernel_rfl) (by kernel_rfl) (fun _ _ _ h => h) (by rfl) (by go_simp; rfl) hb ?_
      refine HeldBy.skip (i := 18) rfl (by kernel_rfl) (by kernel_rfl) (by kernel_rfl) (fun _ _ _ h => h) (by rfl) (by go_simp; rfl) hb ?_
      refine HeldBy.take (i := 19) rfl (by kernel_rfl) (by kernel_rfl) (by kernel_rfl) (fun _ _ _ h => h) (by rfl) (fun _ _ => by go_simp; rfl) (by go_simp; rfl) hb ?_
      refine HeldBy.take (i := 20) rfl (by kernel_rfl) (by kernel_rfl) (by kernel_rfl) (fun _ _ _ h => h) (by rfl) (fun _ _ => by go_simp; rfl) (by go_simp; rfl) hb ?_
      refine HeldBy.skip (i := 21) rfl (by kernel_rfl) (by kernel_rfl) (by kernel_rfl) (fun _ _ _ h => h) (by rfl) (by go_simp; rfl) hb ?_
      refine HeldBy.skip (i := 22) rfl (by kernel_rfl) (by kernel_rfl) (by kernel_rfl) (fun _ _ _ h => h) (by rfl) (by go_simp; rfl) hb ?_
      refine HeldBy.skip (i := 23) rfl (by kernel_rfl) (by kernel_rfl) (by kernel_rfl) (fun _ _ _ h => h) (by rfl) (by go_simp; rfl) hb ?_
      refine HeldBy.skip (i := 24) rfl (by kernel_rfl) (by kernel_rfl) (by kernel_rfl) (fun _ _ _ h => h) (by rfl) (by go_simp; rfl) hb ?_
      refine HeldBy.skip (i := 25) rfl (by kernel_rfl) (by kernel_rfl) (by kernel_rfl) (fun _ _ _ h => h) (by rfl) (by go_simp; rfl) hb ?_
      refine HeldBy.skip (i := 26) rfl (by kernel_rfl) (by kernel_rfl) (by kernel_rfl) (fun _ _ _ h => h) (by rfl) (by go_simp; rfl) hb ?_
      refine HeldBy.skip (i := 27) rfl (by kernel_rfl) (by kernel_rfl) (by kernel_rfl) (fun _ _ _ h => h) (by rfl) (by go_simp; rfl) hb ?_
      refine HeldBy.skip (i := 28) rfl (by kernel_rfl) (by kernel_rfl) (by kernel_rfl) (fun _ _ _ h => h) (by rfl) (by go_simp; rfl) hb ?_
      refine HeldBy.take (i := 29) rfl (by kernel_rfl) (by kernel_rfl) (by kernel_rfl) (fun _ _ _ h => h) (by rfl) (fun _ _ => by go_simp; rfl) (by go_simp; rfl) hb ?_
      refine HeldBy.take (i := 30) rfl (by kernel_rfl) (by kernel_rfl) (by kernel_rfl) (fun _ _ _ h => h) (by rfl) (fun _ _ => by go_simp; rfl) (by go_simp; rfl) hb ?_
      refine wpAnyH_done (by kernel_rfl) ?_ _
      go_wp2
      go_ret
      exact ⟨ret_bool (by rw [H.out]), hlow⟩
    | true =>
      cases b2 : modeB o.mode with
      | false =>
        have H : Hid (claimB o = false) := by show _ = _; unfold claimB; simp [b0, b1, b2]
        have es : (o.size != 0) = true := by rw [← b1]; exact neB o.size
        go_enter Try.func74, Try.ntmps74
        go_upto_region 1 with (fail)
        refine wp_gen (fun W => BoxO W w.heap.size o ∧ Below w.heap.size w W) ⟨BoxO.new w o, (Below.refl _ _).alloc (Nat.le_refl _) _⟩ ?_
        rintro W1 ⟨hb, hlow⟩
        refine wp_region_held_drew (S := fun W => BoxO W w.heap.size o) (by kernel_rfl) hb.drew (fun _ => ?_)
        refine HeldBy.gen (fun W => BoxO W w.heap.size o ∧ Below w.heap.size w W) ⟨hb.drew, hlow.drew⟩ ?_
        clear hb hlow
        rintro V0 ⟨hb, hlow⟩
        refine HeldBy.take (i := 0) rfl (by kernel_rfl) (by kernel_rfl) (by kernel_rfl) (fun _ _ _ h => h) (by rfl) (fun _ _ => by go_simp; rfl) (by go_simp; rfl) hb ?_
        refine HeldBy.take (i := 1) rfl (by kernel_rfl) (by kernel_rfl) (by kernel_rfl) (fun _ _ _ h => h) (by rfl) (fun _ h => by have c := BoxO.c6 h; go_simp; rfl) (by go_simp; rfl) hb ?_
        refine HeldBy.value (i := 2) rfl (by kernel_rfl) (by rfl) (by go_simp; exact ⟨rfl, rfl⟩) (by go_simp; rfl) (hb.alloc _) ?_
        refine HeldBy.call (i := 3) (v := .bool true) rfl (by kernel_rfl) (by rfl) (by go_simp; exact ⟨rfl, rfl⟩) (by go_simp; rfl) ?_
        refine (noneEmpty1 o.cls _ _ ?_).mono ?_
        · go_simp
        rintro e V2 ⟨rfl, hV⟩
        refine ⟨by first | rfl | simp [*], hV ▸ hb.alloc _, ?_⟩
        replace hb : BoxO V2 _ _ := hV ▸ hb.alloc _
        replace hlow : Below _ _ V2 := hV ▸ hlow.alloc hlow.size _
        clear hV
        refine HeldBy.take (i := 4) rfl (by kernel_rfl) (by kernel_rfl) (by kernel_rfl) (fun _ _ _ h => h) (by rfl) (fun _ _ => by go_simp; rfl) (by go_simp; rfl) hb ?_
        refine HeldBy.take (i := 5) rfl (by kernel_rfl) (by kernel_rfl) (by kernel_rfl) (fun _ _ _ h => h) (by rfl) (fun _ _ => by go_simp; rfl) (by go_simp; rfl) hb ?_
        refine HeldBy.take (i := 6) rfl (by kernel_rfl) (by kernel_rfl) (by kernel_rfl) (fun _ _ _ h => h) (by rfl) (fun _ h => by have c := BoxO.c7 h; go_simp; rfl) (by go_simp; rfl) hb ?_
        refine HeldBy.take (i := 7) rfl (by kernel_rfl) (by kernel_rfl) (by kernel_rfl) (fun _ _ _ h => h) (by rfl) (fun _ _ => by go_simp; rfl) (by go_simp; rfl) hb ?_
        refine HeldBy.take (i := 8) rfl (by kernel_rfl) (by kernel_rfl) (by kernel_rfl) (fun _ _ _ h => h) (by rfl) (fun _ _ => by go_simp; rfl) (by go_simp; rfl) hb ?_
        refine HeldBy.take (i := 9) rfl (by kernel_rfl) (by kernel_rfl) (by kernel_rfl) (fun _ _ _ h => h) (by rfl) (fun _ _ => by go_simp; rfl) (by go_simp; rfl) hb ?_
        refine HeldBy.take (i := 10) rfl (by kernel_rfl) (by kernel_rfl) (by kernel_rfl) (fun _ _ _ h => h) (by rfl) (fun _ _ => by go_simp; rfl) (by go_simp; rfl) hb ?_
        refine HeldBy.take (i := 11) rfl (by kernel_rfl) (by kernel_rfl) (by kernel_rfl) (fun _ _ _ h => h) (by rfl) (fun _ h => by have c := BoxO.c9 h; go_simp; rfl) (by go_simp; rfl) hb ?_
        refine HeldBy.call (i := 12) (v := .bool false) rfl (by kernel_rfl) (by rfl) (by go_simp; exact ⟨rfl, rfl⟩) (by go_simp; rfl) ?_
        refine (rightMode_any o.mode _).mono ?_
        rintro e V3 ⟨rfl, hV⟩
        refine ⟨by first | rfl | simp [*], hV ▸ hb, ?_⟩
        replace hb : BoxO V3 _ _ := hV ▸ hb
        replace hlow : Below _ _ V3 := hV ▸ hlow
        clear hV
        refine HeldBy.take (i := 13) rfl (by kernel_rfl) (by kernel_rfl) (by kernel_rfl) (fun _ _ _ h => h) (by rfl) (fun _ _ => by go_simp; rfl) (by go_simp; rfl) hb ?_
        refine HeldBy.take (i := 14) rfl (by kernel_rfl) (by kernel_rfl) (by kernel_rfl) (fun _ _ _ h => h) (by rfl) (fun _ _ => by go_simp; rfl) (by go_simp; rfl) hb ?_
        refine HeldBy.skip (i := 15) rfl (by kernel_rfl) (by kernel_rfl) (by kernel_rfl) (fun _ _ _ h => h) (by rfl) (by go_simp; rfl) hb ?_
        refine HeldBy.skip (i := 16) rfl (by kernel_rfl) (by kernel_rfl) (by kernel_rfl) (fun _ _ _ h => h) (by rfl) (by go_simp; rfl) hb ?_
        refine HeldBy.skip (i := 17) rfl (by kernel_rfl) (by kernel_rfl) (by kernel_rfl) (fun _ _ _ h => h) (by rfl) (by go_simp; rfl) hb ?_
        refine HeldBy.skip (i := 18) rfl (by kernel_rfl) (by kernel_rfl) (by kernel_rfl) (fun _ _ _ h => h) (by rfl) (by go_simp; rfl) hb ?_
        refine HeldBy.take (i := 19) rfl (by kernel_rfl) (by kernel_rfl) (by kernel_rfl) (fun _ _ _ h => h) (by rfl) (fun _ _ => by go_simp; rfl) (by go_simp; rfl) hb ?_
        refine HeldBy.take (i := 20) rfl (by kernel_rfl) (by kernel_rfl) (by kernel_rfl) (fun _ _ _ h => h) (by rfl) (fun _ _ => by go_simp; rfl) (by go_simp; rfl) hb ?_
        refine HeldBy.skip (i := 21) rfl (by kernel_rfl) (by kernel_rfl) (by kernel_rfl) (fun _ _ _ h => h) (by rfl) (by go_simp; rfl) hb ?_
        refine HeldBy.skip (i := 22) rfl (by kernel_rfl) (by kernel_rfl) (by kernel_rfl) (fun _ _ _ h => h) (by rfl) (by go_simp; rfl) hb ?_
        refine HeldBy.skip (i := 23) rfl (by kernel_rfl) (by kernel_rfl) (by kernel_rfl) (fun _ _ _ h => h) (by rfl) (by go_simp; rfl) hb ?_
        refine HeldBy.skip (i := 24) rfl (by kernel_rfl) (by kernel_rfl) (by kernel_rfl) (fun _ _ _ h => h) (by rfl) (by go_simp; rfl) hb ?_
        refine HeldBy.skip (i := 25) rfl (by kernel_rfl) (by kernel_rfl) (by kernel_rfl) (fun _ _ _ h => h) (by rfl) (by go_simp; rfl) hb ?_
        refine HeldBy.skip (i := 26) rfl (by kernel_rfl) (by kernel_rfl) (by kernel_rfl) (fun _ _ _ h => h) (by rfl) (by go_simp; rfl) hb ?_
        refine HeldBy.skip (i := 27) rfl (by kernel_rfl) (by kernel_rfl) (by kernel_rfl) (fun _ _ _ h => h) (by rfl) (by go_simp; rfl) hb ?_
        refine HeldBy.skip (i := 28) rfl (by kernel_rfl) (by kernel_rfl) (by kernel_rfl) (fun _ _ _ h => h) (by rfl) (by go_simp; rfl) hb ?_
        refine HeldBy.take (i := 29) rfl (by kernel_rfl) (by kernel_rfl) (by kernel_rfl) (fun _ _ _ h => h) (by rfl) (fun _ _ => by go_simp; rfl) (by go_simp; rfl) hb ?_
        refine HeldBy.take (i := 30) rfl (by kernel_rfl) (by kernel_rfl) (by kernel_rfl) (fun _ _ _ h => h) (by rfl) (fun _ _ => by go_simp; rfl) (by go_simp; rfl) hb ?_
        refine wpAnyH_done (by kernel_rfl) ?_ _
        go_wp2
        go_ret
        exact ⟨ret_bool (by rw [H.out]), hlow⟩
      | true =>
        cases b3 : ph3 o.phase 1 2 3 with
        | false =>
          have H : Hid (claimB o = false) := by show _ = _; unfold claimB; simp [b0, b1, b2, b3]
          have es : (o.size != 0) = true := by rw [← b1]; exact neB o.size
          go_enter Try.func74, Try.ntmps74
          go_upto_region 1 with (fail)
          refine wp_gen (fun W => BoxO W w.heap.size o ∧ Below w.heap.size w W) ⟨BoxO.new w o, (Below.refl _ _).alloc (Nat.le_refl _) _⟩ ?_
          rintro W1 ⟨hb, hlow⟩
          refine wp_region_held_drew (S := fun W => BoxO W w.heap.size o) (by kernel_rfl) hb.drew (fun _ => ?_)
          refine HeldBy.gen (fun W => BoxO W w.heap.size o ∧ Below w.heap.size w W) ⟨hb.drew, hlow.drew⟩ ?_
          clear hb hlow
          rintro V0 ⟨hb, hlow⟩
          refine HeldBy.take (i := 0) rfl (by kernel_rfl) (by kernel_rfl) (by kernel_rfl) (fun _ _ _ h => h) (by rfl) (fun _ _ => by go_simp; rfl) (by go_simp; rfl) hb ?_
          refine HeldBy.take (i := 1) rfl (by kernel_rfl) (by kernel_rfl) (by kernel_rfl) (fun _ _ _ h => h) (by rfl) (fun _ h => by have c := BoxO.c6 h; go_simp; rfl) (by go_simp; rfl) hb ?_
          refine HeldBy.value (i := 2) rfl (by kernel_rfl) (by rfl) (by go_simp; exact ⟨rfl, rfl⟩) (by go_simp; rfl) (hb.alloc _) ?_
          refine HeldBy.call (i := 3) (v := .bool true) rfl (by kernel_rfl) (by rfl) (by go_simp; exact ⟨rfl, rfl⟩) (by go_simp; rfl) ?_
          refine (noneEmpty1 o.cls _ _ ?_).mono ?_
          · go_simp
          rintro e V2 ⟨rfl, hV⟩
          refine ⟨by first | rfl | simp [*], hV ▸ hb.alloc _, ?_⟩
          replace hb : BoxO V2 _ _ := hV ▸ hb.alloc _
          replace hlow : Below _ _ V2 := hV ▸ hlow.alloc hlow.size _
          clear hV
          refine HeldBy.take (i := 4) rfl (by kernel_rfl) (by kernel_rfl) (by kernel_rfl) (fun _ _ _ h => h) (by rfl) (fun _ _ => by go_simp; rfl) (by go_simp; rfl) hb ?_
          refine HeldBy.take (i := 5) rfl (by kernel_rfl) (by kernel_rfl) (by kernel_rfl) (fun _ _ _ h => h) (by rfl) (fun _ _ => by go_simp; rfl) (by go_simp; rfl) hb ?_
          refine HeldBy.take (i := 6) rfl (by kernel_rfl) (by kernel_rfl) (by kernel_rfl) (fun _ _ _ h => h) (by rfl) (fun _ h => by have c := BoxO.c7 h; go_simp; rfl) (by go_simp; rfl) hb ?_
          refine HeldBy.take (i := 7) rfl (by kernel_rfl) (by kernel_rfl) (by kernel_rfl) (fun _ _ _ h => h) (by rfl) (fun _ _ => by go_simp; rfl) (by go_simp; rfl) hb ?_
          refine HeldBy.take (i := 8) rfl (by kernel_rfl) (by kernel_rfl) (by kernel_rfl) (fun _ _ _ h => h) (by rfl) (fun _ _ => by go_simp; rfl) (by go_simp; rfl) hb ?_
          refine HeldBy.take (i := 9) rfl (by kernel_rfl) (by kernel_rfl) (by kernel_rfl) (fun _ _ _ h => h) (by rfl) (fun _ _ => by go_simp; rfl) (by go_simp; rfl) hb ?_
          refine HeldBy.take (i := 10) rfl (by kernel_rfl) (by kernel_rfl) (by kernel_rfl) (fun _ _ _ h => h) (by rfl) (fun _ _ => by go_simp; rfl) (by go_simp; rfl) hb ?_
          refine HeldBy.take (i := 11) rfl (by kernel_rfl) (by kernel_rfl) (by kernel_rfl) (fun _ _ _ h => h) (by rfl) (fun _ h => by have c := BoxO.c9 h; go_simp; rfl) (by go_simp; rfl) hb ?_
          refine HeldBy.call (i := 12) (v := .bool true) rfl (by kernel_rfl) (by rfl) (by go_simp; exact ⟨rfl, rfl⟩) (by go_simp; rfl) ?_
          refine (rightMode_any o.mode _).mono ?_
          rintro e V3 ⟨rfl, hV⟩
          refine ⟨by first | rfl | simp [*], hV ▸ hb, ?_⟩
          replace hb : BoxO V3 _ _ := hV ▸ hb
          replace hlow : Below _ _ V3 := hV ▸ hlow
          clear hV
          refine HeldBy.take (i := 13) rfl (by kernel_rfl) (by kernel_rfl) (by kernel_rfl) (fun _ _ _ h => h) (by rfl) (fun _ _ => by go_simp; rfl) (by go_simp; rfl) hb ?_
          refine HeldBy.take (i := 14) rfl (by kernel_rfl) (by kernel_rfl) (by kernel_rfl) (fun _ _ _ h => h) (by rfl) (fun _ _ => by go_simp; rfl) (by go_simp; rfl) hb ?_
          refine HeldBy.take (i := 15) rfl (by kernel_rfl) (by kernel_rfl) (by kernel_rfl) (fun _ _ _ h => h) (by rfl) (fun _ _ => by go_simp; rfl) (by go_simp; rfl) hb ?_
          refine HeldBy.take (i := 16) rfl (by kernel_rfl) (by kernel_rfl) (by kernel_rfl) (fun _ _ _ h => h) (by rfl) (fun _ h => by have c := BoxO.c17 h; go_simp; rfl) (by go_simp; rfl) hb ?_
          refine HeldBy.value (i := 17) rfl (by kernel_rfl) (by rfl) (by go_simp; exact ⟨rfl, rfl⟩) (by go_simp; rfl) (hb.alloc _) ?_
          refine HeldBy.call (i := 18) (v := .bool false) rfl (by kernel_rfl) (by rfl) (by go_simp; exact ⟨rfl, rfl⟩) (by go_simp; rfl) ?_
          refine (oneOf3 o.phase 1 2 3 _ _ ?_ ?_ ?_).mono ?_
          · go_simp
          · go_simp
          · go_simp
          rintro e V5 ⟨rfl, hV⟩
          refine ⟨by first | rfl | simp [*], hV ▸ hb.alloc _, ?_⟩
          replace hb : BoxO V5 _ _ := hV ▸ hb.alloc _
          replace hlow : Below _ _ V5 := hV ▸ hlow.alloc hlow.size _
          clear hV
          refine HeldBy.take (i := 19) rfl (by kernel_rfl) (by kernel_rfl) (by kernel_rfl) (fun _ _ _ h => h) (by rfl) (fun _ _ => by go_simp; rfl) (by go_simp; rfl) hb ?_
          refine HeldBy.take (i := 20) rfl (by kernel_rfl) (by kernel_rfl) (by kernel_rfl) (fun _ _ _ h => h) (by rfl) (fun _ _ => by go_simp; rfl) (by go_simp; rfl) hb ?_
          refine HeldBy.skip (i := 21) rfl (by kernel_rfl) (by kernel_rfl) (by kernel_rfl) (fun _ _ _ h => h) (by rfl) (by go_simp; rfl) hb ?_
          refine HeldBy.skip (i := 22) rfl (by kernel_rfl) (by kernel_rfl) (by kernel_rfl) (fun _ _ _ h => h) (by rfl) (by go_simp; rfl) hb ?_
          refine HeldBy.skip (i := 23) rfl (by kernel_rfl) (by kernel_rfl) (by kernel_rfl) (fun _ _ _ h => h) (by rfl) (by go_simp; rfl) hb ?_
          refine HeldBy.skip (i := 24) rfl (by kernel_rfl) (by kernel_rfl) (by kernel_rfl) (fun _ _ _ h => h) (by rfl) (by go_simp; rfl) hb ?_
          refine HeldBy.skip (i := 25) rfl (by kernel_rfl) (by kernel_rfl) (by kernel_rfl) (fun _ _ _ h => h) (by rfl) (by go_simp; rfl) hb ?_
          refine HeldBy.skip (i := 26) rfl (by kernel_rfl) (by kernel_rfl) (by kernel_rfl) (fun _ _ _ h => h) (by rfl) (by go_simp; rfl) hb ?_
          refine HeldBy.skip (i := 27) rfl (by kernel_rfl) (by kernel_rfl) (by kernel_rfl) (fun _ _ _ h => h) (by rfl) (by go_simp; rfl) hb ?_
          refine HeldBy.skip (i := 28) rfl (by kernel_rfl) (by kernel_rfl) (by kernel_rfl) (fun _ _ _ h => h) (by rfl) (by go_simp; rfl) hb ?_
          refine HeldBy.take (i := 29) rfl (by kernel_rfl) (by kernel_rfl) (by kernel_rfl) (fun _ _ _ h => h) (by rfl) (fun _ _ => by go_simp; rfl) (by go_simp; rfl) hb ?_
          refine HeldBy.take (i := 30) rfl (by kernel_rfl) (by kernel_rfl) (by kernel_rfl) (fun _ _ _ h => h) (by rfl) (fun _ _ => by go_simp; rfl) (by go_simp; rfl) hb ?_
          refine wpAnyH_done (by kernel_rfl) ?_ _
          go_wp2
          go_ret
          exact ⟨ret_bool (by rw [H.out]), hlow⟩
        | true =>
          have H : Hid (claimB o = ((!emp o.volume) == decide (o.phase = 3))) := by show _ = _; unfold claimB; simp [b0, b1, b2, b3]
          have es : (o.size != 0) = true := by rw [← b1]; exact neB o.size
          go_enter Try.func74, Try.ntmps74
          go_upto_region 1 with (fail)
          refine wp_gen (fun W => BoxO W w.heap.size o ∧ Below w.heap.size w W) ⟨BoxO.new w o, (Below.refl _ _).alloc (Nat.le_refl _) _⟩ ?_
          rintro W1 ⟨hb, hlow⟩
          refine wp_region_held_drew (S := fun W => BoxO W w.heap.size o) (by kernel_rfl) hb.drew (fun _ => ?_)
          refine HeldBy.gen (fun W => BoxO W w.heap.size o ∧ Below w.heap.size w W) ⟨hb.drew, hlow.drew⟩ ?_
          clear hb hlow
          rintro V0 ⟨hb, hlow⟩
          refine HeldBy.take (i := 0) rfl (by kernel_rfl) (by kernel_rfl) (by kernel_rfl) (fun _ _ _ h => h) (by rfl) (fun _ _ => by go_simp; rfl) (by go_simp; rfl) hb ?_
          refine HeldBy.take (i := 1) rfl (by kernel_rfl) (by kernel_rfl) (by kernel_rfl) (fun _ _ _ h => h) (by rfl) (fun _ h => by have c := BoxO.c6 h; go_simp; rfl) (by go_simp; rfl) hb ?_
          refine HeldBy.value (i := 2) rfl (by kernel_rfl) (by rfl) (by go_simp; exact ⟨rfl, rfl⟩) (by go_simp; rfl) (hb.alloc _) ?_
          refine HeldBy.call (i := 3) (v := .bool true) rfl (by kernel_rfl) (by rfl) (by go_simp; exact ⟨rfl, rfl⟩) (by go_simp; rfl) ?_
          refine (noneEmpty1 o.cls _ _ ?_).mono ?_
          · go_simp
          rintro e V2 ⟨rfl, hV⟩
          refine ⟨by first | rfl | simp [*], hV ▸ hb.alloc _, ?_⟩
          replace hb : BoxO V2 _ _ := hV ▸ hb.alloc _
          replace hlow : Below _ _ V2 := hV ▸ hlow.alloc hlow.size _
          clear hV
          refine HeldBy.take (i := 4) rfl (by kernel_rfl) (by kernel_rfl) (by kernel_rfl) (fun _ _ _ h => h) (by rfl) (fun _ _ => by go_simp; rfl) (by go_simp; rfl) hb ?_
          refine HeldBy.take (i := 5) rfl (by kernel_rfl) (by kernel_rfl) (by kernel_rfl) (fun _ _ _ h => h) (by rfl) (fun _ _ => by go_simp; rfl) (by go_simp; rfl) hb ?_
          refine HeldBy.take (i := 6) rfl (by kernel_rfl) (by kernel_rfl) (by kernel_rfl) (fun _ _ _ h => h) (by rfl) (fun _ h => by have c := BoxO.c7 h; go_simp; rfl) (by go_simp; rfl) hb ?_
          refine HeldBy.take (i := 7) rfl (by kernel_rfl) (by kernel_rfl) (by kernel_rfl) (fun _ _ _ h => h) (by rfl) (fun _ _ => by go_simp; rfl) (by go_simp; rfl) hb ?_
          refine HeldBy.take (i := 8) rfl (by kernel_rfl) (by kernel_rfl) (by kernel_rfl) (fun _ _ _ h => h) (by rfl) (fun _ _ => by go_simp; rfl) (by go_simp; rfl) hb ?_
          refine HeldBy.take (i := 9) rfl (by kernel_rfl) (by kernel_rfl) (by kernel_rfl) (fun _ _ _ h => h) (by rfl) (fun _ _ => by go_simp; rfl) (by go_simp; rfl) hb ?_
          refine HeldBy.take (i := 10) rfl (by kernel_rfl) (by kernel_rfl) (by kernel_rfl) (fun _ _ _ h => h) (by rfl) (fun _ _ => by go_simp; rfl) (by go_simp; rfl) hb ?_
          refine HeldBy.take (i := 11) rfl (by kernel_rfl) (by kernel_rfl) (by kernel_rfl) (fun _ _ _ h => h) (by rfl) (fun _ h => by have c := BoxO.c9 h; go_simp; rfl) (by go_simp; rfl) hb ?_
          refine HeldBy.call (i := 12) (v := .bool true) rfl (by kernel_rfl) (by rfl) (by go_simp; exact ⟨rfl, rfl⟩) (by go_simp; rfl) ?_
          refine (rightMode_any o.mode _).mono ?_
          rintro e V3 ⟨rfl, hV⟩
          refine ⟨by first | rfl | simp [*], hV ▸ hb, ?_⟩
          replace hb : BoxO V3 _ _ := hV ▸ hb
          replace hlow : Below _ _ V3 := hV ▸ hlow
          clear hV
          refine HeldBy.take (i := 13) rfl (by kernel_rfl) (by kernel_rfl) (by kernel_rfl) (fun _ _ _ h => h) (by rfl) (fun _ _ => by go_simp; rfl) (by go_simp; rfl) hb ?_
          refine HeldBy.take (i := 14) rfl (by kernel_rfl) (by kernel_rfl) (by kernel_rfl) (fun _ _ _ h => h) (by rfl) (fun _ _ => by go_simp; rfl) (by go_simp; rfl) hb ?_
          refine HeldBy.take (i := 15) rfl (by kernel_rfl) (by kernel_rfl) (by kernel_rfl) (fun _ _ _ h => h) (by rfl) (fun _ _ => by go_simp; rfl) (by go_simp; rfl) hb ?_
          refine HeldBy.take (i := 16) rfl (by kernel_rfl) (by kernel_rfl) (by kernel_rfl) (fun _ _ _ h => h) (by rfl) (fun _ h => by have c := BoxO.c17 h; go_simp; rfl) (by go_simp; rfl) hb ?_
          refine HeldBy.value (i := 17) rfl (by kernel_rfl) (by rfl) (by go_simp; exact ⟨rfl, rfl⟩) (by go_simp; rfl) (hb.alloc _) ?_
          refine HeldBy.call (i := 18) (v := .bool true) rfl (by kernel_rfl) (by rfl) (by go_simp; exact ⟨rfl, rfl⟩) (by go_simp; rfl) ?_
          refine (oneOf3 o.phase 1 2 3 _ _ ?_ ?_ ?_).mono ?_
          · go_simp
          · go_simp
          · go_simp
          rintro e V5 ⟨rfl, hV⟩
          refine ⟨by first | rfl | simp [*], hV ▸ hb.alloc _, ?_⟩
          replace hb : BoxO V5 _ _ := hV ▸ hb.alloc _
          replace hlow : Below _ _ V5 := hV ▸ hlow.alloc hlow.size _
          clear hV
          refine HeldBy.take (i := 19) rfl (by kernel_rfl) (by kernel_rfl) (by kernel_rfl) (fun _ _ _ h => h) (by rfl) (fun _ _ => by go_simp; rfl) (by go_simp; rfl) hb ?_
          refine HeldBy.take (i := 20) rfl (by kernel_rfl) (by kernel_rfl) (by kernel_rfl) (fun _ _ _ h => h) (by rfl) (fun _ _ => by go_simp; rfl) (by go_simp; rfl) hb ?_
          refine HeldBy.take (i := 21) rfl (by kernel_rfl) (by kernel_rfl) (by kernel_rfl) (fun _ _ _ h => h) (by rfl) (fun _ _ => by go_simp; rfl) (by go_simp; rfl) hb ?_
          refine HeldBy.take (i := 22) rfl (by kernel_rfl) (by kernel_rfl) (by kernel_rfl) (fun _ _ _ h => h) (by rfl) (fun _ h => by have c := BoxO.c15 h; go_simp; rfl) (by go_simp; rfl) hb ?_
          refine HeldBy.take (i := 25) rfl (by kernel_rfl) (by kernel_rfl) (by kernel_rfl) (fun _ _ _ h => h) (by rfl) (fun _ _ => by go_simp; rfl) (by go_simp; rfl) hb ?_
          refine HeldBy.take (i := 26) rfl (by kernel_rfl) (by kernel_rfl) (by kernel_rfl) (fun _ _ _ h => h) (by rfl) (fun _ h => by have c := BoxO.c17 h; go_simp; rfl) (by go_simp; rfl) hb ?_
          refine HeldBy.take (i := 27) rfl (by kernel_rfl) (by kernel_rfl) (by kernel_rfl) (fun _ _ _ h => h) (by rfl) (fun _ _ => by go_simp; rfl) (by go_simp; rfl) hb ?_
          refine HeldBy.value (i := 23) rfl (by kernel_rfl) (by rfl) (by go_simp; exact ⟨rfl, rfl⟩) (by go_simp; rfl) (hb.alloc _) ?_
          refine HeldBy.call (i := 24) (v := .bool (!emp o.volume)) rfl (by kernel_rfl) (by rfl) (by go_simp; exact ⟨rfl, rfl⟩) (by go_simp; rfl) ?_
          refine (noneEmpty1 o.volume _ _ ?_).mono ?_
          · go_simp
          rintro e V7 ⟨rfl, hV⟩
          refine ⟨by first | rfl | simp [*], hV ▸ hb.alloc _, ?_⟩
          replace hb : BoxO V7 _ _ := hV ▸ hb.alloc _
          replace hlow : Below _ _ V7 := hV ▸ hlow.alloc hlow.size _
          clear hV
          refine HeldBy.take (i := 28) rfl (by kernel_rfl) (by kernel_rfl) (by kernel_rfl) (fun _ _ _ h => h) (by rfl) (fun _ _ => by go_simp; rfl) (by go_simp; rfl) hb ?_
          refine HeldBy.take (i := 29) rfl (by kernel_rfl) (by kernel_rfl) (by kernel_rfl) (fun _ _ _ h => h) (by rfl) (fun _ _ => by go_simp; rfl) (by go_simp; rfl) hb ?_
          refine HeldBy.take (i := 30) rfl (by kernel_rfl) (by kernel_rfl) (by kernel_rfl) (fun _ _ _ h => h) (by rfl) (fun _ _ => by go_simp; rfl) (by go_simp; rfl) hb ?_
          refine wpAnyH_done (by kernel_rfl) ?_ _
          go_wp2
          go_ret
          exact ⟨ret_bool (H.out.symm), hlow⟩
end Go.Proofs.Ytfndiocohaploaa.O
namespace Go.Proofs.Ytfndiocohaploaa.L
open Go Go.RowKit
open Go.Lib
theorem append_nil (rv : Value) (w : World) : Calls Try.prog 16 #[.pointer none, rv] w fun e w' => e = .returned (.int .i64 1) ∧ w' = w := by
  go_enter Try.func16, Try.ntmps16
  go_wp2
  go_ret
  exact ⟨rfl, rfl⟩
theorem RecsIn.shape {W : World} {B : Nat} {v : Value} {L : List Bytes} (h : RecsIn W B v L) : ∃ a c, v = .slice a L.length c := by
  obtain ⟨xs, rfl, h1, -⟩ := h
  rcases h1.2 with ⟨rfl, h0⟩ | ⟨g, cap, cur, rfl, -⟩
  · refine ⟨none, 0, ?_⟩
    rw [List.length_map] at h0 ⊢
    rw [h0]
  · exact ⟨some ⟨g, 0, none⟩, cap, by rw [List.length_map, List.length_map]⟩
end Go.Proofs.Ytfndiocohaploaa.L
namespace Go.Proofs.Ytfndiocohaploaa.L
open Go Go.RowKit
open Go.Lib
def cleanS (s : Lg) : Lg := ⟨s.most, blks (recs s.b), s.b.take (blks (recs s.b) * 64)⟩
theorem recs_clean (b : Bytes) : recs (b.take (blks (recs b) * 64)) = recs b := by
  have h := (recs_all b).1
  refine (recs_of ⟨h.of_take (by rw [List.take_take, Nat.min_self]), ?_⟩).symm
  rw [List.drop_of_length_le (by rw [List.length_take]; omega)]
  rfl
theorem sync_raw (B q most last wh en k : Nat) (v : Value) (b : Bytes) (w : World) (h1 : LogAt w q most v last wh en) (h2 : Row w B v k b) (_hk : k ≤ 4096) : Calls Try.prog 41 #[.pointer (some ⟨q, 0, none⟩)] w fun e w' => e = .returned (.int .i64 0) ∧ w' = w.setCell ⟨q, 2, none⟩ (.int .i64 (k : Nat)) := by
  obtain ⟨a, c, rfl⟩ := h2.blks.shape
  have c1 := h1.c1
  have f2 := h1.free 2
  have c2 := h1.c2
  clear h1 h2
  go_enter Try.func41, Try.ntmps41
  go_wp2
  go_ret
  exact ⟨rfl, rfl⟩
set_option maxRecDepth 100000 in
set_option maxHeartbeats 400000 in
theorem clean_any (B q : Nat) (og : Option Nat) (s : Lg) (w : World) (h : IsLog B w q og s) : Calls Try.prog 35 #[.pointer (some ⟨q, 0, none⟩)] w (DeedA B q og w (0, cleanS s)) := by
  obtain ⟨v, k, l1, l2, l3, l4, l5⟩ := h.at_
  have hmost := h.most
  have hlow := h.low
  have hlt := h.lt
  have hle := (recs_all s.b).1.le
  rw [l2.1] at hle
  obtain ⟨a, c, rfl⟩ := l2.blks.shape
  obtain ⟨x1, hs1, hx1, ho1⟩ := l2.head (n := blks (recs s.b)) (by omega) .i64
  obtain ⟨a1, c1', rfl⟩ := hx1.blks.shape
  have HX1 := Lib.hid hx1
  have HO1 : Hid ((Value.slice a1 (blks (recs s.b)) c1').ownBlock = og) := ho1.trans l3
  have HQ := Lib.hid l1
  have HR : Hid (recs (s.b.take (blks (recs s.b) * 64)) = recs s.b) := recs_clean s.b
  have hen : blks (recs s.b) ≤ 4096 := by omega
  have HEM : Hid (blks (recs s.b) ≤ s.most) := by show _ ≤ _; omega
  clear h l1 l2 l3 l5 hx1 ho1
  have HCS : Hid (cleanS s = ⟨s.most, blks (recs s.b), s.b.take (blks (recs s.b) * 64)⟩) := rfl
  generalize hwh : (recs s.b).length = wh at *
  generalize hee : blks (recs s.b) = en at *
  have HWH := Lib.hid hwh
  have HEE := Lib.hid hee
  clear hwh hee hle
  have d1 := HQ.out.c1
  have d4 := HQ.out.c4
  have f1 := HQ.out.free 1
  go_enter Try.func35, Try.ntmps35
  go_wp2
  refine wp_region_still_tail 10 (by kernel_rfl) (by kernel_rfl) ?_
  simp only [List.take_succ_cons, List.take_zero, List.drop_succ_cons, List.drop_zero]
  repeat still_step
  refine wpStill_nil ?_
  refine wpList_gen (fun V => V = w.drew) rfl ?_
  rintro V hV
  have HBV : Hid (Below w.heap.size w V) := hV ▸ (Below.refl _ _).drew
  have HQV : Hid (LogAt V q s.most (.slice a k c) s.last wh en) := hV ▸ HQ.out
  have HXV : Hid (Row V B (.slice a1 en c1') en (s.b.take (en * 64))) := hV ▸ HX1.out
  clear hV d1 d4 f1
  have d1 := HQV.out.c1
  have f1 := HQV.out.free 1
  have HSY := Lib.hid (sync_raw B q s.most s.last wh en en (.slice a1 en c1') (s.b.take (en * 64)) _ (HQV.out.s1 (.slice a1 en c1')) (HXV.out.set HQV.out 1 _) hen)
  go_wp2_with (go_at_call 41; refine HSY.out.mono ?_; rintro e _ ⟨rfl, rfl⟩)
  go_ret
  have hl2 := (HQV.out.s1 (.slice a1 en c1')).s2 en
  have hr2 := (HXV.out.set HQV.out 1 (.slice a1 en c1')).set (HQV.out.s1 (.slice a1 en c1')) 2 (.int .i64 (en : Nat))
  refine ⟨rfl, og, ⟨⟨_, en, ?_, ?_, HO1.out, ?_, ?_⟩, hmost, hlow⟩, ((Turn.of_below HBV.out (by omega)).trans (Turn.set _ hlow 1 _)).trans (Turn.set _ hlow 2 _)⟩
  · rw [HCS.out]
    show LogAt _ q s.most _ en (recs (s.b.take (en * 64))).length (blks (recs (s.b.take (en * 64))))
    rw [HR.out, HWH.out, HEE.out]
    exact hl2
  · rw [HCS.out]
    exact hr2
  · rw [HCS.out]
    exact HEM.out
  · rw [HCS.out]
    exact Nat.le_refl _
theorem eql_nil (w : World) (a : Option Addr) (k c : Nat) : (binOp .eql tBs (.slice a k c) (.slice none 0 0)).run Try.prog w = .ok (.bool a.isNone) w := by
  simp only [binOp]
  simp [run_equal_slice_nil (P := Try.prog) w tBs t64 a k c sliceBlk']
set_option maxRecDepth 100000 in
theorem clone_any (v : Value) (k : Nat) (b : Bytes) (w : World) (hv : BlksIn w v k b) (hk : k ≤ 4096) : Calls Try.prog 43 #[v] w fun e w' => ∃ r, e = .returned r ∧ Row w' w.heap.size r k b ∧ Below w.heap.size w w' := by
  have HV := Lib.hid hv
  rcases hv.2 with ⟨c, rfl, rfl⟩ | ⟨g, off, cap, rfl, h1, h2, h3, h4⟩
  · have hb : b = [] := List.eq_nil_of_length_eq_zero (by simpa using hv.1)
    subst hb
    clear hv
    have hnil : ∀ w, (binOp .eql tBs (.slice none 0 c) (.slice none 0 0)).run Try.prog w = .ok (.bool true) w := fun w => eql_nil w none 0 c
    go_enter Try.func43, Try.ntmps43
    go_wp2
    go_ret
    exact ⟨_, rfl, Row.nil _ _, Below.refl _ _⟩
  · clear hv h1 h2 h3 h4
    have hnil : ∀ w, (binOp .eql tBs (.slice (some ⟨g, off, none⟩) k cap) (.slice none 0 0)).run Try.prog w = .ok (.bool false) w := fun w => eql_nil w (some ⟨g, off, none⟩) k cap
    go_enter Try.func43, Try.ntmps43
    have hal : Below w.heap.size w (w.alloc (.cells #[] t64)) := (Below.refl _ _).alloc (Nat.le_refl _) _
    have HR0 : Hid (Row (w.alloc (.cells #[] t64)) w.heap.size (.slice (some ⟨w.heap.size, 0, none⟩) 0 0) 0 []) := ⟨rfl, .inr ⟨w.heap.size, 0, #[], rfl, Nat.le_refl _, heap_alloc_new w _, Nat.le_refl _, Nat.zero_le _, Nat.le_refl _, rfl⟩⟩
    have HV1 := Lib.hid (HV.out.after hal)
    have hk1 : 0 + k ≤ 1000000000000 := by omega
    have hB1 : w.heap.size ≤ (w.alloc (.cells #[] t64)).heap.size := hal.size
    go_wp2_with (at_builtin; refine wpList_append_row rfl _ _ rfl w.heap.size _ 0 [] rfl HR0.out _ k b rfl HV1.out hk1 hB1 ?_)
    intro v' W' hr hG
    have hbb := Turn.grew (q := 0) HR0.out hG hB1
    go_wp2
    go_ret
    refine ⟨_, rfl, ?_, hal.trans hbb.below⟩
    have hr' : Row W' w.heap.size v' k b := by simpa using hr
    exact hr'
set_option maxRecDepth 100000 in
set_option maxHeartbeats 400000 in
theorem fork_any (B q : Nat) (og : Option Nat) (s : Lg) (w : World) (h : IsLog B w q og s) : Calls Try.prog 23 #[.pointer (some ⟨q, 0, none⟩)] w fun e w' => ∃ og', e = .returned (.pointer (some ⟨w.heap.size, 0, none⟩)) ∧ IsLog w.heap.size w' w.heap.size og' s ∧ Below w.heap.size w w' := by
  obtain ⟨v, k, l1, l2, l3, l4, l5⟩ := h.at_
  have hmost := h.most
  have hlt := h.lt
  have HV := Lib.hid l2.blks
  have HQ := Lib.hid l1
  have H4 : Hid (k ≤ s.most ∧ s.last ≤ k) := ⟨l4, l5⟩
  obtain ⟨a, c, rfl⟩ := l2.blks.shape
  generalize hwh : (recs s.b).length = wh at *
  generalize hen : blks (recs s.b) = en at *
  have HWH := Lib.hid hwh
  have HEN := Lib.hid hen
  clear hwh hen
  clear h l1 l2 l3 l5
  have d0 := HQ.out.c0
  have d1 := HQ.out.c1
  have d2 := HQ.out.c2
  have d3 := HQ.out.c3
  have d4 := HQ.out.c4
  go_enter Try.func23, Try.ntmps23
  have hal : Below w.heap.size w (w.alloc (.cells #[.int .i64 (s.most : Int), .slice a k c, .int .i64 (s.last : Int), .int .i64 (wh : Int), .int .i64 (en : Int)] 70)) := (Below.refl _ _).alloc (Nat.le_refl _) _
  have HN : Hid (LogAt (w.alloc (.cells #[.int .i64 (s.most : Int), .slice a k c, .int .i64 (s.last : Int), .int .i64 (wh : Int), .int .i64 (en : Int)] 70)) w.heap.size s.most (.slice a k c) s.last wh en) := heap_alloc_new w _
  have HAL := Lib.hid hal
  have HCL := Lib.hid (clone_any (.slice a k c) k s.b _ (HV.out.after hal) (by omega))
  clear hal
  go_wp2_with (go_at_call 43; refine HCL.out.mono ?_)
  rintro e W1 ⟨r, rfl, hr, hb⟩
  obtain ⟨a1, c1', rfl⟩ := hr.blks.shape
  have HR1 : Hid (Row W1 w.heap.size (.slice a1 k c1') k s.b) := by
    refine ⟨hr.1, ?_⟩
    rcases hr.2 with h | ⟨g, cap, cur, h1, h2, h3⟩
    · exact .inl h
    · exact .inr ⟨g, cap, cur, h1, by have := HAL.out.size; omega, h3⟩
  have HL1 := Lib.hid (HN.out.after hb)
  have HB1 : Hid (Below w.heap.size w W1) := HAL.out.trans (hb.mono HAL.out.size)
  have g1 := HL1.out.c1
  have gf := HL1.out.free 1
  clear hr hb HN HAL HCL d0 d1 d2 d3 d4
  go_wp2
  go_ret
  exact ⟨_, rfl, ⟨⟨_, k, by rw [HWH.out, HEN.out]; exact HL1.out.s1 _, HR1.out.set HL1.out 1 _, rfl, H4.out⟩, hmost, Nat.le_refl _⟩, HB1.out.setCell (p := ⟨w.heap.size, 1, none⟩) (Nat.le_refl _) _⟩
end Go.Proofs.Ytfndiocohaploaa.L
namespace Go.Proofs.Ytfndiocohaploaa.L
open Go Go.RowKit
open Go.Lib
theorem recs_more {b x : Bytes} {M : List Bytes} (hb : blks (recs b) * 64 = b.length) (hm : All M x ((recs b).length + 1)) : recs (b ++ x) = recs b ++ M := by
  refine (recs_of ((begin_more (recs_all b).1 x).all ?_)).symm
  rw [hb, List.drop_left, Nat.add_comm 1]
  exact hm
theorem all_one {x r : Bytes} {n : Nat} (h : first x n = some r) (hl : x.length = need r.length * 64) : All [r] x n := by
  refine ⟨⟨h, trivial⟩, ?_⟩
  rw [List.drop_of_length_le (by simp [blks]; omega)]
  rfl
theorem all_blks_app {b r : Bytes} (hb : blks (recs b) * 64 = b.length) (h : need r.length ≠ 0) : recs (b ++ laid r ((recs b).length + 1)) = recs b ++ [r] := by
  have e := first_laid h ((recs b).length + 1) []
  rw [List.append_nil] at e
  exact recs_more hb (all_one e (laid_length h _))
end Go.Proofs.Ytfndiocohaploaa.L
namespace Go.Proofs.Ytfndiocohaploaa.L
open Go.ChangeShapes Go.WideShapes Go.RowKit Go.Deep
def ArgEl (W : World) (g k : Nat) (x : Value) (l : Bytes) : Prop := g < W.heap.size ∧ W.cell? ⟨g, k, none⟩ = some x ∧ (∃ p c, x = .slice p l.length c) ∧ (l ≠ [] → BytesIn W x l)
theorem ArgEl.after {W W' : World} {g k : Nat} {x : Value} {l : Bytes} (h : ArgEl W g k x l) (hb : Below W.heap.size W W') : ArgEl W' g k x l :=
  ⟨Nat.lt_of_lt_of_le h.1 hb.size, (hb.cell (p := ⟨g, k, none⟩) h.1).trans h.2.1, h.2.2.1, fun e => (h.2.2.2 e).after hb⟩
def ArgRows (W : World) (a : Option Addr) (n : Nat) : Prop := n ≤ maxLen ∧ ∀ i, i < n → ∃ g off x l, a = some ⟨g, off, none⟩ ∧ ArgEl W g (off + i) x l
theorem ArgRows.after {W W' : World} {a : Option Addr} {n : Nat} (h : ArgRows W a n) (hb : Below W.heap.size W W') : ArgRows W' a n :=
  ⟨h.1, fun i hi => let ⟨g, off, x, l, e, h1⟩ := h.2 i hi; ⟨g, off, x, l, e, h1.after hb⟩⟩
end Go.Proofs.Ytfndiocohaploaa.L
