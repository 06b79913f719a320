/- codec.readObject, field by field. Laid by mkreadobj.py. codec.readChange. -/
import Derived.Test.YtacbfpgknfcimaaCRead
import Derived.Test.YtacbfpgknfcimaaOUser
import Derived.Test.YtacbfpgknfcimaaODefault
import Derived.Test.YtacbfpgknfcimaaCEvs
namespace Go.Proofs.Ytacbfpgknfcimaa.C
open Go.RowKit T O
open Go.Lib hiding intOf

theorem u8_some {l l' : Bytes} {b : UInt8} (h : rdByte l = some (b, l')) : rdU8 l = some ((b.toNat : Int), l') := by simp [rdU8, mapR, h]
theorem u8_none {l : Bytes} (h : rdByte l = none) : rdU8 l = none := by simp [rdU8, mapR, h]
theorem u64_some {l l' : Bytes} {n : Nat} (h : rdNum l = some (n, l')) : rdU64 l = some ((n : Int), l') := by simp [rdU64, mapR, h]
theorem u64_none {l : Bytes} (h : rdNum l = none) : rdU64 l = none := by simp [rdU64, mapR, h]
/-- How far an object is read: it grows at block ob; the result's block is rb; the reader's is r. -/
structure ROb (w : World) (r ob rb : Nat) (o : O.Obj) (l : Bytes) (W : World) : Prop where
  box : BoxO W ob o
  res : BoxO W rb O0
  left : Left W r l
  grew : w.grownBy W (some r)
  lo : r < w.heap.size
  hi : w.heap.size ≤ ob ∧ w.heap.size ≤ rb ∧ ob ≠ rb
section
variable {w : World} {r ob rb : Nat} {o : O.Obj} {l l' : Bytes} {W W1 : World}
theorem BoxO.kept' {b : Nat} (h : BoxO W b o) {row : Option Nat} (hg : W.grownBy W1 row) (hne : some b ≠ row) : BoxO W1 b o := (hg.block b h.lt hne).trans h
theorem ROb.step (h : ROb w r ob rb o l W) (hg : W.grownBy W1 (some r)) (hL : Left W1 r l') : ROb w r ob rb o l' W1 where
  box := BoxO.kept' h.box hg (by have := h.lo; have := h.hi; simp; omega)
  res := BoxO.kept' h.res hg (by have := h.lo; have := h.hi; simp; omega)
  left := hL
  grew := h.grew.trans hg
  lo := h.lo
  hi := h.hi
theorem below_set (W : World) {B b : Nat} (hB : B ≤ b) (i : Nat) (v : Value) : Below B W (W.setCell ⟨b, i, none⟩ v) := (Below.refl B W).setCell (p := ⟨b, i, none⟩) hB v
theorem ROb.set (h : ROb w r ob rb o l W) {i : Nat} {v : Value} {o' : O.Obj} (hb : BoxO (W.setCell ⟨ob, i, none⟩ v) ob o') : ROb w r ob rb o' l (W.setCell ⟨ob, i, none⟩ v) where
  box := hb
  res := h.res.other (p := ⟨ob, i, none⟩) (fun e => h.hi.2.2 e.symm) v
  left := h.left.above (below_set W (Nat.le_refl ob) i v) (by have := h.lo; have := h.hi; omega)
  grew := by
    have hs := h.grew.size
    have hb := below_set W h.hi.1 i v
    exact ⟨hb.os.trans h.grew.os, hb.tape.trans h.grew.tape, hb.output.trans h.grew.output, Nat.le_trans hs hb.size, fun k hk hne => (hb.block k hk).trans (h.grew.block k hk hne)⟩
  lo := h.lo
  hi := h.hi
theorem ROb.below (h : ROb w r ob rb o l W) (hb : Below W.heap.size W W1) : ROb w r ob rb o l W1 where
  box := h.box.after hb
  res := h.res.after hb
  left := h.left.after hb
  grew := h.grew.trans (⟨hb.os, hb.tape, hb.output, hb.size, fun k hk _ => hb.block k hk⟩)
  lo := h.lo
  hi := h.hi
end

set_option maxRecDepth 100000 in
set_option maxHeartbeats 8000000 in
theorem readObject_any (r : Nat) (l : Bytes) (w : World) (h : Left w r l) :
    Calls Try.prog 32 #[.pointer (some ⟨r, 0, none⟩)] w (Reads r rdObj encO l w) := by
  have HO : Hid (rdObj l = (rdRow l).bind finR) := rdObj_eq l
  unfold rdRow at HO
  have hr := h.lt
  go_enter Try.func32, Try.ntmps32
  go_upto_region 2 with (fail)
  refine wp_gen (fun W => ROb w r (w.heap.size + 1) w.heap.size O0 l W) ⟨heap_alloc2_new w _ _, (BoxO.new w O0).alloc _, (h.after ((Below.refl _ _).alloc (Nat.le_refl _) _)).after ((Below.refl _ _).alloc (Nat.le_refl _) _), (World.grownBy_alloc w _ _).trans (World.grownBy_alloc _ _ _), hr, by omega, by omega, by omega⟩ ?_
  clear h hr
  rintro V0 HS
  go_wp2_with fail
  refine (one_any r _ _ HS.left).mono ?_
  rintro e W1 ⟨hg, ⟨x1, l1, hp, rfl, hL⟩ | ⟨hp, rfl⟩⟩
  rotate_left
  · have HF : Hid (Reads r rdObj encO l w gaveUp W1) := ⟨HS.grew.trans hg, .inr ⟨HO.out.trans (pair_none (u8_none hp) _), rfl⟩⟩
    clear hp hg HS HO
    go_wp2
    exact ⟨rfl, HF.out⟩
  replace HS := HS.step hg hL
  replace HO := Lib.hid (HO.out.trans (pair_some (u8_some hp) _))
  clear hg hL hp
  unfold bv
  have f0 := HS.box.free 0
  have c0 := HS.box.c0
  go_upto_region 3 with (fail)
  refine wp_gen (fun W => ROb w r (w.heap.size + 1) w.heap.size (⟨(x1.toNat : Int), E0, 0, 0, false, false, E0, 0, 0, 0, false, false, E0, E0, E0, E0, E0, 0, 0, 0⟩ : O.Obj) l1 W) (HS.set (HS.box.s0 (x1.toNat : Int))) ?_
  clear HS f0 c0
  rintro V1 HS
  go_wp2_with fail
  refine (text_any r _ _ HS.left).mono ?_
  rintro e W2 ⟨hg, ⟨x2, l2, hp, rfl, hL⟩ | ⟨hp, rfl⟩⟩
  rotate_left
  · have HF : Hid (Reads r rdObj encO l w gaveUp W2) := ⟨HS.grew.trans hg, .inr ⟨HO.out.trans (pair_none hp _), rfl⟩⟩
    clear hp hg HS HO
    go_wp2
    exact ⟨rfl, HF.out⟩
  replace HS := HS.step hg hL
  replace HO := Lib.hid (HO.out.trans (pair_some hp _))
  clear hg hL hp
  have f1 := HS.box.free 1
  have c1 := HS.box.c1
  go_upto_region 4 with (fail)
  refine wp_gen (fun W => ROb w r (w.heap.size + 1) w.heap.size (⟨(x1.toNat : Int), x2, 0, 0, false, false, E0, 0, 0, 0, false, false, E0, E0, E0, E0, E0, 0, 0, 0⟩ : O.Obj) l2 W) (HS.set (HS.box.s1 x2)) ?_
  clear HS f1 c1
  rintro V2 HS
  go_wp2_with fail
  refine (number_any r _ _ HS.left).mono ?_
  rintro e W3 ⟨hg, ⟨x3, l3, hp, rfl, hL⟩ | ⟨hp, rfl⟩⟩
  rotate_left
  · have HF : Hid (Reads r rdObj encO l w gaveUp W3) := ⟨HS.grew.trans hg, .inr ⟨HO.out.trans (pair_none (u64_none hp) _), rfl⟩⟩
    clear hp hg HS HO
    go_wp2
    exact ⟨rfl, HF.out⟩
  replace HS := HS.step hg hL
  replace HO := Lib.hid (HO.out.trans (pair_some (u64_some hp) _))
  clear hg hL hp
  have f2 := HS.box.free 2
  have c2 := HS.box.c2
  go_upto_region 5 with (fail)
  refine wp_gen (fun W => ROb w r (w.heap.size + 1) w.heap.size (⟨(x1.toNat : Int), x2, (x3 : Int), 0, false, false, E0, 0, 0, 0, false, false, E0, E0, E0, E0, E0, 0, 0, 0⟩ : O.Obj) l3 W) (HS.set (HS.box.s2 (x3 : Int))) ?_
  clear HS f2 c2
  rintro V3 HS
  go_wp2_with fail
  refine (number_any r _ _ HS.left).mono ?_
  rintro e W4 ⟨hg, ⟨x4, l4, hp, rfl, hL⟩ | ⟨hp, rfl⟩⟩
  rotate_left
  · have HF : Hid (Reads r rdObj encO l w gaveUp W4) := ⟨HS.grew.trans hg, .inr ⟨HO.out.trans (pair_none (u64_none hp) _), rfl⟩⟩
    clear hp hg HS HO
    go_wp2
    exact ⟨rfl, HF.out⟩
  replace HS := HS.step hg hL
  replace HO := Lib.hid (HO.out.trans (pair_some (u64_some hp) _))
  clear hg hL hp
  have f3 := HS.box.free 3
  have c3 := HS.box.c3
  go_upto_region 6 with (fail)
  refine wp_gen (fun W => ROb w r (w.heap.size + 1) w.heap.size (⟨(x1.toNat : Int), x2, (x3 : Int), (x4 : Int), false, false, E0, 0, 0, 0, false, false, E0, E0, E0, E0, E0, 0, 0, 0⟩ : O.Obj) l4 W) (HS.set (HS.box.s3 (x4 : Int))) ?_
  clear HS f3 c3
  rintro V4 HS
  go_wp2_with fail
  refine (flagsR_any r _ _ HS.left).mono ?_
  rintro e W5 ⟨hg, ⟨x5, l5, hp, rfl, hL⟩ | ⟨hp, rfl⟩⟩
  rotate_left
  · have HF : Hid (Reads r rdObj encO l w gaveUp W5) := ⟨HS.grew.trans hg, .inr ⟨HO.out.trans (pair_none hp _), rfl⟩⟩
    clear hp hg HS HO
    go_wp2
    exact ⟨rfl, HF.out⟩
  replace HS := HS.step hg hL
  replace HO := Lib.hid (HO.out.trans (pair_some hp _))
  clear hg hL hp
  unfold encF
  have f4 := HS.box.free 4
  have c4 := HS.box.c4
  have f5 := HS.box.free 5
  have c5 := HS.box.c5
  have f10 := HS.box.free 10
  have c10 := HS.box.c10
  have f11 := HS.box.free 11
  have c11 := HS.box.c11
  go_upto_region 7 with (fail)
  refine wp_gen (fun W => ROb w r (w.heap.size + 1) w.heap.size (⟨(x1.toNat : Int), x2, (x3 : Int), (x4 : Int), x5.1, x5.2.1, E0, 0, 0, 0, x5.2.2.1, x5.2.2.2, E0, E0, E0, E0, E0, 0, 0, 0⟩ : O.Obj) l5 W) ((((HS.set (HS.box.s4 x5.1)).set ((HS.box.s4 x5.1).s5 x5.2.1)).set (((HS.box.s4 x5.1).s5 x5.2.1).s10 x5.2.2.1)).set ((((HS.box.s4 x5.1).s5 x5.2.1).s10 x5.2.2.1).s11 x5.2.2.2)) ?_
  clear HS f4 c4 f5 c5 f10 c10 f11 c11
  rintro V5 HS
  go_wp2_with fail
  refine (text_any r _ _ HS.left).mono ?_
  rintro e W6 ⟨hg, ⟨x6, l6, hp, rfl, hL⟩ | ⟨hp, rfl⟩⟩
  rotate_left
  · have HF : Hid (Reads r rdObj encO l w gaveUp W6) := ⟨HS.grew.trans hg, .inr ⟨HO.out.trans (pair_none hp _), rfl⟩⟩
    clear hp hg HS HO
    go_wp2
    exact ⟨rfl, HF.out⟩
  replace HS := HS.step hg hL
  replace HO := Lib.hid (HO.out.trans (pair_some hp _))
  clear hg hL hp
  have f6 := HS.box.free 6
  have c6 := HS.box.c6
  go_upto_region 8 with (fail)
  refine wp_gen (fun W => ROb w r (w.heap.size + 1) w.heap.size (⟨(x1.toNat : Int), x2, (x3 : Int), (x4 : Int), x5.1, x5.2.1, x6, 0, 0, 0, x5.2.2.1, x5.2.2.2, E0, E0, E0, E0, E0, 0, 0, 0⟩ : O.Obj) l6 W) (HS.set (HS.box.s6 x6)) ?_
  clear HS f6 c6
  rintro V6 HS
  go_wp2_with fail
  refine (size_any r _ _ HS.left).mono ?_
  rintro e W7 ⟨hg, ⟨x7, l7, hp, rfl, hL⟩ | ⟨hp, rfl⟩⟩
  rotate_left
  · have HF : Hid (Reads r rdObj encO l w gaveUp W7) := ⟨HS.grew.trans hg, .inr ⟨HO.out.trans (pair_none hp _), rfl⟩⟩
    clear hp hg HS HO
    go_wp2
    exact ⟨rfl, HF.out⟩
  replace HS := HS.step hg hL
  replace HO := Lib.hid (HO.out.trans (pair_some hp _))
  clear hg hL hp
  have f7 := HS.box.free 7
  have c7 := HS.box.c7
  go_upto_region 9 with (fail)
  refine wp_gen (fun W => ROb w r (w.heap.size + 1) w.heap.size (⟨(x1.toNat : Int), x2, (x3 : Int), (x4 : Int), x5.1, x5.2.1, x6, x7, 0, 0, x5.2.2.1, x5.2.2.2, E0, E0, E0, E0, E0, 0, 0, 0⟩ : O.Obj) l7 W) (HS.set (HS.box.s7 x7)) ?_
  clear HS f7 c7
  rintro V7 HS
  go_wp2_with fail
  refine (size_any r _ _ HS.left).mono ?_
  rintro e W8 ⟨hg, ⟨x8, l8, hp, rfl, hL⟩ | ⟨hp, rfl⟩⟩
  rotate_left
  · have HF : Hid (Reads r rdObj encO l w gaveUp W8) := ⟨HS.grew.trans hg, .inr ⟨HO.out.trans (pair_none hp _), rfl⟩⟩
    clear hp hg HS HO
    go_wp2
    exact ⟨rfl, HF.out⟩
  replace HS := HS.step hg hL
  replace HO := Lib.hid (HO.out.trans (pair_some hp _))
  clear hg hL hp
  have f8 := HS.box.free 8
  have c8 := HS.box.c8
  go_upto_region 10 with (fail)
  refine wp_gen (fun W => ROb w r (w.heap.size + 1) w.heap.size (⟨(x1.toNat : Int), x2, (x3 : Int), (x4 : Int), x5.1, x5.2.1, x6, x7, x8, 0, x5.2.2.1, x5.2.2.2, E0, E0, E0, E0, E0, 0, 0, 0⟩ : O.Obj) l8 W) (HS.set (HS.box.s8 x8)) ?_
  clear HS f8 c8
  rintro V8 HS
  go_wp2_with fail
  refine (one_any r _ _ HS.left).mono ?_
  rintro e W9 ⟨hg, ⟨x9, l9, hp, rfl, hL⟩ | ⟨hp, rfl⟩⟩
  rotate_left
  · have HF : Hid (Reads r rdObj encO l w gaveUp W9) := ⟨HS.grew.trans hg, .inr ⟨HO.out.trans (pair_none (u8_none hp) _), rfl⟩⟩
    clear hp hg HS HO
    go_wp2
    exact ⟨rfl, HF.out⟩
  replace HS := HS.step hg hL
  replace HO := Lib.hid (HO.out.trans (pair_some (u8_some hp) _))
  clear hg hL hp
  unfold bv
  have f9 := HS.box.free 9
  have c9 := HS.box.c9
  go_upto_region 11 with (fail)
  refine wp_gen (fun W => ROb w r (w.heap.size + 1) w.heap.size (⟨(x1.toNat : Int), x2, (x3 : Int), (x4 : Int), x5.1, x5.2.1, x6, x7, x8, (x9.toNat : Int), x5.2.2.1, x5.2.2.2, E0, E0, E0, E0, E0, 0, 0, 0⟩ : O.Obj) l9 W) (HS.set (HS.box.s9 (x9.toNat : Int))) ?_
  clear HS f9 c9
  rintro V9 HS
  go_wp2_with fail
  refine (text_any r _ _ HS.left).mono ?_
  rintro e W10 ⟨hg, ⟨x10, l10, hp, rfl, hL⟩ | ⟨hp, rfl⟩⟩
  rotate_left
  · have HF : Hid (Reads r rdObj encO l w gaveUp W10) := ⟨HS.grew.trans hg, .inr ⟨HO.out.trans (pair_none hp _), rfl⟩⟩
    clear hp hg HS HO
    go_wp2
    exact ⟨rfl, HF.out⟩
  replace HS := HS.step hg hL
  replace HO := Lib.hid (HO.out.trans (pair_some hp _))
  clear hg hL hp
  have f12 := HS.box.free 12
  have c12 := HS.box.c12
  go_upto_region 12 with (fail)
  refine wp_gen (fun W => ROb w r (w.heap.size + 1) w.heap.size (⟨(x1.toNat : Int), x2, (x3 : Int), (x4 : Int), x5.1, x5.2.1, x6, x7, x8, (x9.toNat : Int), x5.2.2.1, x5.2.2.2, x10, E0, E0, E0, E0, 0, 0, 0⟩ : O.Obj) l10 W) (HS.set (HS.box.s12 x10)) ?_
  clear HS f12 c12
  rintro V10 HS
  go_wp2_with fail
  refine (text_any r _ _ HS.left).mono ?_
  rintro e W11 ⟨hg, ⟨x11, l11, hp, rfl, hL⟩ | ⟨hp, rfl⟩⟩
  rotate_left
  · have HF : Hid (Reads r rdObj encO l w gaveUp W11) := ⟨HS.grew.trans hg, .inr ⟨HO.out.trans (pair_none hp _), rfl⟩⟩
    clear hp hg HS HO
    go_wp2
    exact ⟨rfl, HF.out⟩
  replace HS := HS.step hg hL
  replace HO := Lib.hid (HO.out.trans (pair_some hp _))
  clear hg hL hp
  have f13 := HS.box.free 13
  have c13 := HS.box.c13
  go_upto_region 13 with (fail)
  refine wp_gen (fun W => ROb w r (w.heap.size + 1) w.heap.size (⟨(x1.toNat : Int), x2, (x3 : Int), (x4 : Int), x5.1, x5.2.1, x6, x7, x8, (x9.toNat : Int), x5.2.2.1, x5.2.2.2, x10, x11, E0, E0, E0, 0, 0, 0⟩ : O.Obj) l11 W) (HS.set (HS.box.s13 x11)) ?_
  clear HS f13 c13
  rintro V11 HS
  go_wp2_with fail
  refine (text_any r _ _ HS.left).mono ?_
  rintro e W12 ⟨hg, ⟨x12, l12, hp, rfl, hL⟩ | ⟨hp, rfl⟩⟩
  rotate_left
  · have HF : Hid (Reads r rdObj encO l w gaveUp W12) := ⟨HS.grew.trans hg, .inr ⟨HO.out.trans (pair_none hp _), rfl⟩⟩
    clear hp hg HS HO
    go_wp2
    exact ⟨rfl, HF.out⟩
  replace HS := HS.step hg hL
  replace HO := Lib.hid (HO.out.trans (pair_some hp _))
  clear hg hL hp
  have f14 := HS.box.free 14
  have c14 := HS.box.c14
  go_upto_region 14 with (fail)
  refine wp_gen (fun W => ROb w r (w.heap.size + 1) w.heap.size (⟨(x1.toNat : Int), x2, (x3 : Int), (x4 : Int), x5.1, x5.2.1, x6, x7, x8, (x9.toNat : Int), x5.2.2.1, x5.2.2.2, x10, x11, x12, E0, E0, 0, 0, 0⟩ : O.Obj) l12 W) (HS.set (HS.box.s14 x12)) ?_
  clear HS f14 c14
  rintro V12 HS
  go_wp2_with fail
  refine (text_any r _ _ HS.left).mono ?_
  rintro e W13 ⟨hg, ⟨x13, l13, hp, rfl, hL⟩ | ⟨hp, rfl⟩⟩
  rotate_left
  · have HF : Hid (Reads r rdObj encO l w gaveUp W13) := ⟨HS.grew.trans hg, .inr ⟨HO.out.trans (pair_none hp _), rfl⟩⟩
    clear hp hg HS HO
    go_wp2
    exact ⟨rfl, HF.out⟩
  replace HS := HS.step hg hL
  replace HO := Lib.hid (HO.out.trans (pair_some hp _))
  clear hg hL hp
  have f15 := HS.box.free 15
  have c15 := HS.box.c15
  go_upto_region 15 with (fail)
  refine wp_gen (fun W => ROb w r (w.heap.size + 1) w.heap.size (⟨(x1.toNat : Int), x2, (x3 : Int), (x4 : Int), x5.1, x5.2.1, x6, x7, x8, (x9.toNat : Int), x5.2.2.1, x5.2.2.2, x10, x11, x12, x13, E0, 0, 0, 0⟩ : O.Obj) l13 W) (HS.set (HS.box.s15 x13)) ?_
  clear HS f15 c15
  rintro V13 HS
  go_wp2_with fail
  refine (text_any r _ _ HS.left).mono ?_
  rintro e W14 ⟨hg, ⟨x14, l14, hp, rfl, hL⟩ | ⟨hp, rfl⟩⟩
  rotate_left
  · have HF : Hid (Reads r rdObj encO l w gaveUp W14) := ⟨HS.grew.trans hg, .inr ⟨HO.out.trans (pair_none hp _), rfl⟩⟩
    clear hp hg HS HO
    go_wp2
    exact ⟨rfl, HF.out⟩
  replace HS := HS.step hg hL
  replace HO := Lib.hid (HO.out.trans (pair_some hp _))
  clear hg hL hp
  have f16 := HS.box.free 16
  have c16 := HS.box.c16
  go_upto_region 16 with (fail)
  refine wp_gen (fun W => ROb w r (w.heap.size + 1) w.heap.size (⟨(x1.toNat : Int), x2, (x3 : Int), (x4 : Int), x5.1, x5.2.1, x6, x7, x8, (x9.toNat : Int), x5.2.2.1, x5.2.2.2, x10, x11, x12, x13, x14, 0, 0, 0⟩ : O.Obj) l14 W) (HS.set (HS.box.s16 x14)) ?_
  clear HS f16 c16
  rintro V14 HS
  go_wp2_with fail
  refine (one_any r _ _ HS.left).mono ?_
  rintro e W15 ⟨hg, ⟨x15, l15, hp, rfl, hL⟩ | ⟨hp, rfl⟩⟩
  rotate_left
  · have HF : Hid (Reads r rdObj encO l w gaveUp W15) := ⟨HS.grew.trans hg, .inr ⟨HO.out.trans (pair_none (u8_none hp) _), rfl⟩⟩
    clear hp hg HS HO
    go_wp2
    exact ⟨rfl, HF.out⟩
  replace HS := HS.step hg hL
  replace HO := Lib.hid (HO.out.trans (pair_some (u8_some hp) _))
  clear hg hL hp
  unfold bv
  have f17 := HS.box.free 17
  have c17 := HS.box.c17
  go_upto_region 17 with (fail)
  refine wp_gen (fun W => ROb w r (w.heap.size + 1) w.heap.size (⟨(x1.toNat : Int), x2, (x3 : Int), (x4 : Int), x5.1, x5.2.1, x6, x7, x8, (x9.toNat : Int), x5.2.2.1, x5.2.2.2, x10, x11, x12, x13, x14, (x15.toNat : Int), 0, 0⟩ : O.Obj) l15 W) (HS.set (HS.box.s17 (x15.toNat : Int))) ?_
  clear HS f17 c17
  rintro V15 HS
  go_wp2_with fail
  refine (number_any r _ _ HS.left).mono ?_
  rintro e W16 ⟨hg, ⟨x16, l16, hp, rfl, hL⟩ | ⟨hp, rfl⟩⟩
  rotate_left
  · have HF : Hid (Reads r rdObj encO l w gaveUp W16) := ⟨HS.grew.trans hg, .inr ⟨HO.out.trans (pair_none (u64_none hp) _), rfl⟩⟩
    clear hp hg HS HO
    go_wp2
    exact ⟨rfl, HF.out⟩
  replace HS := HS.step hg hL
  replace HO := Lib.hid (HO.out.trans (pair_some (u64_some hp) _))
  clear hg hL hp
  have f18 := HS.box.free 18
  have c18 := HS.box.c18
  go_upto_region 18 with (fail)
  refine wp_gen (fun W => ROb w r (w.heap.size + 1) w.heap.size (⟨(x1.toNat : Int), x2, (x3 : Int), (x4 : Int), x5.1, x5.2.1, x6, x7, x8, (x9.toNat : Int), x5.2.2.1, x5.2.2.2, x10, x11, x12, x13, x14, (x15.toNat : Int), (x16 : Int), 0⟩ : O.Obj) l16 W) (HS.set (HS.box.s18 (x16 : Int))) ?_
  clear HS f18 c18
  rintro V16 HS
  go_wp2_with fail
  refine (number_any r _ _ HS.left).mono ?_
  rintro e W17 ⟨hg, ⟨x17, l17, hp, rfl, hL⟩ | ⟨hp, rfl⟩⟩
  rotate_left
  · have HF : Hid (Reads r rdObj encO l w gaveUp W17) := ⟨HS.grew.trans hg, .inr ⟨HO.out.trans (by rw [u64_none hp]; rfl), rfl⟩⟩
    clear hp hg HS HO
    go_wp2
    exact ⟨rfl, HF.out⟩
  replace HS := HS.step hg hL
  replace HO := Lib.hid (HO.out.trans (congrArg (fun z => Option.bind z _) (u64_some hp)))
  clear hg hL hp
  have f19 := HS.box.free 19
  have c19 := HS.box.c19
  go_upto_region 19 with (fail)
  refine wp_gen (fun W => ROb w r (w.heap.size + 1) w.heap.size (⟨(x1.toNat : Int), x2, (x3 : Int), (x4 : Int), x5.1, x5.2.1, x6, x7, x8, (x9.toNat : Int), x5.2.2.1, x5.2.2.2, x10, x11, x12, x13, x14, (x15.toNat : Int), (x16 : Int), (x17 : Int)⟩ : O.Obj) l17 W) (HS.set (HS.box.s19 (x17 : Int))) ?_
  clear HS f19 c19
  rintro V17 HS
  replace HO : Hid (rdObj l = if rightB (⟨(x1.toNat : Int), x2, (x3 : Int), (x4 : Int), x5.1, x5.2.1, x6, x7, x8, (x9.toNat : Int), x5.2.2.1, x5.2.2.2, x10, x11, x12, x13, x14, (x15.toNat : Int), (x16 : Int), (x17 : Int)⟩ : O.Obj) = true then some ((⟨(x1.toNat : Int), x2, (x3 : Int), (x4 : Int), x5.1, x5.2.1, x6, x7, x8, (x9.toNat : Int), x5.2.2.1, x5.2.2.2, x10, x11, x12, x13, x14, (x15.toNat : Int), (x16 : Int), (x17 : Int)⟩ : O.Obj), l17) else none) := HO.out
  generalize (⟨(x1.toNat : Int), x2, (x3 : Int), (x4 : Int), x5.1, x5.2.1, x6, x7, x8, (x9.toNat : Int), x5.2.2.1, x5.2.2.2, x10, x11, x12, x13, x14, (x15.toNat : Int), (x16 : Int), (x17 : Int)⟩ : O.Obj) = O at *
  have hbx := HS.box
  go_wp2_with ((with_reducible refine wpList_load_obj ?_ rfl ?_ hbx ?_); rfl; rfl)
  refine (right_any O _).mono ?_
  rintro e V18 ⟨rfl, hb1⟩
  replace HS := HS.below hb1
  clear hb1 hbx
  cases hrt : rightB O with
  | false =>
    have HF : Hid (Reads r rdObj encO l w gaveUp V18) := ⟨HS.grew, .inr ⟨HO.out.trans (by rw [hrt]; rfl), rfl⟩⟩
    clear HS HO hrt
    go_wp2_with (go_at_call 65; refine (giveUp_any _).mono ?_; rintro e w' ⟨rfl, rfl⟩)
    exact ⟨rfl, HF.out⟩
  | true =>
    replace HO := Lib.hid (HO.out.trans (if_pos hrt))
    clear hrt
    have hb := HS.box
    have hr := HS.res
    go_wp2_with (first | ((with_reducible refine wpList_load_row rfl 27 _ rfl (w.heap.size + 1) ?_ 27 (cellsO O) (0, 0) _ ?_ undObj ?_ ?_ ?_); rfl; exact hb; rfl; exact sizeObj) | ((with_reducible refine wpList_store_rowTo rfl 27 _ _ rfl rfl w.heap.size (cellsO O) ?_ ?_ 27 (cellsO O0) ?_ ?_ ?_ ?_ ?_); rfl; rfl; exact hr; exact sizeObj; exact sz_cells _ _; exact one_cells _))
    refine bodyPost_ret (v := encO O) (results_cell_row rfl _ _ w.heap.size 27 (cellsO O) (0, 0) _ rfl (hr.setRow _) undObj rfl sizeObj) rfl ?_
    have hlow := below_setRow (Below.refl w.heap.size V18) (Nat.le_refl _) (cellsO O)
    refine ⟨⟨hlow.os.trans HS.grew.os, hlow.tape.trans HS.grew.tape, hlow.output.trans HS.grew.output, Nat.le_trans HS.grew.size hlow.size, fun k hk hne => (hlow.block k hk).trans (HS.grew.block k hk hne)⟩, .inl ⟨O, l17, HO.out, rfl, HS.left.above hlow HS.lo⟩⟩
end Go.Proofs.Ytacbfpgknfcimaa.C
namespace Go.Proofs.Ytacbfpgknfcimaa.C
open Go.RowKit T O
open Go.Lib hiding intOf

def setAll (cs : Array Value) : Nat → List Value → Array Value
  | _, [] => cs
  | o, v :: r => setAll (cs.setIfInBounds o v) (o + 1) r
theorem heap_setCells {b : Nat} {t : TypeId} : ∀ (vs : List Value) (o : Nat) (cs : Array Value) (W : World), W.heap[b]? = some (.cells cs t (0, 0)) → (W.setCells b o vs).heap[b]? = some (.cells (setAll cs o vs) t (0, 0))
  | [], _, _, _, h => h
  | v :: r, o, cs, W, h => heap_setCells r (o + 1) _ _ (heap_setCell_same W b o cs t v h)
theorem below_setCells {B b : Nat} (hB : B ≤ b) : ∀ (vs : List Value) (o : Nat) (W : World), Below B W (W.setCells b o vs)
  | [], _, W => Below.refl B W
  | v :: r, o, W => (below_set W hB o v).trans (below_setCells hB r (o + 1) _)
def Ev0 : Ev := ⟨0, false, O0⟩
theorem set_ev (e : Ev) (o : O.Obj) : setAll (cellsE e) 2 (cellsO o).toList = cellsE { e with object := o } := by kernel_rfl
theorem set_ev0 (e : Ev) (n : Int) : (cellsE e).setIfInBounds 0 (.int .u64 n) = cellsE { e with version := n } := by simp [cellsE]
theorem set_ev1 (e : Ev) (g : Bool) : (cellsE e).setIfInBounds 1 (.bool g) = cellsE { e with gone := g } := by simp [cellsE]
section
variable {W W1 : World} {b : Nat} {e : Ev}
theorem BoxE.free (h : BoxE W b e) (i : Nat) : W.frozen? ⟨b, i, none⟩ = false := frozen_of_row W b i _ _ h
theorem BoxE.s0 (h : BoxE W b e) (n : Int) : BoxE (W.setCell ⟨b, 0, none⟩ (.int .u64 n)) b { e with version := n } := by
  have := heap_setCell_same W b 0 _ _ (.int .u64 n) h
  rwa [set_ev0] at this
theorem BoxE.s1 (h : BoxE W b e) (g : Bool) : BoxE (W.setCell ⟨b, 1, none⟩ (.bool g)) b { e with gone := g } := by
  have := heap_setCell_same W b 1 _ _ (.bool g) h
  rwa [set_ev1] at this
theorem BoxE.so (h : BoxE W b e) (o : O.Obj) : BoxE (W.setCells b 2 (cellsO o).toList) b { e with object := o } := by
  have := heap_setCells (cellsO o).toList 2 _ W h
  rwa [set_ev] at this
theorem BoxE.other (h : BoxE W b e) {p : Addr} (hp : b ≠ p.block) (v : Value) : BoxE (W.setCell p v) b e := (heap_setCell_other W p b v hp).trans h
theorem BoxE.kept (h : BoxE W b e) {row : Option Nat} (hg : W.grownBy W1 row) (hne : some b ≠ row) : BoxE W1 b e := (hg.block b h.lt hne).trans h
theorem BoxE.there (h : BoxE W b e) : W.there b 2 (cellsO e.object).size := fun j hj => ⟨by
  have := h.obj j ((cellsO e.object).toList[j]'(by simpa using hj)) (by rw [List.getElem?_eq_getElem])
  rw [this]; rfl, h.free _⟩
theorem BoxE.setRow (h : BoxE W b e) (e' : Ev) : BoxE (W.setRow b (cellsE e')) b e' := setRow_heap W b _ _ _ _ h
end
theorem one_cellsE (e : Ev) : (cellsE e).all (·.oneCell') = true := by simp [cellsE, cellsO, Value.oneCell']
/-- How far a change is read. -/
structure REv (w : World) (r eb rb : Nat) (e : Ev) (l : Bytes) (W : World) : Prop where
  box : BoxE W eb e
  res : BoxE W rb Ev0
  left : Left W r l
  grew : w.grownBy W (some r)
  lo : r < w.heap.size
  hi : w.heap.size ≤ eb ∧ w.heap.size ≤ rb ∧ eb ≠ rb
section
variable {w : World} {r eb rb : Nat} {e : Ev} {l l' : Bytes} {W W1 : World}
theorem REv.step (h : REv w r eb rb e l W) (hg : W.grownBy W1 (some r)) (hL : Left W1 r l') : REv w r eb rb e l' W1 where
  box := h.box.kept hg (by have := h.lo; have := h.hi; simp; omega)
  res := h.res.kept hg (by have := h.lo; have := h.hi; simp; omega)
  left := hL
  grew := h.grew.trans hg
  lo := h.lo
  hi := h.hi
theorem grown_above (hg : w.grownBy W (some r)) {B : Nat} (hb : Below B W W1) (hB : w.heap.size ≤ B) : w.grownBy W1 (some r) :=
  ⟨hb.os.trans hg.os, hb.tape.trans hg.tape, hb.output.trans hg.output, Nat.le_trans hg.size hb.size, fun k hk hne => (hb.block k (by omega)).trans (hg.block k hk hne)⟩
theorem REv.set (h : REv w r eb rb e l W) {e' : Ev} (hb : Below eb W W1) (hr : W1.heap[rb]? = W.heap[rb]?) (he : BoxE W1 eb e') : REv w r eb rb e' l W1 where
  box := he
  res := hr.trans h.res
  left := h.left.above hb (by have := h.lo; have := h.hi; omega)
  grew := grown_above h.grew hb h.hi.1
  lo := h.lo
  hi := h.hi
end
theorem rdEv_eq (l : Bytes) : rdEv l = (pairR rdU64 (pairR rdGone rdObj) l).bind fun x => some ((⟨x.1.1, x.1.2.1, x.1.2.2⟩ : Ev), x.2) := by
  unfold rdEv mapR
  cases pairR rdU64 (pairR rdGone rdObj) l <;> rfl
theorem other_setCells {b rb : Nat} (h : rb ≠ b) : ∀ (vs : List Value) (o : Nat) (W : World), (W.setCells b o vs).heap[rb]? = W.heap[rb]?
  | [], _, _ => rfl
  | v :: r, o, W => (other_setCells h r (o + 1) _).trans (heap_setCell_other W ⟨b, o, none⟩ rb v h)

set_option maxRecDepth 100000 in
set_option maxHeartbeats 8000000 in
theorem readChange_any (r : Nat) (l : Bytes) (w : World) (h : Left w r l) :
    Calls Try.prog 35 #[.pointer (some ⟨r, 0, none⟩)] w (Reads r rdEv encE l w) := by
  have HO : Hid (rdEv l = _) := rdEv_eq l
  have hr := h.lt
  go_enter Try.func35, Try.ntmps35
  go_upto_region 2 with (fail)
  refine wp_gen (fun W => REv w r (w.heap.size + 1) w.heap.size Ev0 l W) ⟨heap_alloc2_new w _ _, (BoxE.new w Ev0).alloc _, (h.after ((Below.refl _ _).alloc (Nat.le_refl _) _)).after ((Below.refl _ _).alloc (Nat.le_refl _) _), (World.grownBy_alloc w _ _).trans (World.grownBy_alloc _ _ _), hr, by omega, by omega, by omega⟩ ?_
  clear h hr
  rintro V0 HS
  go_wp2_with fail
  refine (number_any r _ _ HS.left).mono ?_
  rintro e W1 ⟨hg, ⟨x1, l1, hp, rfl, hL⟩ | ⟨hp, rfl⟩⟩
  rotate_left
  · have HF : Hid (Reads r rdEv encE l w gaveUp W1) := ⟨HS.grew.trans hg, .inr ⟨HO.out.trans (pair_none (u64_none hp) _), rfl⟩⟩
    clear hp hg HS HO
    go_wp2
    exact ⟨rfl, HF.out⟩
  replace HS := HS.step hg hL
  replace HO := Lib.hid (HO.out.trans (pair_some (u64_some hp) _))
  clear hg hL hp
  have f0 := HS.box.free 0
  have c0 := HS.box.c0
  go_upto_region 3 with (fail)
  refine wp_gen (fun W => REv w r (w.heap.size + 1) w.heap.size (⟨(x1 : Int), false, O0⟩ : Ev) l1 W) (HS.set (below_set _ (Nat.le_refl _) _ _) (heap_setCell_other _ _ _ _ (by simp)) (HS.box.s0 (x1 : Int))) ?_
  clear HS f0 c0
  rintro V1 HS
  go_wp2_with fail
  refine (gone_any r _ _ HS.left).mono ?_
  rintro e W2 ⟨hg, ⟨x2, l2, hp, rfl, hL⟩ | ⟨hp, rfl⟩⟩
  rotate_left
  · have HF : Hid (Reads r rdEv encE l w gaveUp W2) := ⟨HS.grew.trans hg, .inr ⟨HO.out.trans (pair_none hp _), rfl⟩⟩
    clear hp hg HS HO
    go_wp2
    exact ⟨rfl, HF.out⟩
  replace HS := HS.step hg hL
  replace HO := Lib.hid (HO.out.trans (pair_some hp _))
  clear hg hL hp
  have f1 := HS.box.free 1
  have c1 := HS.box.c1
  go_upto_region 4 with (fail)
  refine wp_gen (fun W => REv w r (w.heap.size + 1) w.heap.size (⟨(x1 : Int), x2, O0⟩ : Ev) l2 W) (HS.set (below_set _ (Nat.le_refl _) _ _) (heap_setCell_other _ _ _ _ (by simp)) (HS.box.s1 x2)) ?_
  clear HS f1 c1
  rintro V2 HS
  go_wp2_with fail
  refine (readObject_any r _ _ HS.left).mono ?_
  rintro e W3 ⟨hg, ⟨x3, l3, hp, rfl, hL⟩ | ⟨hp, rfl⟩⟩
  rotate_left
  · have HF : Hid (Reads r rdEv encE l w gaveUp W3) := ⟨HS.grew.trans hg, .inr ⟨HO.out.trans (by rw [hp]; rfl), rfl⟩⟩
    clear hp hg HS HO
    go_wp2
    exact ⟨rfl, HF.out⟩
  replace HS := HS.step hg hL
  replace HO := Lib.hid (HO.out.trans (congrArg (fun z => Option.bind z _) hp))
  clear hg hL hp
  have ht := HS.box.there
  go_upto_region 5 with ((with_reducible refine wpList_store_mid rfl 27 _ _ rfl (w.heap.size + 1) 2 (cellsO x3) ?_ ?_ ?_ ?_ ?_ ?_); rfl; rfl; exact ht; exact sizeObj; exact one_cells _)
  refine wp_gen (fun W => REv w r (w.heap.size + 1) w.heap.size (⟨(x1 : Int), x2, x3⟩ : Ev) l3 W) (HS.set (below_setCells (Nat.le_refl _) _ _ _) (other_setCells (by omega) _ _ _) (HS.box.so x3)) ?_
  clear HS ht
  rintro V3 HS
  replace HO : Hid (rdEv l = some ((⟨(x1 : Int), x2, x3⟩ : Ev), l3)) := HO.out
  generalize (⟨(x1 : Int), x2, x3⟩ : Ev) = E at *
  have hb := HS.box
  have hr := HS.res
  go_wp2_with (first | ((with_reducible refine wpList_load_ev ?_ rfl ?_ hb ?_); rfl; rfl) | ((with_reducible refine wpList_store_rowTo rfl 29 _ _ rfl rfl w.heap.size (cellsE E) ?_ ?_ 29 (cellsE Ev0) ?_ ?_ ?_ ?_ ?_); rfl; rfl; exact hr; exact sizeEv; rfl; exact one_cellsE _))
  refine bodyPost_ret (v := encE E) (results_cell_row rfl _ _ w.heap.size 29 (cellsE E) (0, 0) _ rfl (hr.setRow _) undEv rfl sizeEv) rfl ?_
  have hlow := below_setRow (Below.refl w.heap.size V3) (Nat.le_refl _) (cellsE E)
  exact ⟨grown_above HS.grew hlow (Nat.le_refl _), .inl ⟨E, l3, HO.out, rfl, HS.left.above hlow HS.lo⟩⟩
end Go.Proofs.Ytacbfpgknfcimaa.C
