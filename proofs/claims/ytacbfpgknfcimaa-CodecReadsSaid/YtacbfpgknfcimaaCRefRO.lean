/- The document's reader of an object, field by field. Laid by mkrefread.py. -/
import Derived.Test.YtacbfpgknfcimaaCRefRT
import Derived.Test.YtacbfpgknfcimaaCRefO
namespace Go.Proofs.Ytacbfpgknfcimaa.C
open Go.RowKit T O
open Go.Lib hiding intOf

/-- How far an object is read: it grows at block ob; the result's block is rb; the reader's is r. -/
structure QOb (w : World) (r ob rb : Nat) (o : O.Obj) (X : Option Bytes) (W : World) : Prop where
  box : BoxO W ob o
  res : BoxO W rb O0
  left : RX W r X
  grew : w.grownBy W (some r)
  lo : r < w.heap.size
  hi : w.heap.size ≤ ob ∧ w.heap.size ≤ rb ∧ ob ≠ rb
section
variable {w : World} {r ob rb : Nat} {o : O.Obj} {X X1 : Option Bytes} {W W1 : World}
theorem QOb.step (h : QOb w r ob rb o X W) (hg : W.grownBy W1 (some r)) (hL : RX W1 r X1) : QOb w r ob rb o X1 W1 where
  box := BoxO.kept' h.box hg (by have := h.lo; have := h.hi; simp; omega)
  res := BoxO.kept' h.res hg (by have := h.lo; have := h.hi; simp; omega)
  left := hL
  grew := h.grew.trans hg
  lo := h.lo
  hi := h.hi
theorem QOb.set (h : QOb w r ob rb o X W) {i : Nat} {v : Value} {o' : O.Obj} (hb : BoxO (W.setCell ⟨ob, i, none⟩ v) ob o') : QOb w r ob rb o' X (W.setCell ⟨ob, i, none⟩ v) where
  box := hb
  res := h.res.other (p := ⟨ob, i, none⟩) (fun e => h.hi.2.2 e.symm) v
  left := h.left.above (below_set W (Nat.le_refl ob) i v) (by have := h.lo; have := h.hi; omega)
  grew := by
    have hs := h.grew.size
    have hb := below_set W h.hi.1 i v
    exact ⟨hb.os.trans h.grew.os, hb.tape.trans h.grew.tape, hb.output.trans h.grew.output, Nat.le_trans hs hb.size, fun k hk hne => (hb.block k hk).trans (h.grew.block k hk hne)⟩
  lo := h.lo
  hi := h.hi
theorem QOb.below (h : QOb w r ob rb o X W) (hb : Below W.heap.size W W1) : QOb w r ob rb o X W1 where
  box := h.box.after hb
  res := h.res.after hb
  left := h.left.after hb
  grew := h.grew.trans (⟨hb.os, hb.tape, hb.output, hb.size, fun k hk _ => hb.block k hk⟩)
  lo := h.lo
  hi := h.hi
theorem QOb.bad (h : QOb w r ob rb o X W) : QOb w r ob rb o none (W.setCell ⟨r, 1, none⟩ (.bool true)) := h.step h.left.setBad.2 h.left.setBad.1
theorem Got.u8 {b : UInt8} (h : Got X rdByte b X1) : Got X rdU8 ((b.toNat : Nat) : Int) X1 := h.map _
/-- The byte of the flags: too big, and it is bad. -/
theorem Got.flags {b : UInt8} (h : Got X rdByte b X1) : Got X rdFlags (flagsOf b) (if decide (b.toNat < 16) = true then X1 else Option.none) :=
  (h.keep (fun b => decide (b.toNat < 16)) b (fun _ => rfl) _ rfl).map flagsOf
end
/-- The bits of any byte. -/
theorem bit_read : ∀ x : Nat, x < 256 → decide (x % 2 = 1) = (bits .and .u8 (x : Int) 1 != 0) ∧ decide (x / 2 % 2 = 1) = (bits .and .u8 (x : Int) 2 != 0) ∧ decide (x / 4 % 2 = 1) = (bits .and .u8 (x : Int) 4 != 0) ∧ decide (x / 8 % 2 = 1) = (bits .and .u8 (x : Int) 8 != 0) := by decide +kernel

set_option maxRecDepth 100000 in
set_option maxHeartbeats 16000000 in
theorem refReadObject_any (r : Nat) (X : Option Bytes) (w : World) (h : RX w r X) :
    Calls Try.prog 33 #[.pointer (some ⟨r, 0, none⟩)] w (RGot r rdObj encO (fun _ => True) X w) := by
  have hr := h.lt
  go_enter Try.func33, Try.ntmps33
  go_upto_region 2 with (fail)
  refine wp_gen (fun W => QOb w r (w.heap.size + 1) w.heap.size O0 X W) ⟨heap_alloc2_new w _ _, (BoxO.new w O0).alloc _, (h.after ((Below.refl _ _).alloc (Nat.le_refl _) _)).after ((Below.refl _ _).alloc (Nat.le_refl _) _), (World.grownBy_alloc w _ _).trans (World.grownBy_alloc _ _ _), hr, by omega, by omega, by omega⟩ ?_
  clear h hr
  rintro V0 HS
  go_wp2_with fail
  refine (refOneX r _ _ HS.left).mono ?_
  rintro e W1 ⟨hg, x1, X1, rfl, k1, hL, G1⟩
  clear k1
  replace HS := HS.step hg hL
  clear hg hL
  unfold bv
  go_wp2_with fail
  refine (refTextX r _ _ HS.left).mono ?_
  rintro e W2 ⟨hg, x2, X2, rfl, k2, hL, G2⟩
  replace k2 := Lib.hid k2
  replace HS := HS.step hg hL
  clear hg hL
  have f0 := HS.box.free 0
  have c0 := HS.box.c0
  have f1 := HS.box.free 1
  have c1 := HS.box.c1
  go_upto_region 3 with (fail)
  refine wp_gen (fun W => QOb w r (w.heap.size + 1) w.heap.size (⟨(x1.toNat : Int), x2, 0, 0, false, false, E0, 0, 0, 0, false, false, E0, E0, E0, E0, E0, 0, 0, 0⟩ : O.Obj) X2 W) (((HS).set ((HS.box).s0 (x1.toNat : Int))).set (((HS.box).s0 (x1.toNat : Int)).s1 x2)) ?_
  clear HS f0 c0 f1 c1
  rintro V2 HS
  go_wp2_with fail
  refine (refNumX r _ _ HS.left).mono ?_
  rintro e W3 ⟨hg, x3, X3, rfl, k3, hL, G3⟩
  clear k3
  replace HS := HS.step hg hL
  clear hg hL
  go_wp2_with fail
  refine (refNumX r _ _ HS.left).mono ?_
  rintro e W4 ⟨hg, x4, X4, rfl, k4, hL, G4⟩
  clear k4
  replace HS := HS.step hg hL
  clear hg hL
  have f2 := HS.box.free 2
  have c2 := HS.box.c2
  have f3 := HS.box.free 3
  have c3 := HS.box.c3
  go_upto_region 4 with (fail)
  refine wp_gen (fun W => QOb w r (w.heap.size + 1) w.heap.size (⟨(x1.toNat : Int), x2, x3, x4, false, false, E0, 0, 0, 0, false, false, E0, E0, E0, E0, E0, 0, 0, 0⟩ : O.Obj) X4 W) (((HS).set ((HS.box).s2 x3)).set (((HS.box).s2 x3).s3 x4)) ?_
  clear HS f2 c2 f3 c3
  rintro V4 HS
  go_wp2_with fail
  refine (refOneX r _ _ HS.left).mono ?_
  rintro e W5 ⟨hg, x5, X5, rfl, k5, hL, G5⟩
  clear k5
  replace HS := HS.step hg hL
  clear hg hL
  unfold bv
  have HB := Lib.hid (bit_read x5.toNat x5.toNat_lt)
  replace G5 := Lib.hid G5.flags
  have f1 := HS.left.f1 1
  have c1 := HS.left.c1
  by_cases h16 : (15 : Int) < (x5.toNat : Int)
  case' pos =>
    replace G5 : Hid (Got X4 rdFlags (flagsOf x5) none) := by have := G5.out; rwa [if_neg (by simp; omega)] at this
    go_upto_region 7 with (fail)
    refine wp_gen (fun W => QOb w r (w.heap.size + 1) w.heap.size (⟨(x1.toNat : Int), x2, x3, x4, false, false, E0, 0, 0, 0, false, false, E0, E0, E0, E0, E0, 0, 0, 0⟩ : O.Obj) none W) HS.bad ?_
    clear HS f1 c1 h16
    clear X5
    generalize (none : Option Bytes) = X5 at G5 ⊢
    rintro V4 HS
  case' neg =>
    replace G5 : Hid (Got X4 rdFlags (flagsOf x5) X5) := by have := G5.out; rwa [if_pos (by simp; omega)] at this
    go_upto_region 7 with (fail)
    refine wp_gen (fun W => QOb w r (w.heap.size + 1) w.heap.size (⟨(x1.toNat : Int), x2, x3, x4, false, false, E0, 0, 0, 0, false, false, E0, E0, E0, E0, E0, 0, 0, 0⟩ : O.Obj) X5 W) HS ?_
    clear HS f1 c1 h16
    rintro V4 HS
  all_goals
    obtain ⟨e1, e2, e3, e4⟩ := HB.out
    have f4 := HS.box.free 4
    have c4 := HS.box.c4
    have f5 := HS.box.free 5
    have c5 := HS.box.c5
    have f10 := HS.box.free 10
    have c10 := HS.box.c10
    have f11 := HS.box.free 11
    have c11 := HS.box.c11
    go_upto_region 8 with (fail)
    refine wp_gen (fun W => QOb w r (w.heap.size + 1) w.heap.size (⟨(x1.toNat : Int), x2, x3, x4, (bits .and .u8 (x5.toNat : Int) 1 != 0), (bits .and .u8 (x5.toNat : Int) 2 != 0), E0, 0, 0, 0, (bits .and .u8 (x5.toNat : Int) 4 != 0), (bits .and .u8 (x5.toNat : Int) 8 != 0), E0, E0, E0, E0, E0, 0, 0, 0⟩ : O.Obj) X5 W) (((((HS).set ((HS.box).s4 (bits .and .u8 (x5.toNat : Int) 1 != 0))).set (((HS.box).s4 (bits .and .u8 (x5.toNat : Int) 1 != 0)).s5 (bits .and .u8 (x5.toNat : Int) 2 != 0))).set ((((HS.box).s4 (bits .and .u8 (x5.toNat : Int) 1 != 0)).s5 (bits .and .u8 (x5.toNat : Int) 2 != 0)).s10 (bits .and .u8 (x5.toNat : Int) 4 != 0))).set (((((HS.box).s4 (bits .and .u8 (x5.toNat : Int) 1 != 0)).s5 (bits .and .u8 (x5.toNat : Int) 2 != 0)).s10 (bits .and .u8 (x5.toNat : Int) 4 != 0)).s11 (bits .and .u8 (x5.toNat : Int) 8 != 0))) ?_
    clear HS f4 c4 f5 c5 f10 c10 f11 c11
    rintro V10 HS
    go_wp2_with fail
    refine (refTextX r _ _ HS.left).mono ?_
    rintro e W6 ⟨hg, x6, X6, rfl, k6, hL, G6⟩
    replace k6 := Lib.hid k6
    replace HS := HS.step hg hL
    clear hg hL
    have f6 := HS.box.free 6
    have c6 := HS.box.c6
    go_upto_region 9 with (fail)
    refine wp_gen (fun W => QOb w r (w.heap.size + 1) w.heap.size (⟨(x1.toNat : Int), x2, x3, x4, (bits .and .u8 (x5.toNat : Int) 1 != 0), (bits .and .u8 (x5.toNat : Int) 2 != 0), x6, 0, 0, 0, (bits .and .u8 (x5.toNat : Int) 4 != 0), (bits .and .u8 (x5.toNat : Int) 8 != 0), E0, E0, E0, E0, E0, 0, 0, 0⟩ : O.Obj) X6 W) ((HS).set ((HS.box).s6 x6)) ?_
    clear HS f6 c6
    rintro V11 HS
    go_wp2_with fail
    refine (refSizeX r _ _ HS.left).mono ?_
    rintro e W7 ⟨hg, x7, X7, rfl, k7, hL, G7⟩
    clear k7
    replace HS := HS.step hg hL
    clear hg hL
    have f7 := HS.box.free 7
    have c7 := HS.box.c7
    go_upto_region 10 with (fail)
    refine wp_gen (fun W => QOb w r (w.heap.size + 1) w.heap.size (⟨(x1.toNat : Int), x2, x3, x4, (bits .and .u8 (x5.toNat : Int) 1 != 0), (bits .and .u8 (x5.toNat : Int) 2 != 0), x6, x7, 0, 0, (bits .and .u8 (x5.toNat : Int) 4 != 0), (bits .and .u8 (x5.toNat : Int) 8 != 0), E0, E0, E0, E0, E0, 0, 0, 0⟩ : O.Obj) X7 W) ((HS).set ((HS.box).s7 x7)) ?_
    clear HS f7 c7
    rintro V12 HS
    go_wp2_with fail
    refine (refSizeX r _ _ HS.left).mono ?_
    rintro e W8 ⟨hg, x8, X8, rfl, k8, hL, G8⟩
    clear k8
    replace HS := HS.step hg hL
    clear hg hL
    have f8 := HS.box.free 8
    have c8 := HS.box.c8
    go_upto_region 11 with (fail)
    refine wp_gen (fun W => QOb w r (w.heap.size + 1) w.heap.size (⟨(x1.toNat : Int), x2, x3, x4, (bits .and .u8 (x5.toNat : Int) 1 != 0), (bits .and .u8 (x5.toNat : Int) 2 != 0), x6, x7, x8, 0, (bits .and .u8 (x5.toNat : Int) 4 != 0), (bits .and .u8 (x5.toNat : Int) 8 != 0), E0, E0, E0, E0, E0, 0, 0, 0⟩ : O.Obj) X8 W) ((HS).set ((HS.box).s8 x8)) ?_
    clear HS f8 c8
    rintro V13 HS
    go_wp2_with fail
    refine (refOneX r _ _ HS.left).mono ?_
    rintro e W9 ⟨hg, x9, X9, rfl, k9, hL, G9⟩
    clear k9
    replace HS := HS.step hg hL
    clear hg hL
    unfold bv
    have f9 := HS.box.free 9
    have c9 := HS.box.c9
    go_upto_region 12 with (fail)
    refine wp_gen (fun W => QOb w r (w.heap.size + 1) w.heap.size (⟨(x1.toNat : Int), x2, x3, x4, (bits .and .u8 (x5.toNat : Int) 1 != 0), (bits .and .u8 (x5.toNat : Int) 2 != 0), x6, x7, x8, (x9.toNat : Int), (bits .and .u8 (x5.toNat : Int) 4 != 0), (bits .and .u8 (x5.toNat : Int) 8 != 0), E0, E0, E0, E0, E0, 0, 0, 0⟩ : O.Obj) X9 W) ((HS).set ((HS.box).s9 (x9.toNat : Int))) ?_
    clear HS f9 c9
    rintro V14 HS
    go_wp2_with fail
    refine (refTextX r _ _ HS.left).mono ?_
    rintro e W10 ⟨hg, x10, X10, rfl, k10, hL, G10⟩
    replace k10 := Lib.hid k10
    replace HS := HS.step hg hL
    clear hg hL
    have f12 := HS.box.free 12
    have c12 := HS.box.c12
    go_upto_region 13 with (fail)
    refine wp_gen (fun W => QOb w r (w.heap.size + 1) w.heap.size (⟨(x1.toNat : Int), x2, x3, x4, (bits .and .u8 (x5.toNat : Int) 1 != 0), (bits .and .u8 (x5.toNat : Int) 2 != 0), x6, x7, x8, (x9.toNat : Int), (bits .and .u8 (x5.toNat : Int) 4 != 0), (bits .and .u8 (x5.toNat : Int) 8 != 0), x10, E0, E0, E0, E0, 0, 0, 0⟩ : O.Obj) X10 W) ((HS).set ((HS.box).s12 x10)) ?_
    clear HS f12 c12
    rintro V15 HS
    go_wp2_with fail
    refine (refTextX r _ _ HS.left).mono ?_
    rintro e W11 ⟨hg, x11, X11, rfl, k11, hL, G11⟩
    replace k11 := Lib.hid k11
    replace HS := HS.step hg hL
    clear hg hL
    have f13 := HS.box.free 13
    have c13 := HS.box.c13
    go_upto_region 14 with (fail)
    refine wp_gen (fun W => QOb w r (w.heap.size + 1) w.heap.size (⟨(x1.toNat : Int), x2, x3, x4, (bits .and .u8 (x5.toNat : Int) 1 != 0), (bits .and .u8 (x5.toNat : Int) 2 != 0), x6, x7, x8, (x9.toNat : Int), (bits .and .u8 (x5.toNat : Int) 4 != 0), (bits .and .u8 (x5.toNat : Int) 8 != 0), x10, x11, E0, E0, E0, 0, 0, 0⟩ : O.Obj) X11 W) ((HS).set ((HS.box).s13 x11)) ?_
    clear HS f13 c13
    rintro V16 HS
    go_wp2_with fail
    refine (refTextX r _ _ HS.left).mono ?_
    rintro e W12 ⟨hg, x12, X12, rfl, k12, hL, G12⟩
    replace k12 := Lib.hid k12
    replace HS := HS.step hg hL
    clear hg hL
    have f14 := HS.box.free 14
    have c14 := HS.box.c14
    go_upto_region 15 with (fail)
    refine wp_gen (fun W => QOb w r (w.heap.size + 1) w.heap.size (⟨(x1.toNat : Int), x2, x3, x4, (bits .and .u8 (x5.toNat : Int) 1 != 0), (bits .and .u8 (x5.toNat : Int) 2 != 0), x6, x7, x8, (x9.toNat : Int), (bits .and .u8 (x5.toNat : Int) 4 != 0), (bits .and .u8 (x5.toNat : Int) 8 != 0), x10, x11, x12, E0, E0, 0, 0, 0⟩ : O.Obj) X12 W) ((HS).set ((HS.box).s14 x12)) ?_
    clear HS f14 c14
    rintro V17 HS
    go_wp2_with fail
    refine (refTextX r _ _ HS.left).mono ?_
    rintro e W13 ⟨hg, x13, X13, rfl, k13, hL, G13⟩
    replace k13 := Lib.hid k13
    replace HS := HS.step hg hL
    clear hg hL
    have f15 := HS.box.free 15
    have c15 := HS.box.c15
    go_upto_region 16 with (fail)
    refine wp_gen (fun W => QOb w r (w.heap.size + 1) w.heap.size (⟨(x1.toNat : Int), x2, x3, x4, (bits .and .u8 (x5.toNat : Int) 1 != 0), (bits .and .u8 (x5.toNat : Int) 2 != 0), x6, x7, x8, (x9.toNat : Int), (bits .and .u8 (x5.toNat : Int) 4 != 0), (bits .and .u8 (x5.toNat : Int) 8 != 0), x10, x11, x12, x13, E0, 0, 0, 0⟩ : O.Obj) X13 W) ((HS).set ((HS.box).s15 x13)) ?_
    clear HS f15 c15
    rintro V18 HS
    go_wp2_with fail
    refine (refTextX r _ _ HS.left).mono ?_
    rintro e W14 ⟨hg, x14, X14, rfl, k14, hL, G14⟩
    replace k14 := Lib.hid k14
    replace HS := HS.step hg hL
    clear hg hL
    have f16 := HS.box.free 16
    have c16 := HS.box.c16
    go_upto_region 17 with (fail)
    refine wp_gen (fun W => QOb w r (w.heap.size + 1) w.heap.size (⟨(x1.toNat : Int), x2, x3, x4, (bits .and .u8 (x5.toNat : Int) 1 != 0), (bits .and .u8 (x5.toNat : Int) 2 != 0), x6, x7, x8, (x9.toNat : Int), (bits .and .u8 (x5.toNat : Int) 4 != 0), (bits .and .u8 (x5.toNat : Int) 8 != 0), x10, x11, x12, x13, x14, 0, 0, 0⟩ : O.Obj) X14 W) ((HS).set ((HS.box).s16 x14)) ?_
    clear HS f16 c16
    rintro V19 HS
    go_wp2_with fail
    refine (refOneX r _ _ HS.left).mono ?_
    rintro e W15 ⟨hg, x15, X15, rfl, k15, hL, G15⟩
    clear k15
    replace HS := HS.step hg hL
    clear hg hL
    unfold bv
    have f17 := HS.box.free 17
    have c17 := HS.box.c17
    go_upto_region 18 with (fail)
    refine wp_gen (fun W => QOb w r (w.heap.size + 1) w.heap.size (⟨(x1.toNat : Int), x2, x3, x4, (bits .and .u8 (x5.toNat : Int) 1 != 0), (bits .and .u8 (x5.toNat : Int) 2 != 0), x6, x7, x8, (x9.toNat : Int), (bits .and .u8 (x5.toNat : Int) 4 != 0), (bits .and .u8 (x5.toNat : Int) 8 != 0), x10, x11, x12, x13, x14, (x15.toNat : Int), 0, 0⟩ : O.Obj) X15 W) ((HS).set ((HS.box).s17 (x15.toNat : Int))) ?_
    clear HS f17 c17
    rintro V20 HS
    go_wp2_with fail
    refine (refNumX r _ _ HS.left).mono ?_
    rintro e W16 ⟨hg, x16, X16, rfl, k16, hL, G16⟩
    clear k16
    replace HS := HS.step hg hL
    clear hg hL
    have f18 := HS.box.free 18
    have c18 := HS.box.c18
    go_upto_region 19 with (fail)
    refine wp_gen (fun W => QOb w r (w.heap.size + 1) w.heap.size (⟨(x1.toNat : Int), x2, x3, x4, (bits .and .u8 (x5.toNat : Int) 1 != 0), (bits .and .u8 (x5.toNat : Int) 2 != 0), x6, x7, x8, (x9.toNat : Int), (bits .and .u8 (x5.toNat : Int) 4 != 0), (bits .and .u8 (x5.toNat : Int) 8 != 0), x10, x11, x12, x13, x14, (x15.toNat : Int), x16, 0⟩ : O.Obj) X16 W) ((HS).set ((HS.box).s18 x16)) ?_
    clear HS f18 c18
    rintro V21 HS
    go_wp2_with fail
    refine (refNumX r _ _ HS.left).mono ?_
    rintro e W17 ⟨hg, x17, X17, rfl, k17, hL, G17⟩
    clear k17
    replace HS := HS.step hg hL
    clear hg hL
    have f19 := HS.box.free 19
    have c19 := HS.box.c19
    go_upto_region 20 with (fail)
    refine wp_gen (fun W => QOb w r (w.heap.size + 1) w.heap.size (⟨(x1.toNat : Int), x2, x3, x4, (bits .and .u8 (x5.toNat : Int) 1 != 0), (bits .and .u8 (x5.toNat : Int) 2 != 0), x6, x7, x8, (x9.toNat : Int), (bits .and .u8 (x5.toNat : Int) 4 != 0), (bits .and .u8 (x5.toNat : Int) 8 != 0), x10, x11, x12, x13, x14, (x15.toNat : Int), x16, x17⟩ : O.Obj) X17 W) ((HS).set ((HS.box).s19 x17)) ?_
    clear HS f19 c19
    rintro V22 HS
    have hfit : O.Fit (⟨(x1.toNat : Int), x2, x3, x4, (bits .and .u8 (x5.toNat : Int) 1 != 0), (bits .and .u8 (x5.toNat : Int) 2 != 0), x6, x7, x8, (x9.toNat : Int), (bits .and .u8 (x5.toNat : Int) 4 != 0), (bits .and .u8 (x5.toNat : Int) 8 != 0), x10, x11, x12, x13, x14, (x15.toNat : Int), x16, x17⟩ : O.Obj) := ⟨k2.out, k6.out, k10.out, k11.out, k12.out, k13.out, k14.out⟩
    have G : Hid (Got X (mapR ofRow rdRow) (⟨(x1.toNat : Int), x2, x3, x4, (bits .and .u8 (x5.toNat : Int) 1 != 0), (bits .and .u8 (x5.toNat : Int) 2 != 0), x6, x7, x8, (x9.toNat : Int), (bits .and .u8 (x5.toNat : Int) 4 != 0), (bits .and .u8 (x5.toNat : Int) 8 != 0), x10, x11, x12, x13, x14, (x15.toNat : Int), x16, x17⟩ : O.Obj) X17) := by
      have hfl : flagsOf x5 = (bits .and .u8 (x5.toNat : Int) 1 != 0, bits .and .u8 (x5.toNat : Int) 2 != 0, bits .and .u8 (x5.toNat : Int) 4 != 0, bits .and .u8 (x5.toNat : Int) 8 != 0) := by
        unfold flagsOf
        rw [e1, e2, e3, e4]
      have g5 := G5.out
      rw [hfl] at g5
      exact ((G1.u8).pair ((G2).pair ((G3).pair ((G4).pair ((g5).pair ((G6).pair ((G7).pair ((G8).pair ((G9.u8).pair ((G10).pair ((G11).pair ((G12).pair ((G13).pair ((G14).pair ((G15.u8).pair ((G16).pair (G17))))))))))))))))).map ofRow
    generalize (⟨(x1.toNat : Int), x2, x3, x4, (bits .and .u8 (x5.toNat : Int) 1 != 0), (bits .and .u8 (x5.toNat : Int) 2 != 0), x6, x7, x8, (x9.toNat : Int), (bits .and .u8 (x5.toNat : Int) 4 != 0), (bits .and .u8 (x5.toNat : Int) 8 != 0), x10, x11, x12, x13, x14, (x15.toNat : Int), x16, x17⟩ : O.Obj) = O at *
    have hbx := HS.box
    have FIT := Lib.hid hfit
    clear hfit
    go_wp2_with ((with_reducible refine wpList_load_obj ?_ rfl ?_ hbx ?_); rfl; rfl)
    refine (refRight_any O _ FIT.out).mono ?_
    rintro e V30 ⟨rfl, hb1⟩
    replace HS := HS.below hb1
    replace G : Hid (Got X rdObj O (if rightB O = true then X17 else none)) := G.out.keep rightB O (fun _ => rfl) _ rfl
    clear hb1 hbx
    cases hrt : rightB O with
    | false =>
      rw [hrt] at G
      have f1 := HS.left.f1 1
      have c1 := HS.left.c1
      go_upto_region 22 with (fail)
      refine wp_gen (fun W => QOb w r (w.heap.size + 1) w.heap.size O none W) HS.bad ?_
      clear HS f1 c1
      rintro V31 HS
      have hb := HS.box
      have hr := HS.res
      go_wp2_with (first | ((with_reducible refine wpList_load_row rfl 27 _ rfl (w.heap.size + 1) ?_ 27 (cellsO O) (0, 0) _ ?_ undObj ?_ ?_ ?_); rfl; exact hb; rfl; exact sizeObj) | ((with_reducible refine wpList_store_rowTo rfl 27 _ _ rfl rfl w.heap.size (cellsO O) ?_ ?_ 27 (cellsO O0) ?_ ?_ ?_ ?_ ?_); rfl; rfl; exact hr; exact sizeObj; exact sz_cells _ _; exact one_cells _))
      refine bodyPost_ret (v := encO O) (results_cell_row rfl _ _ w.heap.size 27 (cellsO O) (0, 0) _ rfl (hr.setRow _) undObj rfl sizeObj) rfl ?_
      have hlow := below_setRow (Below.refl w.heap.size V31) (Nat.le_refl _) (cellsO O)
      exact ⟨⟨hlow.os.trans HS.grew.os, hlow.tape.trans HS.grew.tape, hlow.output.trans HS.grew.output, Nat.le_trans HS.grew.size hlow.size, fun k hk hne => (hlow.block k hk).trans (HS.grew.block k hk hne)⟩, O, none, rfl, trivial, HS.left.above hlow HS.lo, G.out⟩
    | true =>
      rw [hrt] at G
      go_upto_region 22 with (fail)
      have hb := HS.box
      have hr := HS.res
      go_wp2_with (first | ((with_reducible refine wpList_load_row rfl 27 _ rfl (w.heap.size + 1) ?_ 27 (cellsO O) (0, 0) _ ?_ undObj ?_ ?_ ?_); rfl; exact hb; rfl; exact sizeObj) | ((with_reducible refine wpList_store_rowTo rfl 27 _ _ rfl rfl w.heap.size (cellsO O) ?_ ?_ 27 (cellsO O0) ?_ ?_ ?_ ?_ ?_); rfl; rfl; exact hr; exact sizeObj; exact sz_cells _ _; exact one_cells _))
      refine bodyPost_ret (v := encO O) (results_cell_row rfl _ _ w.heap.size 27 (cellsO O) (0, 0) _ rfl (hr.setRow _) undObj rfl sizeObj) rfl ?_
      have hlow := below_setRow (Below.refl w.heap.size V30) (Nat.le_refl _) (cellsO O)
      exact ⟨⟨hlow.os.trans HS.grew.os, hlow.tape.trans HS.grew.tape, hlow.output.trans HS.grew.output, Nat.le_trans HS.grew.size hlow.size, fun k hk hne => (hlow.block k hk).trans (HS.grew.block k hk hne)⟩, O, X17, rfl, trivial, HS.left.above hlow HS.lo, G.out⟩
end Go.Proofs.Ytacbfpgknfcimaa.C
