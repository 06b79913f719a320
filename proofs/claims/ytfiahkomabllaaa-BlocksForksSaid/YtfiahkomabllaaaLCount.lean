/- (*blocks.Log).countOn: the whole records behind those that are known. -/
import Derived.Test.YtfiahkomabllaaaLRecs
import Derived.Test.YtfiahkomabllaaaRoundReg
import Derived.Test.YtfiahkomabllaaaHeldLoad
namespace Go.Proofs.Ytfiahkomabllaaa.L
open Go Go.RowKit
open Go.Lib
attribute [local go_sem] Oper.semAt_some

abbrev tPL : TypeId := 23
theorem LogAt.s3' {W : World} {q most last wh en : Nat} {v : Value} (h : LogAt W q most v last wh en) {z : Int} {x : Nat} (hz : z = (x : Int)) : LogAt (W.setCell ⟨q, 3, none⟩ (.int .i64 z)) q most v last x en := hz ▸ h.s3 x
theorem LogAt.s4' {W : World} {q most last wh en : Nat} {v : Value} (h : LogAt W q most v last wh en) {z : Int} {x : Nat} (hz : z = (x : Int)) : LogAt (W.setCell ⟨q, 4, none⟩ (.int .i64 z)) q most v last wh x := hz ▸ h.s4 x
theorem need_b (n : Nat) (w : World) (hn : n ≤ 1000000000000) : Calls Try.prog 16 #[.int .i64 (n : Int)] w fun e w' => e = .returned (.int .i64 (need n : Nat)) ∧ Below w.heap.size w w' := by
  have := need_any (n : Int) w (by omega)
  rw [Int.toNat_natCast] at this
  exact this.mono fun e w' ⟨h1, h2⟩ => ⟨h1, h2 ▸ Below.refl _ _⟩
theorem log_own {B : Nat} {W W' : World} {row : Option Nat} {q most last wh en : Nat} {v : Value} (hg : W.grownBy W' row) (hr : ∀ r, row = some r → B ≤ r ∧ ∃ o : Go.Obj, W.heap[r]? = some o ∧ o.isCells = false) (h : LogAt W q most v last wh en) : LogAt W' q most v last wh en := cells_own hg hr h
theorem Begin.all {L M : List Bytes} {b : Bytes} {n : Nat} (h : Begin L b n) (hm : All M (b.drop (blks L * 64)) (n + L.length)) : All (L ++ M) b n := by
  refine ⟨h.app hm.1, ?_⟩
  have := hm.2
  rw [List.drop_drop] at this
  rw [blks_append, List.length_append, ← Nat.add_assoc, Nat.add_mul]
  exact this
/-- How far it has counted. -/
structure Counted (w : World) (B q z most last wh en : Nat) (v : Value) (k : Nat) (pre : List Rec) (V : World) : Prop where
  at_ : LogAt V q most v last (wh + pre.length) (en + blks (pre.map (·.2)))
  box : Boxed V z tPL (.pointer (some ⟨q, 0, none⟩))
  below : Below B w V
  keep : ∀ g, g < z → g ≠ q → V.heap[g]? = w.heap[g]?
  small : pre.length ≤ k ∧ blks (pre.map (·.2)) ≤ 17 * pre.length
theorem Counted.own {w : World} {B q z most last wh en k B0 : Nat} {v : Value} {pre : List Rec} {A W : World} {row : Option Nat} (h : Counted w B q z most last wh en v k pre A) (hz : w.heap.size = z) (hB0 : z ≤ B0) (hBz : B ≤ z)
    (hg : A.grownBy W row) (hr : ∀ r, row = some r → B0 ≤ r ∧ ∃ o : Go.Obj, A.heap[r]? = some o ∧ o.isCells = false) : Counted w B q z most last wh en v k pre W where
  at_ := log_own hg hr h.at_
  box := cells_own hg hr h.box
  below := h.below.grown hg (by have := h.below.size; omega) (fun r e => by have := (hr r e).1; omega)
  keep := fun g hg1 hne => (hg.block g (by have := h.below.size; omega) (fun e => by have := (hr g e.symm).1; omega)).trans (h.keep g hg1 hne)
  small := h.small
/-- In the midst of a round: all but the log's box is as it was. -/
structure MidDrew (w V0 : World) (B q z N0 : Nat) (V : World) : Prop where
  box : Boxed V z tPL (.pointer (some ⟨q, 0, none⟩))
  below : Below B w V
  keep : ∀ g, g < z → g ≠ q → V.heap[g]? = w.heap[g]?
  stays : RangeRow.Stays q (q + 1) N0 30 V0 V
theorem MidDrew.drew {w V0 : World} {B q z N0 : Nat} {V : World} (h : MidDrew w V0 B q z N0 V) : MidDrew w V0 B q z N0 V.drew := ⟨h.box, h.below.drew, h.keep, h.stays⟩
theorem MidDrew.set {w V0 : World} {B q z N0 : Nat} {V : World} (h : MidDrew w V0 B q z N0 V) (hq : q < z) (hB : B ≤ q) (i : Nat) (x : Value) : MidDrew w V0 B q z N0 (V.setCell ⟨q, i, none⟩ x) where
  box := h.box.of_heap (heap_setCell_other _ ⟨q, i, none⟩ z _ (by show z ≠ q; omega))
  below := h.below.setCell (p := ⟨q, i, none⟩) hB x
  keep := fun g hg hne => (heap_setCell_other _ ⟨q, i, none⟩ g _ hne).trans (h.keep g hg hne)
  stays := ⟨by have := h.stays.1; simpa using this, fun g hg hx hr => (heap_setCell_other _ ⟨q, i, none⟩ g _ (by show g ≠ q; omega)).trans (h.stays.2 g hg hx hr)⟩
set_option maxRecDepth 100000 in
set_option maxHeartbeats 300000 in
theorem countOn_any (B q most last k : Nat) (v : Value) (b : Bytes) (L : List Bytes) (w : World) (h : LogAt w q most v last L.length (blks L)) (hv : BlksIn w v k b) (hne : ∀ g, v.ownBlock = some g → g ≠ q) (hL : Begin L b 1) (hk : k ≤ 1000000) (hB : B ≤ q) :
    Calls Try.prog 38 #[.pointer (some ⟨q, 0, none⟩)] w fun e w' => (∃ r, e = .returned r) ∧ LogAt w' q most v last (recs b).length (blks (recs b)) ∧ Below B w w' ∧ ∀ g, g < w.heap.size → g ≠ q → w'.heap[g]? = w.heap[g]? := by
  obtain ⟨a, c, rfl⟩ := hv.shape
  have hle := hL.le
  have hpos := hL.pos
  have hbk := hv.1
  obtain ⟨r0, hs0, hr0, ho0⟩ := hv.tail (n := blks L) (by omega) .i64
  obtain ⟨a0, c0, rfl⟩ := hr0.shape
  have HQ := Lib.hid h
  have HV := Lib.hid hv
  have HR := Lib.hid hr0
  have HO := Lib.hid ho0
  have HL := Lib.hid hL
  have HNE := Lib.hid hne
  generalize hwh : L.length = wh at *
  generalize hen : blks L = en at *
  have hwb : wh ≤ 1000000 := by omega
  have heb : en ≤ 1000000 := by omega
  have HWH := Lib.hid hwh
  have HEN := Lib.hid hen
  clear h hv hr0 ho0 hL hne hwh hen
  refine callsIn_wide.1 (callsIn_of_wp_marks (n := 5) Try.func38 rfl trivial ?_ rfl)
  simp only [Try.ntmps38, List.size_toArray, List.length_cons, List.length_nil, Nat.reduceAdd, Nat.reduceSub, Array.replicate_succ, Array.replicate_zero, List.push_toArray, List.append_toArray, List.nil_append, List.cons_append]
  gi_wp2
  obtain ⟨z, hz⟩ : ∃ z, w.heap.size = z := ⟨_, rfl⟩
  refine wpIn_gen (fun V => V.heap.size = z + 1 ∧ Boxed V z tPL (.pointer (some ⟨q, 0, none⟩)) ∧ LogAt V q most (.slice a k c) last wh en ∧ Below z w V) ⟨by simp [hz], by rw [← hz]; exact Boxed.new w _ _, by exact HQ.out.after ((Below.refl _ _).alloc (Nat.le_refl _) _), by rw [← hz]; exact (Below.refl _ _).alloc (Nat.le_refl _) _⟩ ?_
  rintro W0 ⟨hsz, h1, h2, h3⟩
  have hqz : q < z := hz ▸ HQ.out.lt
  have HZ := Lib.hid h1
  have HL2 := Lib.hid h2
  have HB := Lib.hid h3
  have HSZ : Hid (W0.heap.size = z + 1) := hsz
  rw [hz]
  clear h1 h2 h3 hsz
  refine RoundReg.region_drawn0 (fun V => Boxed V z tPL (.pointer (some ⟨q, 0, none⟩)) ∧ LogAt V q most (.slice a k c) last wh en ∧ Below z w V) (by kernel_rfl) (by kernel_rfl) ⟨HZ.out, HL2.out, HB.out.drew⟩ (fun _ => ?_)
  refine HeldBy.gen (fun V => (Boxed V z tPL (.pointer (some ⟨q, 0, none⟩)) ∧ LogAt V q most (.slice a k c) last wh en ∧ Below z w V) ∧ (V.heap.size = z + 1)) ⟨⟨HZ.out, HL2.out, HB.out.drew⟩, HSZ.out⟩ ?_
  clear HZ HL2 HB HSZ
  rintro U0 ⟨HS, HSZ⟩
  refine HeldBy.take (i := 0) rfl (by kernel_rfl) (by kernel_rfl) (by kernel_rfl) (fun _ _ _ h => h) (by rfl) (fun V hV => by have hc := hV.1.cell; first | (go_simp; rfl) | (go_simp; done)) (by first | (go_simp; rfl) | (go_simp; done)) HS ?_
  refine HeldBy.take (i := 1) rfl (by kernel_rfl) (by kernel_rfl) (by kernel_rfl) (fun _ _ _ h => h) (by rfl) (fun _ _ => by first | (go_simp; rfl) | (go_simp; done)) (by first | (go_simp; rfl) | (go_simp; done)) HS ?_
  refine HeldBy.take (i := 2) rfl (by kernel_rfl) (by kernel_rfl) (by kernel_rfl) (fun _ _ _ h => h) (by rfl) (fun _ _ => by first | (go_simp; rfl) | (go_simp; done)) (by first | (go_simp; rfl) | (go_simp; done)) HS ?_
  refine HeldBy.take (i := 3) rfl (by kernel_rfl) (by kernel_rfl) (by kernel_rfl) (fun _ _ _ h => h) (by rfl) (fun V hV => by have hc := hV.2.1.c1; first | (go_simp; rfl) | (go_simp; done)) (by first | (go_simp; rfl) | (go_simp; done)) HS ?_
  refine HeldBy.take (i := 4) rfl (by kernel_rfl) (by kernel_rfl) (by kernel_rfl) (fun _ _ _ h => h) (by rfl) (fun V hV => by have hc := hV.1.cell; first | (go_simp; rfl) | (go_simp; done)) (by first | (go_simp; rfl) | (go_simp; done)) HS ?_
  refine HeldBy.take (i := 5) rfl (by kernel_rfl) (by kernel_rfl) (by kernel_rfl) (fun _ _ _ h => h) (by rfl) (fun _ _ => by first | (go_simp; rfl) | (go_simp; done)) (by first | (go_simp; rfl) | (go_simp; done)) HS ?_
  refine HeldBy.take (i := 6) rfl (by kernel_rfl) (by kernel_rfl) (by kernel_rfl) (fun _ _ _ h => h) (by rfl) (fun _ _ => by first | (go_simp; rfl) | (go_simp; done)) (by first | (go_simp; rfl) | (go_simp; done)) HS ?_
  refine HeldBy.take (i := 7) rfl (by kernel_rfl) (by kernel_rfl) (by kernel_rfl) (fun _ _ _ h => h) (by rfl) (fun V hV => by have hc := hV.2.1.c4; first | (go_simp; rfl) | (go_simp; done)) (by first | (go_simp; rfl) | (go_simp; done)) HS ?_
  refine HeldBy.take (i := 8) rfl (by kernel_rfl) (by kernel_rfl) (by kernel_rfl) (fun _ _ _ h => h) (by rfl) (fun _ _ => by first | (go_simp; rfl) | (go_simp; done)) (by first | (go_simp; rfl) | (go_simp; done)) HS ?_
  refine HeldBy.take (i := 9) rfl (by kernel_rfl) (by kernel_rfl) (by kernel_rfl) (fun _ _ _ h => h) (by rfl) (fun V hV => by have hc := hV.1.cell; first | (go_simp; rfl) | (go_simp; done)) (by first | (go_simp; rfl) | (go_simp; done)) HS ?_
  refine HeldBy.take (i := 10) rfl (by kernel_rfl) (by kernel_rfl) (by kernel_rfl) (fun _ _ _ h => h) (by rfl) (fun _ _ => by first | (go_simp; rfl) | (go_simp; done)) (by first | (go_simp; rfl) | (go_simp; done)) HS ?_
  refine HeldBy.take (i := 11) rfl (by kernel_rfl) (by kernel_rfl) (by kernel_rfl) (fun _ _ _ h => h) (by rfl) (fun _ _ => by first | (go_simp; rfl) | (go_simp; done)) (by first | (go_simp; rfl) | (go_simp; done)) HS ?_
  refine HeldBy.take (i := 12) rfl (by kernel_rfl) (by kernel_rfl) (by kernel_rfl) (fun _ _ _ h => h) (by rfl) (fun V hV => by have hc := hV.2.1.c3; first | (go_simp; rfl) | (go_simp; done)) (by first | (go_simp; rfl) | (go_simp; done)) HS ?_
  refine HeldBy.take (i := 13) (v := .int .i64 ((wh : Int) + 1)) rfl (by kernel_rfl) (by kernel_rfl) (by kernel_rfl) (fun _ _ _ h => h) (by rfl) (fun _ _ => by go_simp; exact wrap_id (by omega) (by omega)) (by first | (go_simp; rfl) | (go_simp; done)) HS ?_
  refine HeldBy.call (i := 14) (v := .func (.func 46) #[] #[.pointer (some ⟨z + 1, 0, none⟩), .pointer (some ⟨z + 1 + 1, 0, none⟩)]) (f := 35) (args := #[.slice a0 (k - en) c0, .int .i64 ((wh : Int) + 1)]) rfl (by kernel_rfl) (by rfl) (by first | (go_simp; done) | (go_simp; first | exact ⟨rfl, rfl⟩ | rfl)) (by first | (go_simp; rfl) | (go_simp; done)) ?_
  refine (whole_any a0 (k - en) c0 ((wh : Int) + 1) U0).mono ?_
  rintro e W1 ⟨rfl, hw1⟩
  have hzU : z ≤ U0.heap.size := by rw [HSZ]; omega
  have hw : Below U0.heap.size U0 W1 := hw1 ▸ ((Below.refl _ _).alloc (Nat.le_refl _) _).alloc (by simp) _
  refine ⟨by rw [HSZ], ⟨HS.1.after hw, HS.2.1.after hw, HS.2.2.trans (hw.mono hzU)⟩, ?_⟩
  have H2 : Hid (W1.heap.size = z + 1 + 1 + 1 ∧ Boxed W1 (z + 1) tBs (.slice a0 (k - en) c0) ∧ Boxed W1 (z + 1 + 1) 3 (.int .i64 ((wh + 1 : Nat) : Int))) := by
    rw [← hw1]
    refine ⟨by simp [HSZ], ?_, ?_⟩
    · have := (Boxed.new U0 tBs (.slice a0 (k - en) c0)).after ((Below.refl _ _).alloc (Nat.le_refl _) (.cells #[.int .i64 ((wh : Int) + 1)] 3))
      rwa [HSZ] at this
    · have := Boxed.new (U0.alloc (.cells #[.slice a0 (k - en) c0] tBs)) 3 (.int .i64 ((wh : Int) + 1))
      rw [World.size_alloc, HSZ] at this
      exact this
  have HC0 : Hid (Counted w B q z most last wh en (.slice a k c) k [] W1) := ⟨by simpa [blks] using HS.2.1.after hw, HS.1.after hw, (HS.2.2.trans (hw.mono hzU)).mono (by omega), fun g hg _ => (hw.block g (by rw [HSZ]; omega)).trans (HS.2.2.block g hg), Nat.zero_le _, Nat.le_refl _⟩
  have HBL : Hid (Below z w W1) := HS.2.2.trans (hw.mono hzU)
  clear HS HSZ hw hw1 hzU
  refine wpAnyH_done (by kernel_rfl) ?_ _
  refine RoundReg.only_normal (Q := Exit.then _ _) ?_
  gi_wp2
  have hz2 := HBL.out.size
  have hseq := whole_seq 4 (by omega) a0 (k - en) c0 (b.drop (en * 64)) (wh + 1) (z + 1) (z + 1 + 1) q (q + 1) (z + 1 + 1 + 1) 30 W1 ((HR.out.after (by rw [hz]; exact HBL.out))) H2.out.2.1 H2.out.2.2 (by omega) (by omega) (by rw [H2.out.1]; exact Nat.le_refl _)
    (fun g hg => by have := HNE.out g (by rw [← HO.out]; exact hg); omega)
  have ef := enters_of (P := Try.prog) Try.func46 (by kernel_rfl) rfl
  refine RangeSeen.range (F := Fence.wide) (n := 5) rfl (by omega) (gf := 46) (lb := #[.pointer (some ⟨z + 1, 0, none⟩), .pointer (some ⟨z + 1 + 1, 0, none⟩)]) rfl trivial ef (encs := encR) (lo := q) (hi := q + 1) (N0 := z + 1 + 1 + 1) (E := 30) (by rw [H2.out.1]; omega)
    hseq (fun _ => rfl)
    (fun pre V => Counted w B q z most last wh en (.slice a k c) k pre V)
    (fun _ _ _ => False)
    ?_ ?_ HC0.out
    (fun pre x a1 V => Counted w B q z most last wh en (.slice a k c) k pre V ∧ BytesU V x.1 x.2 ∧
      a1 = { tmps := #[.pointer (some ⟨q, 0, none⟩), .pointer (some ⟨z, 0, none⟩), x.1, .pointer (some ⟨q, 0, none⟩), .pointer (some ⟨q, 0, none⟩), .pointer (some ⟨q, 1, none⟩), .slice a k c, .pointer (some ⟨q, 0, none⟩), .pointer (some ⟨q, 0, none⟩), .pointer (some ⟨q, 4, none⟩), .int .i64 (en : Int), .slice a0 (k - en) c0,
        .pointer (some ⟨q, 0, none⟩), .pointer (some ⟨q, 0, none⟩), .pointer (some ⟨q, 3, none⟩), .int .i64 (wh : Int), .int .i64 ((wh : Int) + 1), .func (.func 46) #[] #[.pointer (some ⟨z + 1, 0, none⟩), .pointer (some ⟨z + 1 + 1, 0, none⟩)], x.1, undef, undef, undef, undef, undef, undef, undef, undef, undef, undef, undef, undef, undef, undef, undef, undef, undef], defers := [] })
    ?_ ?_ ?_ ?_ ?_
  · intro pre A B1 row hC hg hr
    exact hC.own hz (by have := H2.out.1; omega) (by omega) hg hr
  · intro _ _ _ _ _ h
    exact h.elim
  · intro x a1 pre A B1 row ⟨hC, h6, h7⟩ hg hr
    exact ⟨hC.own hz (by have := H2.out.1; omega) (by omega) hg hr, bytes_own hg hr h6, h7⟩
  · intro lp pre x V hI hx _ hsz
    have HI := Lib.hid hI
    have HX : Hid (BytesU V x.1 x.2) := hx
    clear hI hx
    obtain ⟨xv, xl⟩ := x
    simp only [encR]
    gi_wp2
    exact ⟨RangeRow.Stays.refl _ _ _ _ _, HI.out, HX.out⟩
  · rintro lp pre x a1 Y ⟨hC, h7, rfl⟩ hlen hsz
    obtain ⟨xv, xl⟩ := x
    replace h7 : BytesU Y xv xl := h7
    obtain ⟨xa, xk, xc, hxs⟩ := h7.bytes.shape
    subst hxs
    obtain rfl : xk = xl.length := by obtain ⟨_, _, _, _, h, -⟩ := h7; cases h; rfl
    have hxn : xl.length ≤ 9223372036854775807 := h7.bytes.small
    obtain ⟨n3, hn3⟩ : ∃ n, wh + pre.length = n := ⟨_, rfl⟩
    obtain ⟨n4, hn4⟩ : ∃ n, en + blks (pre.map (·.2)) = n := ⟨_, rfl⟩
    have hat := hC.at_
    rw [hn3, hn4] at hat
    have hs1 := hC.small.1
    have hs2 := hC.small.2
    have hb3 : n3 ≤ 3000000 := by omega
    have hb4 : n4 ≤ 30000000 := by omega
    have c0 := hC.box.cell
    have c3 := hat.c3
    have f3 := hat.free 3
    have HM0 : Hid (MidDrew w Y B q z (z + 1 + 1 + 1) Y) := ⟨hC.box, hC.below, hC.keep, RangeRow.Stays.refl _ _ _ _ _⟩
    have HN3 := Lib.hid hn3
    have HN4 := Lib.hid hn4
    have HS1 : Hid (pre.length < k - en) := hlen
    have HS2 := Lib.hid hs2
    have HAT := Lib.hid hat
    clear hC h7 hat hs1 hs2 hn3 hn4 hlen
    gi_wp2
    refine wpIn_gen (fun V3 => LogAt V3 q most (.slice a k c) last (n3 + 1) n4 ∧ MidDrew w Y B q z (z + 1 + 1 + 1) V3) ⟨HAT.out.s3' (by omega), HM0.out.set hqz hB 3 _⟩ ?_
    rintro V3 ⟨g1, g2⟩
    have HG := Lib.hid g1
    have HM := Lib.hid g2
    have HND : Hid (∀ W, Calls Try.prog 16 #[.int .i64 (xl.length : Int)] W fun e w' => e = .returned (.int .i64 (need xl.length : Nat)) ∧ w' = W) := fun W => by
      have := need_any (xl.length : Int) W (by omega)
      rwa [Int.toNat_natCast] at this
    have hn17 := need_le xl.length
    generalize hnd : need xl.length = nd at *
    have HD := Lib.hid hnd
    clear g1 g2 HM0 HAT c0 c3 f3 hnd
    refine RoundReg.region_drawn (fun V => MidDrew w Y B q z (z + 1 + 1 + 1) V) (by kernel_rfl) (by kernel_rfl) HM.out.drew (fun _ => ?_)
    refine HeldBy.gen (fun V => (MidDrew w Y B q z (z + 1 + 1 + 1) V) ∧ (LogAt V q most (.slice a k c) last (n3 + 1) n4)) ⟨HM.out.drew, HG.out⟩ ?_
    clear HM HG
    rintro U0 ⟨HS, HG⟩
    refine HeldBy.take (i := 0) rfl (by kernel_rfl) (by kernel_rfl) (by kernel_rfl) (fun _ _ _ h => h) (by rfl) (fun V hV => by have hc := hV.box.cell; first | (go_simp; rfl) | (go_simp; done)) (by first | (go_simp; rfl) | (go_simp; done)) HS ?_
    refine HeldBy.take (i := 1) rfl (by kernel_rfl) (by kernel_rfl) (by kernel_rfl) (fun _ _ _ h => h) (by rfl) (fun _ _ => by first | (go_simp; rfl) | (go_simp; done)) (by first | (go_simp; rfl) | (go_simp; done)) HS ?_
    refine HeldBy.take (i := 2) rfl (by kernel_rfl) (by kernel_rfl) (by kernel_rfl) (fun _ _ _ h => h) (by rfl) (fun _ _ => by first | (go_simp; rfl) | (go_simp; done)) (by first | (go_simp; rfl) | (go_simp; done)) HS ?_
    refine HeldBy.take (i := 4) rfl (by kernel_rfl) (by kernel_rfl) (by kernel_rfl) (fun _ _ _ h => h) (by rfl) (fun _ _ => by first | (go_simp; rfl) | (go_simp; done)) (by first | (go_simp; rfl) | (go_simp; done)) HS ?_
    refine HeldBy.take (i := 5) rfl (by kernel_rfl) (by kernel_rfl) (by kernel_rfl) (fun _ _ _ h => h) (by rfl) (fun _ _ => by first | (go_simp; rfl) | (go_simp; done)) (by first | (go_simp; rfl) | (go_simp; done)) HS ?_
    refine HeldBy.load_call (i := 3) (k := 6) (u := .int .i64 (n4 : Int)) (v := .int .i64 (nd : Int)) (f := 16) (args := #[.int .i64 (xl.length : Int)]) (by kernel_rfl) (by kernel_rfl) (by kernel_rfl) rfl rfl rfl rfl (by have hc := HG.c4; first | (go_simp; rfl) | (go_simp; done)) (by first | (go_simp; done) | (go_simp; first | exact ⟨rfl, rfl⟩ | rfl)) (by first | (go_simp; done) | (go_simp; first | exact ⟨rfl, rfl⟩ | rfl)) (by have hc := HG.c4; first | (go_simp; rfl) | (go_simp; done)) (HND.out U0) HS (by first | (go_simp; rfl) | (go_simp; done)) (by first | (go_simp; rfl) | (go_simp; done)) rfl rfl ?_
    refine HeldBy.take (i := 7) (v := .int .i64 ((n4 : Int) + (nd : Int))) rfl (by kernel_rfl) (by kernel_rfl) (by kernel_rfl) (fun _ _ _ h => h) (by rfl) (fun _ _ => by go_simp; exact wrap_id (by omega) (by omega)) (by first | (go_simp; rfl) | (go_simp; done)) HS ?_
    refine HeldBy.take (i := 8) rfl (by kernel_rfl) (by kernel_rfl) (by kernel_rfl) (fun _ _ _ h => h) (by rfl) (fun _ _ => by first | (go_simp; rfl) | (go_simp; done)) (by first | (go_simp; rfl) | (go_simp; done)) HS ?_
    refine HeldBy.take (i := 9) rfl (by kernel_rfl) (by kernel_rfl) (by kernel_rfl) (fun _ _ _ h => h) (by rfl) (fun _ _ => by first | (go_simp; rfl) | (go_simp; done)) (by first | (go_simp; rfl) | (go_simp; done)) HS ?_
    refine HeldBy.store (i := 10) (w' := U0.setCell ⟨q, 4, none⟩ (.int .i64 ((n4 : Int) + (nd : Int)))) rfl (by kernel_rfl) (by rfl) (by have hc := HG.c4; have hf := HG.free 4; first | (go_simp; done) | (go_simp; rfl)) (by first | (go_simp; rfl) | (go_simp; done)) (HS.set hqz hB 4 _) ?_
    have hst := (HS.set hqz hB 4 (.int .i64 ((n4 : Int) + (nd : Int))))
    have hcn : Counted w B q z most last wh en (.slice a k c) k (pre ++ [((.slice xa xl.length xc, xl) : Rec)]) (U0.setCell ⟨q, 4, none⟩ (.int .i64 ((n4 : Int) + (nd : Int)))) := by
      refine ⟨?_, hst.box, hst.below, hst.keep, ?_⟩
      · have e1 : n3 + 1 = wh + (pre ++ [((.slice xa xl.length xc, xl) : Rec)]).length := by rw [List.length_append, ← HN3.out]; rfl
        have e2 : n4 + nd = en + blks ((pre ++ [((.slice xa xl.length xc, xl) : Rec)]).map (·.2)) := by
          rw [List.map_append, blks_append, ← HN4.out, ← HD.out]
          simp only [List.map_cons, List.map_nil, blks]
          omega
        rw [← e1, ← e2]
        exact HG.s4' (by omega)
      · rw [List.map_append, blks_append, List.length_append]
        simp only [List.map_cons, List.map_nil, blks, List.length_cons, List.length_nil]
        have := HS1.out
        have := HS2.out
        rw [HD.out]
        omega
    refine wpAnyH_done (by kernel_rfl) ?_ _
    exact ⟨hst.stays, hcn⟩
  · rintro D xs V hD hS hC hK
    have HC := Lib.hid hC
    have HK := Lib.hid hK
    have HXS : Hid (L ++ xs.map (·.2) = recs b) := recs_of (HL.out.all (by rw [HEN.out, HWH.out, Nat.add_comm 1 wh]; exact hS))
    clear hC hK hS
    gi_wp2
    refine ⟨by simp, .inl ⟨_, _, rfl, run_takeDeferred HK.out, ?_⟩⟩
    have hDz : z < D := by have := H2.out.1; omega
    refine ⟨_, results_none rfl _ _ _, ⟨_, rfl⟩, ?_, HC.out.below.trans (belowK_b (w := W1) (n₀ := B) (by omega) _ D _ _ hD HK.out rfl rfl), fun g hg hne => (World.putObj_heap_other (by omega)).trans (HC.out.keep g (by omega) hne)⟩
    have e1 : (recs b).length = wh + xs.length := by rw [← HXS.out, List.length_append, List.length_map, HWH.out]
    have e2 : blks (recs b) = en + blks (xs.map (·.2)) := by rw [← HXS.out, blks_append, HEN.out]
    rw [e1, e2]
    exact HC.out.at_.of_heap (World.putObj_heap_other (by omega))
  · intro _ _ _ _ _ _ h _
    exact h.elim
end Go.Proofs.Ytfiahkomabllaaa.L
