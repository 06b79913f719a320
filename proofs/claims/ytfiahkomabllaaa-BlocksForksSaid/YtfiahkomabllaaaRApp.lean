/- The document's Append and Clean. -/
import Derived.Test.YtfiahkomabllaaaRLog
import Derived.Test.YtfiahkomabllaaaLFork
namespace Go.Proofs.Ytfiahkomabllaaa.L
open Go Go.RowKit
open Go.Lib

def FreeR (x : Int) (w : World) (e : Ending) (w' : World) : Prop := e = .returned (.int .i64 x) ∧ Below w.heap.size w w'
theorem IsRLog.store {B : Nat} {w W : World} {q : Nat} {most last k : Nat} {u v : Value} {b : Bytes} (hq : RLAt W q most u (last * 64)) (hv : Held W w.heap.size v b) (hb : Below w.heap.size w W) (hlt : q < w.heap.size) (hlow : B ≤ q) (hk : b.length = k * 64) (h1 : k ≤ most) (h2 : last ≤ k) (hm : most ≤ 4096) :
    IsRLog B (W.setCell ⟨q, 0, none⟩ v) q ⟨most, last, b⟩ ∧ RTurn B w (W.setCell ⟨q, 0, none⟩ v) q :=
  ⟨⟨⟨v, k, hq.s0 v, (hv.rset hq 0 v).rebase (fun g hg => by have := hv.low hg; omega), hk, h1, h2⟩, hm, hlow⟩, (RTurn.of_below hb (by omega)).trans (RTurn.set hlow 0 v)⟩
set_option maxRecDepth 100000 in
set_option maxHeartbeats 400000 in
theorem rappend_any (B q : Nat) (s : Lg) (rv : Value) (r : Bytes) (w : World) (h : IsRLog B w q s) (hr : BytesIn w rv r) :
    Calls Try.prog 41 #[.pointer (some ⟨q, 0, none⟩), rv] w (DeedR B q w (appS s r)) := by
  have hrn : r.length ≤ 9223372036854775807 := hr.small
  obtain ⟨ra, rk, rc, rfl⟩ := hr.shape
  obtain rfl : rk = r.length := by rcases hr with ⟨c, h, rfl⟩ | ⟨g, off, cap, h, -⟩ <;> cases h <;> rfl
  have HND : Hid (∀ W, Calls Try.prog 17 #[.int .i64 (r.length : Int)] W fun e w' => e = .returned (.int .i64 (need r.length : Nat)) ∧ w' = W) := fun W => by
    have := rneed_any (r.length : Int) W (by omega)
    rwa [Int.toNat_natCast] at this
  have HR := Lib.hid hr
  have HL := Lib.hid h
  have HFR : Hid (Calls Try.prog 33 #[.pointer (some ⟨q, 0, none⟩)] w (FreeR ((s.most : Int) - ((s.b.length / 64 : Nat) : Int)) w)) := rfree_any B q s w h
  have hlt := h.lt
  have hlow := h.low
  have hmost := h.most
  have hn17 := need_le r.length
  clear hr h
  by_cases h1 : r.length < 1
  · have HA : Hid (appS s r = (3, s)) := if_pos (need_zero.2 (.inl h1))
    have h1' : (r.length : Int) < 1 := by omega
    go_enter Try.func41, Try.ntmps41
    go_wp2
    go_ret
    rw [HA.out]
    exact ⟨rfl, HL.out, RTurn.of_below (Below.refl _ _) (by omega)⟩
  have h1' : ¬ (r.length : Int) < 1 := by omega
  by_cases h2 : 1024 < r.length
  · have HA : Hid (appS s r = (3, s)) := if_pos (need_zero.2 (.inr h2))
    have h2' : (1024 : Int) < (r.length : Int) := by omega
    go_enter Try.func41, Try.ntmps41
    go_wp2
    go_ret
    rw [HA.out]
    exact ⟨rfl, HL.out, RTurn.of_below (Below.refl _ _) (by omega)⟩
  have h2' : ¬ (1024 : Int) < (r.length : Int) := by omega
  have hn0 : need r.length ≠ 0 := fun e => by have := need_zero.1 e; omega
  by_cases h3 : s.most < s.b.length / 64 + need r.length
  · have HA : Hid (appS s r = (7, s)) := by show appS s r = _; unfold appS; rw [if_neg hn0, if_pos h3]
    have h3' : (s.most : Int) - ((s.b.length / 64 : Nat) : Int) < (need r.length : Nat) := by omega
    obtain ⟨x, hx⟩ : ∃ x, (s.most : Int) - ((s.b.length / 64 : Nat) : Int) = x := ⟨_, rfl⟩
    rw [hx] at HFR h3'
    obtain ⟨m, hm⟩ : ∃ m, need r.length = m := ⟨_, rfl⟩
    rw [hm] at HND h3'
    clear hx hm hn0 hn17 h3
    go_enter Try.func41, Try.ntmps41
    go_wp2_with (first | (go_at_call 17; refine (HND.out _).mono ?_; rintro e w' ⟨rfl, rfl⟩) | (go_at_call 33; refine HFR.out.mono ?_))
    rintro e w1 ⟨rfl, hb⟩
    go_wp2
    go_ret
    rw [HA.out]
    exact ⟨rfl, HL.out.after hb, RTurn.of_below hb (by omega)⟩
  have HA : Hid (appS s r = (0, { s with b := s.b ++ laid r ((recs s.b).length + 1) })) := by show appS s r = _; unfold appS; rw [if_neg hn0, if_neg h3]
  have h3' : ¬ (s.most : Int) - ((s.b.length / 64 : Nat) : Int) < (need r.length : Nat) := by omega
  obtain ⟨v, k, l1, l2, l3, l4, l5⟩ := HL.out.at_
  have hpos := (recs_all s.b).1.pos
  have hle := (recs_all s.b).1.le
  have hll := laid_length hn0 ((recs s.b).length + 1)
  have hkm : k + need r.length ≤ s.most := by omega
  obtain ⟨x, hx⟩ : ∃ x, (s.most : Int) - ((s.b.length / 64 : Nat) : Int) = x := ⟨_, rfl⟩
  rw [hx] at HFR h3'
  have HCN := Lib.hid (fun W (hW : IsRLog B W q s) => rcount_any B q s W hW)
  have HRC := Lib.hid (fun (n : Nat) W (hW : BytesIn W (.slice ra r.length rc) r) (hn : n ≤ 1000000) => record_any _ r n W hW hn0 (by omega))
  obtain ⟨n, hn⟩ : ∃ n, (recs s.b).length = n := ⟨_, rfl⟩
  rw [hn] at HCN hll hpos
  have hn5 : n ≤ 5000 := by omega
  obtain ⟨m, hm⟩ : ∃ m, need r.length = m := ⟨_, rfl⟩
  rw [hm] at HND h3' hll hkm
  have HQ := Lib.hid l1
  have HV := Lib.hid l2.bytes
  have HNE := Lib.hid hn
  have HLL := Lib.hid hll
  have HKM : Hid (s.b.length = k * 64 ∧ k + m ≤ s.most ∧ s.last ≤ k ∧ m ≤ 17) := ⟨l3, hkm, l5, by rw [← hm]; exact hn17⟩
  have HLE : Hid (([] : Bytes).length + s.b.length ≤ 140737488355328) := by show _ ≤ _; simp; omega
  clear hx hm hn h3 hn0 hpos hle hll hkm l1 l2 l3 l4 l5 hn17
  go_enter Try.func41, Try.ntmps41
  go_wp2_with (first | (go_at_call 17; refine (HND.out _).mono ?_; rintro e w' ⟨rfl, rfl⟩) | (go_at_call 33; refine HFR.out.mono ?_))
  rintro e w1 ⟨rfl, hb⟩
  have HB1 := Lib.hid hb
  have HV1 := Lib.hid (HV.out.after hb)
  have HR1 := Lib.hid (HR.out.after hb)
  have HQ1 := Lib.hid (HQ.out.after hb)
  have HL1 := Lib.hid (HL.out.after hb)
  have c0 := HQ1.out.c0
  clear hb HFR
  go_wp2_with (at_builtin; refine wpList_append_bytes rfl _ _ rfl w1.heap.size _ [] rfl (Held.nil _ _) _ s.b rfl HV1.out HLE.out (Nat.le_refl _) ?_)
  intro v2 W2 hh2 hg2
  have hb2 : Below w1.heap.size w1 W2 := hg2.below (Held.nil w1 w1.heap.size) (Nat.le_refl _)
  have HH2 : Hid (Held W2 w1.heap.size v2 s.b) := hh2
  have HB2 := Lib.hid hb2
  have HCN2 := Lib.hid (HCN.out W2 (HL1.out.after hb2))
  clear hh2 hg2 hb2 c0
  go_wp2_with (go_at_call 50; refine HCN2.out.mono ?_)
  rintro e W3 ⟨rfl, hb3⟩
  have HB3 : Hid (Below w1.heap.size w1 W3) := HB2.out.trans (hb3.mono HB2.out.size)
  have HH3 := Lib.hid (HH2.out.after hb3)
  have HRC3 : Hid (Calls Try.prog 49 #[.slice ra r.length rc, .int .i64 ((n : Int) + 1)] W3 (BytesR (laid r (n + 1)) W3)) := HRC.out (n + 1) W3 (HR1.out.after HB3.out) (by omega)
  have ht : Int.tmod ((n : Int) + 1) 65536 = (n : Int) + 1 := Int.tmod_eq_of_lt (by omega) (by omega)
  clear hb3 HCN2 HCN HH2 HB2
  go_wp2_with (go_at_call 49; refine HRC3.out.mono ?_)
  rintro e W4 ⟨x4, rfl, hh4, hb4⟩
  have HX4 := Lib.hid hh4.bytes
  have HH4 := Lib.hid (HH3.out.after hb4)
  have HB4 : Hid (Below w1.heap.size w1 W4) := HB3.out.trans (hb4.mono HB3.out.size)
  have HLE4 : Hid (s.b.length + (laid r (n + 1)).length ≤ 140737488355328) := by show _ ≤ _; have := HLL.out; have := HKM.out; omega
  clear hh4 hb4 HRC3 HRC HH3 HB3 ht
  go_wp2_with (at_builtin; refine wpList_append_bytes rfl _ _ rfl w1.heap.size _ _ rfl HH4.out _ _ rfl HX4.out HLE4.out HB4.out.size ?_)
  intro v5 W5 hh5 hg5
  obtain ⟨a5, k5, c5, rfl⟩ := hh5.bytes.shape
  have HH5 : Hid (Held W5 w1.heap.size (.slice a5 k5 c5) (s.b ++ laid r (n + 1))) := hh5
  have HB5 : Hid (Below w1.heap.size w1 W5) := HB4.out.trans (hg5.below HH4.out HB4.out.size)
  have HQ5 := Lib.hid (HQ1.out.after HB5.out)
  have f0 := HQ5.out.free 0
  have c0 := HQ5.out.c0
  clear hh5 hg5 HX4 HH4 HB4 HLE4
  go_wp2
  go_ret
  have hq1 : q < w1.heap.size := HQ1.out.lt
  have hkm := HKM.out
  have hfin := IsRLog.store (B := B) (k := k + m) HQ5.out HH5.out HB5.out hq1 hlow (by rw [List.length_append, hkm.1, HLL.out, Nat.add_mul]) hkm.2.1 (by omega) hmost
  rw [HA.out, HNE.out]
  exact ⟨rfl, hfin.1, (RTurn.of_below HB1.out (by omega)).trans hfin.2⟩
def WholeB (w : World) (n : Nat) (e : Ending) (w' : World) : Prop := ∃ rv, e = .returned (.tuple #[rv, .int .i64 ((n : Int) * 64)]) ∧ Below w.heap.size w w'
set_option maxRecDepth 100000 in
set_option maxHeartbeats 400000 in
theorem rclean_any (B q : Nat) (s : Lg) (w : World) (h : IsRLog B w q s) : Calls Try.prog 44 #[.pointer (some ⟨q, 0, none⟩)] w (DeedR B q w (0, cleanS s)) := by
  obtain ⟨v, k, h1, h2, h3, h4, h5⟩ := h.at_
  have hm := h.most
  have hlow := h.low
  have hlt := h.lt
  have hle := (recs_all s.b).1.le
  have hwh := rwhole_any q s.most (s.last * 64) k v s.b w h1 h2.bytes h3 (by omega)
  obtain ⟨L, hL⟩ : ∃ L, recs s.b = L := ⟨_, rfl⟩
  obtain ⟨n, hn⟩ : ∃ n, blks L = n := ⟨_, rfl⟩
  obtain ⟨v1, hs1, hv1, -⟩ := h2.bytes.head (n := n * 64) (by rw [← hn, ← hL]; exact hle) .i64
  obtain ⟨a1, k1, c1, rfl⟩ := hv1.shape
  have hs2 : ∀ w, (Instr.slice 30 v none (some (.int .i64 ((n : Int) * 64))) none).run Try.prog w = .ok (.slice a1 k1 c1) w := fun w => by
    have := hs1 w
    rwa [show ((n * 64 : Nat) : Int) = (n : Int) * 64 from by omega] at this
  obtain ⟨av, kv, cv, rfl⟩ := h2.bytes.shape
  have hln : (s.b.take (n * 64)).length = n * 64 := by rw [List.length_take, ← hn, ← hL]; omega
  have hnk : n ≤ k := by rw [← hn, ← hL]; omega
  have HWH : Hid (Calls Try.prog 45 #[.pointer (some ⟨q, 0, none⟩)] w (WholeB w n)) := hwh.mono fun e w' ⟨rv, g1, _, g3⟩ => ⟨rv, by rw [g1, hL, hn]; rfl, g3⟩
  have HQ := Lib.hid h1
  have HV1 := Lib.hid hv1
  have HCS : Hid (cleanS s = ⟨s.most, n, s.b.take (n * 64)⟩) := by show cleanS s = _; unfold cleanS; rw [hL, hn]
  have HLE : Hid (([] : Bytes).length + (s.b.take (n * 64)).length ≤ 140737488355328) := by show _ ≤ _; rw [hln]; simp; omega
  have HLN := Lib.hid hln
  have HK : Hid (n ≤ k ∧ k ≤ s.most) := ⟨hnk, h4⟩
  clear h h1 h2 h3 h5 hs1 hv1 hle hL hn hln hnk hwh
  go_enter Try.func44, Try.ntmps44
  go_wp2_with (go_at_call 45; refine HWH.out.mono ?_)
  rintro e W2 ⟨rv, rfl, hb2⟩
  have HB2 := Lib.hid hb2
  clear hb2
  go_wp2_with (refine wpList_lit rfl 0 _ rfl #[] [] ?_ rfl rfl (by omega) ?_; (focus exact lit0 _))
  intro W3 v3 hh3 hb3
  have HB3 : Hid (Below w.heap.size w W3) := HB2.out.trans (hb3.mono HB2.out.size)
  have HH3 : Hid (Held W3 w.heap.size v3 []) := hh3.rebase (fun g hg => by have := hh3.low hg; have := HB2.out.size; omega)
  have HV3 := Lib.hid (HV1.out.after HB3.out)
  have c0 := (HQ.out.after HB3.out).c0
  clear hh3 hb3 HB2
  go_wp2_with (at_builtin; refine wpList_append_bytes rfl _ _ rfl w.heap.size _ [] rfl HH3.out _ _ rfl HV3.out HLE.out HB3.out.size ?_)
  intro v5 W5 hh5 hg5
  obtain ⟨a5, k5, c5, rfl⟩ := hh5.bytes.shape
  have HH5 : Hid (Held W5 w.heap.size (.slice a5 k5 c5) (s.b.take (n * 64))) := hh5
  have HB5 : Hid (Below w.heap.size w W5) := HB3.out.trans (hg5.below HH3.out HB3.out.size)
  have HQ5 := Lib.hid (HQ.out.after HB5.out)
  have f0 := HQ5.out.free 0
  have e0 := HQ5.out.c0
  have HQ6 := Lib.hid (HQ5.out.s0 (.slice a5 k5 c5))
  clear hh5 hg5 HH3 HV3 c0
  have f1 := HQ6.out.free 1
  have e1 := HQ6.out.c1
  go_wp2
  go_ret
  have hh6 := HH5.out.rset HQ5.out 0 (.slice a5 k5 c5)
  have hq7 := HQ6.out.s1 (n * 64)
  have hh7 := hh6.rset HQ6.out 1 (.int .i64 ((n * 64 : Nat) : Int))
  have ht7 : RTurn B w ((W5.setCell ⟨q, 0, none⟩ (.slice a5 k5 c5)).setCell ⟨q, 1, none⟩ (.int .i64 ((n * 64 : Nat) : Int))) q := ((RTurn.of_below HB5.out (by omega)).trans (RTurn.set hlow 0 _)).trans (RTurn.set hlow 1 _)
  rw [show ((n * 64 : Nat) : Int) = (n : Int) * 64 from by omega] at hq7 hh7 ht7
  rw [HCS.out]
  exact ⟨rfl, ⟨⟨_, n, hq7, hh7.rebase (fun g hg => by have := hh7.low hg; omega), HLN.out, Nat.le_trans HK.out.1 HK.out.2, Nat.le_refl _⟩, hm, hlow⟩, ht7⟩
end Go.Proofs.Ytfiahkomabllaaa.L
