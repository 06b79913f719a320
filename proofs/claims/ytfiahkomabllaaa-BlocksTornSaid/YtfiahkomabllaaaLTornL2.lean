/- The law BlocksTorn, where more than eight records come in. -/
import Derived.Test.YtfiahkomabllaaaLTornB
namespace Go.Proofs.Ytfiahkomabllaaa.L
open Go Go.RowKit
open Go.Lib

set_option maxRecDepth 100000 in
set_option maxHeartbeats 2000000 in
theorem tornl2_any (a : Option Addr) (n c : Nat) (rv : Value) (r : Bytes) (kd kp tn : Int) (sv : Value) (w : World) (hn8 : 8 < n) (hA : ArgRows w a n) (hr : BytesIn w rv r) :
    Calls Try.prog 8 #[.slice a n c, rv, .agg #[.int .i64 kd, .int .i64 kp, .int .i64 tn, sv]] w fun e w' => e = .returned (.bool true) ∧ Below w.heap.size w w' := by
  have hrn : r.length ≤ 9223372036854775807 := hr.small
  have hn : n ≤ 9223372036854775807 := hA.1
  obtain ⟨ra, rk, rc, rfl⟩ := hr.shape
  obtain rfl : rk = r.length := by rcases hr with ⟨c, h, rfl⟩ | ⟨g, off, cap, h, -⟩ <;> cases h <;> rfl
  obtain ⟨q0, hq0⟩ : ∃ q, w.heap.size = q := ⟨_, rfl⟩
  obtain ⟨W0, hW0⟩ : ∃ U, U = w.alloc (.cells #[.int .i64 kd, .int .i64 kp, .int .i64 tn, sv] tD (0, 0)) := ⟨_, rfl⟩
  have hb0 : Below w.heap.size w W0 := by rw [hW0]; exact (Below.refl _ _).alloc (Nat.le_refl _) _
  have hbox : W0.heap[q0]? = some (.cells #[.int .i64 kd, .int .i64 kp, .int .i64 tn, sv] tD (0, 0)) := by rw [hW0, ← hq0]; exact heap_alloc_new w _
  have hlt0 : q0 < W0.heap.size := (Array.getElem?_eq_some_iff.1 hbox).1
  have HD1 : Hid (∀ V, Below W0.heap.size W0 V → V.cell? ⟨q0, 1, none⟩ = some (.int .i64 kp)) := fun V hV => (hV.cell (p := ⟨q0, 1, none⟩) hlt0).trans ((cell_of_row W0 q0 1 _ _ _ hbox).trans rfl)
  have HD2 : Hid (∀ V, Below W0.heap.size W0 V → V.cell? ⟨q0, 2, none⟩ = some (.int .i64 tn)) := fun V hV => (hV.cell (p := ⟨q0, 2, none⟩) hlt0).trans ((cell_of_row W0 q0 2 _ _ _ hbox).trans rfl)
  have HA := Lib.hid (hA.after hb0)
  have HR := Lib.hid (hr.after hb0)
  have HB0 := Lib.hid hb0
  have HNW : Hid (Calls Try.prog 27 #[.int .i64 200] (w.alloc (.cells #[.int .i64 kd, .int .i64 kp, .int .i64 tn, sv] tD (0, 0))) fun e w' => e = .returned (.pointer (some ⟨W0.heap.size, 0, none⟩)) ∧ IsLog W0.heap.size w' W0.heap.size none ⟨200, 0, []⟩ ∧ Below W0.heap.size W0 w') := by
    rw [← hW0]
    exact new_any 200 W0 (by omega) (by omega)
  have HND : Hid (∀ W, r.length ≤ 1000 → Calls Try.prog 16 #[.int .i64 (r.length : Int)] W fun e w' => e = .returned (.int .i64 (need r.length : Nat)) ∧ Below W.heap.size W w') := fun W h => need_b r.length W (by omega)
  clear hA hr hb0 hbox hW0
  go_enter Try.func8, Try.ntmps8
  go_wp2_with (go_at_call 27; refine HNW.out.mono ?_)
  rintro e W1 ⟨rfl, hl1, hb1⟩
  have HT1 : Hid (TornI W0 W1 0) := ⟨_, none, hl1, rfl, Nat.le_refl _, rfl, hb1⟩
  clear hl1 hb1 HNW
  go_wp2
  go_loopw [8] (fun iv wr => ∃ i : Nat, i ≤ n ∧ i ≤ 8 ∧ iv = .int .i64 (i : Int) ∧ TornI W0 wr i) (fun iv _ => 8 - (RowKit.intOf iv).toNat)
  case atStart => exact ⟨0, by omega, by omega, rfl, HT1.out⟩
  case round =>
    obtain ⟨i, hin, hi8, rfl, hT⟩ := hrel
    have HT := Lib.hid hT
    clear hT HT1
    by_cases hp : i < n ∧ i < 8
    · obtain ⟨hp1, hp2⟩ := hp
      have hp1' : (i : Int) < (n : Int) := by omega
      have hp2' : (i : Int) < 8 := by omega
      obtain ⟨s, og, hl, hm, hlen, hblk, hbl⟩ := HT.out
      have HBL := Lib.hid hbl
      obtain ⟨g, off, x, l, rfl, hel⟩ := (HA.out.after hbl).2 i hp1
      obtain ⟨hg, hcell, ⟨p, c2, rfl⟩, hby⟩ := hel
      have HBY := Lib.hid hby
      have HM : Hid (s.most = 200) := hm
      have HLE := Lib.hid hlen
      have HBK := Lib.hid hblk
      have HL := Lib.hid hl
      clear hbl hby hm hlen hblk hl hg
      by_cases h1 : 0 < l.length
      · have h1' : (0 : Int) < (l.length : Int) := by omega
        by_cases h2 : l.length ≤ 200
        · have h2' : (l.length : Int) ≤ 200 := by omega
          have happ := app_more HM.out HLE.out hi8 HBK.out h1 h2
          have HAP := append_any W0.heap.size W0.heap.size og s (.slice p l.length c2) l wr HL.out (HBY.out (fun e => by rw [e] at h1; simp at h1))
          rw [happ.1] at HAP
          have HAP2 := Lib.hid HAP
          have HPP := Lib.hid happ.2
          clear HAP happ
          go_wp2_with (go_at_call 21; refine HAP2.out.mono ?_; rintro e w' ⟨rfl, og', hl', ht'⟩)
          exact ⟨⟨i + 1, by omega, by omega, by go_num, _, og', hl', HM.out, HPP.out.1, HPP.out.2, HBL.out.trans ht'.below⟩, by simp [RowKit.intOf]; omega⟩
        · have h2' : ¬ (l.length : Int) ≤ 200 := by omega
          go_wp2
          exact ⟨⟨i + 1, by omega, by omega, by go_num, s, og, HL.out, HM.out, Nat.le_trans HLE.out (by omega), HBK.out, HBL.out⟩, by simp [RowKit.intOf]; omega⟩
      · have h1' : ¬ (0 : Int) < (l.length : Int) := by omega
        go_wp2
        exact ⟨⟨i + 1, by omega, by omega, by go_num, s, og, HL.out, HM.out, Nat.le_trans HLE.out (by omega), HBK.out, HBL.out⟩, by simp [RowKit.intOf]; omega⟩
    · have hx : (i : Int) < (n : Int) := by omega
      have hx2 : ¬ (i : Int) < 8 := by omega
      clear hp
      obtain ⟨s, og, hl, hm, hlen, hblk, hbl⟩ := HT.out
      have HBL := Lib.hid hbl
      have HSY := Lib.hid (syncD_any _ _ og s wr hl)
      have hlen2 : s.b.length ≤ 2048 := by omega
      have hmm := recs_all s.b
      have hpos := hmm.1.pos
      obtain ⟨k, hk⟩ : ∃ k, s.b.length = k * 64 := ⟨_, hblk.symm⟩
      have hk64 : s.b.length / 64 = k := by omega
      rw [hk64] at HSY
      obtain ⟨b, hb⟩ : ∃ b, s.b = b := ⟨_, rfl⟩
      rw [hb] at HSY hlen2 hpos hk hblk
      rw [hm] at HSY
      obtain ⟨A, hA⟩ : ∃ A, recs b = A := ⟨_, rfl⟩
      rw [hA] at hpos hblk
      obtain ⟨m, hm2⟩ : ∃ m, A.length = m := ⟨_, rfl⟩
      have hm32 : m ≤ 32 := by omega
      have HK := Lib.hid hk
      have HBK := Lib.hid hblk
      have HRA := Lib.hid hA
      have HMA := Lib.hid hm2
      have HLE := Lib.hid hlen2
      clear hl hm hlen hlen2 hblk hbl hmm hpos hk hk64 hb hA hm2 HT HA
      go_wp2_with (go_at_call 18; refine HSY.out.mono ?_)
      rintro e W2 ⟨rfl, hl2, ht2⟩
      have HB2 : Hid (Below W0.heap.size W0 W2) := HBL.out.trans ht2.below
      have HRC := Lib.hid (recsD_any _ _ og _ W2 hl2)
      have HL2 := Lib.hid hl2
      clear hl2 ht2 HSY HBL
      go_wp2_with (go_at_call 19; refine HRC.out.mono ?_)
      rintro e W3 ⟨v3, rfl, hr3, hb3⟩
      rw [show (recs (⟨200, k, b⟩ : Lg).b) = A from HRA.out] at hr3
      obtain ⟨a1, c1, rfl⟩ := hr3.shape
      have HL3 := Lib.hid (HL2.out.after hb3)
      have HB3 : Hid (Below W0.heap.size W0 W3) := HB2.out.trans (hb3.mono HB2.out.size)
      have HRI : Hid (RecsIn W3 W2.heap.size (.slice a1 m c1) A) := by rw [← HMA.out]; exact hr3
      have HR3 := Lib.hid (HR.out.after HB3.out)
      rw [HMA.out]
      clear hr3 hb3 HRC HL2 HB2
      by_cases g1 : r.length < 1
      · have c1' : (r.length : Int) < 1 := by omega
        go_wp2_with (go_at_call 12; refine (live_any _).mono ?_; rintro e W9 ⟨rfl, hb9⟩)
        go_ret
        exact ⟨rfl, HB0.out.trans ((HB3.out.trans (hb9.mono HB3.out.size)).mono HB0.out.size)⟩
      by_cases g2 : 120 < r.length
      · have c1' : ¬ (r.length : Int) < 1 := by omega
        have c2' : (120 : Int) < (r.length : Int) := by omega
        go_wp2_with (go_at_call 12; refine (live_any _).mono ?_; rintro e W9 ⟨rfl, hb9⟩)
        go_ret
        exact ⟨rfl, HB0.out.trans ((HB3.out.trans (hb9.mono HB3.out.size)).mono HB0.out.size)⟩
      have c1' : ¬ (r.length : Int) < 1 := by omega
      have c2' : ¬ (120 : Int) < (r.length : Int) := by omega
      have hn0 : need r.length ≠ 0 := by rw [need_pos (by omega) (by omega)]; omega
      have hn3 : need r.length ≤ 3 := by rw [need_pos (by omega) (by omega)]; omega
      have HAP := append_any W0.heap.size W0.heap.size og ⟨200, k, b⟩ (.slice ra r.length rc) r W3 HL3.out HR3.out
      rw [show appS ⟨200, k, b⟩ r = (0, ⟨200, k, b ++ laid r ((recs b).length + 1)⟩) by
        have h1 := HLE.out
        unfold appS
        rw [if_neg hn0, if_neg (by show ¬ 200 < b.length / 64 + need r.length; omega)]] at HAP
      have HAP2 := Lib.hid HAP
      have HTS := Lib.hid (fun h0 h1 h2 => torn_state ⟨200, k, b⟩ k HK.out (by show blks (recs b) * 64 = b.length; rw [HRA.out]; exact HBK.out) rfl r (by omega) (by omega) kp tn h0 h1 h2)
      clear HAP
      go_wp2_with (go_at_call 21; refine HAP2.out.mono ?_)
      rintro e W4 ⟨rfl, og4, hl4, ht4⟩
      obtain ⟨s4, hs4⟩ : ∃ z : Lg, (⟨200, k, b ++ laid r ((recs b).length + 1)⟩ : Lg) = z := ⟨_, rfl⟩
      have HL4 : Hid (IsLog W0.heap.size W4 W0.heap.size og4 s4) := by rw [← hs4]; exact hl4
      have HB4 : Hid (Below W0.heap.size W0 W4) := HB3.out.trans ht4.below
      have HRI4 := Lib.hid (HRI.out.turn HL3.out ht4)
      have HTS4 : Hid (0 ≤ kp → 0 ≤ tn → tn ≤ 64 → (recs (leftB s4 kp tn) = recs b ∧ kp < (need r.length : Nat)) ∨ recs (leftB s4 kp tn) = recs b ++ [r]) := by rw [← hs4]; exact HTS.out
      have d1 := HD1.out W4 HB4.out
      have d2 := HD2.out W4 HB4.out
      clear hl4 ht4 hs4 HTS HAP2 HRI HL3 HB3 HR3
      by_cases hbad : kp < 0 ∨ tn < 0 ∨ 64 < tn
      · have HCR := crash_no W0.heap.size W0.heap.size og4 s4 kp tn W4 HL4.out hbad
        rw [show crashS s4 kp tn = (3, s4) from if_pos hbad] at HCR
        have HCR2 := Lib.hid HCR
        clear HCR
        go_wp2_with (go_at_call 22; refine HCR2.out.mono ?_)
        rintro e W5 ⟨rfl, og5, hl5, ht5⟩
        have HB5 : Hid (Below W0.heap.size W0 W5) := HB4.out.trans ht5.below
        clear hl5 ht5 HCR2
        by_cases h1 : kp < 0
        · go_wp2_with (go_at_call 12; refine (live_any _).mono ?_; rintro e W6 ⟨rfl, hb6⟩; have f1 := HD1.out W6 (HB5.out.trans (hb6.mono HB5.out.size)); have f2 := HD2.out W6 (HB5.out.trans (hb6.mono HB5.out.size)))
          go_ret
          exact ⟨rfl, HB0.out.trans ((HB5.out.trans (hb6.mono HB5.out.size)).mono HB0.out.size)⟩
        by_cases h2 : tn < 0
        · go_wp2_with (go_at_call 12; refine (live_any _).mono ?_; rintro e W6 ⟨rfl, hb6⟩; have f1 := HD1.out W6 (HB5.out.trans (hb6.mono HB5.out.size)); have f2 := HD2.out W6 (HB5.out.trans (hb6.mono HB5.out.size)))
          go_ret
          exact ⟨rfl, HB0.out.trans ((HB5.out.trans (hb6.mono HB5.out.size)).mono HB0.out.size)⟩
        have h3 : 64 < tn := by omega
        clear hbad
        go_wp2_with (go_at_call 12; refine (live_any _).mono ?_; rintro e W6 ⟨rfl, hb6⟩; have f1 := HD1.out W6 (HB5.out.trans (hb6.mono HB5.out.size)); have f2 := HD2.out W6 (HB5.out.trans (hb6.mono HB5.out.size)))
        go_ret
        exact ⟨rfl, HB0.out.trans ((HB5.out.trans (hb6.mono HB5.out.size)).mono HB0.out.size)⟩
      have hk0 : 0 ≤ kp := by omega
      have ht0 : 0 ≤ tn := by omega
      have ht64 : tn ≤ 64 := by omega
      have HCR := crash_ok W0.heap.size W0.heap.size og4 s4 kp tn W4 HL4.out hk0 ht0 ht64
      rw [show crashS s4 kp tn = (0, ⟨s4.most, (leftB s4 kp tn).length / 64, leftB s4 kp tn⟩) from if_neg hbad] at HCR
      have HCR2 := Lib.hid HCR
      obtain ⟨A2, hA2⟩ : ∃ A2, recs (leftB s4 kp tn) = A2 := ⟨_, rfl⟩
      have hts := HTS4.out hk0 ht0 ht64
      rw [hA2] at hts
      rw [HRA.out] at hts
      have HTS5 := Lib.hid hts
      have HA2 := Lib.hid hA2
      clear HCR hts hA2 hbad HTS4
      go_wp2_with (go_at_call 22; refine HCR2.out.mono ?_)
      rintro e W5 ⟨rfl, og5, hl5, ht5⟩
      have HB5 : Hid (Below W0.heap.size W0 W5) := HB4.out.trans ht5.below
      have HRI5 := Lib.hid (HRI4.out.turn HL4.out ht5)
      have HRC := recsD_any _ _ og5 _ W5 hl5
      rw [show recs ((0, (⟨s4.most, (leftB s4 kp tn).length / 64, leftB s4 kp tn⟩ : Lg)) : Int × Lg).2.b = A2 from HA2.out] at HRC
      have HRC2 := Lib.hid HRC
      clear hl5 ht5 HCR2 HRC d1 d2 HB4 HL4 HRI4
      go_wp2_with (go_at_call 19; refine HRC2.out.mono ?_)
      rintro e W6 ⟨v6, rfl, hr6, hb6⟩
      obtain ⟨a2, c2, rfl⟩ := hr6.shape
      have HB6 : Hid (Below W0.heap.size W0 W6) := HB5.out.trans (hb6.mono HB5.out.size)
      have HR1 : Hid (RowsAt W6 a1 c1 A) := (HRI5.out.after hb6).rows.1
      have HR2 : Hid (RowsAt W6 a2 c2 A2) := hr6.rows.1
      clear hr6 hb6 HRC2 HB5 HRI5
      rcases HTS5.out with ⟨hA3, hk3⟩ | hA3
      · have HM2 : Hid (A2.length = m) := by rw [hA3]; exact HMA.out
        have HPX : Hid (A = A2.take A.length) := by show A = A2.take A.length; rw [hA3]; simp
        clear hA3
        rw [HM2.out]
        go_wp2
        refine wp_region_held_drew (S := fun V => Below W0.heap.size W0 V ∧ RowsAt V a1 c1 A ∧ RowsAt V a2 c2 A2) (by kernel_rfl) ⟨HB6.out.drew, HR1.out, HR2.out⟩ (fun _ => ?_)
        refine HeldBy.gen (fun V => Below W0.heap.size W0 V ∧ RowsAt V a1 c1 A ∧ RowsAt V a2 c2 A2) ⟨HB6.out.drew, HR1.out, HR2.out⟩ ?_
        clear HB6 HR1 HR2
        rintro U0 HS
        refine HeldBy.take (i := 0) rfl (by kernel_rfl) (by kernel_rfl) (by kernel_rfl) (fun _ _ _ h => h) (by rfl) (fun _ _ => by first | (go_simp; rfl) | (go_simp; done)) (by go_simp; rfl) HS ?_
        refine HeldBy.take (i := 1) (v := .int .i64 kp) rfl (by kernel_rfl) (by kernel_rfl) (by kernel_rfl) (fun _ _ _ h => h) (by rfl) (fun V hV => by have hc := HD1.out V hV.1; first | (go_simp; rfl) | (go_simp; done)) (by go_simp; rfl) HS ?_
        refine HeldBy.take (i := 2) rfl (by kernel_rfl) (by kernel_rfl) (by kernel_rfl) (fun _ _ _ h => h) (by rfl) (fun _ _ => by first | (go_simp; rfl) | (go_simp; done)) (by go_simp; rfl) HS ?_
        refine HeldBy.take (i := 3) rfl (by kernel_rfl) (by kernel_rfl) (by kernel_rfl) (fun _ _ _ h => h) (by rfl) (fun _ _ => by first | (go_simp; rfl) | (go_simp; done)) (by go_simp; rfl) HS ?_
        refine HeldBy.call (i := 4) (v := .int .i64 (need r.length : Nat)) rfl (by kernel_rfl) (by rfl) (by first | (go_simp; done) | (go_simp; first | exact ⟨rfl, rfl⟩ | rfl)) (by first | (go_simp; rfl) | (go_simp; done)) ?_
        refine (HND.out _ (by omega)).mono ?_
        rintro e U1 ⟨rfl, hb⟩
        replace HS : Below W0.heap.size W0 U1 ∧ RowsAt U1 a1 c1 A ∧ RowsAt U1 a2 c2 A2 := ⟨HS.1.trans (hb.mono HS.1.size), HS.2.1.after hb, HS.2.2.after hb⟩
        refine ⟨rfl, HS, ?_⟩
        clear hb
        refine HeldBy.take (i := 5) (v := .bool false) rfl (by kernel_rfl) (by kernel_rfl) (by kernel_rfl) (fun _ _ _ h => h) (by rfl) (fun _ _ => by first | (go_simp; done) | (go_simp; rfl) | (go_simp; omega)) (by go_simp; rfl) HS ?_
        refine HeldBy.take (i := 6) rfl (by kernel_rfl) (by kernel_rfl) (by kernel_rfl) (fun _ _ _ h => h) (by rfl) (fun _ _ => by first | (go_simp; rfl) | (go_simp; done)) (by go_simp; rfl) HS ?_
        refine HeldBy.skip (i := 7) rfl (by kernel_rfl) (by kernel_rfl) (by kernel_rfl) (fun _ _ _ h => h) (by rfl) (by go_simp; rfl) HS ?_
        refine HeldBy.skip (i := 8) rfl (by kernel_rfl) (by kernel_rfl) (by kernel_rfl) (fun _ _ _ h => h) (by rfl) (by go_simp; rfl) HS ?_
        refine HeldBy.skip (i := 9) rfl (by kernel_rfl) (by kernel_rfl) (by kernel_rfl) (fun _ _ _ h => h) (by rfl) (by go_simp; rfl) HS ?_
        refine HeldBy.skip (i := 10) rfl (by kernel_rfl) (by kernel_rfl) (by kernel_rfl) (fun _ _ _ h => h) (by rfl) (by go_simp; rfl) HS ?_
        refine HeldBy.skip (i := 11) rfl (by kernel_rfl) (by kernel_rfl) (by kernel_rfl) (fun _ _ _ h => h) (by rfl) (by go_simp; rfl) HS ?_
        refine HeldBy.skip (i := 12) rfl (by kernel_rfl) (by kernel_rfl) (by kernel_rfl) (fun _ _ _ h => h) (by rfl) (by go_simp; rfl) HS ?_
        refine HeldBy.take (i := 13) rfl (by kernel_rfl) (by kernel_rfl) (by kernel_rfl) (fun _ _ _ h => h) (by rfl) (fun _ _ => by first | (go_simp; rfl) | (go_simp; done)) (by go_simp; rfl) HS ?_
        refine wpAnyH_done (by kernel_rfl) ?_ _
        have HB7 : Hid (Below W0.heap.size W0 U1) := HS.1
        have HR3 : Hid (RowsAt U1 a1 c1 A) := HS.2.1
        have HR4 : Hid (RowsAt U1 a2 c2 A2) := HS.2.2
        clear HS
        go_wp2
        refine wp_region_held_drew (S := fun V => Below W0.heap.size W0 V ∧ RowsAt V a1 c1 A ∧ RowsAt V a2 c2 A2) (by kernel_rfl) ⟨HB7.out.drew, HR3.out, HR4.out⟩ (fun _ => ?_)
        refine HeldBy.gen (fun V => Below W0.heap.size W0 V ∧ RowsAt V a1 c1 A ∧ RowsAt V a2 c2 A2) ⟨HB7.out.drew, HR3.out, HR4.out⟩ ?_
        clear HB7 HR3 HR4
        rintro U0 HS
        refine HeldBy.call (i := 0) (v := .bool true) rfl (by kernel_rfl) (by rfl) (by first | (go_simp; done) | (go_simp; first | exact ⟨rfl, rfl⟩ | rfl)) (by first | (go_simp; rfl) | (go_simp; done)) ?_
        refine (live_any _).mono ?_
        rintro e U1 ⟨rfl, hb⟩
        replace HS : Below W0.heap.size W0 U1 ∧ RowsAt U1 a1 c1 A ∧ RowsAt U1 a2 c2 A2 := ⟨HS.1.trans (hb.mono HS.1.size), HS.2.1.after hb, HS.2.2.after hb⟩
        refine ⟨rfl, HS, ?_⟩
        clear hb
        refine HeldBy.take (i := 1) rfl (by kernel_rfl) (by kernel_rfl) (by kernel_rfl) (fun _ _ _ h => h) (by rfl) (fun _ _ => by first | (go_simp; rfl) | (go_simp; done)) (by go_simp; rfl) HS ?_
        refine HeldBy.take (i := 2) rfl (by kernel_rfl) (by kernel_rfl) (by kernel_rfl) (fun _ _ _ h => h) (by rfl) (fun _ _ => by first | (go_simp; rfl) | (go_simp; done)) (by go_simp; rfl) HS ?_
        refine HeldBy.take (i := 3) rfl (by kernel_rfl) (by kernel_rfl) (by kernel_rfl) (fun _ _ _ h => h) (by rfl) (fun _ _ => by first | (go_simp; rfl) | (go_simp; done)) (by go_simp; rfl) HS ?_
        refine HeldBy.call (i := 4) (v := .bool true) rfl (by kernel_rfl) (by rfl) (by first | (go_simp; done) | (go_simp; first | exact ⟨rfl, rfl⟩ | rfl)) (by first | (go_simp; rfl) | (go_simp; done)) ?_
        refine (begins_yes _ _ _ _ _ _ A A2 _ HMA.out HM2.out HPX.out HS.2.1 HS.2.2).mono ?_
        rintro e U2 ⟨rfl, hb⟩
        replace HS : Below W0.heap.size W0 U2 ∧ RowsAt U2 a1 c1 A ∧ RowsAt U2 a2 c2 A2 := ⟨HS.1.trans (hb.mono HS.1.size), HS.2.1.after hb, HS.2.2.after hb⟩
        refine ⟨rfl, HS, ?_⟩
        clear hb
        refine HeldBy.take (i := 5) rfl (by kernel_rfl) (by kernel_rfl) (by kernel_rfl) (fun _ _ _ h => h) (by rfl) (fun _ _ => by first | (go_simp; rfl) | (go_simp; done)) (by go_simp; rfl) HS ?_
        refine HeldBy.take (i := 6) rfl (by kernel_rfl) (by kernel_rfl) (by kernel_rfl) (fun _ _ _ h => h) (by rfl) (fun _ _ => by first | (go_simp; rfl) | (go_simp; done)) (by go_simp; rfl) HS ?_
        refine HeldBy.take (i := 7) rfl (by kernel_rfl) (by kernel_rfl) (by kernel_rfl) (fun _ _ _ h => h) (by rfl) (fun _ _ => by first | (go_simp; rfl) | (go_simp; done)) (by go_simp; rfl) HS ?_
        refine HeldBy.take (i := 8) rfl (by kernel_rfl) (by kernel_rfl) (by kernel_rfl) (fun _ _ _ h => h) (by rfl) (fun _ _ => by first | (go_simp; rfl) | (go_simp; done)) (by go_simp; rfl) HS ?_
        refine HeldBy.take (i := 9) rfl (by kernel_rfl) (by kernel_rfl) (by kernel_rfl) (fun _ _ _ h => h) (by rfl) (fun _ _ => by first | (go_simp; rfl) | (go_simp; done)) (by go_simp; rfl) HS ?_
        refine HeldBy.take (i := 10) rfl (by kernel_rfl) (by kernel_rfl) (by kernel_rfl) (fun _ _ _ h => h) (by rfl) (fun _ _ => by first | (go_simp; rfl) | (go_simp; done)) (by go_simp; rfl) HS ?_
        refine HeldBy.take (i := 11) (v := .int .i64 ((m : Int) + 1)) rfl (by kernel_rfl) (by kernel_rfl) (by kernel_rfl) (fun _ _ _ h => h) (by rfl) (fun _ _ => by go_simp; exact wrap_id (by omega) (by omega)) (by go_simp; rfl) HS ?_
        refine HeldBy.take (i := 12) (v := .bool true) rfl (by kernel_rfl) (by kernel_rfl) (by kernel_rfl) (fun _ _ _ h => h) (by rfl) (fun _ _ => by first | (go_simp; done) | (go_simp; rfl) | (go_simp; omega)) (by go_simp; rfl) HS ?_
        refine HeldBy.take (i := 13) rfl (by kernel_rfl) (by kernel_rfl) (by kernel_rfl) (fun _ _ _ h => h) (by rfl) (fun _ _ => by first | (go_simp; rfl) | (go_simp; done)) (by go_simp; rfl) HS ?_
        refine HeldBy.take (i := 14) rfl (by kernel_rfl) (by kernel_rfl) (by kernel_rfl) (fun _ _ _ h => h) (by rfl) (fun _ _ => by first | (go_simp; rfl) | (go_simp; done)) (by go_simp; rfl) HS ?_
        refine HeldBy.take (i := 15) rfl (by kernel_rfl) (by kernel_rfl) (by kernel_rfl) (fun _ _ _ h => h) (by rfl) (fun _ _ => by first | (go_simp; rfl) | (go_simp; done)) (by go_simp; rfl) HS ?_
        refine HeldBy.take (i := 16) rfl (by kernel_rfl) (by kernel_rfl) (by kernel_rfl) (fun _ _ _ h => h) (by rfl) (fun _ _ => by first | (go_simp; rfl) | (go_simp; done)) (by go_simp; rfl) HS ?_
        refine HeldBy.take (i := 17) rfl (by kernel_rfl) (by kernel_rfl) (by kernel_rfl) (fun _ _ _ h => h) (by rfl) (fun _ _ => by first | (go_simp; rfl) | (go_simp; done)) (by go_simp; rfl) HS ?_
        refine HeldBy.take (i := 18) rfl (by kernel_rfl) (by kernel_rfl) (by kernel_rfl) (fun _ _ _ h => h) (by rfl) (fun _ _ => by first | (go_simp; rfl) | (go_simp; done)) (by go_simp; rfl) HS ?_
        refine HeldBy.take (i := 19) (v := .bool true) rfl (by kernel_rfl) (by kernel_rfl) (by kernel_rfl) (fun _ _ _ h => h) (by rfl) (fun _ _ => by first | (go_simp; done) | (go_simp; rfl) | (go_simp; omega)) (by go_simp; rfl) HS ?_
        refine HeldBy.take (i := 20) rfl (by kernel_rfl) (by kernel_rfl) (by kernel_rfl) (fun _ _ _ h => h) (by rfl) (fun _ _ => by first | (go_simp; rfl) | (go_simp; done)) (by go_simp; rfl) HS ?_
        refine HeldBy.skip (i := 21) rfl (by kernel_rfl) (by kernel_rfl) (by kernel_rfl) (fun _ _ _ h => h) (by rfl) (by go_simp; rfl) HS ?_
        refine HeldBy.skip (i := 22) rfl (by kernel_rfl) (by kernel_rfl) (by kernel_rfl) (fun _ _ _ h => h) (by rfl) (by go_simp; rfl) HS ?_
        refine HeldBy.skip (i := 23) rfl (by kernel_rfl) (by kernel_rfl) (by kernel_rfl) (fun _ _ _ h => h) (by rfl) (by go_simp; rfl) HS ?_
        refine HeldBy.skip (i := 24) rfl (by kernel_rfl) (by kernel_rfl) (by kernel_rfl) (fun _ _ _ h => h) (by rfl) (by go_simp; rfl) HS ?_
        refine HeldBy.skip (i := 25) rfl (by kernel_rfl) (by kernel_rfl) (by kernel_rfl) (fun _ _ _ h => h) (by rfl) (by go_simp; rfl) HS ?_
        refine HeldBy.skip (i := 26) rfl (by kernel_rfl) (by kernel_rfl) (by kernel_rfl) (fun _ _ _ h => h) (by rfl) (by go_simp; rfl) HS ?_
        refine HeldBy.skip (i := 27) rfl (by kernel_rfl) (by kernel_rfl) (by kernel_rfl) (fun _ _ _ h => h) (by rfl) (by go_simp; rfl) HS ?_
        refine HeldBy.skip (i := 28) rfl (by kernel_rfl) (by kernel_rfl) (by kernel_rfl) (fun _ _ _ h => h) (by rfl) (by go_simp; rfl) HS ?_
        refine HeldBy.skip (i := 29) rfl (by kernel_rfl) (by kernel_rfl) (by kernel_rfl) (fun _ _ _ h => h) (by rfl) (by go_simp; rfl) HS ?_
        refine HeldBy.take (i := 30) rfl (by kernel_rfl) (by kernel_rfl) (by kernel_rfl) (fun _ _ _ h => h) (by rfl) (fun _ _ => by first | (go_simp; rfl) | (go_simp; done)) (by go_simp; rfl) HS ?_
        refine HeldBy.take (i := 31) rfl (by kernel_rfl) (by kernel_rfl) (by kernel_rfl) (fun _ _ _ h => h) (by rfl) (fun _ _ => by first | (go_simp; rfl) | (go_simp; done)) (by go_simp; rfl) HS ?_
        refine HeldBy.take (i := 32) rfl (by kernel_rfl) (by kernel_rfl) (by kernel_rfl) (fun _ _ _ h => h) (by rfl) (fun _ _ => by first | (go_simp; rfl) | (go_simp; done)) (by go_simp; rfl) HS ?_
        refine wpAnyH_done (by kernel_rfl) ?_ _
        have HB8 : Hid (Below W0.heap.size W0 U2) := HS.1
        clear HS
        go_wp2
        go_ret
        exact ⟨rfl, HB0.out.trans (HB8.out.mono HB0.out.size)⟩
      · have HM2 : Hid (A2.length = m + 1) := by show A2.length = m + 1; rw [hA3, List.length_append, HMA.out]; rfl
        have HPX : Hid (A = A2.take A.length) := by show A = A2.take A.length; rw [hA3, List.take_left]
        have HEL : Hid (∀ h : m < A2.length, A2[m] = r) := fun h => by subst hA3; rw [List.getElem_append_right (by rw [HMA.out]; omega)]; simp [HMA.out]
        clear hA3
        rw [HM2.out]
        by_cases hk3 : ((need r.length : Nat) : Int) ≤ kp
        · go_wp2
          refine wp_region_held_drew (S := fun V => Below W0.heap.size W0 V ∧ RowsAt V a1 c1 A ∧ RowsAt V a2 c2 A2) (by kernel_rfl) ⟨HB6.out.drew, HR1.out, HR2.out⟩ (fun _ => ?_)
          refine HeldBy.gen (fun V => Below W0.heap.size W0 V ∧ RowsAt V a1 c1 A ∧ RowsAt V a2 c2 A2) ⟨HB6.out.drew, HR1.out, HR2.out⟩ ?_
          clear HB6 HR1 HR2
          rintro U0 HS
          refine HeldBy.take (i := 0) rfl (by kernel_rfl) (by kernel_rfl) (by kernel_rfl) (fun _ _ _ h => h) (by rfl) (fun _ _ => by first | (go_simp; rfl) | (go_simp; done)) (by go_simp; rfl) HS ?_
          refine HeldBy.take (i := 1) (v := .int .i64 kp) rfl (by kernel_rfl) (by kernel_rfl) (by kernel_rfl) (fun _ _ _ h => h) (by rfl) (fun V hV => by have hc := HD1.out V hV.1; first | (go_simp; rfl) | (go_simp; done)) (by go_simp; rfl) HS ?_
          refine HeldBy.take (i := 2) rfl (by kernel_rfl) (by kernel_rfl) (by kernel_rfl) (fun _ _ _ h => h) (by rfl) (fun _ _ => by first | (go_simp; rfl) | (go_simp; done)) (by go_simp; rfl) HS ?_
          refine HeldBy.take (i := 3) rfl (by kernel_rfl) (by kernel_rfl) (by kernel_rfl) (fun _ _ _ h => h) (by rfl) (fun _ _ => by first | (go_simp; rfl) | (go_simp; done)) (by go_simp; rfl) HS ?_
          refine HeldBy.call (i := 4) (v := .int .i64 (need r.length : Nat)) rfl (by kernel_rfl) (by rfl) (by first | (go_simp; done) | (go_simp; first | exact ⟨rfl, rfl⟩ | rfl)) (by first | (go_simp; rfl) | (go_simp; done)) ?_
          refine (HND.out _ (by omega)).mono ?_
          rintro e U1 ⟨rfl, hb⟩
          replace HS : Below W0.heap.size W0 U1 ∧ RowsAt U1 a1 c1 A ∧ RowsAt U1 a2 c2 A2 := ⟨HS.1.trans (hb.mono HS.1.size), HS.2.1.after hb, HS.2.2.after hb⟩
          refine ⟨rfl, HS, ?_⟩
          clear hb
          refine HeldBy.take (i := 5) (v := .bool true) rfl (by kernel_rfl) (by kernel_rfl) (by kernel_rfl) (fun _ _ _ h => h) (by rfl) (fun _ _ => by first | (go_simp; done) | (go_simp; rfl) | (go_simp; omega)) (by go_simp; rfl) HS ?_
          refine HeldBy.take (i := 6) rfl (by kernel_rfl) (by kernel_rfl) (by kernel_rfl) (fun _ _ _ h => h) (by rfl) (fun _ _ => by first | (go_simp; rfl) | (go_simp; done)) (by go_simp; rfl) HS ?_
          refine HeldBy.take (i := 7) rfl (by kernel_rfl) (by kernel_rfl) (by kernel_rfl) (fun _ _ _ h => h) (by rfl) (fun _ _ => by first | (go_simp; rfl) | (go_simp; done)) (by go_simp; rfl) HS ?_
          refine HeldBy.take (i := 8) rfl (by kernel_rfl) (by kernel_rfl) (by kernel_rfl) (fun _ _ _ h => h) (by rfl) (fun _ _ => by first | (go_simp; rfl) | (go_simp; done)) (by go_simp; rfl) HS ?_
          refine HeldBy.take (i := 9) rfl (by kernel_rfl) (by kernel_rfl) (by kernel_rfl) (fun _ _ _ h => h) (by rfl) (fun _ _ => by first | (go_simp; rfl) | (go_simp; done)) (by go_simp; rfl) HS ?_
          refine HeldBy.take (i := 10) rfl (by kernel_rfl) (by kernel_rfl) (by kernel_rfl) (fun _ _ _ h => h) (by rfl) (fun _ _ => by first | (go_simp; rfl) | (go_simp; done)) (by go_simp; rfl) HS ?_
          refine HeldBy.take (i := 11) (v := .int .i64 ((m : Int) + 1)) rfl (by kernel_rfl) (by kernel_rfl) (by kernel_rfl) (fun _ _ _ h => h) (by rfl) (fun _ _ => by go_simp; exact wrap_id (by omega) (by omega)) (by go_simp; rfl) HS ?_
          refine HeldBy.take (i := 12) (v := .bool false) rfl (by kernel_rfl) (by kernel_rfl) (by kernel_rfl) (fun _ _ _ h => h) (by rfl) (fun _ _ => by first | (go_simp; done) | (go_simp; rfl) | (go_simp; omega)) (by go_simp; rfl) HS ?_
          refine HeldBy.take (i := 13) rfl (by kernel_rfl) (by kernel_rfl) (by kernel_rfl) (fun _ _ _ h => h) (by rfl) (fun _ _ => by first | (go_simp; rfl) | (go_simp; done)) (by go_simp; rfl) HS ?_
          refine wpAnyH_done (by kernel_rfl) ?_ _
          have HB7 : Hid (Below W0.heap.size W0 U1) := HS.1
          have HR3 : Hid (RowsAt U1 a1 c1 A) := HS.2.1
          have HR4 : Hid (RowsAt U1 a2 c2 A2) := HS.2.2
          clear HS
          have hE := HR4.out.at (i := m) (by rw [HM2.out]; omega)
          obtain ⟨g2x, o2x, x2, rfl, hE⟩ := hE
          rw [HEL.out] at hE
          have HE := Lib.hid hE
          have HX2 := Lib.hid hE.2.2.shape
          clear hE
          go_wp2
          refine wp_region_held_drew (S := fun V => Below W0.heap.size W0 V ∧ RowsAt V a1 c1 A ∧ RowsAt V (some ⟨g2x, o2x, none⟩) c2 A2 ∧ ElAt V g2x (o2x + m) x2 r) (by kernel_rfl) ⟨HB7.out.drew, HR3.out, HR4.out, HE.out⟩ (fun _ => ?_)
          refine HeldBy.gen (fun V => Below W0.heap.size W0 V ∧ RowsAt V a1 c1 A ∧ RowsAt V (some ⟨g2x, o2x, none⟩) c2 A2 ∧ ElAt V g2x (o2x + m) x2 r) ⟨HB7.out.drew, HR3.out, HR4.out, HE.out⟩ ?_
          clear HB7 HR3 HR4 HE
          rintro U0 HS
          refine HeldBy.call (i := 0) (v := .bool true) rfl (by kernel_rfl) (by rfl) (by first | (go_simp; done) | (go_simp; first | exact ⟨rfl, rfl⟩ | rfl)) (by first | (go_simp; rfl) | (go_simp; done)) ?_
          refine (live_any _).mono ?_
          rintro e U1 ⟨rfl, hb⟩
          replace HS : Below W0.heap.size W0 U1 ∧ RowsAt U1 a1 c1 A ∧ RowsAt U1 (some ⟨g2x, o2x, none⟩) c2 A2 ∧ ElAt U1 g2x (o2x + m) x2 r := ⟨HS.1.trans (hb.mono HS.1.size), HS.2.1.after hb, HS.2.2.1.after hb, HS.2.2.2.after hb⟩
          refine ⟨rfl, HS, ?_⟩
          clear hb
          refine HeldBy.take (i := 1) rfl (by kernel_rfl) (by kernel_rfl) (by kernel_rfl) (fun _ _ _ h => h) (by rfl) (fun _ _ => by first | (go_simp; rfl) | (go_simp; done)) (by go_simp; rfl) HS ?_
          refine HeldBy.take (i := 2) rfl (by kernel_rfl) (by kernel_rfl) (by kernel_rfl) (fun _ _ _ h => h) (by rfl) (fun _ _ => by first | (go_simp; rfl) | (go_simp; done)) (by go_simp; rfl) HS ?_
          refine HeldBy.take (i := 3) rfl (by kernel_rfl) (by kernel_rfl) (by kernel_rfl) (fun _ _ _ h => h) (by rfl) (fun _ _ => by first | (go_simp; rfl) | (go_simp; done)) (by go_simp; rfl) HS ?_
          refine HeldBy.call (i := 4) (v := .bool true) rfl (by kernel_rfl) (by rfl) (by first | (go_simp; done) | (go_simp; first | exact ⟨rfl, rfl⟩ | rfl)) (by first | (go_simp; rfl) | (go_simp; done)) ?_
          refine (begins_yes _ _ _ _ _ _ A A2 _ HMA.out HM2.out HPX.out HS.2.1 HS.2.2.1).mono ?_
          rintro e U2 ⟨rfl, hb⟩
          replace HS : Below W0.heap.size W0 U2 ∧ RowsAt U2 a1 c1 A ∧ RowsAt U2 (some ⟨g2x, o2x, none⟩) c2 A2 ∧ ElAt U2 g2x (o2x + m) x2 r := ⟨HS.1.trans (hb.mono HS.1.size), HS.2.1.after hb, HS.2.2.1.after hb, HS.2.2.2.after hb⟩
          refine ⟨rfl, HS, ?_⟩
          clear hb
          refine HeldBy.take (i := 5) rfl (by kernel_rfl) (by kernel_rfl) (by kernel_rfl) (fun _ _ _ h => h) (by rfl) (fun _ _ => by first | (go_simp; rfl) | (go_simp; done)) (by go_simp; rfl) HS ?_
          refine HeldBy.take (i := 6) rfl (by kernel_rfl) (by kernel_rfl) (by kernel_rfl) (fun _ _ _ h => h) (by rfl) (fun _ _ => by first | (go_simp; rfl) | (go_simp; done)) (by go_simp; rfl) HS ?_
          refine HeldBy.take (i := 7) rfl (by kernel_rfl) (by kernel_rfl) (by kernel_rfl) (fun _ _ _ h => h) (by rfl) (fun _ _ => by first | (go_simp; rfl) | (go_simp; done)) (by go_simp; rfl) HS ?_
          refine HeldBy.take (i := 8) rfl (by kernel_rfl) (by kernel_rfl) (by kernel_rfl) (fun _ _ _ h => h) (by rfl) (fun _ _ => by first | (go_simp; rfl) | (go_simp; done)) (by go_simp; rfl) HS ?_
          refine HeldBy.take (i := 9) rfl (by kernel_rfl) (by kernel_rfl) (by kernel_rfl) (fun _ _ _ h => h) (by rfl) (fun _ _ => by first | (go_simp; rfl) | (go_simp; done)) (by go_simp; rfl) HS ?_
          refine HeldBy.take (i := 10) rfl (by kernel_rfl) (by kernel_rfl) (by kernel_rfl) (fun _ _ _ h => h) (by rfl) (fun _ _ => by first | (go_simp; rfl) | (go_simp; done)) (by go_simp; rfl) HS ?_
          refine HeldBy.take (i := 11) (v := .int .i64 ((m : Int) + 1)) rfl (by kernel_rfl) (by kernel_rfl) (by kernel_rfl) (fun _ _ _ h => h) (by rfl) (fun _ _ => by go_simp; exact wrap_id (by omega) (by omega)) (by go_simp; rfl) HS ?_
          refine HeldBy.take (i := 12) (v := .bool true) rfl (by kernel_rfl) (by kernel_rfl) (by kernel_rfl) (fun _ _ _ h => h) (by rfl) (fun _ _ => by first | (go_simp; done) | (go_simp; rfl) | (go_simp; omega)) (by go_simp; rfl) HS ?_
          refine HeldBy.take (i := 13) rfl (by kernel_rfl) (by kernel_rfl) (by kernel_rfl) (fun _ _ _ h => h) (by rfl) (fun _ _ => by first | (go_simp; rfl) | (go_simp; done)) (by go_simp; rfl) HS ?_
          refine HeldBy.take (i := 14) rfl (by kernel_rfl) (by kernel_rfl) (by kernel_rfl) (fun _ _ _ h => h) (by rfl) (fun _ _ => by first | (go_simp; rfl) | (go_simp; done)) (by go_simp; rfl) HS ?_
          refine HeldBy.take (i := 15) rfl (by kernel_rfl) (by kernel_rfl) (by kernel_rfl) (fun _ _ _ h => h) (by rfl) (fun _ _ => by first | (go_simp; rfl) | (go_simp; done)) (by go_simp; rfl) HS ?_
          refine HeldBy.take (i := 16) rfl (by kernel_rfl) (by kernel_rfl) (by kernel_rfl) (fun _ _ _ h => h) (by rfl) (fun _ _ => by first | (go_simp; rfl) | (go_simp; done)) (by go_simp; rfl) HS ?_
          refine HeldBy.take (i := 17) rfl (by kernel_rfl) (by kernel_rfl) (by kernel_rfl) (fun _ _ _ h => h) (by rfl) (fun _ _ => by first | (go_simp; rfl) | (go_simp; done)) (by go_simp; rfl) HS ?_
          refine HeldBy.take (i := 18) rfl (by kernel_rfl) (by kernel_rfl) (by kernel_rfl) (fun _ _ _ h => h) (by rfl) (fun _ _ => by first | (go_simp; rfl) | (go_simp; done)) (by go_simp; rfl) HS ?_
          refine HeldBy.take (i := 19) (v := .bool false) rfl (by kernel_rfl) (by kernel_rfl) (by kernel_rfl) (fun _ _ _ h => h) (by rfl) (fun _ _ => by first | (go_simp; done) | (go_simp; rfl) | (go_simp; omega)) (by go_simp; rfl) HS ?_
          refine HeldBy.take (i := 20) rfl (by kernel_rfl) (by kernel_rfl) (by kernel_rfl) (fun _ _ _ h => h) (by rfl) (fun _ _ => by first | (go_simp; rfl) | (go_simp; done)) (by go_simp; rfl) HS ?_
          refine HeldBy.take (i := 21) rfl (by kernel_rfl) (by kernel_rfl) (by kernel_rfl) (fun _ _ _ h => h) (by rfl) (fun _ _ => by first | (go_simp; rfl) | (go_simp; done)) (by go_simp; rfl) HS ?_
          refine HeldBy.take (i := 22) rfl (by kernel_rfl) (by kernel_rfl) (by kernel_rfl) (fun _ _ _ h => h) (by rfl) (fun _ _ => by first | (go_simp; rfl) | (go_simp; done)) (by go_simp; rfl) HS ?_
          refine HeldBy.take (i := 23) rfl (by kernel_rfl) (by kernel_rfl) (by kernel_rfl) (fun _ _ _ h => h) (by rfl) (fun _ _ => by first | (go_simp; rfl) | (go_simp; done)) (by go_simp; rfl) HS ?_
          refine HeldBy.take (i := 24) (v := .pointer (some ⟨g2x, o2x + m, none⟩)) rfl (by kernel_rfl) (by kernel_rfl) (by kernel_rfl) (fun _ _ _ h => h) (by rfl) (fun _ _ => by go_simp; intro h; omega) (by go_simp; rfl) HS ?_
          refine HeldBy.take (i := 25) (v := x2) rfl (by kernel_rfl) (by kernel_rfl) (by kernel_rfl) (fun _ _ _ h => h) (by rfl) (fun V hV => exec_el hV.2.2.2 rfl rfl HX2.out) (by go_simp; rfl) HS ?_
          refine HeldBy.take (i := 26) (v := .string ⟨r.toArray⟩) rfl (by kernel_rfl) (by kernel_rfl) (by kernel_rfl) (fun _ _ _ h => h) (by rfl) (fun V hV => exec_str hV.2.2.2.2.2 rfl rfl) (by go_simp; rfl) HS ?_
          refine HeldBy.take (i := 27) rfl (by kernel_rfl) (by kernel_rfl) (by kernel_rfl) (fun _ _ _ h => h) (by rfl) (fun _ _ => by first | (go_simp; rfl) | (go_simp; done)) (by go_simp; rfl) HS ?_
          refine HeldBy.take (i := 28) (v := .string ⟨r.toArray⟩) rfl (by kernel_rfl) (by kernel_rfl) (by kernel_rfl) (fun _ _ _ h => h) (by rfl) (fun V hV => exec_str (HR.out.after hV.1) rfl rfl) (by go_simp; rfl) HS ?_
          refine HeldBy.take (i := 29) (v := .bool true) rfl (by kernel_rfl) (by kernel_rfl) (by kernel_rfl) (fun _ _ _ h => h) (by rfl) (fun _ _ => exec_eql_str rfl rfl rfl (decide_eq_true rfl)) (by go_simp; rfl) HS ?_
          refine HeldBy.take (i := 30) rfl (by kernel_rfl) (by kernel_rfl) (by kernel_rfl) (fun _ _ _ h => h) (by rfl) (fun _ _ => by first | (go_simp; rfl) | (go_simp; done)) (by go_simp; rfl) HS ?_
          refine HeldBy.take (i := 31) rfl (by kernel_rfl) (by kernel_rfl) (by kernel_rfl) (fun _ _ _ h => h) (by rfl) (fun _ _ => by first | (go_simp; rfl) | (go_simp; done)) (by go_simp; rfl) HS ?_
          refine HeldBy.take (i := 32) rfl (by kernel_rfl) (by kernel_rfl) (by kernel_rfl) (fun _ _ _ h => h) (by rfl) (fun _ _ => by first | (go_simp; rfl) | (go_simp; done)) (by go_simp; rfl) HS ?_
          refine wpAnyH_done (by kernel_rfl) ?_ _
          have HB8 : Hid (Below W0.heap.size W0 U2) := HS.1
          clear HS
          go_wp2
          go_ret
          exact ⟨rfl, HB0.out.trans (HB8.out.mono HB0.out.size)⟩
        · go_wp2
          refine wp_region_held_drew (S := fun V => Below W0.heap.size W0 V ∧ RowsAt V a1 c1 A ∧ RowsAt V a2 c2 A2) (by kernel_rfl) ⟨HB6.out.drew, HR1.out, HR2.out⟩ (fun _ => ?_)
          refine HeldBy.gen (fun V => Below W0.heap.size W0 V ∧ RowsAt V a1 c1 A ∧ RowsAt V a2 c2 A2) ⟨HB6.out.drew, HR1.out, HR2.out⟩ ?_
          clear HB6 HR1 HR2
          rintro U0 HS
          refine HeldBy.take (i := 0) rfl (by kernel_rfl) (by kernel_rfl) (by kernel_rfl) (fun _ _ _ h => h) (by rfl) (fun _ _ => by first | (go_simp; rfl) | (go_simp; done)) (by go_simp; rfl) HS ?_
          refine HeldBy.take (i := 1) (v := .int .i64 kp) rfl (by kernel_rfl) (by kernel_rfl) (by kernel_rfl) (fun _ _ _ h => h) (by rfl) (fun V hV => by have hc := HD1.out V hV.1; first | (go_simp; rfl) | (go_simp; done)) (by go_simp; rfl) HS ?_
          refine HeldBy.take (i := 2) rfl (by kernel_rfl) (by kernel_rfl) (by kernel_rfl) (fun _ _ _ h => h) (by rfl) (fun _ _ => by first | (go_simp; rfl) | (go_simp; done)) (by go_simp; rfl) HS ?_
          refine HeldBy.take (i := 3) rfl (by kernel_rfl) (by kernel_rfl) (by kernel_rfl) (fun _ _ _ h => h) (by rfl) (fun _ _ => by first | (go_simp; rfl) | (go_simp; done)) (by go_simp; rfl) HS ?_
          refine HeldBy.call (i := 4) (v := .int .i64 (need r.length : Nat)) rfl (by kernel_rfl) (by rfl) (by first | (go_simp; done) | (go_simp; first | exact ⟨rfl, rfl⟩ | rfl)) (by first | (go_simp; rfl) | (go_simp; done)) ?_
          refine (HND.out _ (by omega)).mono ?_
          rintro e U1 ⟨rfl, hb⟩
          replace HS : Below W0.heap.size W0 U1 ∧ RowsAt U1 a1 c1 A ∧ RowsAt U1 a2 c2 A2 := ⟨HS.1.trans (hb.mono HS.1.size), HS.2.1.after hb, HS.2.2.after hb⟩
          refine ⟨rfl, HS, ?_⟩
          clear hb
          refine HeldBy.take (i := 5) (v := .bool false) rfl (by kernel_rfl) (by kernel_rfl) (by kernel_rfl) (fun _ _ _ h => h) (by rfl) (fun _ _ => by first | (go_simp; done) | (go_simp; rfl) | (go_simp; omega)) (by go_simp; rfl) HS ?_
          refine HeldBy.take (i := 6) rfl (by kernel_rfl) (by kernel_rfl) (by kernel_rfl) (fun _ _ _ h => h) (by rfl) (fun _ _ => by first | (go_simp; rfl) | (go_simp; done)) (by go_simp; rfl) HS ?_
          refine HeldBy.skip (i := 7) rfl (by kernel_rfl) (by kernel_rfl) (by kernel_rfl) (fun _ _ _ h => h) (by rfl) (by go_simp; rfl) HS ?_
          refine HeldBy.skip (i := 8) rfl (by kernel_rfl) (by kernel_rfl) (by kernel_rfl) (fun _ _ _ h => h) (by rfl) (by go_simp; rfl) HS ?_
          refine HeldBy.skip (i := 9) rfl (by kernel_rfl) (by kernel_rfl) (by kernel_rfl) (fun _ _ _ h => h) (by rfl) (by go_simp; rfl) HS ?_
          refine HeldBy.skip (i := 10) rfl (by kernel_rfl) (by kernel_rfl) (by kernel_rfl) (fun _ _ _ h => h) (by rfl) (by go_simp; rfl) HS ?_
          refine HeldBy.skip (i := 11) rfl (by kernel_rfl) (by kernel_rfl) (by kernel_rfl) (fun _ _ _ h => h) (by rfl) (by go_simp; rfl) HS ?_
          refine HeldBy.skip (i := 12) rfl (by kernel_rfl) (by kernel_rfl) (by kernel_rfl) (fun _ _ _ h => h) (by rfl) (by go_simp; rfl) HS ?_
          refine HeldBy.take (i := 13) rfl (by kernel_rfl) (by kernel_rfl) (by kernel_rfl) (fun _ _ _ h => h) (by rfl) (fun _ _ => by first | (go_simp; rfl) | (go_simp; done)) (by go_simp; rfl) HS ?_
          refine wpAnyH_done (by kernel_rfl) ?_ _
          have HB7 : Hid (Below W0.heap.size W0 U1) := HS.1
          have HR3 : Hid (RowsAt U1 a1 c1 A) := HS.2.1
          have HR4 : Hid (RowsAt U1 a2 c2 A2) := HS.2.2
          clear HS
          have hE := HR4.out.at (i := m) (by rw [HM2.out]; omega)
          obtain ⟨g2x, o2x, x2, rfl, hE⟩ := hE
          rw [HEL.out] at hE
          have HE := Lib.hid hE
          have HX2 := Lib.hid hE.2.2.shape
          clear hE
          go_wp2
          refine wp_region_held_drew (S := fun V => Below W0.heap.size W0 V ∧ RowsAt V a1 c1 A ∧ RowsAt V (some ⟨g2x, o2x, none⟩) c2 A2 ∧ ElAt V g2x (o2x + m) x2 r) (by kernel_rfl) ⟨HB7.out.drew, HR3.out, HR4.out, HE.out⟩ (fun _ => ?_)
          refine HeldBy.gen (fun V => Below W0.heap.size W0 V ∧ RowsAt V a1 c1 A ∧ RowsAt V (some ⟨g2x, o2x, none⟩) c2 A2 ∧ ElAt V g2x (o2x + m) x2 r) ⟨HB7.out.drew, HR3.out, HR4.out, HE.out⟩ ?_
          clear HB7 HR3 HR4 HE
          rintro U0 HS
          refine HeldBy.call (i := 0) (v := .bool true) rfl (by kernel_rfl) (by rfl) (by first | (go_simp; done) | (go_simp; first | exact ⟨rfl, rfl⟩ | rfl)) (by first | (go_simp; rfl) | (go_simp; done)) ?_
          refine (live_any _).mono ?_
          rintro e U1 ⟨rfl, hb⟩
          replace HS : Below W0.heap.size W0 U1 ∧ RowsAt U1 a1 c1 A ∧ RowsAt U1 (some ⟨g2x, o2x, none⟩) c2 A2 ∧ ElAt U1 g2x (o2x + m) x2 r := ⟨HS.1.trans (hb.mono HS.1.size), HS.2.1.after hb, HS.2.2.1.after hb, HS.2.2.2.after hb⟩
          refine ⟨rfl, HS, ?_⟩
          clear hb
          refine HeldBy.take (i := 1) rfl (by kernel_rfl) (by kernel_rfl) (by kernel_rfl) (fun _ _ _ h => h) (by rfl) (fun _ _ => by first | (go_simp; rfl) | (go_simp; done)) (by go_simp; rfl) HS ?_
          refine HeldBy.take (i := 2) rfl (by kernel_rfl) (by kernel_rfl) (by kernel_rfl) (fun _ _ _ h => h) (by rfl) (fun _ _ => by first | (go_simp; rfl) | (go_simp; done)) (by go_simp; rfl) HS ?_
          refine HeldBy.take (i := 3) rfl (by kernel_rfl) (by kernel_rfl) (by kernel_rfl) (fun _ _ _ h => h) (by rfl) (fun _ _ => by first | (go_simp; rfl) | (go_simp; done)) (by go_simp; rfl) HS ?_
          refine HeldBy.call (i := 4) (v := .bool true) rfl (by kernel_rfl) (by rfl) (by first | (go_simp; done) | (go_simp; first | exact ⟨rfl, rfl⟩ | rfl)) (by first | (go_simp; rfl) | (go_simp; done)) ?_
          refine (begins_yes _ _ _ _ _ _ A A2 _ HMA.out HM2.out HPX.out HS.2.1 HS.2.2.1).mono ?_
          rintro e U2 ⟨rfl, hb⟩
          replace HS : Below W0.heap.size W0 U2 ∧ RowsAt U2 a1 c1 A ∧ RowsAt U2 (some ⟨g2x, o2x, none⟩) c2 A2 ∧ ElAt U2 g2x (o2x + m) x2 r := ⟨HS.1.trans (hb.mono HS.1.size), HS.2.1.after hb, HS.2.2.1.after hb, HS.2.2.2.after hb⟩
          refine ⟨rfl, HS, ?_⟩
          clear hb
          refine HeldBy.take (i := 5) rfl (by kernel_rfl) (by kernel_rfl) (by kernel_rfl) (fun _ _ _ h => h) (by rfl) (fun _ _ => by first | (go_simp; rfl) | (go_simp; done)) (by go_simp; rfl) HS ?_
          refine HeldBy.take (i := 6) rfl (by kernel_rfl) (by kernel_rfl) (by kernel_rfl) (fun _ _ _ h => h) (by rfl) (fun _ _ => by first | (go_simp; rfl) | (go_simp; done)) (by go_simp; rfl) HS ?_
          refine HeldBy.take (i := 7) rfl (by kernel_rfl) (by kernel_rfl) (by kernel_rfl) (fun _ _ _ h => h) (by rfl) (fun _ _ => by first | (go_simp; rfl) | (go_simp; done)) (by go_simp; rfl) HS ?_
          refine HeldBy.take (i := 8) rfl (by kernel_rfl) (by kernel_rfl) (by kernel_rfl) (fun _ _ _ h => h) (by rfl) (fun _ _ => by first | (go_simp; rfl) | (go_simp; done)) (by go_simp; rfl) HS ?_
          refine HeldBy.take (i := 9) rfl (by kernel_rfl) (by kernel_rfl) (by kernel_rfl) (fun _ _ _ h => h) (by rfl) (fun _ _ => by first | (go_simp; rfl) | (go_simp; done)) (by go_simp; rfl) HS ?_
          refine HeldBy.take (i := 10) rfl (by kernel_rfl) (by kernel_rfl) (by kernel_rfl) (fun _ _ _ h => h) (by rfl) (fun _ _ => by first | (go_simp; rfl) | (go_simp; done)) (by go_simp; rfl) HS ?_
          refine HeldBy.take (i := 11) (v := .int .i64 ((m : Int) + 1)) rfl (by kernel_rfl) (by kernel_rfl) (by kernel_rfl) (fun _ _ _ h => h) (by rfl) (fun _ _ => by go_simp; exact wrap_id (by omega) (by omega)) (by go_simp; rfl) HS ?_
          refine HeldBy.take (i := 12) (v := .bool true) rfl (by kernel_rfl) (by kernel_rfl) (by kernel_rfl) (fun _ _ _ h => h) (by rfl) (fun _ _ => by first | (go_simp; done) | (go_simp; rfl) | (go_simp; omega)) (by go_simp; rfl) HS ?_
          refine HeldBy.take (i := 13) rfl (by kernel_rfl) (by kernel_rfl) (by kernel_rfl) (fun _ _ _ h => h) (by rfl) (fun _ _ => by first | (go_simp; rfl) | (go_simp; done)) (by go_simp; rfl) HS ?_
          refine HeldBy.take (i := 14) rfl (by kernel_rfl) (by kernel_rfl) (by kernel_rfl) (fun _ _ _ h => h) (by rfl) (fun _ _ => by first | (go_simp; rfl) | (go_simp; done)) (by go_simp; rfl) HS ?_
          refine HeldBy.take (i := 15) rfl (by kernel_rfl) (by kernel_rfl) (by kernel_rfl) (fun _ _ _ h => h) (by rfl) (fun _ _ => by first | (go_simp; rfl) | (go_simp; done)) (by go_simp; rfl) HS ?_
          refine HeldBy.take (i := 16) rfl (by kernel_rfl) (by kernel_rfl) (by kernel_rfl) (fun _ _ _ h => h) (by rfl) (fun _ _ => by first | (go_simp; rfl) | (go_simp; done)) (by go_simp; rfl) HS ?_
          refine HeldBy.take (i := 17) rfl (by kernel_rfl) (by kernel_rfl) (by kernel_rfl) (fun _ _ _ h => h) (by rfl) (fun _ _ => by first | (go_simp; rfl) | (go_simp; done)) (by go_simp; rfl) HS ?_
          refine HeldBy.take (i := 18) rfl (by kernel_rfl) (by kernel_rfl) (by kernel_rfl) (fun _ _ _ h => h) (by rfl) (fun _ _ => by first | (go_simp; rfl) | (go_simp; done)) (by go_simp; rfl) HS ?_
          refine HeldBy.take (i := 19) (v := .bool false) rfl (by kernel_rfl) (by kernel_rfl) (by kernel_rfl) (fun _ _ _ h => h) (by rfl) (fun _ _ => by first | (go_simp; done) | (go_simp; rfl) | (go_simp; omega)) (by go_simp; rfl) HS ?_
          refine HeldBy.take (i := 20) rfl (by kernel_rfl) (by kernel_rfl) (by kernel_rfl) (fun _ _ _ h => h) (by rfl) (fun _ _ => by first | (go_simp; rfl) | (go_simp; done)) (by go_simp; rfl) HS ?_
          refine HeldBy.take (i := 21) rfl (by kernel_rfl) (by kernel_rfl) (by kernel_rfl) (fun _ _ _ h => h) (by rfl) (fun _ _ => by first | (go_simp; rfl) | (go_simp; done)) (by go_simp; rfl) HS ?_
          refine HeldBy.take (i := 22) rfl (by kernel_rfl) (by kernel_rfl) (by kernel_rfl) (fun _ _ _ h => h) (by rfl) (fun _ _ => by first | (go_simp; rfl) | (go_simp; done)) (by go_simp; rfl) HS ?_
          refine HeldBy.take (i := 23) rfl (by kernel_rfl) (by kernel_rfl) (by kernel_rfl) (fun _ _ _ h => h) (by rfl) (fun _ _ => by first | (go_simp; rfl) | (go_simp; done)) (by go_simp; rfl) HS ?_
          refine HeldBy.take (i := 24) (v := .pointer (some ⟨g2x, o2x + m, none⟩)) rfl (by kernel_rfl) (by kernel_rfl) (by kernel_rfl) (fun _ _ _ h => h) (by rfl) (fun _ _ => by go_simp; intro h; omega) (by go_simp; rfl) HS ?_
          refine HeldBy.take (i := 25) (v := x2) rfl (by kernel_rfl) (by kernel_rfl) (by kernel_rfl) (fun _ _ _ h => h) (by rfl) (fun V hV => exec_el hV.2.2.2 rfl rfl HX2.out) (by go_simp; rfl) HS ?_
          refine HeldBy.take (i := 26) (v := .string ⟨r.toArray⟩) rfl (by kernel_rfl) (by kernel_rfl) (by kernel_rfl) (fun _ _ _ h => h) (by rfl) (fun V hV => exec_str hV.2.2.2.2.2 rfl rfl) (by go_simp; rfl) HS ?_
          refine HeldBy.take (i := 27) rfl (by kernel_rfl) (by kernel_rfl) (by kernel_rfl) (fun _ _ _ h => h) (by rfl) (fun _ _ => by first | (go_simp; rfl) | (go_simp; done)) (by go_simp; rfl) HS ?_
          refine HeldBy.take (i := 28) (v := .string ⟨r.toArray⟩) rfl (by kernel_rfl) (by kernel_rfl) (by kernel_rfl) (fun _ _ _ h => h) (by rfl) (fun V hV => exec_str (HR.out.after hV.1) rfl rfl) (by go_simp; rfl) HS ?_
          refine HeldBy.take (i := 29) (v := .bool true) rfl (by kernel_rfl) (by kernel_rfl) (by kernel_rfl) (fun _ _ _ h => h) (by rfl) (fun _ _ => exec_eql_str rfl rfl rfl (decide_eq_true rfl)) (by go_simp; rfl) HS ?_
          refine HeldBy.take (i := 30) rfl (by kernel_rfl) (by kernel_rfl) (by kernel_rfl) (fun _ _ _ h => h) (by rfl) (fun _ _ => by first | (go_simp; rfl) | (go_simp; done)) (by go_simp; rfl) HS ?_
          refine HeldBy.take (i := 31) rfl (by kernel_rfl) (by kernel_rfl) (by kernel_rfl) (fun _ _ _ h => h) (by rfl) (fun _ _ => by first | (go_simp; rfl) | (go_simp; done)) (by go_simp; rfl) HS ?_
          refine HeldBy.take (i := 32) rfl (by kernel_rfl) (by kernel_rfl) (by kernel_rfl) (fun _ _ _ h => h) (by rfl) (fun _ _ => by first | (go_simp; rfl) | (go_simp; done)) (by go_simp; rfl) HS ?_
          refine wpAnyH_done (by kernel_rfl) ?_ _
          have HB8 : Hid (Below W0.heap.size W0 U2) := HS.1
          clear HS
          go_wp2
          go_ret
          exact ⟨rfl, HB0.out.trans (HB8.out.mono HB0.out.size)⟩
end Go.Proofs.Ytfiahkomabllaaa.L
