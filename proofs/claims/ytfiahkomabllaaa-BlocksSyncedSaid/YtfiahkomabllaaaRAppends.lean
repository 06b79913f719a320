/- The law BlocksAppends: it answers true. -/
import Derived.Test.YtfiahkomabllaaaRClean
namespace Go.Proofs.Ytfiahkomabllaaa.L
open Go Go.RowKit
open Go.Lib

structure LogDrew (B : Nat) (V : World) (q : Nat) (og : Option Nat) (s : Lg) : Prop where
  log : IsLog B V q og s
theorem LogDrew.drew {B : Nat} {V : World} {q : Nat} {og : Option Nat} {s : Lg} (h : LogDrew B V q og s) : LogDrew B V.drew q og s := ⟨h.log.of_heap rfl (fun _ _ => rfl)⟩
theorem LogDrew.after {B : Nat} {V W : World} {q : Nat} {og : Option Nat} {s : Lg} (h : LogDrew B V q og s) (hb : Below V.heap.size V W) : LogDrew B W q og s := ⟨h.log.after hb⟩
/-- A clean log's facts. -/
theorem clean_facts {B : Nat} {W : World} {q : Nat} {og : Option Nat} {s : Lg} (h : IsLog B W q og s) (hm : s.most ≤ 24) :
    ∃ nb, blks (recs (cleanS s).b) = nb ∧ (cleanS s).b.length = nb * 64 ∧ nb ≤ (cleanS s).most ∧ (cleanS s).most = s.most ∧ nb ≤ 24 ∧ (recs (cleanS s).b).length ≤ 24 := by
  obtain ⟨v, kk, l1, l2, l3, l4, l5⟩ := h.at_
  have h1 := (recs_all s.b).1.le
  have h2 := (recs_all s.b).1.pos
  have h4 := l2.1
  have e : recs (cleanS s).b = recs s.b := recs_clean s.b
  have hlen : (cleanS s).b.length = blks (recs s.b) * 64 := by
    show (s.b.take (blks (recs s.b) * 64)).length = _
    rw [List.length_take]
    omega
  rw [e]
  refine ⟨_, rfl, hlen, ?_, rfl, by omega, by omega⟩
  show _ ≤ s.most
  omega
theorem apps_ok {s : Lg} {r : Bytes} {nb : Nat} (hb : blks (recs s.b) = nb) (hl : s.b.length = nb * 64) (h1 : 1 ≤ r.length) (h2 : r.length ≤ 200) (h3 : nb + need r.length ≤ s.most) :
    ∃ s' : Lg, appS s r = (0, s') ∧ recs s'.b = recs s.b ++ [r] ∧ s'.b.length = (nb + need r.length) * 64 ∧ s'.most = s.most := by
  have h0 : need r.length ≠ 0 := by rw [need_pos h1 (by omega)]; omega
  have hll := laid_length h0 ((recs s.b).length + 1)
  refine ⟨{ s with b := s.b ++ laid r ((recs s.b).length + 1) }, ?_, all_blks_app (by rw [hb, hl]) h0, ?_, rfl⟩
  · unfold appS
    rw [if_neg h0, if_neg (by omega)]
  · show (s.b ++ laid r ((recs s.b).length + 1)).length = _
    rw [List.length_append, hll]
    omega
set_option maxRecDepth 100000 in
set_option maxHeartbeats 2000000 in
theorem appends_law (n : Int) (hn : 0 ≤ n ∧ n ≤ 255) (a : Option Addr) (m c : Nat) (rv : Value) (r : Bytes) (w : World) (hD : DeedsAt w a m) (hm : m ≤ 9223372036854775807) (hr : BytesIn w rv r) : Calls Try.prog 7 #[.int .u8 n, .slice a m c, rv] w fun e w' => e = .returned (.bool true) ∧ Below w.heap.size w w' := by
  obtain ⟨n, rfl⟩ := Int.eq_ofNat_of_zero_le hn.1
  have HPL := Lib.hid (play_any n (by omega) a m c w hD hm)
  clear hD
  have hrn : r.length ≤ 9223372036854775807 := hr.small
  obtain ⟨ra, rk, rc, rfl⟩ := hr.shape
  obtain rfl : rk = r.length := by rcases hr with ⟨c, h, rfl⟩ | ⟨g, off, cap, h, -⟩ <;> cases h <;> rfl
  have hsp : ∃ (rr : Bytes) (k : Nat), rr.length = k ∧ BytesIn w (.slice ra k rc) rr ∧ k ≤ 200 ∧ ((¬ (200 : Int) < (r.length : Int) ∧ k = r.length ∧ True) ∨ ((200 : Int) < (r.length : Int) ∧ 1 ≤ k ∧ ∀ w, (Instr.slice 30 (.slice ra r.length rc) none (some (.int .i64 200)) none).run Try.prog w = .ok (.slice ra k rc) w)) := by
    by_cases g1 : 200 < r.length
    · exact ⟨r.take 200, 200, by rw [List.length_take]; omega, hr.take (by omega), Nat.le_refl _, .inr ⟨by omega, by omega, fun u => run_headB hr (n := 200) (by omega) u⟩⟩
    · exact ⟨r, r.length, rfl, hr, by omega, .inl ⟨by omega, rfl, trivial⟩⟩
  obtain ⟨z, hz⟩ : ∃ z, r.length = z := ⟨_, rfl⟩
  rw [hz] at hsp hrn ⊢
  clear hz hr
  obtain ⟨rr, k, hrk, hrr, hk200, hsp⟩ := hsp
  have HRK := Lib.hid hrk
  have HRR := Lib.hid hrr
  have HSP := Lib.hid hsp
  clear hrk hrr hsp
  go_enter Try.func7, Try.ntmps7
  go_wp2_with (go_at_call 11; refine HPL.out.mono ?_)
  rintro e W1 ⟨q, p, og, s, rfl, hP, hmost, hb⟩
  have HL := Lib.hid hP.log
  have HB := Lib.hid hb
  have HMO := Lib.hid hmost
  clear hP hb hmost HPL
  go_wp2_with (go_at_call 12; refine (live_any _).mono ?_)
  rintro e W2 ⟨rfl, hb2⟩
  have HL2 := Lib.hid (HL.out.after hb2)
  have HB2 : Hid (Below w.heap.size w W2) := HB.out.trans (hb2.mono HB.out.size)
  clear hb2 HL HB
  have HND : Hid (∀ W, Calls Try.prog 16 #[.int .i64 (k : Int)] W fun e w' => e = .returned (.int .i64 (need k : Nat)) ∧ w' = W) := fun W => by
    have := need_any (k : Int) W (by omega)
    rwa [Int.toNat_natCast] at this
  have HCL := Lib.hid (clean_any _ q og s W2 HL2.out)
  have hcf := clean_facts HL2.out (by rw [HMO.out]; omega)
  obtain ⟨cs, hcs⟩ : ∃ z, cleanS s = z := ⟨_, rfl⟩
  rw [hcs] at HCL hcf
  obtain ⟨nb, hnb, hlen, hle, -, hn24, hr24⟩ := hcf
  obtain ⟨f, hf⟩ : ∃ f : Int, (cs.most : Int) - ((cs.b.length / 64 : Nat) : Int) = f := ⟨_, rfl⟩
  have hf2 : (nb : Int) + f = (cs.most : Int) := by rw [← hf, hlen]; omega
  obtain ⟨A, hA⟩ : ∃ A, recs cs.b = A := ⟨_, rfl⟩
  obtain ⟨j, hj⟩ : ∃ j, A.length = j := ⟨_, rfl⟩
  rw [hA, hj] at hr24
  have hf0 : 0 ≤ f ∧ f ≤ 9223372036854775807 := by
    have h1 := HL2.out.most
    have h2 := HMO.out
    have h3 : cs.most = s.most := by rw [← hcs]; rfl
    omega
  have HF := Lib.hid hf
  have HF2 := Lib.hid hf2
  have HNB := Lib.hid hnb
  have HLN := Lib.hid hlen
  have HA := Lib.hid hA
  have HJ := Lib.hid hj
  obtain ⟨y, hy⟩ : ∃ y, need k = y := ⟨_, rfl⟩
  have hy17 : y ≤ 17 := by rw [← hy]; exact need_le k
  have HY := Lib.hid hy
  rw [hy] at HND
  clear hcs hnb hlen hle hn24 hf hf2 hA hj hy HMO
  rcases HSP.out with ⟨hx, rfl, hs1⟩ | ⟨hx, hk1, hs1⟩ <;>
  (
    go_wp2_with (go_at_call 25; refine HCL.out.mono ?_)
    rintro e W4 ⟨rfl, og4, hl4, ht4⟩
    have HL4 : Hid (IsLog w.heap.size W4 q og4 cs) := hl4
    have HB4 : Hid (Below w.heap.size w W4) := HB2.out.trans ht4.below
    have hrc := recsD_any _ q og4 cs W4 HL4.out
    rw [HA.out] at hrc
    have HRC := Lib.hid hrc
    clear hl4 ht4 HCL HL2 HB2 hrc
    go_wp2_with (go_at_call 19; refine HRC.out.mono ?_)
    rintro e W5 ⟨v5, rfl, hr5, hb5⟩
    obtain ⟨a5, c5, rfl⟩ := hr5.shape
    rw [HJ.out] at hr5 ⊢
    have HR5 : Hid (RecsIn W5 W4.heap.size (.slice a5 j c5) A) := hr5
    have HL5 := Lib.hid (HL4.out.after hb5)
    have HB5 : Hid (Below w.heap.size w W5) := HB4.out.trans (hb5.mono HB4.out.size)
    have hfr := free_any _ q og4 cs W5 HL5.out
    rw [HF.out] at hfr
    have HFR : Hid (Calls Try.prog 26 #[.pointer (some ⟨q, 0, none⟩)] W5 (FreeD f W5)) := hfr
    clear hr5 hb5 hfr HRC HL4 HB4
    go_wp2_with (go_at_call 26; refine HFR.out.mono ?_)
    rintro e W6 ⟨rfl, hb6⟩
    have HR6 := Lib.hid (HR5.out.after hb6)
    have HL6 := Lib.hid (HL5.out.after hb6)
    have HB6 : Hid (Below w.heap.size w W6) := HB5.out.trans (hb6.mono HB5.out.size)
    have hap := append_any _ q og4 cs (.slice ra k rc) rr W6 HL6.out (HRR.out.after HB6.out)
    have HAP0 := Lib.hid hap
    clear hb6 hap HFR HR5 HL5 HB5
    by_cases hbad : k = 0 ∨ (1 ≤ k ∧ f < (y : Int))
    · have happ : ∃ x : Int, appS cs rr = (x, cs) ∧ ((k = 0 ∧ x = 3) ∨ (1 ≤ k ∧ f < (y : Int) ∧ x = 7)) := by
        unfold appS
        rcases hbad with h0 | ⟨h1, h2⟩
        · exact ⟨3, if_pos (by rw [HRK.out, h0]; rfl), .inl ⟨h0, rfl⟩⟩
        · refine ⟨7, ?_, .inr ⟨h1, h2, rfl⟩⟩
          rw [if_neg (by rw [HRK.out, need_pos h1 (by omega)]; omega), if_pos]
          have h3 := HF2.out
          rw [HLN.out, HRK.out, HY.out]
          omega
      obtain ⟨x, happ, hx3⟩ := happ
      have HAP : Hid (Calls Try.prog 21 #[.pointer (some ⟨q, 0, none⟩), .slice ra k rc] W6 (DeedA w.heap.size q og4 W6 (x, cs))) := by rw [← happ]; exact HAP0.out
      clear happ HAP0 hbad
      have HX3 := Lib.hid hx3
      clear hx3
      go_wp2_with (go_at_call 21; refine HAP.out.mono ?_)
      rintro e W7 ⟨rfl, og7, hl7, ht7⟩
      have HR7 := Lib.hid (HR6.out.turn HL6.out ht7)
      have HB7 : Hid (Below w.heap.size w W7) := HB6.out.trans ht7.below
      have hrc := recsD_any _ q og7 cs W7 hl7
      rw [HA.out] at hrc
      have HRC := Lib.hid hrc
      clear hl7 ht7 hrc HAP HR6 HL6 HB6
      go_wp2_with (go_at_call 19; refine HRC.out.mono ?_)
      rintro e W8 ⟨v8, rfl, hr8, hb8⟩
      obtain ⟨a8, c8, rfl⟩ := hr8.shape
      rw [HJ.out] at hr8 ⊢
      have HB8 : Hid (Below w.heap.size w W8) := HB7.out.trans (hb8.mono HB7.out.size)
      have HSM : Hid (Calls Try.prog 23 #[.slice a5 j c5, .slice a8 j c8] W8 (YesD W8)) := same_yes a5 a8 c5 c8 j A W8 HJ.out (HR7.out.after hb8).rows.1 hr8.rows.1
      clear hr8 hb8 HRC HR7 HB7
      rcases HX3.out with ⟨rfl, rfl⟩ | ⟨h1, h2, rfl⟩
      · go_wp2_with (first | (go_at_call 16; refine (HND.out _).mono ?_; rintro e _ ⟨rfl, rfl⟩) | (go_at_call 23; refine HSM.out.mono ?_; rintro e W9 ⟨rfl, hb9⟩))
        go_ret
        exact ⟨rfl, HB8.out.trans (hb9.mono HB8.out.size)⟩
      · have h1' : ¬ k = 0 := by omega
        have h1'' : ¬ (k : Int) = 0 := by omega
        have h1b : ((k : Int) == 0) = false := by simpa using h1'
        go_wp2_with (first | (go_at_call 16; refine (HND.out _).mono ?_; rintro e _ ⟨rfl, rfl⟩) | (go_at_call 23; refine HSM.out.mono ?_; rintro e W9 ⟨rfl, hb9⟩))
        go_ret
        exact ⟨rfl, HB8.out.trans (hb9.mono HB8.out.size)⟩
    · have h1 : 1 ≤ k := by omega
      have h2 : ¬ f < (y : Int) := by omega
      have happ := apps_ok (r := rr) HNB.out HLN.out (by rw [HRK.out]; exact h1) (by rw [HRK.out]; exact hk200) (by have h3 := HF2.out; rw [HRK.out, HY.out]; omega)
      obtain ⟨s7, happ, hrcs, hln7, hmo7⟩ := happ
      rw [HA.out] at hrcs
      rw [HRK.out, HY.out] at hln7
      have HAP : Hid (Calls Try.prog 21 #[.pointer (some ⟨q, 0, none⟩), .slice ra k rc] W6 (DeedA w.heap.size q og4 W6 (0, s7))) := by rw [← happ]; exact HAP0.out
      have hfr7 : (s7.most : Int) - ((s7.b.length / 64 : Nat) : Int) = f - (y : Int) := by
        have h3 := HF2.out
        rw [hln7, hmo7]
        omega
      have HF7 := Lib.hid hfr7
      have HRS := Lib.hid hrcs
      clear happ HAP0 hbad hfr7 hln7 hmo7 hrcs
      go_wp2_with (go_at_call 21; refine HAP.out.mono ?_)
      rintro e W7 ⟨rfl, og7, hl7, ht7⟩
      have HR7 := Lib.hid (HR6.out.turn HL6.out ht7)
      have HB7 : Hid (Below w.heap.size w W7) := HB6.out.trans ht7.below
      have HL7 : Hid (IsLog w.heap.size W7 q og7 s7) := hl7
      have hrc := recsD_any _ q og7 s7 W7 hl7
      rw [HRS.out] at hrc
      have HRC := Lib.hid hrc
      clear hl7 ht7 hrc HAP HR6 HL6 HB6
      go_wp2_with (go_at_call 19; refine HRC.out.mono ?_)
      rintro e W8 ⟨v8, rfl, hr8, hb8⟩
      obtain ⟨A2, hA2⟩ : ∃ A2, A ++ [rr] = A2 := ⟨_, rfl⟩
      rw [hA2] at hr8
      have hj2 : A2.length = j + 1 := by rw [← hA2, List.length_append, HJ.out]; rfl
      obtain ⟨a8, c8, rfl⟩ := hr8.shape
      rw [hj2] at hr8 ⊢
      have HM2 := Lib.hid hj2
      have HPX : Hid (A = A2.take A.length) := by show A = A2.take A.length; rw [← hA2, List.take_left]
      have HEL : Hid (∀ h : j < A2.length, A2[j] = rr) := fun h => by subst hA2; rw [List.getElem_append_right (by rw [HJ.out]; omega)]; simp [HJ.out]
      have HB8 : Hid (Below w.heap.size w W8) := HB7.out.trans (hb8.mono HB7.out.size)
      have HLD : Hid (LogDrew w.heap.size W8 q og7 s7) := ⟨HL7.out.after hb8⟩
      have HR1 : Hid (RowsAt W8 a5 c5 A) := (HR7.out.after hb8).rows.1
      have hR2 : RowsAt W8 a8 c8 A2 := hr8.rows.1
      have hE := hR2.at (i := j) (by rw [hj2]; omega)
      obtain ⟨g2x, o2x, x2, rfl, hE⟩ := hE
      rw [HEL.out] at hE
      have HE := Lib.hid hE
      have HR2 := Lib.hid hR2
      have HX2 := Lib.hid hE.2.2.shape
      have HFD : Hid (∀ V, LogDrew w.heap.size V q og7 s7 → Calls Try.prog 26 #[.pointer (some ⟨q, 0, none⟩)] V (FreeD (f - (y : Int)) V)) := fun V h => by
        have := free_any _ q og7 s7 V h.log
        rwa [HF7.out] at this
      clear hr8 hb8 hR2 hE hA2 hj2 HRC HR7 HB7 HL7
      have h1'' : ¬ (k : Int) = 0 := by omega
      have h1b : ((k : Int) == 0) = false := by
        have : ¬ k = 0 := by omega
        simpa using this
      go_wp2_with (first | (go_at_call 16; refine (HND.out _).mono ?_; rintro e _ ⟨rfl, rfl⟩))
      refine wp_region_held_drew (S := fun V => Below w.heap.size w V ∧ LogDrew w.heap.size V q og7 s7 ∧ RowsAt V a5 c5 A ∧ RowsAt V (some ⟨g2x, o2x, none⟩) c8 A2 ∧ ElAt V g2x (o2x + j) x2 rr) (by kernel_rfl) ⟨HB8.out.drew, HLD.out.drew, HR1.out, HR2.out, HE.out⟩ (fun _ => ?_)
      refine HeldBy.gen (fun V => Below w.heap.size w V ∧ LogDrew w.heap.size V q og7 s7 ∧ RowsAt V a5 c5 A ∧ RowsAt V (some ⟨g2x, o2x, none⟩) c8 A2 ∧ ElAt V g2x (o2x + j) x2 rr) ⟨HB8.out.drew, HLD.out.drew, HR1.out, HR2.out, HE.out⟩ ?_
      clear HB8 HLD HR1 HR2 HE
      rintro U0 HS
      refine HeldBy.take (i := 0) rfl (by kernel_rfl) (by kernel_rfl) (by kernel_rfl) (fun _ _ _ h => h) (by rfl) (fun _ _ => by first | (go_simp; rfl) | (go_simp; done)) (by go_simp; rfl) HS ?_
      refine HeldBy.take (i := 1) rfl (by kernel_rfl) (by kernel_rfl) (by kernel_rfl) (fun _ _ _ h => h) (by rfl) (fun _ _ => by first | (go_simp; rfl) | (go_simp; done)) (by go_simp; rfl) HS ?_
      refine HeldBy.take (i := 2) rfl (by kernel_rfl) (by kernel_rfl) (by kernel_rfl) (fun _ _ _ h => h) (by rfl) (fun _ _ => by first | (go_simp; rfl) | (go_simp; done)) (by go_simp; rfl) HS ?_
      refine HeldBy.take (i := 3) rfl (by kernel_rfl) (by kernel_rfl) (by kernel_rfl) (fun _ _ _ h => h) (by rfl) (fun _ _ => by first | (go_simp; rfl) | (go_simp; done)) (by go_simp; rfl) HS ?_
      refine HeldBy.take (i := 4) rfl (by kernel_rfl) (by kernel_rfl) (by kernel_rfl) (fun _ _ _ h => h) (by rfl) (fun _ _ => by first | (go_simp; rfl) | (go_simp; done)) (by go_simp; rfl) HS ?_
      refine HeldBy.take (i := 5) rfl (by kernel_rfl) (by kernel_rfl) (by kernel_rfl) (fun _ _ _ h => h) (by rfl) (fun _ _ => by first | (go_simp; rfl) | (go_simp; done)) (by go_simp; rfl) HS ?_
      refine HeldBy.take (i := 6) rfl (by kernel_rfl) (by kernel_rfl) (by kernel_rfl) (fun _ _ _ h => h) (by rfl) (fun _ _ => by first | (go_simp; rfl) | (go_simp; done)) (by go_simp; rfl) HS ?_
      refine HeldBy.take (i := 7) (v := .int .i64 ((j : Int) + 1)) rfl (by kernel_rfl) (by kernel_rfl) (by kernel_rfl) (fun _ _ _ h => h) (by rfl) (fun _ _ => by go_simp; exact wrap_id (by omega) (by omega)) (by go_simp; rfl) HS ?_
      refine HeldBy.take (i := 8) (v := .bool true) rfl (by kernel_rfl) (by kernel_rfl) (by kernel_rfl) (fun _ _ _ h => h) (by rfl) (fun _ _ => by first | (go_simp; done) | (go_simp; rfl) | (go_simp; omega)) (by go_simp; rfl) HS ?_
      refine HeldBy.take (i := 9) rfl (by kernel_rfl) (by kernel_rfl) (by kernel_rfl) (fun _ _ _ h => h) (by rfl) (fun _ _ => by first | (go_simp; rfl) | (go_simp; done)) (by go_simp; rfl) HS ?_
      refine HeldBy.take (i := 10) rfl (by kernel_rfl) (by kernel_rfl) (by kernel_rfl) (fun _ _ _ h => h) (by rfl) (fun _ _ => by first | (go_simp; rfl) | (go_simp; done)) (by go_simp; rfl) HS ?_
      refine HeldBy.take (i := 11) rfl (by kernel_rfl) (by kernel_rfl) (by kernel_rfl) (fun _ _ _ h => h) (by rfl) (fun _ _ => by first | (go_simp; rfl) | (go_simp; done)) (by go_simp; rfl) HS ?_
      refine HeldBy.take (i := 12) rfl (by kernel_rfl) (by kernel_rfl) (by kernel_rfl) (fun _ _ _ h => h) (by rfl) (fun _ _ => by first | (go_simp; rfl) | (go_simp; done)) (by go_simp; rfl) HS ?_
      refine HeldBy.call (i := 13) (v := .bool true) rfl (by kernel_rfl) (by rfl) (by first | (go_simp; done) | (go_simp; first | exact ⟨rfl, rfl⟩ | rfl)) (by first | (go_simp; rfl) | (go_simp; done)) ?_
      refine (begins_yes _ _ _ _ _ _ A A2 _ HJ.out HM2.out HPX.out HS.2.2.1 HS.2.2.2.1).mono ?_
      rintro e U1 ⟨rfl, hb⟩
      replace HS : Below w.heap.size w U1 ∧ LogDrew w.heap.size U1 q og7 s7 ∧ RowsAt U1 a5 c5 A ∧ RowsAt U1 (some ⟨g2x, o2x, none⟩) c8 A2 ∧ ElAt U1 g2x (o2x + j) x2 rr := ⟨HS.1.trans (hb.mono HS.1.size), HS.2.1.after hb, HS.2.2.1.after hb, HS.2.2.2.1.after hb, HS.2.2.2.2.after hb⟩
      refine ⟨rfl, HS, ?_⟩
      clear hb
      refine HeldBy.take (i := 14) rfl (by kernel_rfl) (by kernel_rfl) (by kernel_rfl) (fun _ _ _ h => h) (by rfl) (fun _ _ => by first | (go_simp; rfl) | (go_simp; done)) (by go_simp; rfl) HS ?_
      refine HeldBy.take (i := 15) rfl (by kernel_rfl) (by kernel_rfl) (by kernel_rfl) (fun _ _ _ h => h) (by rfl) (fun _ _ => by first | (go_simp; rfl) | (go_simp; done)) (by go_simp; rfl) HS ?_
      refine HeldBy.take (i := 16) rfl (by kernel_rfl) (by kernel_rfl) (by kernel_rfl) (fun _ _ _ h => h) (by rfl) (fun _ _ => by first | (go_simp; rfl) | (go_simp; done)) (by go_simp; rfl) HS ?_
      refine HeldBy.take (i := 17) rfl (by kernel_rfl) (by kernel_rfl) (by kernel_rfl) (fun _ _ _ h => h) (by rfl) (fun _ _ => by first | (go_simp; rfl) | (go_simp; done)) (by go_simp; rfl) HS ?_
      refine HeldBy.take (i := 18) rfl (by kernel_rfl) (by kernel_rfl) (by kernel_rfl) (fun _ _ _ h => h) (by rfl) (fun _ _ => by first | (go_simp; rfl) | (go_simp; done)) (by go_simp; rfl) HS ?_
      refine HeldBy.take (i := 19) (v := .pointer (some ⟨g2x, o2x + j, none⟩)) rfl (by kernel_rfl) (by kernel_rfl) (by kernel_rfl) (fun _ _ _ h => h) (by rfl) (fun _ _ => by go_simp; intro h; omega) (by go_simp; rfl) HS ?_
      refine HeldBy.take (i := 20) (v := x2) rfl (by kernel_rfl) (by kernel_rfl) (by kernel_rfl) (fun _ _ _ h => h) (by rfl) (fun V hV => exec_el hV.2.2.2.2 rfl rfl HX2.out) (by go_simp; rfl) HS ?_
      refine HeldBy.take (i := 21) (v := .string ⟨rr.toArray⟩) rfl (by kernel_rfl) (by kernel_rfl) (by kernel_rfl) (fun _ _ _ h => h) (by rfl) (fun V hV => exec_str hV.2.2.2.2.2.2 rfl rfl) (by go_simp; rfl) HS ?_
      refine HeldBy.take (i := 22) rfl (by kernel_rfl) (by kernel_rfl) (by kernel_rfl) (fun _ _ _ h => h) (by rfl) (fun _ _ => by first | (go_simp; rfl) | (go_simp; done)) (by go_simp; rfl) HS ?_
      refine HeldBy.take (i := 23) (v := .string ⟨rr.toArray⟩) rfl (by kernel_rfl) (by kernel_rfl) (by kernel_rfl) (fun _ _ _ h => h) (by rfl) (fun V hV => exec_str (HRR.out.after hV.1) rfl rfl) (by go_simp; rfl) HS ?_
      refine HeldBy.take (i := 24) (v := .bool true) rfl (by kernel_rfl) (by kernel_rfl) (by kernel_rfl) (fun _ _ _ h => h) (by rfl) (fun _ _ => exec_eql_str rfl rfl rfl (decide_eq_true rfl)) (by go_simp; rfl) HS ?_
      refine HeldBy.take (i := 25) rfl (by kernel_rfl) (by kernel_rfl) (by kernel_rfl) (fun _ _ _ h => h) (by rfl) (fun _ _ => by first | (go_simp; rfl) | (go_simp; done)) (by go_simp; rfl) HS ?_
      refine HeldBy.take (i := 26) rfl (by kernel_rfl) (by kernel_rfl) (by kernel_rfl) (fun _ _ _ h => h) (by rfl) (fun _ _ => by first | (go_simp; rfl) | (go_simp; done)) (by go_simp; rfl) HS ?_
      refine HeldBy.take (i := 27) rfl (by kernel_rfl) (by kernel_rfl) (by kernel_rfl) (fun _ _ _ h => h) (by rfl) (fun _ _ => by first | (go_simp; rfl) | (go_simp; done)) (by go_simp; rfl) HS ?_
      refine HeldBy.take (i := 29) rfl (by kernel_rfl) (by kernel_rfl) (by kernel_rfl) (fun _ _ _ h => h) (by rfl) (fun _ _ => by first | (go_simp; rfl) | (go_simp; done)) (by go_simp; rfl) HS ?_
      refine HeldBy.take (i := 30) rfl (by kernel_rfl) (by kernel_rfl) (by kernel_rfl) (fun _ _ _ h => h) (by rfl) (fun _ _ => by first | (go_simp; rfl) | (go_simp; done)) (by go_simp; rfl) HS ?_
      refine HeldBy.take (i := 31) (v := .int .i64 (f - (y : Int))) rfl (by kernel_rfl) (by kernel_rfl) (by kernel_rfl) (fun _ _ _ h => h) (by rfl) (fun _ _ => by go_simp; exact wrap_id (by omega) (by omega)) (by go_simp; rfl) HS ?_
      refine HeldBy.call (i := 28) (v := .int .i64 (f - (y : Int))) rfl (by kernel_rfl) (by rfl) (by first | (go_simp; done) | (go_simp; first | exact ⟨rfl, rfl⟩ | rfl)) (by first | (go_simp; rfl) | (go_simp; done)) ?_
      refine (HFD.out _ HS.2.1).mono ?_
      rintro e U2 ⟨rfl, hb⟩
      replace HS : Below w.heap.size w U2 ∧ LogDrew w.heap.size U2 q og7 s7 ∧ RowsAt U2 a5 c5 A ∧ RowsAt U2 (some ⟨g2x, o2x, none⟩) c8 A2 ∧ ElAt U2 g2x (o2x + j) x2 rr := ⟨HS.1.trans (hb.mono HS.1.size), HS.2.1.after hb, HS.2.2.1.after hb, HS.2.2.2.1.after hb, HS.2.2.2.2.after hb⟩
      refine ⟨rfl, HS, ?_⟩
      clear hb
      refine HeldBy.take (i := 32) (v := .bool true) rfl (by kernel_rfl) (by kernel_rfl) (by kernel_rfl) (fun _ _ _ h => h) (by rfl) (fun _ _ => by first | (go_simp; done) | (go_simp; rfl) | (go_simp; omega)) (by go_simp; rfl) HS ?_
      refine HeldBy.take (i := 33) rfl (by kernel_rfl) (by kernel_rfl) (by kernel_rfl) (fun _ _ _ h => h) (by rfl) (fun _ _ => by first | (go_simp; rfl) | (go_simp; done)) (by go_simp; rfl) HS ?_
      refine HeldBy.take (i := 34) rfl (by kernel_rfl) (by kernel_rfl) (by kernel_rfl) (fun _ _ _ h => h) (by rfl) (fun _ _ => by first | (go_simp; rfl) | (go_simp; done)) (by go_simp; rfl) HS ?_
      refine wpAnyH_done (by kernel_rfl) ?_ _
      have HB9 : Hid (Below w.heap.size w U2) := HS.1
      clear HS
      go_wp2
      go_ret
      exact ⟨rfl, HB9.out⟩)
end Go.Proofs.Ytfiahkomabllaaa.L
