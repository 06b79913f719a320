/- The law BlocksSynced: it answers true. -/
import Derived.Test.YtfiahkomabllaaaRAppends
namespace Go.Proofs.Ytfiahkomabllaaa.L
open Go Go.RowKit
open Go.Lib

theorem Begin.pre {L A : List Bytes} {b : Bytes} {n : Nat} (h : Begin L b n) (k : All A b n) : L <+: A := by
  induction L generalizing A b n with
  | nil => exact List.nil_prefix
  | cons x L ih =>
    cases A with
    | nil =>
      have h2 : first b n = none := by simpa [blks] using k.2
      rw [h.1] at h2
      cases h2
    | cons y M =>
      obtain rfl : x = y := Option.some.inj (h.1.symm.trans k.1.1)
      have ht : All M (b.drop (need x.length * 64)) (n + 1) := by
        refine ⟨k.1.2, ?_⟩
        have := k.2
        rw [List.drop_drop]
        have e1 : need x.length * 64 + blks M * 64 = blks (x :: M) * 64 := by rw [blks_cons]; omega
        have e2 : n + 1 + M.length = n + (x :: M).length := by rw [List.length_cons]; omega
        rw [e1, e2]
        exact this
      exact List.cons_prefix_cons.2 ⟨rfl, ih h.2 ht⟩
theorem recs_pre {b c : Bytes} (h : b <+: c) : recs b = (recs c).take (recs b).length := by
  obtain ⟨x, rfl⟩ := h
  exact List.prefix_iff_eq_take.1 ((begin_more (recs_all b).1 x).pre (recs_all _))
theorem app_pre (s : Lg) (r : Bytes) : s.b <+: (appS s r).2.b ∧ (appS s r).2.last = s.last ∧ (appS s r).2.most = s.most := by
  unfold appS
  split
  · exact ⟨List.prefix_refl _, rfl, rfl⟩
  · split
    · exact ⟨List.prefix_refl _, rfl, rfl⟩
    · exact ⟨List.prefix_append _ _, rfl, rfl⟩
theorem left_pre {s : Lg} {b : Bytes} {k : Nat} (hb : b <+: s.b) (hk : b.length = k * 64) (hl : s.last = k) (kp tn : Int) : b <+: leftB s kp tn := by
  obtain ⟨x, hx⟩ := hb
  unfold leftB
  refine List.IsPrefix.trans ?_ (List.prefix_append _ _)
  rw [← hx, List.take_append, List.take_of_length_le (by unfold stayN; omega)]
  exact List.prefix_append _ _
theorem head_str {l b : Bytes} (h : l.take b.length = b) : ((⟨l.toArray⟩ : ByteArray).extract 0 b.length).toList = b := by
  rw [ByteArray.toList_eq, ByteArray.data_extract]
  show (l.toArray.extract 0 b.length).toList = b
  rw [Array.toList_extract]
  simpa using h
/-- What the loop keeps. -/
def SyncI (B : Nat) (w W : World) (q k : Nat) (b : Bytes) (C : Nat) (v : Value) (A : List Bytes) : Prop := ∃ og s, IsLog B W q og s ∧ s.last = k ∧ b <+: s.b ∧ RecsIn W C v A ∧ Below w.heap.size w W
/-- The bytes of a deed in its row. -/
theorem deed_cell {W : World} {g off i : Nat} {kd kp tn sv : Value} (h : W.rangeAt g (off + i * 4) [kd, kp, tn, sv]) : W.cell? ⟨g, off + i * 4 + 3, none⟩ = some sv := h 3 sv rfl
set_option maxRecDepth 100000 in
set_option maxHeartbeats 2000000 in
theorem synced_law (a1 a2 : Option Addr) (m1 c1 m2 c2 : Nat) (kd kp tn : Int) (sv : Value) (w : World) (hD1 : DeedsAt w a1 m1) (hm1 : m1 ≤ 9223372036854775807) (hD2 : DeedsAt w a2 m2) (hm2 : m2 ≤ 9223372036854775807) :
    Calls Try.prog 5 #[.slice a1 m1 c1, .slice a2 m2 c2, .agg #[.int .i64 kd, .int .i64 kp, .int .i64 tn, sv]] w fun e w' => e = .returned (.bool true) ∧ Below w.heap.size w w' := by
  obtain ⟨q0, hq0⟩ : ∃ q, w.heap.size = q := ⟨_, rfl⟩
  obtain ⟨W0, hW0⟩ : ∃ U, U = w.alloc (.cells #[.int .i64 kd, .int .i64 kp, .int .i64 tn, sv] tD (0, 0)) := ⟨_, rfl⟩
  have hb0 : Below w.heap.size w W0 := by rw [hW0]; exact (Below.refl _ _).alloc (Nat.le_refl _) _
  have hbox : W0.heap[q0]? = some (.cells #[.int .i64 kd, .int .i64 kp, .int .i64 tn, sv] tD (0, 0)) := by rw [hW0, ← hq0]; exact heap_alloc_new w _
  have hlt0 : q0 < W0.heap.size := (Array.getElem?_eq_some_iff.1 hbox).1
  have HD1 : Hid (∀ V, Below W0.heap.size W0 V → V.cell? ⟨q0, 1, none⟩ = some (.int .i64 kp)) := fun V hV => (hV.cell (p := ⟨q0, 1, none⟩) hlt0).trans ((cell_of_row W0 q0 1 _ _ _ hbox).trans rfl)
  have HD2 : Hid (∀ V, Below W0.heap.size W0 V → V.cell? ⟨q0, 2, none⟩ = some (.int .i64 tn)) := fun V hV => (hV.cell (p := ⟨q0, 2, none⟩) hlt0).trans ((cell_of_row W0 q0 2 _ _ _ hbox).trans rfl)
  have HM := Lib.hid (hD2.after hb0)
  have HB0 := Lib.hid hb0
  have hpl := play_any 23 (by omega) a1 m1 c1 W0 (hD1.after hb0) hm1
  have HPL : Hid (Calls Try.prog 11 #[.int .u8 23, .slice a1 m1 c1] (w.alloc (.cells #[.int .i64 kd, .int .i64 kp, .int .i64 tn, sv] tD (0, 0))) (PlayA 24 W0)) := by rw [← hW0]; exact hpl
  clear hD1 hD2 hb0 hbox hW0 hpl
  go_enter Try.func5, Try.ntmps5
  go_wp2_with (go_at_call 11; refine HPL.out.mono ?_)
  rintro e W1 ⟨q, p, og, s, rfl, hP, -, hb⟩
  have HL := Lib.hid hP.log
  have HB := Lib.hid hb
  clear hP hb HPL
  go_wp2_with (go_at_call 12; refine (live_any _).mono ?_)
  rintro e W2 ⟨rfl, hb2⟩
  have hl2 := HL.out.after hb2
  have HB2 : Hid (Below W0.heap.size W0 W2) := HB.out.trans (hb2.mono HB.out.size)
  have HSY := Lib.hid (syncD_any _ q og s W2 hl2)
  obtain ⟨k, hk⟩ : ∃ k, s.b.length = k * 64 := by
    obtain ⟨v, kk, l1, l2, l3, l4, l5⟩ := hl2.at_
    exact ⟨kk, by have := l2.1; omega⟩
  rw [show s.b.length / 64 = k by omega] at HSY
  obtain ⟨b, hbe⟩ : ∃ b, s.b = b := ⟨_, rfl⟩
  rw [hbe] at HSY hk
  obtain ⟨A, hA⟩ : ∃ A, recs b = A := ⟨_, rfl⟩
  obtain ⟨j, hj⟩ : ∃ j, A.length = j := ⟨_, rfl⟩
  have HK := Lib.hid hk
  have HA := Lib.hid hA
  have HJ := Lib.hid hj
  clear hb2 hl2 HL HB hk hbe hA hj
  go_wp2_with (go_at_call 18; refine HSY.out.mono ?_)
  rintro e W3 ⟨rfl, hl3, ht3⟩
  obtain ⟨s3, hs3⟩ : ∃ z : Lg, (⟨s.most, k, b⟩ : Lg) = z := ⟨_, rfl⟩
  rw [hs3] at hl3
  have hs3b : s3.b = b ∧ s3.last = k := by rw [← hs3]; exact ⟨rfl, rfl⟩
  have HS3 := Lib.hid hs3b
  have HW : Hid (Below W0.heap.size W0 W3) := HB2.out.trans ht3.below
  have HLD : Hid (LogDrew W0.heap.size W3 q og s3) := ⟨hl3⟩
  have HBY : Hid (∀ V, LogDrew W0.heap.size V q og s3 → Calls Try.prog 20 #[.pointer (some ⟨q, 0, none⟩)] V (BytesR b V)) := fun V h => by rw [← HS3.out.1]; exact bytes_any _ q og s3 V h.log
  have HRC : Hid (∀ V, LogDrew W0.heap.size V q og s3 → Calls Try.prog 19 #[.pointer (some ⟨q, 0, none⟩)] V (RecsR A V)) := fun V h => by rw [← HA.out, ← HS3.out.1]; exact records_any _ q og s3 V h.log
  clear hl3 ht3 hs3 hs3b HSY HB2
  go_wp2
  refine wp_region_held_drew (S := fun V => Below W0.heap.size W0 V) (by kernel_rfl) HW.out.drew (fun _ => ?_)
  refine HeldBy.gen (fun V => (Below W0.heap.size W0 V) ∧ (LogDrew W0.heap.size V q og s3)) ⟨HW.out.drew, HLD.out.drew⟩ ?_
  clear HW HLD
  rintro U0 ⟨HS, HLD⟩
  refine HeldBy.take (i := 0) rfl (by kernel_rfl) (by kernel_rfl) (by kernel_rfl) (fun _ _ _ h => h) (by rfl) (fun _ _ => by first | (go_simp; rfl) | (go_simp; done)) (by first | (go_simp; rfl) | (go_simp; done)) HS ?_
  refine HeldBy.take (i := 2) rfl (by kernel_rfl) (by kernel_rfl) (by kernel_rfl) (fun _ _ _ h => h) (by rfl) (fun _ _ => by first | (go_simp; rfl) | (go_simp; done)) (by first | (go_simp; rfl) | (go_simp; done)) HS ?_
  refine HeldBy.callW (i := 1) rfl (by kernel_rfl) (by rfl) (by first | (go_simp; done) | (go_simp; first | exact ⟨rfl, rfl⟩ | rfl)) (HRC.out U0 HLD) ?_
  rintro r1 U1 ⟨hr1, hb1⟩
  have HS1 : Below W0.heap.size W0 U1 := HS.trans (hb1.mono HS.size)
  have HL1 := HLD.after hb1
  refine ⟨HS1, ?_⟩
  refine HeldBy.callW (i := 3) rfl (by kernel_rfl) (by rfl) (by first | (go_simp; done) | (go_simp; first | exact ⟨rfl, rfl⟩ | rfl)) (HBY.out U1 HL1) ?_
  rintro r2 U2 ⟨hr2, hb2⟩
  have HS2 : Below W0.heap.size W0 U2 := HS1.trans (hb2.mono HS1.size)
  have HL2 := HL1.after hb2
  refine ⟨HS2, ?_⟩
  refine HeldBy.take (i := 5) rfl (by kernel_rfl) (by kernel_rfl) (by kernel_rfl) (fun _ _ _ h => h) (by rfl) (fun _ _ => by first | (go_simp; rfl) | (go_simp; done)) (by first | (go_simp; rfl) | (go_simp; done)) HS2 ?_
  refine HeldBy.value (i := 4) (v := .string ⟨b.toArray⟩) rfl (by kernel_rfl) (by rfl) (exec_str hr2.bytes rfl rfl) (by first | (go_simp; rfl) | (go_simp; done)) HS2 ?_
  refine HeldBy.take (i := 6) rfl (by kernel_rfl) (by kernel_rfl) (by kernel_rfl) (fun _ _ _ h => h) (by rfl) (fun _ _ => by first | (go_simp; rfl) | (go_simp; done)) (by first | (go_simp; rfl) | (go_simp; done)) HS2 ?_
  refine wpAnyH_done (by kernel_rfl) ?_ _
  have hr1b := hr1.stay hb2
  obtain ⟨a5, c5, rfl⟩ := hr1b.shape
  rw [HJ.out] at hr1b
  have HI : Hid (SyncI W0.heap.size W0 U2 q k b U0.heap.size (.slice a5 j c5) A) := ⟨og, s3, HL2.log, HS3.out.2, by rw [HS3.out.1]; exact List.prefix_refl _, hr1b, HS2⟩
  rw [HJ.out]
  clear hr1 hr2 hr1b hb1 hb2 HS HS1 HS2 HLD HL1 HL2 HBY HRC
  go_wp2
  go_loopw [12] (fun iv wr => ∃ i : Nat, i ≤ m2 ∧ i ≤ 20 ∧ iv = .int .i64 (i : Int) ∧ SyncI W0.heap.size W0 wr q k b U0.heap.size (.slice a5 j c5) A) (fun iv _ => 20 - (RowKit.intOf iv).toNat)
  case atStart => exact ⟨0, by omega, by omega, rfl, HI.out⟩
  case round =>
    clear HI
    obtain ⟨i, him, hi20, rfl, og2, s2, hl, hla, hpr, hrs, hB⟩ := hrel
    have HL := Lib.hid hl
    have HLA : Hid (s2.last = k) := hla
    have HPR := Lib.hid hpr
    have HRS := Lib.hid hrs
    have HB := Lib.hid hB
    clear hl hla hpr hrs hB
    by_cases hp : i < m2 ∧ i < 20
    · obtain ⟨hp1, hp2⟩ := hp
      have hp1' : (i : Int) < (m2 : Int) := by omega
      have hp2' : (i : Int) < 20 := by omega
      obtain ⟨g, off, kd2, kp2, tn2, sv2, l, rfl, h1, h2, h3⟩ := HM.out i hp1
      obtain ⟨⟨pv, cv, rfl⟩, -⟩ := id h3
      have hcell : wr.cell? ⟨g, off + i * 4 + 3, none⟩ = some (.slice pv l.length cv) := deed_cell (fun j u hu => (HB.out.cell (p := ⟨g, off + i * 4 + j, none⟩) h1).trans (h2 j u hu))
      have HV := Lib.hid (h3.after HB.out)
      have HAP := Lib.hid (append_arg W0.heap.size q og2 s2 (.slice pv l.length cv) l wr HL.out HV.out)
      have hap := app_pre s2 l
      have HAQ := Lib.hid hap
      obtain ⟨x, hx⟩ : ∃ x, appS s2 l = x := ⟨_, rfl⟩
      rw [hx] at HAP HAQ
      clear h1 h2 h3 hap hx
      by_cases g1 : l.length ≤ 200
      · have g1' : (l.length : Int) ≤ 200 := by omega
        go_wp2_with (go_at_call 21; refine HAP.out.mono ?_)
        rintro e W5 ⟨rfl, og5, hl5, ht5⟩
        have HN : Hid (SyncI W0.heap.size W0 W5 q k b U0.heap.size (.slice a5 j c5) A) := ⟨og5, _, hl5, HAQ.out.2.1.trans HLA.out, HPR.out.trans HAQ.out.1, HRS.out.turn HL.out ht5, HB.out.trans ht5.below⟩
        clear hl5 ht5 HAP HAQ hcell
        go_wp2
        exact ⟨⟨i + 1, by omega, by omega, by go_num, HN.out⟩, by simp [RowKit.intOf]; omega⟩
      · have g1' : ¬ (l.length : Int) ≤ 200 := by omega
        go_wp2
        exact ⟨⟨i + 1, by omega, by omega, by go_num, og2, s2, HL.out, HLA.out, HPR.out, HRS.out, HB.out⟩, by simp [RowKit.intOf]; omega⟩
    · have hx : ¬ (i : Int) < (m2 : Int) ∨ ((i : Int) < (m2 : Int) ∧ ¬ (i : Int) < 20) := by omega
      clear hp
      have HRC : Hid (Calls Try.prog 19 #[.pointer (some ⟨q, 0, none⟩)] wr (RecsD (recs s2.b) wr)) := recsD_any _ q og2 s2 wr HL.out
      obtain ⟨A2, hA2⟩ : ∃ A2, recs s2.b = A2 := ⟨_, rfl⟩
      obtain ⟨j2, hj2⟩ : ∃ j, A2.length = j := ⟨_, rfl⟩
      have hp2 : A = A2.take A.length := by
        have := recs_pre HPR.out
        rw [HA.out, hA2] at this
        exact this
      have HP2 := Lib.hid hp2
      have HJ2 := Lib.hid hj2
      have HA2 := Lib.hid hA2
      clear hA2 hj2 hp2
      rcases hx with hx | ⟨hx, hx2⟩ <;>
      (
        go_wp2_with (go_at_call 19; refine HRC.out.mono ?_)
        rintro e W6 ⟨v6, rfl, hr6, hb6⟩
        rw [HA2.out] at hr6
        obtain ⟨a6, c6, rfl⟩ := hr6.shape
        rw [HJ2.out] at hr6 ⊢
        have HL6 := Lib.hid (HL.out.after hb6)
        have HR6 : Hid (RecsIn W6 wr.heap.size (.slice a6 j2 c6) A2) := hr6
        have HRS6 := Lib.hid (HRS.out.after hb6)
        have HB6 : Hid (Below W0.heap.size W0 W6) := HB.out.trans (hb6.mono HB.out.size)
        have d1 := HD1.out W6 HB6.out
        have d2 := HD2.out W6 HB6.out
        clear hr6 hb6 HRC HL HRS HB
        by_cases hbad : kp < 0 ∨ tn < 0 ∨ 64 < tn
        · have hcr := crash_no W0.heap.size q og2 s2 kp tn W6 HL6.out hbad
          rw [show crashS s2 kp tn = (3, s2) from if_pos hbad] at hcr
          have HCR := Lib.hid hcr
          clear hcr hbad
          go_wp2_with (go_at_call 22; refine HCR.out.mono ?_)
          rintro e W7 ⟨rfl, og7, hl7, ht7⟩
          have HR7 := Lib.hid (HR6.out.turn HL6.out ht7)
          have HB7 : Hid (Below W0.heap.size W0 W7) := HB6.out.trans ht7.below
          have hrc := recsD_any _ q og7 s2 W7 hl7
          rw [HA2.out] at hrc
          have HRC := Lib.hid hrc
          clear hl7 ht7 hrc HCR HR6 HL6 HB6 d1 d2
          go_wp2_with (go_at_call 19; refine HRC.out.mono ?_)
          rintro e W8 ⟨v8, rfl, hr8, hb8⟩
          obtain ⟨a8, c8, rfl⟩ := hr8.shape
          rw [HJ2.out] at hr8 ⊢
          have HB8 : Hid (Below W0.heap.size W0 W8) := HB7.out.trans (hb8.mono HB7.out.size)
          have HSM : Hid (Calls Try.prog 23 #[.slice a6 j2 c6, .slice a8 j2 c8] W8 (YesD W8)) := same_yes a6 a8 c6 c8 j2 A2 W8 HJ2.out (HR7.out.after hb8).rows.1 hr8.rows.1
          clear hr8 hb8 HRC HR7 HB7
          go_wp2_with (go_at_call 23; refine HSM.out.mono ?_)
          rintro e W9 ⟨rfl, hb9⟩
          have HB9 : Hid (Below W0.heap.size W0 W9) := HB8.out.trans (hb9.mono HB8.out.size)
          clear hb9 HSM HB8
          go_wp2
          go_ret
          exact ⟨rfl, HB0.out.trans (HB9.out.mono HB0.out.size)⟩
        · have hk0 : 0 ≤ kp := by omega
          have ht0 : 0 ≤ tn := by omega
          have ht64 : tn ≤ 64 := by omega
          have hcr := crash_ok W0.heap.size q og2 s2 kp tn W6 HL6.out hk0 ht0 ht64
          rw [show crashS s2 kp tn = (0, ⟨s2.most, (leftB s2 kp tn).length / 64, leftB s2 kp tn⟩) from if_neg hbad] at hcr
          have hlp := left_pre HPR.out HK.out HLA.out kp tn
          obtain ⟨lb, hlb⟩ : ∃ lb, leftB s2 kp tn = lb := ⟨_, rfl⟩
          rw [hlb] at hcr hlp
          obtain ⟨s7, hs7⟩ : ∃ z : Lg, (⟨s2.most, lb.length / 64, lb⟩ : Lg) = z := ⟨_, rfl⟩
          rw [hs7] at hcr
          have hs7b : s7.b = lb := by rw [← hs7]
          have HS7 := Lib.hid hs7b
          have HLP := Lib.hid hlp
          have HCR := Lib.hid hcr
          clear hcr hbad hlp hlb hs7 hs7b hk0 ht0 ht64
          go_wp2_with (go_at_call 22; refine HCR.out.mono ?_)
          rintro e W7 ⟨rfl, og7, hl7, ht7⟩
          have HL7 : Hid (IsLog W0.heap.size W7 q og7 s7) := hl7
          have HRS7 := Lib.hid (HRS6.out.turn HL6.out ht7)
          have HR7 := Lib.hid (HR6.out.turn HL6.out ht7)
          have HB7 : Hid (Below W0.heap.size W0 W7) := HB6.out.trans ht7.below
          have hby := bytes_any _ q og7 s7 W7 hl7
          rw [HS7.out] at hby
          have HBY : Hid (Calls Try.prog 20 #[.pointer (some ⟨q, 0, none⟩)] W7 (BytesR lb W7)) := hby
          clear hl7 ht7 hby HCR HRS6 HR6 HL6 HB6 d1 d2
          go_wp2_with (go_at_call 20; refine HBY.out.mono ?_)
          rintro e W8 ⟨v8, rfl, hh8, hb8⟩
          have hx8 := hh8.bytes
          have HX8 := Lib.hid hx8
          have HRS8 := Lib.hid (HRS7.out.after hb8)
          have HR8 := Lib.hid (HR7.out.after hb8)
          have HL8 := Lib.hid (HL7.out.after hb8)
          have HB8 : Hid (Below W0.heap.size W0 W8) := HB7.out.trans (hb8.mono HB7.out.size)
          have hrc := recsD_any _ q og7 s7 W8 HL8.out
          rw [HS7.out] at hrc
          obtain ⟨A3, hA3⟩ : ∃ A3, recs lb = A3 := ⟨_, rfl⟩
          obtain ⟨j3, hj3⟩ : ∃ j, A3.length = j := ⟨_, rfl⟩
          have hp3 : A = A3.take A.length := by
            have := recs_pre HLP.out
            rw [HA.out, hA3] at this
            exact this
          rw [hA3] at hrc
          have HRC := Lib.hid hrc
          have HP3 := Lib.hid hp3
          have HJ3 := Lib.hid hj3
          have hlen : b.length ≤ lb.length := HLP.out.length_le
          have hlen' : (b.length : Int) ≤ (lb.length : Int) := by omega
          have htk : lb.take b.length = b := (List.prefix_iff_eq_take.1 HLP.out).symm
          have HTK := Lib.hid htk
          have hcs : (convert 30 9 v8).run Try.prog W8 = .ok (.string ⟨lb.toArray⟩) W8 := hx8.str 9 Try.underlying9
          clear hh8 hb8 hx8 hrc hA3 hj3 hp3 htk HBY HRS7 HR7 HL7 HB7
          go_wp2_with (go_at_call 19; refine HRC.out.mono ?_)
          rintro e W9 ⟨v9, rfl, hr9, hb9⟩
          obtain ⟨a9, c9, rfl⟩ := hr9.shape
          rw [HJ3.out] at hr9 ⊢
          have HB9 : Hid (Below W0.heap.size W0 W9) := HB8.out.trans (hb9.mono HB8.out.size)
          have HRS9 : Hid (RowsAt W9 a5 c5 A) := (HRS8.out.after hb9).rows.1
          have HR9 : Hid (RowsAt W9 a6 c6 A2) := (HR8.out.after hb9).rows.1
          have HG1 : Hid (Calls Try.prog 24 #[.slice a5 j c5, .slice a9 j3 c9] W9 (YesD W9)) := begins_yes a5 a9 c5 c9 j j3 A A3 W9 HJ.out HJ3.out HP3.out HRS9.out hr9.rows.1
          clear hr9 hb9 hcs HRC HRS8 HR8 HL8 HB8
          go_wp2_with (go_at_call 24; refine HG1.out.mono ?_)
          rintro e W10 ⟨rfl, hb10⟩
          have HB10 : Hid (Below W0.heap.size W0 W10) := HB9.out.trans (hb10.mono HB9.out.size)
          have HG2 : Hid (Calls Try.prog 24 #[.slice a5 j c5, .slice a6 j2 c6] W10 (YesD W10)) := begins_yes a5 a6 c5 c6 j j2 A A2 W10 HJ.out HJ2.out HP2.out (HRS9.out.after hb10) (HR9.out.after hb10)
          clear hb10 HG1 HRS9 HR9 HB9
          have htk2 := head_str HTK.out
          go_wp2_with (go_at_call 24; refine HG2.out.mono ?_)
          rintro e W11 ⟨rfl, hb11⟩
          have HB11 : Hid (Below W0.heap.size W0 W11) := HB10.out.trans (hb11.mono HB10.out.size)
          clear hb11 HG2 HB10
          go_wp2
          go_ret
          exact ⟨rfl, HB0.out.trans (HB11.out.mono HB0.out.size)⟩)
end Go.Proofs.Ytfiahkomabllaaa.L
