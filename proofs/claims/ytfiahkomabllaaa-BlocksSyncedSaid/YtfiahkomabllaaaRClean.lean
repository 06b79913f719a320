/- The law BlocksClean: it answers true. -/
import Derived.Test.YtfiahkomabllaaaRSame
namespace Go.Proofs.Ytfiahkomabllaaa.L
open Go Go.RowKit
open Go.Lib

theorem blks_take (A : List Bytes) (i : Nat) : blks (A.take i) ≤ blks A := by
  have h : blks (A.take i ++ A.drop i) = blks A := by rw [List.take_append_drop]
  rw [blks_append] at h
  omega
theorem blks_take_one {A : List Bytes} {i : Nat} (h : i < A.length) : blks (A.take (i + 1)) = blks (A.take i) + need A[i].length := by
  rw [List.take_add_one, List.getElem?_eq_getElem h, blks_append]
  rfl
/-- What Free answers; what Same does. -/
def FreeD (x : Int) (w : World) (e : Ending) (w' : World) : Prop := e = .returned (.int .i64 x) ∧ Below w.heap.size w w'
def YesD (w : World) (e : Ending) (w' : World) : Prop := e = .returned (.bool true) ∧ Below w.heap.size w w'
theorem Held.len {W : World} {B : Nat} {a : Option Addr} {k c : Nat} {l : Bytes} (h : Held W B (.slice a k c) l) : k = l.length := by
  rcases h.2 with ⟨e, h0⟩ | ⟨g, cap, cur, e, -⟩
  · cases e; exact h0.symm
  · cases e; rfl
set_option maxRecDepth 100000 in
set_option maxHeartbeats 1000000 in
theorem clean_law (n : Int) (hn : 0 ≤ n ∧ n ≤ 255) (a : Option Addr) (m c : Nat) (w : World) (hD : DeedsAt w a m) (hm : m ≤ 9223372036854775807) : Calls Try.prog 6 #[.int .u8 n, .slice a m c] w fun e w' => e = .returned (.bool true) ∧ Below w.heap.size w w' := by
  obtain ⟨n, rfl⟩ := Int.eq_ofNat_of_zero_le hn.1
  have hn2 : (n : Int) ≤ 255 := hn.2
  have HPL := Lib.hid (play_any n (by omega) a m c w hD hm)
  clear hD
  go_enter Try.func6, Try.ntmps6
  go_wp2_with (go_at_call 11; refine HPL.out.mono ?_)
  rintro e W1 ⟨q, p, og, s, rfl, hP, hmost, hb⟩
  have HL := Lib.hid hP.log
  have HB := Lib.hid hb
  have HMO := Lib.hid hmost
  clear hP hb hmost HPL
  go_wp2_with (go_at_call 12; refine (live_any _).mono ?_)
  rintro e W2 ⟨rfl, hb2⟩
  have HL2 := Lib.hid (HL.out.after hb2)
  have HB2 : Hid (Below w.heap.size w W2) := HB.out.trans (hb2.mono HB.out.size)
  have HRC := Lib.hid (recsD_any _ q og s W2 HL2.out)
  clear hb2 HL HB
  go_wp2_with (go_at_call 19; refine HRC.out.mono ?_)
  rintro e W3 ⟨v3, rfl, hr3, hb3⟩
  have HL3 := Lib.hid (HL2.out.after hb3)
  have HB3 : Hid (Below w.heap.size w W3) := HB2.out.trans (hb3.mono HB2.out.size)
  obtain ⟨A, hA⟩ : ∃ A, recs s.b = A := ⟨_, rfl⟩
  obtain ⟨k, hk⟩ : ∃ k, A.length = k := ⟨_, rfl⟩
  obtain ⟨nb, hnb⟩ : ∃ nb, blks A = nb := ⟨_, rfl⟩
  rw [hA] at hr3
  obtain ⟨a3, c3, rfl⟩ := hr3.shape
  have HR3 : Hid (RecsIn W3 W2.heap.size (.slice a3 k c3) A) := by rw [← hk]; exact hr3
  have hnbs : nb ≤ 24 ∧ k ≤ nb ∧ s.b.length / 64 ≤ s.most ∧ nb * 64 ≤ s.b.length := by
    obtain ⟨v, kk, l1, l2, l3, l4, l5⟩ := HL3.out.at_
    have h1 := (recs_all s.b).1.le
    have h2 := (recs_all s.b).1.pos
    have h3 := HMO.out
    have h4 := l2.1
    rw [hA, hnb] at h1
    rw [hA, hnb, hk] at h2
    refine ⟨by omega, h2, by omega, h1⟩
  have hk24 : k ≤ 24 := by omega
  have HNB := Lib.hid hnb
  have HAA := Lib.hid hA
  have HKK := Lib.hid hk
  have HBS : Hid (nb ≤ 24 ∧ nb * 64 ≤ s.b.length) := ⟨hnbs.1, hnbs.2.2.2⟩
  have HND : Hid (∀ (l : Bytes) W, l.length ≤ 9223372036854775807 → Calls Try.prog 16 #[.int .i64 (l.length : Int)] W fun e w' => e = .returned (.int .i64 (need l.length : Nat)) ∧ w' = W) := fun l W h => by
    have := need_any (l.length : Int) W (by omega)
    rwa [Int.toNat_natCast] at this
  rw [hk]
  clear hr3 hb3 hA hk hnb hnbs HRC HL2 HB2
  go_wp2
  go_loopw [9, 10] (fun nd iv wr => ∃ i : Nat, i ≤ k ∧ iv = .int .i64 (i : Int) ∧ nd = .int .i64 (blks (A.take i) : Nat) ∧ wr = W3) (fun _ iv _ => k - (RowKit.intOf iv).toNat)
  case atStart => exact ⟨0, Nat.zero_le _, rfl, rfl, rfl⟩
  case round =>
    obtain ⟨i, hi, rfl, rfl, rfl⟩ := hrel
    by_cases hp : i < k
    · have hp' : (i : Int) < (k : Int) := by omega
      have HIA : Hid (i < A.length) := by show i < A.length; rw [HKK.out]; exact hp
      obtain ⟨g, off, x, rfl, hel⟩ := HR3.out.rows.1.at HIA.out
      obtain ⟨px, kx, cx, rfl⟩ := hel.2.2.shape
      have hkx : kx = (A[i]'HIA.out).length := by
        rcases hel.2.2 with ⟨c9, h, h0⟩ | ⟨g9, o9, c9, h, -⟩
        · cases h; rw [h0]; rfl
        · cases h; rfl
      have hsm := hel.2.2.small
      subst hkx
      obtain ⟨l, hl⟩ : ∃ l, A[i]'HIA.out = l := ⟨_, rfl⟩
      have hstep := blks_take_one HIA.out
      have hle := blks_take A (i + 1)
      have hle2 := HBS.out.1
      rw [HNB.out] at hle
      rw [hl] at hstep hel hsm
      rw [hstep] at hle
      have HST := Lib.hid hstep
      have hcell := hel.2.1
      have HN2 := Lib.hid (HND.out l wr hsm)
      obtain ⟨z, hz⟩ : ∃ z, blks (A.take i) = z := ⟨_, rfl⟩
      obtain ⟨y, hy⟩ : ∃ y, need l.length = y := ⟨_, rfl⟩
      rw [hy] at HN2 HST hle
      rw [hz] at HST hle ⊢
      clear hel hl hstep hz hy
      go_wp2_with (go_at_call 16; refine HN2.out.mono ?_; rintro e _ ⟨rfl, rfl⟩)
      exact ⟨⟨i + 1, by omega, by go_num, by rw [HST.out]; rfl, trivial⟩, by simp [RowKit.intOf]; omega⟩
    · have hp' : ¬ (i : Int) < (k : Int) := by omega
      obtain rfl : i = k := by omega
      have htk : blks (A.take i) = nb := by rw [List.take_of_length_le (by rw [HKK.out]; omega)]; exact HNB.out
      rw [htk]
      have HCL := Lib.hid (clean_any _ q og s wr HL3.out)
      clear htk
      go_wp2_with (go_at_call 25; refine HCL.out.mono ?_)
      rintro e W4 ⟨rfl, og4, hl4, ht4⟩
      have HL4 := Lib.hid hl4
      have HB4 : Hid (Below w.heap.size w W4) := HB3.out.trans ht4.below
      have HR4 := Lib.hid (HR3.out.turn HL3.out ht4)
      have hrcs : recs (cleanS s).b = A := (recs_clean s.b).trans HAA.out
      have hlen : (cleanS s).b.length = nb * 64 := by
        show (s.b.take (blks (recs s.b) * 64)).length = nb * 64
        rw [HAA.out, HNB.out, List.length_take]
        have := HBS.out.2
        omega
      have hrc5 := recsD_any _ q og4 (cleanS s) W4 HL4.out
      rw [hrcs] at hrc5
      have HRC5 := Lib.hid hrc5
      have HLN := Lib.hid hlen
      clear hl4 ht4 HCL hrc5 hrcs hlen
      go_wp2_with (go_at_call 19; refine HRC5.out.mono ?_)
      rintro e W5 ⟨v5, rfl, hr5, hb5⟩
      obtain ⟨a5, c5, rfl⟩ := hr5.shape
      rw [HKK.out]
      have HB5 : Hid (Below w.heap.size w W5) := HB4.out.trans (hb5.mono HB4.out.size)
      have HSM : Hid (Calls Try.prog 23 #[.slice a3 i c3, .slice a5 i c5] W5 (YesD W5)) := same_yes a3 a5 c3 c5 i A W5 HKK.out (HR4.out.stay hb5).rows.1 (by rw [HKK.out] at hr5; exact hr5.rows.1)
      have HL5 := Lib.hid (HL4.out.after hb5)
      clear hr5 hb5 HRC5 HL4 HB4 HR4
      go_wp2_with (go_at_call 23; refine HSM.out.mono ?_)
      rintro e W6 ⟨rfl, hb6⟩
      have HL6 := Lib.hid (HL5.out.after hb6)
      have HB6 : Hid (Below w.heap.size w W6) := HB5.out.trans (hb6.mono HB5.out.size)
      have HBY : Hid (Calls Try.prog 20 #[.pointer (some ⟨q, 0, none⟩)] W6 (BytesR (cleanS s).b W6)) := bytes_any _ q og4 (cleanS s) W6 HL6.out
      clear hb6 HSM HL5 HB5
      go_wp2_with (go_at_call 20; refine HBY.out.mono ?_)
      rintro e W7 ⟨v7, rfl, hh7, hb7⟩
      obtain ⟨a7, k7, c7, rfl⟩ := hh7.bytes.shape
      have hk7 := hh7.len
      rw [HLN.out] at hk7
      subst hk7
      have HL7 := Lib.hid (HL6.out.after hb7)
      have HB7 : Hid (Below w.heap.size w W7) := HB6.out.trans (hb7.mono HB6.out.size)
      have hfr := free_any _ q og4 (cleanS s) W7 HL7.out
      rw [HLN.out, show nb * 64 / 64 = nb by omega, show ((cleanS s).most : Int) = ((n % 24 + 1 : Nat) : Int) from congrArg Nat.cast HMO.out] at hfr
      have HFR : Hid (Calls Try.prog 26 #[.pointer (some ⟨q, 0, none⟩)] W7 (FreeD ((n : Int) % 24 + 1 - (nb : Int)) W7)) := hfr
      have hnb24 := HBS.out.1
      clear hh7 hb7 HBY HL6 HB6 hfr
      go_wp2_with (go_at_call 26; refine HFR.out.mono ?_)
      rintro e W8 ⟨rfl, hb8⟩
      have HB8 : Hid (Below w.heap.size w W8) := HB7.out.trans (hb8.mono HB7.out.size)
      clear hb8 HFR
      go_wp2
      go_ret
      exact ⟨rfl, HB8.out⟩
end Go.Proofs.Ytfiahkomabllaaa.L
