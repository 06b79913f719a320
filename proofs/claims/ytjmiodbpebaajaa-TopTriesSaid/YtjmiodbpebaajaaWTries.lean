/- TopTries: its walk. -/
import Derived.Test.YtjmiodbpebaajaaWTakeD
namespace Go.Proofs.Ytjmiodbpebaajaa.W
open Go Go.RowKit KM
open Go.Lib

def KC : Ky := ⟨3, ⟨#[99]⟩⟩
/-- What holds between two tries. -/
structure TriesDrew (B R q bd bf kb : Nat) (w : World) (m : Int) (fails : List (Ky × Value)) (W : World) : Prop where
  isq : QIs B R W q bd bf [] [] fails
  box : KAt W kb KC
  low : Below B w W
  fl : KM.get KC fails = none ∧ m = 0 ∨ KM.get KC fails = some (.int .i64 m)
  m0 : 0 ≤ m ∧ m ≤ 40
  far : kb < R ∧ kb ≠ q ∧ kb ≠ bd ∧ kb ≠ bf
theorem KAt.kp {B R q bd bf kb : Nat} {line : List Ky} {due fails : List (Ky × Value)} {k : Ky} {w W : World} (h : KAt w kb k) (hq : QIs B R w q bd bf line due fails) (hp : Kp w W q bd bf) (hf : kb < R ∧ kb ≠ q ∧ kb ≠ bd ∧ kb ≠ bf) : KAt W kb k := by
  refine h.of_heap (hp kb h.lt hf.2.1 hf.2.2.1 hf.2.2.2 fun sl hs e => ?_)
  obtain ⟨sl', ha, hr⟩ := hq.at_
  rw [hs.same ha] at e
  have := row_low hr kb e.symm
  omega
theorem one_first (d : Int) : firstN [d] = 0 := by simp [firstN, firstAt]
theorem one_dues (d : Int) (h : 0 ≤ d ∧ d ≤ 18446744073709551615) : Dues [KC] (KM.put KC (.int .u64 d) []) [d] :=
  ⟨rfl, fun i hi => by
    obtain rfl : i = 0 := by simpa using hi
    rfl, fun j => by
    cases j with
    | zero => exact h
    | succ j => simp⟩
theorem delay_pos {f : Int} (h : 1 ≤ f) : 1 ≤ delayN f ∧ delayN f ≤ 64 := by
  refine ⟨?_, (delay_bounds f).2⟩
  unfold delayN
  rw [if_neg (by omega)]
  generalize (min (f - 1) 6).toNat = n
  have : (1 : Int) ≤ 2 ^ n := by
    have := Nat.one_le_two_pow (n := n)
    exact_mod_cast this
  exact this
theorem del_one (v : Value) : KM.del KC (KM.put KC v []) = [] := by rfl

set_option maxRecDepth 100000 in
set_option maxHeartbeats 4000000 in
theorem topTries_any (n : Nat) (hn : n ≤ 255) (w : World) : Calls Try.prog 11 #[.int .u8 n] w fun e w' => e = .returned (.bool true) ∧ Below w.heap.size w w' := by
  go_enter Try.func11, Try.ntmps11
  go_wp2_with fail
  refine (new_any _).mono ?_
  rintro e W1 ⟨rfl, hq, hd, hf, hb, hs⟩
  have HB := Lib.hid hb
  have HQ := Lib.hid hq
  have HD := Lib.hid hd
  have HF := Lib.hid hf
  have HS := Lib.hid hs
  clear hq hd hf hb hs
  have hn1 : KAt (W1.alloc (.cells #[.int .u8 0, .string ⟨#[]⟩] 25 (0, 0))) W1.heap.size ⟨0, ⟨#[]⟩⟩ := KAt.new W1 ⟨0, ⟨#[]⟩⟩
  go_upto_region 3 with ((with_reducible refine wpList_store_rowTo rfl 25 _ _ rfl rfl W1.heap.size (#[.int .u8 3, .string ⟨#[99]⟩]) ?_ ?_ 25 (#[.int .u8 0, .string ⟨#[]⟩]) ?_ ?_ ?_ ?_ ?_); rfl; rfl; exact hn1; exact sizeK; rfl; rfl)
  refine wp_gen (fun V => TriesDrew w.heap.size (w.heap.size + 4) (w.heap.size + 1 + 1) w.heap.size (w.heap.size + 1) (w.heap.size + 3) w 0 [] V ∧ W1.heap.size = w.heap.size + 3) ?_ ?_
  · have hsz := HS.out
    have hb := HB.out
    have hset : ∀ b, b < W1.heap.size → (W1.alloc (.cells #[.int .u8 3, .string ⟨#[99]⟩] 25 (0, 0))).heap[b]? = W1.heap[b]? := fun b hb => Below.heap_alloc W1 _ b hb
    have hss : (W1.alloc (.cells #[.int .u8 3, .string ⟨#[99]⟩] 25 (0, 0))).heap.size = W1.heap.size + 1 := by simp
    refine ⟨⟨⟨⟨_, HQ.out.of_heap (hset _ HQ.out.lt), World.ownsRow_nil _ _ _ _⟩, HD.out.of_heap (hset _ HD.out.lt), HF.out.of_heap (hset _ HF.out.lt), ⟨by omega, by omega, by omega⟩, by omega, by omega, by rw [hss]; omega⟩, ?_, hb.alloc hb.size _, .inl ⟨rfl, rfl⟩, by omega, by omega⟩, hsz⟩
    rw [← hsz]
    exact KAt.new W1 KC
  clear HB HQ HD HF HS hn1
  rintro V ⟨hst, hsz⟩
  have HS := Lib.hid hst
  rw [hsz]
  clear hst hsz
  have HG : Hid (w.heap.size = w.heap.size) := rfl
  clear HG
  go_wp2
  go_loopw [5, 6] (fun tv iv wr => ∃ (i : Nat) (t m : Int) (fails : List (Ky × Value)), iv = .int .i64 (i : Int) ∧ i ≤ n ∧ tv = .int .u64 t ∧ 0 ≤ t ∧ t ≤ 64 * i ∧ TriesDrew w.heap.size (w.heap.size + 4) (w.heap.size + 1 + 1) w.heap.size (w.heap.size + 1) (w.heap.size + 3) w m fails wr) (fun _ iv _ => (n - intOf iv).toNat)
  case atStart => exact ⟨0, 0, 0, [], rfl, Nat.zero_le _, rfl, by omega, by omega, HS.out⟩
  case round =>
    clear HS
    obtain ⟨i, t, m, fails, rfl, hi, rfl, ht0, ht1, hst⟩ := hrel
    have HS := Lib.hid hst
    clear hst
    obtain ⟨z, hz⟩ : ∃ z, w.heap.size = z := ⟨_, rfl⟩
    rw [hz] at HS ⊢
    have HZ := Lib.hid hz
    clear hz
    have hw8 : IntKind.i64.wrap (n : Int) = n := by rw [IntKind.wrap_i64]; omega
    have k0 : wr.cell? ⟨z + 3, 0, none⟩ = some (.int .u8 3) := HS.out.box.c0
    have k1 : wr.cell? ⟨z + 3, 1, none⟩ = some (.string ⟨#[99]⟩) := HS.out.box.c1
    by_cases h : i < n
    · have h' : (i : Int) < (n : Int) := by omega
      obtain ⟨F, hF⟩ : ∃ F : Int, (m + 1 ≤ 40 ∧ F = m + 1 ∨ m = 40 ∧ F = 40) := by
        by_cases hm : m + 1 ≤ 40
        · exact ⟨m + 1, .inl ⟨hm, rfl⟩⟩
        · exact ⟨40, .inr ⟨by have := HS.out.m0; omega, rfl⟩⟩
      have hFb : 1 ≤ F ∧ F ≤ 40 := by have := HS.out.m0; omega
      have hdb := delay_pos hFb.1
      obtain ⟨d, hd⟩ : ∃ d, t + min (delayN F) (18446744073709551615 - t) = d := ⟨_, rfl⟩
      have hd1 : t + 1 ≤ d ∧ d ≤ t + 64 := by omega
      have hin : (i : Int) ≤ 255 := by omega
      have HFB := Lib.hid hFb
      go_wp2_with fail
      refine (fail_any z (z + 4) _ _ _ [] [] fails KC t m F wr HS.out.isq HS.out.fl HS.out.m0 hF ⟨ht0, by omega⟩ (fun _ => by decide)).mono ?_
      rintro e V1 ⟨rfl, hq, hb, hp⟩
      rw [hd] at hq
      have HK := Lib.hid (HS.out.box.kp HS.out.isq hp HS.out.far)
      have HQ : Hid (QIs z (z + 4) V1 (z + 1 + 1) z (z + 1) [KC] (KM.put KC (.int .u64 d) []) (KM.put KC (.int .i64 F) fails)) := hq
      have HL := Lib.hid (HS.out.low.trans hb)
      have HFAR := Lib.hid HS.out.far
      clear hq hb hp HS k0 k1 hF hd hdb hFb
      have hnx := next_any z (z + 4) _ _ _ [KC] _ _ [d] V1 HQ.out (one_dues d (by omega)) (by decide) (by decide)
      rw [one_first, show [d].getD 0 0 = d from rfl] at hnx
      have HN := Lib.hid hnx
      clear hnx
      go_wp2_with fail
      refine HN.out.mono ?_
      rintro e V2 ⟨rfl, hb⟩
      replace HL := Lib.hid (HL.out.trans (hb.mono HQ.out.size))
      replace HQ := Lib.hid (HQ.out.after hb)
      replace HK := Lib.hid (HK.out.after hb)
      clear hb HN
      have hle : ¬ d ≤ t := by omega
      have hsub : IntKind.u64.wrap (d - t) = d - t := by rw [IntKind.wrap_u64]; omega
      have hgt : ¬ 64 < d - t := by omega
      have hsub1 : IntKind.u64.wrap (d - 1) = d - 1 := by rw [IntKind.wrap_u64]; omega
      go_wp2_with fail
      refine (take_late z (z + 4) _ _ _ [KC] _ _ [d] (d - 1) V2 HQ.out (one_dues d (by omega)) (by decide) (by decide) (by rw [one_first]; show d - 1 < d; omega)).mono ?_
      rintro e V3 ⟨rfl, hb⟩
      replace HL := Lib.hid (HL.out.trans (hb.mono HQ.out.size))
      replace HQ := Lib.hid (HQ.out.after hb)
      replace HK := Lib.hid (HK.out.after hb)
      clear hb
      unfold encK K0
      go_upto_region 15 with (fail)
      have ha : Below V3.heap.size V3 (V3.alloc (.cells #[.int .u8 0, .string ⟨#[]⟩] 25 (0, 0))) := (Below.refl _ _).alloc (Nat.le_refl _) _
      refine wp_gen (fun V => QIs z (z + 4) V (z + 1 + 1) z (z + 1) [KC] (KM.put KC (.int .u64 d) []) (KM.put KC (.int .i64 F) fails) ∧ KAt V (z + 3) KC ∧ Below z w V) ⟨HQ.out.after ha, HK.out.after ha, HL.out.trans (ha.mono HQ.out.size)⟩ ?_
      clear HQ HK HL ha
      rintro V4 ⟨hq, hk, hl⟩
      have HQ := Lib.hid hq
      have HK := Lib.hid hk
      have HL := Lib.hid hl
      clear hq hk hl
      go_wp2_with fail
      refine (take_due z (z + 4) _ _ _ [KC] _ _ [d] d V4 HQ.out (one_dues d (by omega)) (by decide) (by decide) (by rw [one_first]; exact Int.le_refl _) KC (by rw [one_first]; rfl)).mono ?_
      rintro e V5 ⟨rfl, hq, hb, hp⟩
      have HK5 := Lib.hid (HK.out.kp HQ.out hp HFAR.out)
      rw [one_first, del_one] at hq
      have HQ5 : Hid (QIs z (z + 4) V5 (z + 1 + 1) z (z + 1) [] [] (KM.put KC (.int .i64 F) fails)) := hq
      have HL5 := Lib.hid (HL.out.trans hb)
      clear HK HL HQ hq hb hp
      unfold encK KC
      have k0 : V5.cell? ⟨z + 3, 0, none⟩ = some (.int .u8 3) := HK5.out.c0
      have k1 : V5.cell? ⟨z + 3, 1, none⟩ = some (.string ⟨#[99]⟩) := HK5.out.c1
      have hkl := HK5.out.lt
      go_wp2
      go_roundw
      case rel =>
        have ha : Below V5.heap.size V5 (V5.alloc (.cells #[.int .u8 3, .string ⟨#[99]⟩] 25 (0, 0))) := (Below.refl _ _).alloc (Nat.le_refl _) _
        exact ⟨i + 1, d, F, KM.put KC (.int .i64 F) fails, rfl, by omega, rfl, by omega, by omega, HQ5.out.after ha, HK5.out.after ha, HL5.out.trans (ha.mono HQ5.out.size), .inr (by rw [get_put, if_pos rfl]), by have := HFB.out; omega, HFAR.out⟩
      case measure => simp [intOf]; omega
    · obtain rfl : i = n := by omega
      obtain ⟨F, hF⟩ : ∃ F : Int, (m + 1 ≤ 40 ∧ F = m + 1 ∨ m = 40 ∧ F = 40) := by
        by_cases hm : m + 1 ≤ 40
        · exact ⟨m + 1, .inl ⟨hm, rfl⟩⟩
        · exact ⟨40, .inr ⟨by have := HS.out.m0; omega, rfl⟩⟩
      have hF1 : 0 < F := by have := HS.out.m0; omega
      have HFF := Lib.hid hF
      have HLN := Lib.hid (qlen_any z (z + 4) _ _ _ [] [] fails wr HS.out.isq)
      have ht2 : t ≤ 18446744073709551615 := by omega
      clear hi h hF
      go_wp2_with fail
      refine HLN.out.mono ?_
      rintro e V1 ⟨rfl, rfl⟩
      clear HLN
      go_wp2_with fail
      refine (fail_any z (z + 4) _ _ _ [] [] fails KC t m F wr HS.out.isq HS.out.fl HS.out.m0 HFF.out ⟨ht0, ht2⟩ (fun _ => by decide)).mono ?_
      rintro e V1 ⟨rfl, hq, hb, hp⟩
      have HK := Lib.hid (HS.out.box.kp HS.out.isq hp HS.out.far)
      have HQ := Lib.hid hq
      have HL := Lib.hid (HS.out.low.trans hb)
      clear hq hb hp HS k0 k1
      have k0 : V1.cell? ⟨z + 3, 0, none⟩ = some (.int .u8 3) := HK.out.c0
      have k1 : V1.cell? ⟨z + 3, 1, none⟩ = some (.string ⟨#[99]⟩) := HK.out.c1
      go_wp2_with fail
      refine (fails_any z (z + 4) _ _ _ _ _ _ KC F V1 HQ.out (.inr (by rw [get_put, if_pos rfl]))).mono ?_
      rintro e V2 ⟨rfl, hb⟩
      replace HL := Lib.hid (HL.out.trans (hb.mono HQ.out.size))
      clear hb HQ HK k0 k1 HFF
      go_wp2
      go_ret
      exact ⟨rfl, by rw [HZ.out]; exact HL.out⟩
theorem topTries_int (x : Int) (h : 0 ≤ x ∧ x ≤ 255) (w : World) : Calls Try.prog 11 #[.int .u8 x] w fun e w' => e = .returned (.bool true) ∧ Below w.heap.size w w' := by
  obtain ⟨n, rfl⟩ : ∃ n : Nat, x = n := ⟨x.toNat, by omega⟩
  exact topTries_any n (by omega) w
end Go.Proofs.Ytjmiodbpebaajaa.W
