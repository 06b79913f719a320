/- The laws BlocksNone and BlocksSums: they answer true. -/
import Derived.Test.YtfiahkomabllaaaLNil
namespace Go.Proofs.Ytfiahkomabllaaa.L
open Go Go.RowKit
open Go.Lib

abbrev tD : TypeId := 36
set_option maxRecDepth 100000 in
set_option maxHeartbeats 400000 in
theorem none_any (kd kp tn n : Int) (sv : Value) (w : World) (hn : -9223372036854775808 ≤ n ∧ n ≤ 9223372036854775807) : Calls Try.prog 10 #[.agg #[.int .i64 kd, .int .i64 kp, .int .i64 tn, sv], .int .i64 n] w fun e w' => e = .returned (.bool true) ∧ Below w.heap.size w w' := by
  obtain ⟨q, hq⟩ : ∃ q, w.heap.size = q := ⟨_, rfl⟩
  have HNO : Hid (n < 1 ∨ 4096 < n → ∀ W, Calls Try.prog 27 #[.int .i64 n] W fun e w' => e = .returned (.pointer none) ∧ w' = W) := fun h W => new_no n W h
  have HOK : Hid (1 ≤ n ∧ n ≤ 4096 → ∀ W, Calls Try.prog 27 #[.int .i64 n] W fun e w' => e = .returned (.pointer (some ⟨W.heap.size, 0, none⟩)) ∧ Below W.heap.size W w') := fun h W => by
    have := new_any n.toNat W (by omega) (by omega)
    rw [Int.toNat_of_nonneg (by omega)] at this
    exact this.mono fun e w' ⟨h1, _, h2⟩ => ⟨h1, h2⟩
  go_enter Try.func10, Try.ntmps10
  go_wp2_with (go_at_call 12; refine (live_any _).mono ?_)
  rintro e W1 ⟨rfl, hb⟩
  have hbox : (w.alloc (.cells #[.int .i64 kd, .int .i64 kp, .int .i64 tn, sv] tD (0, 0))).heap[q]? = some (.cells #[.int .i64 kd, .int .i64 kp, .int .i64 tn, sv] tD (0, 0)) := by rw [← hq]; exact heap_alloc_new w _
  have hbox1 : W1.heap[q]? = some (.cells #[.int .i64 kd, .int .i64 kp, .int .i64 tn, sv] tD (0, 0)) := (hb.block q (by simp [hq])).trans hbox
  have d1 : W1.cell? ⟨q, 1, none⟩ = some (.int .i64 kp) := (cell_of_row W1 q 1 _ _ _ hbox1).trans rfl
  have d2 : W1.cell? ⟨q, 2, none⟩ = some (.int .i64 tn) := (cell_of_row W1 q 2 _ _ _ hbox1).trans rfl
  have d3 : W1.cell? ⟨q, 3, none⟩ = some sv := (cell_of_row W1 q 3 _ _ _ hbox1).trans rfl
  have HB : Hid (Below q w W1) := by
    have h1 : Below w.heap.size w (w.alloc (.cells #[.int .i64 kd, .int .i64 kp, .int .i64 tn, sv] tD (0, 0))) := (Below.refl _ _).alloc (Nat.le_refl _) _
    rw [← hq]
    exact h1.trans (hb.mono (by simp))
  clear hb hbox hbox1
  rcases (by omega : n < 1 ∨ (¬ n < 1 ∧ 4096 < n) ∨ (¬ n < 1 ∧ ¬ 4096 < n)) with h1 | ⟨h1, h2⟩ | ⟨h1, h2⟩
  · go_wp2_with (first | (go_at_call 21; refine (append_nil _ _).mono ?_; rintro e _ ⟨rfl, rfl⟩) | (go_at_call 18; refine (sync_nil _).mono ?_; rintro e _ ⟨rfl, rfl⟩) | (go_at_call 22; refine (crash_nil _ _ _).mono ?_; rintro e _ ⟨rfl, rfl⟩) | (go_at_call 25; refine (clean_nil _).mono ?_; rintro e _ ⟨rfl, rfl⟩) | (go_at_call 19; refine (records_nil _).mono ?_; rintro e _ ⟨rfl, rfl⟩) | (go_at_call 26; refine (free_nil _).mono ?_; rintro e _ ⟨rfl, rfl⟩) | (go_at_call 20; refine (bytes_nil _).mono ?_; rintro e _ ⟨rfl, rfl⟩) | (go_at_call 28; refine (fork_nil _).mono ?_; rintro e _ ⟨rfl, rfl⟩) | (go_at_call 27; refine (HNO.out (.inl h1) _).mono ?_; rintro e _ ⟨rfl, rfl⟩))
    go_ret
    exact ⟨rfl, by rw [hq]; exact HB.out⟩
  · go_wp2_with (first | (go_at_call 21; refine (append_nil _ _).mono ?_; rintro e _ ⟨rfl, rfl⟩) | (go_at_call 18; refine (sync_nil _).mono ?_; rintro e _ ⟨rfl, rfl⟩) | (go_at_call 22; refine (crash_nil _ _ _).mono ?_; rintro e _ ⟨rfl, rfl⟩) | (go_at_call 25; refine (clean_nil _).mono ?_; rintro e _ ⟨rfl, rfl⟩) | (go_at_call 19; refine (records_nil _).mono ?_; rintro e _ ⟨rfl, rfl⟩) | (go_at_call 26; refine (free_nil _).mono ?_; rintro e _ ⟨rfl, rfl⟩) | (go_at_call 20; refine (bytes_nil _).mono ?_; rintro e _ ⟨rfl, rfl⟩) | (go_at_call 28; refine (fork_nil _).mono ?_; rintro e _ ⟨rfl, rfl⟩) | (go_at_call 27; refine (HNO.out (.inr h2) _).mono ?_; rintro e _ ⟨rfl, rfl⟩))
    go_ret
    exact ⟨rfl, by rw [hq]; exact HB.out⟩
  · have HNE := Lib.hid (HOK.out ⟨by omega, by omega⟩)
    go_wp2_with (first | (go_at_call 21; refine (append_nil _ _).mono ?_; rintro e _ ⟨rfl, rfl⟩) | (go_at_call 18; refine (sync_nil _).mono ?_; rintro e _ ⟨rfl, rfl⟩) | (go_at_call 22; refine (crash_nil _ _ _).mono ?_; rintro e _ ⟨rfl, rfl⟩) | (go_at_call 25; refine (clean_nil _).mono ?_; rintro e _ ⟨rfl, rfl⟩) | (go_at_call 19; refine (records_nil _).mono ?_; rintro e _ ⟨rfl, rfl⟩) | (go_at_call 26; refine (free_nil _).mono ?_; rintro e _ ⟨rfl, rfl⟩) | (go_at_call 20; refine (bytes_nil _).mono ?_; rintro e _ ⟨rfl, rfl⟩) | (go_at_call 28; refine (fork_nil _).mono ?_; rintro e _ ⟨rfl, rfl⟩) | (go_at_call 27; refine (HNE.out _).mono ?_; rintro e W9 ⟨rfl, hb9⟩))
    go_ret
    have hd : (!decide (n < 1) && !decide (4096 < n)) = true := by simp; omega
    exact ⟨by show Ending.returned (.bool (!decide (n < 1) && !decide (4096 < n))) = _; rw [hd], by rw [hq]; exact HB.out.trans (hb9.mono (by have := HB.out.size; omega))⟩

/-! The document's check sum, and how many blocks it says. -/
set_option maxHeartbeats 400000 in
theorem rsum_any (v : Value) (l : Bytes) (w : World) (hv : BytesIn w v l) :
    Calls Try.prog 15 #[v] w fun e w' => e = .returned (.int .u32 (sum l : Nat)) ∧ w' = w := by
  have hlen : l.length ≤ 9223372036854775807 := hv.small
  rcases hv with ⟨c, rfl, rfl⟩ | ⟨g, off, cap, rfl, h1, h2, h3, h4⟩
  · go_enter Try.func15, Try.ntmps15
    go_wp2
    go_loopw [3, 4, 5] (fun lo hi iv w' => lo = .int .u32 1 ∧ hi = .int .u32 0 ∧ iv = .int .i64 0 ∧ w' = w) (fun _ _ _ _ => 0)
    case atStart => exact ⟨rfl, rfl, rfl, rfl⟩
    case round =>
      obtain ⟨rfl, rfl, rfl, rfl⟩ := hrel
      go_wp2
      go_ret
      exact ⟨rfl, rfl⟩
  · have HC := Lib.hid h4
    clear h4 h3
    go_enter Try.func15, Try.ntmps15
    go_wp2
    go_loopw [3, 4, 5] (fun lo hi iv w' => ∃ i : Nat, i ≤ l.length ∧ lo = .int .u32 ((half (l.take i)).1 : Nat) ∧ hi = .int .u32 ((half (l.take i)).2 : Nat) ∧ iv = .int .i64 (i : Int) ∧ w' = w) (fun _ _ iv _ => l.length - (RowKit.intOf iv).toNat)
    case atStart => exact ⟨0, Nat.zero_le _, rfl, rfl, rfl, rfl⟩
    case round =>
      obtain ⟨i, hi, rfl, rfl, rfl, rfl⟩ := hrel
      have hlt := half_lt (l.take i)
      by_cases hp : i < l.length
      · have hp' : (i : Int) < (l.length : Int) := by omega
        have b1 : wr.cell? ⟨g, off + i, none⟩ = some (.int .u8 (l[i].toNat : Int)) := HC.out i hp
        have HS : Hid (half (l.take (i + 1)) = step (half (l.take i)) l[i]) := half_take l i hp
        have hb : l[i].toNat < 256 := l[i].toNat_lt
        generalize half (l.take i) = p at *
        generalize hq : l[i].toNat = q at *
        have HQ := Lib.hid hq
        clear hq
        obtain ⟨h5, h6⟩ := hlt
        go_wp2
        have e := HS.out
        unfold step at e
        rw [HQ.out] at e
        exact ⟨⟨i + 1, by omega, by rw [e]; congr 1, by rw [e]; congr 1, by go_num, trivial⟩, by simp [RowKit.intOf]; omega⟩
      · have hp' : ¬ (i : Int) < (l.length : Int) := by omega
        obtain rfl : i = l.length := by omega
        rw [List.take_length] at *
        have HS : Hid (sum l = (half l).2 * 65536 + (half l).1) := rfl
        generalize half l = p at *
        obtain ⟨h5, h6⟩ := hlt
        go_wp2
        go_ret
        refine ⟨?_, rfl⟩
        rw [HS.out]
        congr 1
theorem rneed_any (n : Int) (w : World) (hn : -9223372036854775808 ≤ n ∧ n ≤ 9223372036854775807) :
    Calls Try.prog 17 #[.int .i64 n] w fun e w' => e = .returned (.int .i64 (need n.toNat : Nat)) ∧ w' = w := by
  have HN : Hid (∀ m : Nat, (m : Int) = n → 1 ≤ m → m ≤ 1024 → ((need m : Nat) : Int) = (n + 71) / 64) := fun m h1 h2 h3 => by rw [need_pos h2 h3]; omega
  by_cases h1 : n < 1
  · have e : Hid (need n.toNat = 0) := need_zero.2 (by omega)
    go_enter Try.func17, Try.ntmps17
    go_wp2
    go_ret
    exact ⟨by rw [e.out]; rfl, rfl⟩
  · by_cases h2 : 1024 < n
    · have e : Hid (need n.toNat = 0) := need_zero.2 (by omega)
      go_enter Try.func17, Try.ntmps17
      go_wp2
      go_ret
      exact ⟨by rw [e.out]; rfl, rfl⟩
    · go_enter Try.func17, Try.ntmps17
      go_wp2
      go_ret
      refine ⟨?_, rfl⟩
      show Ending.returned (.int .i64 ((n + 8 + 64 - 1) / 64)) = _
      rw [HN.out n.toNat (by omega) (by omega) (by omega), show n + 8 + 64 - 1 = n + 71 by omega]
set_option maxRecDepth 100000 in
set_option maxHeartbeats 400000 in
theorem sums_any (v : Value) (l : Bytes) (n : Int) (w : World) (hv : BytesIn w v l) (hn : -9223372036854775808 ≤ n ∧ n ≤ 9223372036854775807) : Calls Try.prog 4 #[v, .int .i64 n] w fun e w' => e = .returned (.bool true) ∧ Below w.heap.size w w' := by
  obtain ⟨a, k, c, rfl⟩ := hv.shape
  obtain rfl : k = l.length := by rcases hv with ⟨c, h, rfl⟩ | ⟨g, off, cap, h, -⟩ <;> cases h <;> rfl
  have HND := Lib.hid (fun W => need_any n W hn)
  have HRN := Lib.hid (fun W => rneed_any n W hn)
  by_cases h1 : 2000 < l.length
  · have h1' : (2000 : Int) < (l.length : Int) := by omega
    obtain ⟨v1, hs1, hv1, -⟩ := hv.head (n := 2000) (by omega) .i64
    have hs2 : ∀ w, (Instr.slice 30 (.slice a l.length c) none (some (.int .i64 2000)) none).run Try.prog w = .ok v1 w := hs1
    have HV1 := Lib.hid hv1
    clear hs1 hv1 hv
    go_enter Try.func4, Try.ntmps4
    go_wp2_with (first | (go_at_call 12; refine (live_any _).mono ?_; rintro e W1 ⟨rfl, hb⟩) | (go_at_call 14; refine (sum_any v1 (l.take 2000) _ (HV1.out.after (by assumption))).mono ?_; rintro e _ ⟨rfl, rfl⟩) | (go_at_call 15; refine (rsum_any v1 (l.take 2000) _ (HV1.out.after (by assumption))).mono ?_; rintro e _ ⟨rfl, rfl⟩) | (go_at_call 16; refine (HND.out _).mono ?_; rintro e _ ⟨rfl, rfl⟩) | (go_at_call 17; refine (HRN.out _).mono ?_; rintro e _ ⟨rfl, rfl⟩))
    go_ret
    exact ⟨rfl, hb⟩
  · have h1' : ¬ (2000 : Int) < (l.length : Int) := by omega
    have HV1 := Lib.hid hv
    clear hv
    go_enter Try.func4, Try.ntmps4
    go_wp2_with (first | (go_at_call 12; refine (live_any _).mono ?_; rintro e W1 ⟨rfl, hb⟩) | (go_at_call 14; refine (sum_any _ l _ (HV1.out.after (by assumption))).mono ?_; rintro e _ ⟨rfl, rfl⟩) | (go_at_call 15; refine (rsum_any _ l _ (HV1.out.after (by assumption))).mono ?_; rintro e _ ⟨rfl, rfl⟩) | (go_at_call 16; refine (HND.out _).mono ?_; rintro e _ ⟨rfl, rfl⟩) | (go_at_call 17; refine (HRN.out _).mono ?_; rintro e _ ⟨rfl, rfl⟩))
    go_ret
    exact ⟨rfl, hb⟩
end Go.Proofs.Ytfiahkomabllaaa.L
