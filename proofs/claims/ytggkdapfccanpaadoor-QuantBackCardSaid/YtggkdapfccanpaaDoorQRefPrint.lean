/- The document's own Print. -/
import Derived.Test.YtggkdapfccanpaaDoorQPrint
namespace Go.Proofs.YtggkdapfccanpaaDoor.Q
open Go.RowKit

/-- The suffix behind k divisions. -/
def suf (k : Nat) : List UInt8 := match k with | 0 => [] | 1 => [75, 105] | 2 => [77, 105] | 3 => [71, 105] | _ => [84, 105]

theorem divided {n m : Int} {k : Nat} (hk : k ≤ 4) (hn : n = m * 1024 ^ k) (hm : 0 ≤ m) (hstop : k = 4 ∧ m ≠ 0 ∨ k = 0 ∧ m = 0 ∨ m % 1024 ≠ 0) : printN n = m ∧ suffixOf n = suf k := by
  unfold printN suffixOf
  obtain rfl | rfl | rfl | rfl | rfl : k = 0 ∨ k = 1 ∨ k = 2 ∨ k = 3 ∨ k = 4 := by omega
  · by_cases h0 : n = 0
    · rw [if_pos h0, if_pos h0]; exact ⟨by omega, rfl⟩
    · rw [if_neg h0, if_neg (by omega), if_neg (by omega), if_neg (by omega), if_neg (by omega), if_neg h0, if_neg (by omega), if_neg (by omega), if_neg (by omega), if_neg (by omega)]; exact ⟨by omega, rfl⟩
  · have e : n = m * 1024 := by rw [hn]; rfl
    rw [if_neg (by omega), if_neg (by omega), if_neg (by omega), if_neg (by omega), if_pos (by omega), if_neg (by omega), if_neg (by omega), if_neg (by omega), if_neg (by omega), if_pos (by omega)]; exact ⟨by omega, rfl⟩
  · have e : n = m * 1048576 := by rw [hn]; rfl
    rw [if_neg (by omega), if_neg (by omega), if_neg (by omega), if_pos (by omega), if_neg (by omega), if_neg (by omega), if_neg (by omega), if_pos (by omega)]; exact ⟨by omega, rfl⟩
  · have e : n = m * 1073741824 := by rw [hn]; rfl
    rw [if_neg (by omega), if_neg (by omega), if_pos (by omega), if_neg (by omega), if_neg (by omega), if_pos (by omega)]; exact ⟨by omega, rfl⟩
  · have e : n = m * 1099511627776 := by rw [hn]; rfl
    rw [if_neg (by omega), if_pos (by omega), if_neg (by omega), if_pos (by omega)]; exact ⟨by omega, rfl⟩

theorem suf_le (k : Nat) : (suf k).length ≤ 2 := by
  unfold suf; split <;> decide

set_option maxHeartbeats 1000000 in
theorem ref_print_any (n : Int) (w : World) (ht : Tab w) :
    Calls Tryd.prog 17 #[.int .i64 n] w fun e W' => e = .returned (.tuple #[encS (printT n), .int .i64 (printE n)]) ∧ Below w.heap.size w W' := by
  have HT := Lib.hid ht
  clear ht
  by_cases h1 : n < 0
  · have H := Lib.hid (print_no (okSize_false (.inl h1)))
    go_enter Tryd.func17, Tryd.ntmps17
    go_wp2
    go_ret2
    exact ⟨ret_print H.out.1.symm H.out.2.symm, Below.refl _ _⟩
  by_cases h2 : 1125899906842624 < n
  · have H := Lib.hid (print_no (okSize_false (.inr h2)))
    go_enter Tryd.func17, Tryd.ntmps17
    go_wp2
    go_ret2
    exact ⟨ret_print H.out.1.symm H.out.2.symm, Below.refl _ _⟩
  have H := Lib.hid (print_ok (okSize_true (n := n) (by omega) (by omega)))
  have g1 : 0 ≤ n := by omega
  have g2 : n ≤ 1125899906842624 := by omega
  clear h1 h2
  go_enter Tryd.func17, Tryd.ntmps17
  go_wp2
  go_loop [0, 4, 6] (fun a sfx i => ∃ (k : Nat) (m : Int), k ≤ 4 ∧ i = .int .i64 k ∧ a = .int .i64 m ∧ sfx = encS (suf k) ∧ Hid (n = m * 1024 ^ k) ∧ 0 ≤ m ∧ m ≤ n ∧ (m = 0 → k = 0)) (fun _ _ i => 4 - (intOf i).toNat)
  case atStart => exact ⟨0, n, by omega, rfl, rfl, rfl, by show n = n * 1; omega, g1, Int.le_refl _, fun _ => rfl⟩
  case round =>
    obtain ⟨k, m, hk, rfl, rfl, rfl, hnm, hm0, hmn, hz⟩ := hrel
    have hz' := Lib.hid hz
    clear hz
    by_cases hgo : k < 4 ∧ m ≠ 0 ∧ m % 1024 = 0
    · obtain ⟨h4, hm1, hm2⟩ := hgo
      have e1 : (m == 0) = false := by simpa using hm1
      have e1' : (m != 0) = true := by simpa using hm1
      have e2 : (m % 1024 == 0) = true := by simpa using hm2
      have hnn : Hid (n = m / 1024 * 1024 ^ (k + 1)) := by
        show n = _
        rw [hnm.out, Int.pow_succ, Int.mul_comm (1024 ^ k) 1024, ← Int.mul_assoc]
        congr 1; omega
      have hzz : Hid (m / 1024 = 0 → k + 1 = 0) := fun h => by omega
      have q0 : 0 ≤ m / 1024 := by omega
      have q1 : m / 1024 ≤ n := by omega
      clear hm1 hm2 hz'
      obtain rfl | rfl | rfl | rfl : k = 0 ∨ k = 1 ∨ k = 2 ∨ k = 3 := by omega
      all_goals
        unfold encS suf
        go_wp2
        go_round
        case rel => exact ⟨_, m / 1024, by omega, by go_num, rfl, rfl, hnn, q0, q1, hzz.out⟩
        case measure => simp [intOf]
    · have hst : k = 4 ∧ m ≠ 0 ∨ k = 0 ∧ m = 0 ∨ m % 1024 ≠ 0 := by
        have := hz'.out
        omega
      have HH := Lib.hid (divided hk hnm.out hm0 hst)
      have hl1 := suf_le k
      have hl2 := digits_le hm0 (Int.le_trans hmn g2)
      clear hst
      have ht1 : Hid (Tab (w.alloc (.cells #[.string ⟨#[75, 105]⟩, .string ⟨#[77, 105]⟩, .string ⟨#[71, 105]⟩, .string ⟨#[84, 105]⟩] 9))) := HT.out.below ((Below.refl _ w).alloc (Nat.le_refl _) _) (Nat.le_refl _)
      have hb0 : Below w.heap.size w (w.alloc (.cells #[.string ⟨#[75, 105]⟩, .string ⟨#[77, 105]⟩, .string ⟨#[71, 105]⟩, .string ⟨#[84, 105]⟩] 9)) := (Below.refl _ w).alloc (Nat.le_refl _) _
      have hcase : ¬ k < 4 ∨ (k < 4 ∧ (m == 0) = true ∧ (m != 0) = false) ∨ (k < 4 ∧ (m == 0) = false ∧ (m != 0) = true ∧ (m % 1024 == 0) = false) := by
        by_cases a : k < 4
        · by_cases b : m = 0
          · exact .inr (.inl ⟨a, by simp [b], by simp [b]⟩)
          · exact .inr (.inr ⟨a, by simp [b], by simp [b], by simpa using fun c => hgo ⟨a, b, c⟩⟩)
        · exact .inl a
      clear hgo hz' hnm
      unfold encS
      generalize suf k = sf at *
      rcases hcase with h | ⟨h, h', h''⟩ | ⟨h, h', h'', h'''⟩
      all_goals
        go_wp2_with fail
        refine (Tryd.strconv_FormatInt_10 _ (by omega) (by omega) _ ht1.out).mono ?_
        rintro e w2 ⟨rfl, c, os, rfl⟩
        have hb := hb0.trans (Lib.below_grow w.heap.size _ hb0.size c os)
        rw [itoa_pos hm0]
        generalize Sort.grow (World.drewN _ c) os = w2 at *
        clear hb0 ht1
        go_wp2
        go_ret2
        refine ⟨ret_print ?_ H.out.2.symm, hb⟩
        rw [H.out.1, ← printN_eq, HH.out.1, HH.out.2]
        simp
end Go.Proofs.YtggkdapfccanpaaDoor.Q
