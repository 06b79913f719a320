/- The law QuantShort: its walk. -/
import Derived.Test.YtggkdapfccanpaaDoorQLawPrints
namespace Go.Proofs.YtggkdapfccanpaaDoor.Q
open Go.RowKit

theorem print_zero : printT 0 = [48] ∧ printE 0 = 0 := by
  have h := print_ok (n := 0) (by decide)
  rw [show gU 0 = 1 by decide, show suffixOf 0 = [] by decide, show ((0 : Int) / 1).toNat = 0 by decide, Lib.decDigits_one (by decide)] at h
  exact h

/-- What the law asks of a printed text t: its digits are a number, and so on. -/
theorem short_facts {n : Int} (hok : okSize n = true) (h0 : n ≠ 0) {t : ByteArray} (ht : t.data.toList = printT n) :
    ∃ m : Int, 1 ≤ m ∧ m ≤ 1125899906842624 ∧ parseV (t.data.toList.take (nd t.data.toList)) = m ∧ parseE (t.data.toList.take (nd t.data.toList)) = 0 ∧
      ((m % 1024 != 0) = true ∨ ((m % 1024 != 0) = false ∧ (t.data.toList.drop (nd t.data.toList) == [84, 105]) = true)) ∧ printE n = 0 ∧ t.size ≤ 22 := by
  obtain ⟨a, b, c, d, e, f, g, h⟩ := printed hok
  obtain ⟨h1, h2⟩ := h h0
  have hb := hok
  simp only [okSize, Bool.and_eq_true, decide_eq_true_eq] at hb
  have hm : printN n ≤ 1125899906842624 := by omega
  obtain ⟨p1, p2, p3, -⟩ := parts (m := printN n) (S := suffixOf n) e hm b
  have q := parse_ok_of (m := printN n) (S := []) e hm (by decide) (by decide) (by rw [show unitV [] = 1 by decide, Int.ediv_one]; exact hm)
  rw [List.append_nil, show unitV [] = 1 by decide, Int.mul_one] at q
  have hl := print_len hok
  refine ⟨printN n, h1, hm, ?_, ?_, ?_, by simp [printE, hok], by rw [← size_list, ht]; exact hl⟩
  · rw [ht, a, p1, p3]; exact q.1
  · rw [ht, a, p1, p3]; exact q.2
  · by_cases hx : printN n % 1024 = 0
    · refine .inr ⟨by simp [hx], ?_⟩
      rcases h2 with h2 | h2
      · exact absurd hx h2
      · rw [ht, a, p1, p2, h2]; rfl
    · exact .inl (by simp [hx])

set_option maxHeartbeats 1000000 in
theorem quantShort_any (n : Int) (w : World) (ht : Tab w) :
    Calls Tryd.prog 6 #[.int .i64 n] w fun e W' => e = .returned (.bool true) ∧ Below w.heap.size w W' := by
  have HT := Lib.hid ht
  clear ht
  cases hok : okSize n with
  | false =>
    have H1 := Lib.hid (print_no hok)
    clear hok
    go_enter Tryd.func6, Tryd.ntmps6
    go_wp2_with fail
    refine (print_any n _ HT.out).mono ?_
    rintro e w1 ⟨rfl, hb1⟩
    rw [H1.out.1, H1.out.2]
    unfold encS
    have ht1 := Lib.hid (HT.out.below hb1 (Nat.le_refl _))
    have hb' := Lib.hid hb1
    clear hb1
    go_wp2_with fail
    refine (live_any _ ht1.out).mono ?_
    rintro e w6 ⟨rfl, hb6⟩
    have hf' := Lib.hid (hb'.out.trans (hb6.mono hb'.out.size))
    clear hb6
    go_wp2
    go_ret
    exact ⟨by simp, hf'.out⟩
  | true =>
    by_cases h0 : n = 0
    · subst h0
      clear hok
      go_enter Tryd.func6, Tryd.ntmps6
      go_wp2_with fail
      refine (print_any 0 _ HT.out).mono ?_
      rintro e w1 ⟨rfl, hb1⟩
      rw [print_zero.1, print_zero.2]
      unfold encS
      have ht1 := Lib.hid (HT.out.below hb1 (Nat.le_refl _))
      have hb' := Lib.hid hb1
      clear hb1
      go_wp2_with fail
      refine (live_any _ ht1.out).mono ?_
      rintro e w6 ⟨rfl, hb6⟩
      have hf' := Lib.hid (hb'.out.trans (hb6.mono hb'.out.size))
      clear hb6
      go_wp2
      go_ret
      exact ⟨by simp, hf'.out⟩
    · obtain ⟨t, htt⟩ : ∃ t : ByteArray, t = ⟨(printT n).toArray⟩ := ⟨_, rfl⟩
      obtain ⟨m, m1, m2, m3, m4, m5, m6, m7⟩ := short_facts hok h0 (t := t) (by rw [htt])
      have M3 := Lib.hid m3
      have M4 := Lib.hid m4
      have M6 := Lib.hid m6
      have HTT := Lib.hid htt
      have e0 : (n == 0) = false := by simpa using h0
      have M5 := Lib.hid m5
      clear hok htt m3 m4 m5 m6 h0
      go_enter Tryd.func6, Tryd.ntmps6
      go_wp2_with fail
      refine (print_any n _ HT.out).mono ?_
      rintro e w1 ⟨rfl, hb1⟩
      rw [show encS (printT n) = .string t from by rw [HTT.out]; rfl, M6.out]
      have ht1 := Lib.hid (HT.out.below hb1 (Nat.le_refl _))
      have hb' := Lib.hid hb1
      clear hb1
      go_wp2
      go_loop [5] (fun i => ∃ k : Nat, k ≤ t.size ∧ i = .int .i64 k ∧ Hid (∀ c ∈ t.data.toList.take k, isDig c = true)) (fun i => t.size - (intOf i).toNat)
      case atStart => exact ⟨0, Nat.zero_le _, rfl, fun c hc => by simp at hc⟩
      case round =>
        obtain ⟨k, hk, rfl, hdk⟩ := hrel
        by_cases hgo : ∃ h : k < t.size, isDig t[k] = true
        · obtain ⟨hp, hg⟩ := hgo
          obtain ⟨q1, q2⟩ := isDig_true hg
          have hd' := Lib.hid (dig_snoc hp hdk.out hg)
          clear hg hdk
          go_wp2
          go_round
          case rel => exact ⟨k + 1, by omega, by go_num, hd'⟩
          case measure => simp [intOf]; omega
        · have hkn : nd t.data.toList = k := nd_of (by simpa using hk) hdk.out (fun h => by
            have h' : k < t.size := by simpa using h
            rw [get_list t k h']
            simpa using fun e => hgo ⟨h', e⟩)
          rw [hkn] at M3 M4 M5
          have hcase : ¬ k < t.size ∨ ∃ h : k < t.size, t[k].toNat < 48 ∨ 57 < t[k].toNat := by
            by_cases h : k < t.size
            · exact .inr ⟨h, isDig_false (by simpa using fun e => hgo ⟨h, e⟩)⟩
            · exact .inl h
          clear hkn hgo hdk
          rcases hcase with h | ⟨h, h' | h'⟩
          all_goals
            go_wp2_with fail
            refine (parse_any _ _ (by rw [ByteArray.size_extract]; omega)).mono ?_
            rintro e w2 ⟨rfl, hb2⟩
            rw [take_extract, M3.out, M4.out]
            have hc := hb'.out.trans (hb2.mono hb'.out.size)
            have ht2 := Lib.hid (HT.out.below hc (Nat.le_refl _))
            have hc' := Lib.hid hc
            clear hb2 hc
            go_wp2_with fail
            refine (live_any _ ht2.out).mono ?_
            rintro e w6 ⟨rfl, hb6⟩
            have hf' := Lib.hid (hc'.out.trans (hb6.mono hc'.out.size))
            clear hb6
            rcases M5.out with x | ⟨x, y⟩
            · go_wp2
              go_ret
              exact ⟨by simp, hf'.out⟩
            · have y' : ((t.extract k t.size).toList == [84, 105]) = true := by rw [Lib.toList_data, drop_extract]; exact y
              clear y
              go_wp2
              go_ret
              exact ⟨by simp, hf'.out⟩
end Go.Proofs.YtggkdapfccanpaaDoor.Q
