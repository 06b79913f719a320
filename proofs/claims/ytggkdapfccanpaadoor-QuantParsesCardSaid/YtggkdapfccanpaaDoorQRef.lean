/- The document's own Unit and Parse. -/
import Derived.Test.YtggkdapfccanpaaDoorQParse
namespace Go.Proofs.YtggkdapfccanpaaDoor.Q
open Go.RowKit

theorem ref_unit_any (s : ByteArray) (w : World) :
    Calls Tryd.prog 14 #[.string s] w fun e W' => e = .returned (.tuple #[.int .i64 (unitV s.data.toList), .bool (unitB s.data.toList)]) ∧ w = W' := by
  go_enter Tryd.func14, Tryd.ntmps14
  go_wp2_with fail
  all_goals
    go_ret2
    refine ⟨?_, rfl⟩
    simp only [Lib.toList_data] at *
    simp_all [unitV, unitB]

set_option maxHeartbeats 1000000 in
theorem ref_parse_any (s : ByteArray) (w : World) (hs : s.size ≤ 9223372036854775807) :
    Calls Tryd.prog 12 #[.string s] w fun e W' => e = .returned (.tuple #[.int .i64 (parseV s.data.toList), .int .i64 (parseE s.data.toList)]) ∧ w = W' := by
  have hf := Lib.hid (@parse_form s.data.toList)
  have hr := Lib.hid (@parse_range s.data.toList)
  have hok := Lib.hid (@parse_ok s.data.toList)
  have hd := Lib.hid (take_nd_dig s.data.toList)
  have hup := Lib.hid (@unitV_pos (s.data.toList.drop (nd s.data.toList)))
  have hn : nd s.data.toList ≤ s.size := by have := takeWhile_length_le s.data.toList; rwa [size_list] at this
  go_enter Tryd.func12, Tryd.ntmps12
  go_wp2
  go_loop [4] (fun i => ∃ k : Nat, k ≤ s.size ∧ i = .int .i64 k ∧ Hid (∀ c ∈ s.data.toList.take k, isDig c = true)) (fun i => s.size - (intOf i).toNat)
  case atStart => exact ⟨0, Nat.zero_le _, rfl, fun c hc => by simp at hc⟩
  case round =>
    obtain ⟨k, hk, rfl, hdk⟩ := hrel
    by_cases hgo : ∃ h : k < s.size, isDig s[k] = true
    · obtain ⟨hp, hg⟩ := hgo
      obtain ⟨q1, q2⟩ := isDig_true hg
      have hd' := Lib.hid (dig_snoc hp hdk.out hg)
      clear hg hf hr hok hd hup hn hdk
      go_wp2
      go_round
      case rel => exact ⟨k + 1, by omega, by go_num, hd'⟩
      case measure => simp [intOf]; omega
    · have hkn : nd s.data.toList = k := nd_of (by simpa using hk) hdk.out (fun h => by
        have h' : k < s.size := by simpa using h
        rw [get_list s k h']
        simpa using fun e => hgo ⟨h', e⟩)
      rw [hkn] at hf hr hok hd hup
      have hcase : ¬ k < s.size ∨ ∃ h : k < s.size, s[k].toNat < 48 ∨ 57 < s[k].toNat := by
        by_cases h : k < s.size
        · exact .inr ⟨h, isDig_false (by simpa using fun e => hgo ⟨h, e⟩)⟩
        · exact .inl h
      clear hkn hgo hdk hn
      have hs0 : 1 ≤ k → 0 < s.size := fun h => by omega
      by_cases h1 : k < 1
      · have H := Lib.hid (hf.out (.inr (.inl h1)))
        clear hf hr hok hd hup
        rcases hcase with h | ⟨h, h' | h'⟩
        all_goals
          go_wp2
          go_ret2
          exact ⟨ret_two H.out.1.symm H.out.2.symm, rfl⟩
      by_cases h2 : 16 < k
      · have H := Lib.hid (hf.out (.inr (.inr (.inl h2))))
        clear hf hr hok hd hup
        rcases hcase with h | ⟨h, h' | h'⟩
        all_goals
          go_wp2
          go_ret2
          exact ⟨ret_two H.out.1.symm H.out.2.symm, rfl⟩
      have hs1 : 0 < s.size := hs0 (by omega)
      clear hs0
      by_cases h3 : 1 < k ∧ ((s[0].toNat : Int) == 48) = true
      · obtain ⟨h3, h4⟩ := h3
        have H := Lib.hid (hf.out (.inr (.inr (.inr ⟨h3, by rw [head_get s hs1]; have e : (s[0].toNat : Int) = 48 := eq_of_beq h4; exact congrArg some (UInt8.toNat_inj.1 (by simp; omega))⟩))))
        clear hf hr hok hd hup
        rcases hcase with h | ⟨h, h' | h'⟩
        all_goals
          go_wp2
          go_ret2
          exact ⟨ret_two H.out.1.symm H.out.2.symm, rfl⟩
      have hneg : unitB (s.data.toList.drop k) = true → ¬ (unitB (s.data.toList.drop k) = false ∨ k < 1 ∨ 16 < k ∨ (1 < k ∧ s.data.toList.head? = some 48)) := by
        rintro hub (h | h | h | ⟨h, h'⟩)
        · rw [hub] at h; cases h
        · exact h1 h
        · exact h2 h
        · rw [head_get s hs1] at h'
          refine h3 ⟨h, ?_⟩
          have e : s[0] = 48 := Option.some.inj h'
          rw [e]; rfl
      have hnb := num_bound k (s.data.toList.take k) (by rw [List.length_take, size_list]; omega) hd.out
      have hnb0 := hnb.1
      have hk1 : 1 ≤ k := by omega
      have hk2 : k ≤ 16 := by omega
      clear h1 h2 hnb
      have hcase2 : ¬ 1 < k ∨ (1 < k ∧ ((s[0].toNat : Int) == 48) = false) := by
        by_cases h : 1 < k
        · exact .inr ⟨h, by simpa using fun e => h3 ⟨h, e⟩⟩
        · exact .inl h
      clear h3
      have HF := fun h => Lib.hid (hf.out (.inl h))
      have HN := Lib.hid hneg
      clear hf hneg
      rcases hcase with h | ⟨h, h' | h'⟩
      all_goals
        rcases hcase2 with h3 | ⟨h3, h4⟩
        all_goals
          go_wp2_with fail
          refine (ref_unit_any _ _).mono ?_
          rintro e w2 ⟨rfl, rfl⟩
          rw [drop_extract]
          generalize unitV (s.data.toList.drop k) = u at *
          cases hub : unitB (s.data.toList.drop k) with
          | false =>
            have H := HF hub
            clear HF hr hok hd hup hub HN
            go_wp2
            go_ret2
            exact ⟨ret_two H.out.1.symm H.out.2.symm, rfl⟩
          | true =>
            obtain ⟨hu1, hu2⟩ := hup.out hub
            have hneg := HN.out hub
            have HR := fun h => Lib.hid (hr.out hneg h)
            have HO := fun h => Lib.hid (hok.out hneg h)
            have hq0 : 0 ≤ 1125899906842624 / u := Int.ediv_nonneg (by decide) (by omega)
            have hq1 : 1125899906842624 / u ≤ 1125899906842624 := Int.ediv_le_self _ (by decide)
            have hmul : num (s.data.toList.take k) ≤ 1125899906842624 / u → num (s.data.toList.take k) * u ≤ 1125899906842624 ∧ 0 ≤ num (s.data.toList.take k) * u := fun h =>
              ⟨Int.le_trans (Int.mul_le_mul_of_nonneg_right h (by omega)) (Int.ediv_mul_le _ (by omega)), Int.mul_nonneg hnb0 (by omega)⟩
            have hmul' := Lib.hid hmul
            clear HF hr hok hup hub HN hneg hmul hnb0
            go_wp2
            go_loop [7, 8] (fun v i => ∃ j : Nat, j ≤ k ∧ i = .int .i64 j ∧ v = .int .i64 (num (s.data.toList.take j))) (fun _ i => k - (intOf i).toNat)
            case atStart => exact ⟨0, Nat.zero_le _, rfl, rfl⟩
            case round =>
              obtain ⟨j, hj, rfl, rfl⟩ := hrel
              have hnbj := num_bound j (s.data.toList.take j) (by rw [List.length_take, size_list]; omega) (fun c hc => hd.out c (List.take_subset_take_left _ hj hc))
              have h10 : (10 : Int) ^ j ≤ 10 ^ 16 := by
                have : (10 : Nat) ^ j ≤ 10 ^ 16 := Nat.pow_le_pow_right (by decide) (by omega)
                exact_mod_cast this
              have m0 := hnbj.1
              have m1 : num (s.data.toList.take j) < 100000000000000000 := by omega
              clear hnbj h10
              by_cases hlt : j < k
              · have hjs : j < s.size := by omega
                obtain ⟨q1, q2⟩ := isDig_true (hd.out s[j] (by rw [← get_list s j hjs]; exact List.mem_take_iff_getElem.2 ⟨j, by simp; omega, rfl⟩))
                have hsn : Hid (num (s.data.toList.take (j + 1)) = num (s.data.toList.take j) * 10 + ((s[j].toNat : Int) - 48)) := by rw [take_snoc s j hjs, num_snoc]; exact rfl
                clear HR HO hmul' hd
                generalize num (s.data.toList.take j) = m at *
                go_wp2
                go_round
                case rel => exact ⟨j + 1, by omega, by go_num, by rw [hsn.out]⟩
                case measure => simp [intOf]; omega
              · obtain rfl : j = k := by omega
                generalize num (s.data.toList.take j) = m at *
                clear hd
                by_cases h5 : 1125899906842624 / u < m
                · have H := HR (by omega)
                  clear HR HO hmul'
                  go_wp2
                  go_ret2
                  exact ⟨ret_two H.out.1.symm H.out.2.symm, rfl⟩
                · have H := HO (by omega)
                  obtain ⟨g1, g2⟩ := hmul'.out (by omega)
                  clear HR HO hmul'
                  go_wp2
                  go_ret2
                  exact ⟨ret_two H.out.1.symm H.out.2.symm, rfl⟩
end Go.Proofs.YtggkdapfccanpaaDoor.Q
