/- quant.Parse: the size that a text says, or the error; nothing that lay has turned. -/
import Derived.Test.YtggkdapfccanpaaDoorQUnit
import Derived.Test.YtggkdapfccanpaaDoorQSmall
import Derived.Lib.IndexBytes
namespace Go.Proofs.YtggkdapfccanpaaDoor.Q
open Go.RowKit

theorem ret_two {a b c d : Int} (h1 : a = c) (h2 : b = d) : Ending.returned (.tuple #[.int .i64 a, .int .i64 b]) = .returned (.tuple #[.int .i64 c, .int .i64 d]) := by rw [h1, h2]

theorem parse_form {l : List UInt8} (h : unitB (l.drop (nd l)) = false ∨ nd l < 1 ∨ 16 < nd l ∨ (1 < nd l ∧ l.head? = some 48)) : parseV l = 0 ∧ parseE l = 2 := by
  have e : parseE l = 2 := by unfold parseE; rw [if_pos h]
  exact ⟨by unfold parseV; rw [e]; rfl, e⟩
theorem parse_range {l : List UInt8} (h : ¬ (unitB (l.drop (nd l)) = false ∨ nd l < 1 ∨ 16 < nd l ∨ (1 < nd l ∧ l.head? = some 48))) (h2 : 1125899906842624 / unitV (l.drop (nd l)) < num (l.take (nd l))) : parseV l = 0 ∧ parseE l = 3 := by
  have e : parseE l = 3 := by unfold parseE; rw [if_neg h, if_pos h2]
  exact ⟨by unfold parseV; rw [e]; rfl, e⟩
theorem parse_ok {l : List UInt8} (h : ¬ (unitB (l.drop (nd l)) = false ∨ nd l < 1 ∨ 16 < nd l ∨ (1 < nd l ∧ l.head? = some 48))) (h2 : ¬ 1125899906842624 / unitV (l.drop (nd l)) < num (l.take (nd l))) : parseV l = num (l.take (nd l)) * unitV (l.drop (nd l)) ∧ parseE l = 0 := by
  have e : parseE l = 0 := by unfold parseE; rw [if_neg h, if_neg h2]
  exact ⟨by unfold parseV; rw [e]; rfl, e⟩

theorem drop_extract (s : ByteArray) (k : Nat) : (s.extract k s.size).data.toList = s.data.toList.drop k := Lib.extract_to_end s k
theorem take_extract (s : ByteArray) (k : Nat) : (s.extract 0 k).data.toList = s.data.toList.take k := by rw [Lib.extract_data]; simp

theorem head_get (s : ByteArray) (h : 0 < s.size) : s.data.toList.head? = some s[0] := by
  have e := List.getElem?_eq_getElem (l := s.data.toList) (i := 0) (by simpa using h)
  rw [List.head?_eq_getElem?, e]; rfl

set_option maxHeartbeats 1000000 in
theorem parse_any (s : ByteArray) (w : World) (hs : s.size ≤ 9223372036854775807) :
    Calls Tryd.prog 11 #[.string s] w fun e W' => e = .returned (.tuple #[.int .i64 (parseV s.data.toList), .int .i64 (parseE s.data.toList)]) ∧ Below w.heap.size w W' := by
  have hn : nd s.data.toList ≤ s.size := by have := takeWhile_length_le s.data.toList; rwa [size_list] at this
  have hf := Lib.hid (@parse_form s.data.toList)
  have hr := Lib.hid (@parse_range s.data.toList)
  have hok := Lib.hid (@parse_ok s.data.toList)
  have hd := Lib.hid (take_nd_dig s.data.toList)
  have hup := Lib.hid (@unitV_pos (s.data.toList.drop (nd s.data.toList)))
  go_enter Tryd.func11, Tryd.ntmps11
  go_wp2_with fail
  refine (countDigits_any s _ hs).mono ?_
  rintro e w1 ⟨rfl, hb1⟩
  generalize nd s.data.toList = k at *
  go_wp2_with fail
  refine (unit_any _ _).mono ?_
  rintro e w2 ⟨rfl, hb2⟩
  rw [drop_extract]
  have hb := hb1.trans (hb2.mono hb1.size)
  clear hb1 hb2
  generalize unitV (s.data.toList.drop k) = u at *
  cases hub : unitB (s.data.toList.drop k) with
  | false =>
    have H := Lib.hid (hf.out (.inl hub))
    clear hf hr hok hd hup hub
    go_wp2
    go_ret2
    exact ⟨ret_two H.out.1.symm H.out.2.symm, hb⟩
  | true =>
    by_cases h1 : k < 1
    · have H := Lib.hid (hf.out (.inr (.inl h1)))
      clear hf hr hok hd hup hub
      go_wp2
      go_ret2
      exact ⟨ret_two H.out.1.symm H.out.2.symm, hb⟩
    by_cases h2 : 16 < k
    · have H := Lib.hid (hf.out (.inr (.inr (.inl h2))))
      clear hf hr hok hd hup hub
      go_wp2
      go_ret2
      exact ⟨ret_two H.out.1.symm H.out.2.symm, hb⟩
    have hs0 : 0 < s.size := by omega
    by_cases h3 : 1 < k ∧ ((s[0].toNat : Int) == 48) = true
    · obtain ⟨h3, h4⟩ := h3
      have H := Lib.hid (hf.out (.inr (.inr (.inr ⟨h3, by rw [head_get s hs0]; have e : (s[0].toNat : Int) = 48 := eq_of_beq h4; exact congrArg some (UInt8.toNat_inj.1 (by simp; omega))⟩))))
      clear hf hr hok hd hup hub
      go_wp2
      go_ret2
      exact ⟨ret_two H.out.1.symm H.out.2.symm, hb⟩
    have hneg : ¬ (unitB (s.data.toList.drop k) = false ∨ k < 1 ∨ 16 < k ∨ (1 < k ∧ s.data.toList.head? = some 48)) := by
      rintro (h | h | h | ⟨h, h'⟩)
      · rw [hub] at h; cases h
      · exact h1 h
      · exact h2 h
      · rw [head_get s hs0] at h'
        refine h3 ⟨h, ?_⟩
        have e : s[0] = 48 := Option.some.inj h'
        rw [e]; rfl
    obtain ⟨hu1, hu2⟩ := hup.out hub
    have hdig : ∀ c ∈ (s.extract 0 k).data.toList, isDig c = true := by rw [take_extract]; exact hd.out
    have hsz : (s.extract 0 k).size ≤ 16 := by rw [ByteArray.size_extract]; omega
    have hnb := num_bound k (s.data.toList.take k) (by rw [List.length_take, size_list]; omega) hd.out
    have hnb0 := hnb.1
    have hq0 : 0 ≤ 1125899906842624 / u := Int.ediv_nonneg (by decide) (by omega)
    have hq1 : 1125899906842624 / u ≤ 1125899906842624 := Int.ediv_le_self _ (by decide)
    have HR := fun h => Lib.hid (hr.out hneg h)
    have HO := fun h => Lib.hid (hok.out hneg h)
    have HD := Lib.hid hdig
    have hmul : num (s.data.toList.take k) ≤ 1125899906842624 / u → num (s.data.toList.take k) * u ≤ 1125899906842624 ∧ 0 ≤ num (s.data.toList.take k) * u := fun h =>
      ⟨Int.le_trans (Int.mul_le_mul_of_nonneg_right h (by omega)) (Int.ediv_mul_le _ (by omega)), Int.mul_nonneg hnb0 (by omega)⟩
    clear hf hr hok hd hup hub hneg hdig hnb
    have hk1 : 1 ≤ k := by omega
    have hk2 : k ≤ 16 := by omega
    clear h1 h2
    have hcase : ¬ 1 < k ∨ (1 < k ∧ ((s[0].toNat : Int) == 48) = false) := by
      by_cases h : 1 < k
      · exact .inr ⟨h, by simpa using fun e => h3 ⟨h, e⟩⟩
      · exact .inl h
    clear h3
    have hmul' := Lib.hid hmul
    clear hmul
    rcases hcase with h3 | ⟨h3, h4⟩
    all_goals
      go_wp2_with fail
      refine (number_any _ _ hsz HD.out).mono ?_
      rintro e w3 ⟨rfl, hb3⟩
      rw [take_extract]
      have hbb := hb.trans (hb3.mono hb.size)
      clear hb3
      generalize num (s.data.toList.take k) = m at *
      by_cases h5 : 1125899906842624 / u < m
      · have H := HR (by omega)
        clear HR HO hmul'
        go_wp2
        go_ret2
        exact ⟨ret_two H.out.1.symm H.out.2.symm, hbb⟩
      · have H := HO (by omega)
        obtain ⟨g1, g2⟩ := hmul'.out (by omega)
        clear HR HO hmul'
        go_wp2
        go_ret2
        exact ⟨ret_two H.out.1.symm H.out.2.symm, hbb⟩
end Go.Proofs.YtggkdapfccanpaaDoor.Q
