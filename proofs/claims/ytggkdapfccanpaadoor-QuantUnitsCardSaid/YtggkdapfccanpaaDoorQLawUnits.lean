/- The laws QuantUnits and TopRoom: their walks. -/
import Derived.Test.YtggkdapfccanpaaDoorQLawPrints
namespace Go.Proofs.YtggkdapfccanpaaDoor.Q
open Go.RowKit

theorem unit_nd {l : List UInt8} (h : unitB l = true) : nd l = 0 := by
  unfold unitB unitV at h
  have h0 := of_decide_eq_true h
  revert h0
  clear h
  repeat' split
  all_goals first | (subst_vars; decide) | (intro h; exact absurd rfl h)

theorem odd_print {n : Int} (h0 : 0 ≤ n) (h1 : n ≤ 65535) : printT (n * 1024 + 1) = Lib.decDigits (n * 1024 + 1).toNat ∧ printE (n * 1024 + 1) = 0 := by
  have h := print_ok (okSize_true (n := n * 1024 + 1) (by omega) (by omega))
  have e1 : gU (n * 1024 + 1) = 1 := by unfold gU; rw [if_neg (by omega), if_neg (by omega), if_neg (by omega), if_neg (by omega), if_neg (by omega)]
  have e2 : suffixOf (n * 1024 + 1) = [] := by unfold suffixOf; rw [if_neg (by omega), if_neg (by omega), if_neg (by omega), if_neg (by omega), if_neg (by omega)]
  rw [e1, e2, List.append_nil, Int.ediv_one] at h
  exact h

set_option maxHeartbeats 1000000 in
theorem quantUnits_any (n : Int) (s : ByteArray) (w : World) (ht : Tab w) (h0 : 0 ≤ n) (h1 : n ≤ 65535) (hs : s.size ≤ 140737488351232) :
    Calls Tryd.prog 8 #[.int .u16 n, .string s] w fun e W' => e = .returned (.bool true) ∧ Below w.heap.size w W' := by
  have HT := Lib.hid ht
  have H := Lib.hid (odd_print h0 h1)
  have hl : (Lib.decDigits (n * 1024 + 1).toNat).length ≤ 20 := digits_le (by omega) (by omega)
  obtain ⟨t, htt⟩ : ∃ t : ByteArray, t = ⟨(Lib.decDigits (n * 1024 + 1).toNat).toArray⟩ := ⟨_, rfl⟩
  have htl : Hid (t.data.toList = Lib.decDigits (n * 1024 + 1).toNat) := by show _ = _; rw [htt]
  have hts : t.size ≤ 20 := by rw [htt]; show (Lib.decDigits (n * 1024 + 1).toNat).toArray.size ≤ 20; simpa using hl
  have HTT := Lib.hid htt
  have happ : Hid ((t ++ s).data.toList = Lib.decDigits (n * 1024 + 1).toNat ++ s.data.toList) := by show _ = _; rw [← htl.out]; simp
  have hF := Lib.hid (fun hS hu => parse_form_of (m := n * 1024 + 1) (S := s.data.toList) (by omega) (by omega) hS hu)
  have hR := Lib.hid (fun hS hu hr => parse_range_of (m := n * 1024 + 1) (S := s.data.toList) (by omega) (by omega) hS hu hr)
  have hO := Lib.hid (fun hS hu hr => parse_ok_of (m := n * 1024 + 1) (S := s.data.toList) (by omega) (by omega) hS hu hr)
  have hE := Lib.hid (@parse_err (Lib.decDigits (n * 1024 + 1).toNat ++ s.data.toList))
  have hun := Lib.hid (@unit_nd s.data.toList)
  have hup := Lib.hid (@unitV_pos s.data.toList)
  clear ht htt hl
  go_enter Tryd.func8, Tryd.ntmps8
  go_wp2_with fail
  refine (print_any _ _ HT.out).mono ?_
  rintro e w1 ⟨rfl, hb1⟩
  rw [H.out.1, H.out.2, show encS (Lib.decDigits (n * 1024 + 1).toNat) = .string t from by rw [HTT.out]; rfl]
  have hb' := Lib.hid hb1
  clear hb1
  go_wp2_with fail
  refine (unit_any s _).mono ?_
  rintro e w2 ⟨rfl, hb2⟩
  have hc' := Lib.hid (hb'.out.trans (hb2.mono hb'.out.size))
  clear hb2
  go_wp2_with fail
  refine (parse_any _ _ (by rw [ByteArray.size_append]; omega)).mono ?_
  rintro e w3 ⟨rfl, hb3⟩
  rw [happ.out]
  have hd := hc'.out.trans (hb3.mono hc'.out.size)
  have ht3 := Lib.hid (HT.out.below hd (Nat.le_refl _))
  have hd' := Lib.hid hd
  clear hb3 hd
  cases hub : unitB s.data.toList with
  | false =>
    by_cases hS : nd s.data.toList = 0
    · rw [(hF.out hS hub).1, (hF.out hS hub).2]
      clear hF hR hO hE hun hup hub hS
      go_wp2_with fail
      refine (live_any _ ht3.out).mono ?_
      rintro e w6 ⟨rfl, hb6⟩
      have hf' := Lib.hid (hd'.out.trans (hb6.mono hd'.out.size))
      clear hb6
      go_wp2
      go_ret
      exact ⟨by simp, hf'.out⟩
    · have hpos : 0 < s.size := by
        have := takeWhile_length_le s.data.toList
        rw [size_list] at this; omega
      have hdg : isDig s[0] = true := by
        have := take_nd_dig s.data.toList s[0] (by rw [← get_list s 0 hpos]; exact List.mem_take_iff_getElem.2 ⟨0, by rw [size_list]; omega, rfl⟩)
        exact this
      obtain ⟨q1, q2⟩ := isDig_true hdg
      have hE' := hE.out
      clear hF hR hO hE hun hup hub hS hdg
      generalize parseV (Lib.decDigits (n * 1024 + 1).toNat ++ s.data.toList) = pv at *
      have hcase : parseE (Lib.decDigits (n * 1024 + 1).toNat ++ s.data.toList) = 0 ∨ parseE (Lib.decDigits (n * 1024 + 1).toNat ++ s.data.toList) = 2 ∨ parseE (Lib.decDigits (n * 1024 + 1).toNat ++ s.data.toList) = 3 := by
        rcases hE' with h | ⟨h | h, -⟩
        · exact .inl h
        · exact .inr (.inl h)
        · exact .inr (.inr h)
      clear hE'
      rcases hcase with h | h | h
      all_goals
        rw [h]
        clear h
        go_wp2_with fail
        refine (live_any _ ht3.out).mono ?_
        rintro e w6 ⟨rfl, hb6⟩
        have hf' := Lib.hid (hd'.out.trans (hb6.mono hd'.out.size))
        clear hb6
        go_wp2
        go_ret
        exact ⟨by simp <;> omega, hf'.out⟩
  | true =>
    have hS := hun.out hub
    obtain ⟨u1, u2⟩ := hup.out hub
    have hq0 : 0 ≤ 1125899906842624 / unitV s.data.toList := Int.ediv_nonneg (by decide) (by omega)
    have hq1 : 1125899906842624 / unitV s.data.toList ≤ 1125899906842624 := Int.ediv_le_self _ (by decide)
    by_cases h5 : 1125899906842624 / unitV s.data.toList < n * 1024 + 1
    · rw [(hR.out hS hub h5).1, (hR.out hS hub h5).2]
      clear hF hR hO hE hun hup hub hS
      generalize unitV s.data.toList = u at *
      go_wp2_with fail
      refine (live_any _ ht3.out).mono ?_
      rintro e w6 ⟨rfl, hb6⟩
      have hf' := Lib.hid (hd'.out.trans (hb6.mono hd'.out.size))
      clear hb6
      go_wp2
      go_ret
      exact ⟨by simp, hf'.out⟩
    · have g1 : (n * 1024 + 1) * unitV s.data.toList ≤ 1125899906842624 := Int.le_trans (Int.mul_le_mul_of_nonneg_right (by omega) (by omega)) (Int.ediv_mul_le _ (by omega))
      have g2 : 0 ≤ (n * 1024 + 1) * unitV s.data.toList := Int.mul_nonneg (by omega) (by omega)
      rw [(hO.out hS hub (by omega)).1, (hO.out hS hub (by omega)).2]
      clear hF hR hO hE hun hup hub hS
      generalize unitV s.data.toList = u at *
      go_wp2_with fail
      refine (live_any _ ht3.out).mono ?_
      rintro e w6 ⟨rfl, hb6⟩
      have hf' := Lib.hid (hd'.out.trans (hb6.mono hd'.out.size))
      clear hb6
      go_wp2
      go_ret
      exact ⟨by simp, hf'.out⟩

set_option maxHeartbeats 1000000 in
theorem topRoom_any (n u room : Int) (w : World) (ht : Tab w) (h0 : 0 ≤ n) (h1 : n ≤ 4294967295) (h2 : 0 ≤ u) (h3 : u ≤ 65535) :
    Calls Tryd.prog 10 #[.int .u32 n, .int .u16 u, .int .i64 room] w fun e W' => e = .returned (.bool true) ∧ Below w.heap.size w W' := by
  have HT := Lib.hid ht
  have hok : okUp n (u + 1) = true := okUp_true h0 (by omega) (by omega) (by omega)
  have hb := up_bounds (n := n) (u := u + 1) h0 (by omega)
  have hle : ¬ 1125899906842624 < upOf n (u + 1) := by unfold upOf; omega
  have hE := (up_ok hok hle).2
  obtain ⟨f1, f2, f3, f4, f5, f6, f7, -⟩ := up_facts hE
  have hsz := okSize_true (n := upV n (u + 1)) (by omega) f7
  have HE := Lib.hid hE
  have HP := Lib.hid (parse_print hsz)
  have hl : Hid ((printT (upV n (u + 1))).length ≤ 22) := print_len hsz
  have g6 : (upV n (u + 1) % (u + 1) == 0) = true := by simpa using f6
  have f0 : 0 ≤ upV n (u + 1) := by omega
  have g2 : 1 ≤ u + 1 := by omega
  clear ht hok hb hle hE hsz f1 f2 f3 f4 f5 f6
  go_enter Tryd.func10, Tryd.ntmps10
  go_wp2_with fail
  refine (up_any _ _ _).mono ?_
  rintro e w1 ⟨rfl, rfl⟩
  rw [HE.out]
  generalize upV n (u + 1) = v at *
  go_wp2_with fail
  refine (print_any v _ HT.out).mono ?_
  rintro e w1 ⟨rfl, hb1⟩
  rw [HP.out.2.2]
  unfold encS
  have hb' := Lib.hid hb1
  clear hb1
  go_wp2_with fail
  refine (parse_any _ _ (by have := hl.out; show (printT v).toArray.size ≤ _; simp; omega)).mono ?_
  rintro e w2 ⟨rfl, hb2⟩
  rw [show parseV (ByteArray.mk (printT v).toArray).data.toList = v from HP.out.1, show parseE (ByteArray.mk (printT v).toArray).data.toList = 0 from HP.out.2.1]
  have hc' := Lib.hid (hb'.out.trans (hb2.mono hb'.out.size))
  clear hb2
  go_wp2_with fail
  refine (fits_any _ _ _).mono ?_
  rintro e w3 ⟨rfl, rfl⟩
  rw [show fits v room = decide (v ≤ room) from by simp [fits, f0]]
  go_wp2
  go_ret
  exact ⟨by simp, hc'.out⟩
end Go.Proofs.YtggkdapfccanpaaDoor.Q
