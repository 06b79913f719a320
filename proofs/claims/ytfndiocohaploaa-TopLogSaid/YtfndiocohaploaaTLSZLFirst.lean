/- Own work. -/
import Derived.Test.YtfndiocohaploaaTLJLawEnd
import Derived.Test.YtfndiocohaploaaTLJSZLWrit0
namespace Go.Proofs.Ytfndiocohaploaa.L
open Go Go.RowKit
open Go.Lib
def BytesU (W : World) (v : Value) (l : Bytes) : Prop := ∃ g off cap cur, v = .slice (some ⟨g, off, none⟩) l.length cap ∧ l.length ≤ cap ∧ cap ≤ maxLen ∧ W.heap[g]? = some (.cells cur 5 (0, 0)) ∧ ∀ i (h : i < l.length), cur[off + i]? = some (bv l[i])
theorem BytesU.bytes {W : World} {v : Value} {l : Bytes} (h : BytesU W v l) : BytesIn W v l := by
  obtain ⟨g, off, cap, cur, rfl, h1, h2, h3, h4⟩ := h
  exact .inr ⟨g, off, cap, rfl, h1, h2, (Array.getElem?_eq_some_iff.1 h3).1, fun i hi => (cell_of_row W g _ _ _ _ h3).trans (h4 i hi)⟩
theorem BytesU.of {W W' : World} {v : Value} {l : Bytes} (h : BytesU W v l) (hb : ∀ g cs, W.heap[g]? = some (.cells cs 5 (0, 0)) → v.ownBlock = some g → W'.heap[g]? = W.heap[g]?) : BytesU W' v l := by
  obtain ⟨g, off, cap, cur, rfl, h1, h2, h3, h4⟩ := h
  exact ⟨g, off, cap, cur, rfl, h1, h2, (hb g _ h3 rfl).trans h3, h4⟩
theorem BytesU.after {W W' : World} {v : Value} {l : Bytes} (h : BytesU W v l) (hb : Below W.heap.size W W') : BytesU W' v l := h.of fun g _ hg _ => hb.block g (Array.getElem?_eq_some_iff.1 hg).1
theorem Held.part3 {W : World} {B : Nat} {v : Value} {l : Bytes} (h : Held W B v l) {n m : Nat} (hn : n < m) (hm : m ≤ l.length) (k1 k2 k3 : IntKind) :
    ∃ v1, (∀ w, (Instr.slice 48 v (some (.int k1 n)) (some (.int k2 m)) (some (.int k3 m))).run Try.prog w = .ok v1 w) ∧ BytesU W v1 ((l.drop n).take (m - n)) ∧ v1.ownBlock = v.ownBlock := by
  rcases h.2 with ⟨rfl, h0⟩ | ⟨g, cap, cur, rfl, -, hg, h1, h2, h3, h4⟩
  · omega
  · have hl : ((l.drop n).take (m - n)).length = m - n := by rw [List.length_take, List.length_drop]; omega
    refine ⟨.slice (some ⟨g, 0 + n, none⟩) (m - n) (m - n), fun w => ?_, ⟨g, 0 + n, m - n, cur, by rw [hl], by omega, by omega, hg, fun i hi => ?_⟩, rfl⟩
    · rw [run_slice_lhm w 48 (some ⟨g, 0, none⟩) l.length cap sliceByte k1 k2 k3 n m m (by omega) (by omega) (by omega) (by omega), sizeByte]
      have hne : ¬ m = n := by omega
      simp [Result.andThen, sliced, hne, add_lit']
    · have h5 := congrArg (fun z => z[n + i]?) h4
      simp only [List.getElem?_take, List.getElem?_map, Array.getElem?_toList] at h5
      rw [if_pos (by omega), List.getElem?_eq_getElem (by omega)] at h5
      rw [Nat.zero_add, h5]
      simp
def FirstA (w : World) (o : Option Bytes) (e : Ending) (w' : World) : Prop :=
  Below w.heap.size w w' ∧ match o with
  | none => e = .returned (.tuple #[.slice none 0 0, .bool false])
  | some r => ∃ v, e = .returned (.tuple #[v, .bool true]) ∧ BytesU w' v r
set_option maxRecDepth 100000 in
set_option maxHeartbeats 400000 in
theorem first_any (v : Value) (k : Nat) (l : Bytes) (n : Nat) (w : World) (hv : BlksIn w v k l) (hn : n ≤ 1000000000000) :
    Calls Try.prog 45 #[v, .int .i64 (n : Int)] w fun e w' => FirstA w (first l n) e w' := by
  have hsm : k ≤ 9223372036854775807 := hv.small
  obtain ⟨a, c, rfl⟩ := hv.shape
  have HV := Lib.hid hv
  have HL : Hid (l.length = k * 64) := hv.1
  clear hv
  by_cases h0 : k = 0
  · subst h0
    have HF : Hid (first l n = none) := by
      have := HL.out
      show _ = _
      unfold first
      rw [if_pos (by omega)]
    go_enter Try.func45, Try.ntmps45
    go_wp2
    refine bodyPost_ret (results_tmp2 rfl _ _ _) rfl ?_
    rw [HF.out]
    exact ⟨Below.refl _ _, rfl⟩
  obtain ⟨g, off, cap, he, hg, hA⟩ := HV.out.at (show 0 < k by omega)
  obtain ⟨rfl, rfl⟩ : a = some ⟨g, off, none⟩ ∧ c = cap := by cases he; exact ⟨rfl, rfl⟩
  have hk0 : ¬ (k : Int) = 0 := by omega
  have HA : Hid (LiesA w g off (blk l 0)) := by
    have := hA
    rw [Nat.zero_mul, Nat.add_zero] at this
    exact this
  have HL0 : Hid ((blk l 0).length = 64) := blk_length HL.out (by omega)
  have HLE : Hid (lenOf (blk l 0) = lenOf l) := by
    have := HL.out
    show _ = _
    rw [lenOf_eq _ (by rw [HL0.out]; omega), lenOf_eq l (by omega)]
    unfold blk
    simp
  have hln : lenOf l < 65536 := by unfold lenOf; have := (l.getD 0 0).toNat_lt; have := (l.getD 1 0).toNat_lt; omega
  have HT := fun w => lengthOf_any (blk l 0) w HL0.out
  rw [HLE.out] at HT
  have HT2 : Hid (∀ w, Calls Try.prog 61 #[encA (blk l 0)] w fun e w' => e = .returned (.int .i64 (lenOf l : Nat)) ∧ Below w.heap.size w w') := HT
  have HND : Hid (∀ w, Calls Try.prog 31 #[.int .i64 (lenOf l : Nat)] w fun e w' => e = .returned (.int .i64 (need (lenOf l) : Nat)) ∧ w' = w) := fun w => by
    have := need_any (lenOf l : Nat) w (by omega)
    rwa [Int.toNat_natCast] at this
  have hnd := need_le (lenOf l)
  have HFE : Hid (first l n = if l.length = 0 ∨ need (lenOf l) = 0 ∨ l.length < need (lenOf l) * 64 then none else if laid ((l.drop 8).take (lenOf l)) n = l.take (need (lenOf l) * 64) then some ((l.drop 8).take (lenOf l)) else none) := rfl
  have HRM : Hid (need (lenOf l) ≠ 0 → 1 ≤ lenOf l ∧ lenOf l ≤ 1024 ∧ lenOf l + 8 ≤ need (lenOf l) * 64 ∧ need (lenOf l) * 64 < lenOf l + 72) := need_room
  clear he hg hA HLE HT
  generalize hm : lenOf l = m at *
  have HM := Lib.hid hm
  clear hm
  generalize hq : need m = q at *
  have HQ := Lib.hid hq
  clear hq
  by_cases h1 : q = 0 ∨ k < q
  · have HF : Hid (first l n = none) := by
      show _ = _
      rw [HFE.out, if_pos (by have := HL.out; omega)]
    rcases h1 with h1 | h1
    · subst h1
      go_enter Try.func45, Try.ntmps45
      go_wp2_with (first | refine wpList_load_blk rfl rfl rfl HA.out HL0.out ?_ | (go_at_call 61; refine (HT2.out _).mono ?_; rintro e W2 ⟨rfl, hb2⟩) | (go_at_call 31; refine (HND.out _).mono ?_; rintro e W3 ⟨rfl, rfl⟩))
      refine bodyPost_ret (results_tmp2 rfl _ _ _) rfl ?_
      rw [HF.out]
      exact ⟨hb2, rfl⟩
    · have h1' : (k : Int) < (q : Int) := by omega
      have hq0 : ¬ (q : Int) = 0 := by omega
      go_enter Try.func45, Try.ntmps45
      go_wp2_with (first | refine wpList_load_blk rfl rfl rfl HA.out HL0.out ?_ | (go_at_call 61; refine (HT2.out _).mono ?_; rintro e W2 ⟨rfl, hb2⟩) | (go_at_call 31; refine (HND.out _).mono ?_; rintro e W3 ⟨rfl, rfl⟩))
      refine bodyPost_ret (results_tmp2 rfl _ _ _) rfl ?_
      rw [HF.out]
      exact ⟨hb2, rfl⟩
  obtain ⟨hm1, hm2, hm3, hm4⟩ := HRM.out (by omega)
  have hq0 : ¬ (q : Int) = 0 := by omega
  have hqk : ¬ (k : Int) < (q : Int) := by omega
  have hqb : ((q : Int) == 0) = false := by simpa using hq0
  have hqd : decide (k < q) = false := by simp; omega
  obtain ⟨v1, hs1, hv1, -⟩ := HV.out.head3 (n := q) (by omega) .i64 .i64
  have HV1 := Lib.hid hv1
  have hR : ((l.drop 8).take m).length = m := by have := HL.out; rw [List.length_take, List.length_drop]; omega
  have HR : Hid (((l.drop 8).take m).length = m) := hR
  have HTD : Hid (((l.take (q * 64)).drop 8).take (8 + m - 8) = (l.drop 8).take m) := by
    show _ = _
    rw [List.drop_take, List.take_take]
    congr 1
    omega
  clear hv1
  generalize hRR : (l.drop 8).take m = R at *
  have HRR := Lib.hid hRR
  clear hRR hR
  obtain ⟨bb, hbb⟩ : ∃ bb, bb = decide (l.take (q * 64) = laid R n) := ⟨_, rfl⟩
  have HBB := Lib.hid hbb
  clear hbb
  go_enter Try.func45, Try.ntmps45
  go_wp2_with (first | refine wpList_load_blk rfl rfl rfl HA.out HL0.out ?_ | (go_at_call 61; refine (HT2.out _).mono ?_; rintro e W2 ⟨rfl, hb2⟩) | (go_at_call 31; refine (HND.out _).mono ?_; rintro e W3 ⟨rfl, rfl⟩) | (go_at_call 62; refine (joined_any v1 q (l.take (q * 64)) _ (HV1.out.after (by assumption)) (by omega)).mono ?_))
  rintro e W5 ⟨r, rfl, hJ, hb5⟩
  have HB5 : Hid (Below w.heap.size w W5) := hb2.trans (hb5.mono hb2.size)
  obtain ⟨v2, hs2, hv2, -⟩ := hJ.part3 (n := 8) (m := 8 + m) (by omega) (by have := HL.out; rw [List.length_take]; omega) .i64 .i64 .i64
  rw [HTD.out] at hv2
  have HV2 := Lib.hid hv2
  have hs3 : ∀ w, (Instr.slice 48 r (some (.int .i64 8)) (some (.int .i64 (8 + (m : Int)))) (some (.int .i64 (8 + (m : Int))))).run Try.prog w = .ok v2 w := fun w => by
    have := hs2 w
    rwa [show ((8 + m : Nat) : Int) = 8 + (m : Int) by omega] at this
  have HW : Hid (∀ W, BytesIn W v2 R → Calls Try.prog 33 #[v2, .int .i64 (n : Int)] W fun e w' => ∃ r, e = .returned r ∧ BlksIn w' r q (laid R n) ∧ Below W.heap.size W w') := fun W h => by
    have := written_any v2 R n W h (by rw [HR.out, HQ.out]; omega) hn
    rwa [HR.out, HQ.out] at this
  clear hJ hs2 hv2 hb5 hb2
  go_wp2_with (first | (go_at_call 33; refine (HW.out _ HV2.out.bytes).mono ?_; rintro e W6 ⟨r6, rfl, hr6, hb6⟩) | (go_at_call 63; refine (equal_any v1 r6 q q (l.take (q * 64)) (laid R n) _ (HV1.out.after (HB5.out.trans (hb6.mono HB5.out.size))) hr6).mono ?_))
  rintro e W7 ⟨rfl, hb7⟩
  rw [← HBB.out]
  have HB7 : Hid (Below w.heap.size w W7) := (HB5.out.trans (hb6.mono HB5.out.size)).trans (hb7.mono (Nat.le_trans HB5.out.size hb6.size))
  have HV7 : Hid (BytesU W7 v2 R) := (HV2.out.after hb6).after hb7
  clear hb6 hb7 hr6
  cases bb with
  | true =>
    have HF : Hid (first l n = some R) := by
      show _ = _
      rw [HFE.out, if_neg (by have := HL.out; omega), if_pos (of_decide_eq_true HBB.out.symm).symm]
    go_wp2
    refine bodyPost_ret (results_tmp2 rfl _ _ _) rfl ?_
    rw [HF.out]
    exact ⟨HB7.out, _, rfl, HV7.out⟩
  | false =>
    have HF : Hid (first l n = none) := by
      show _ = _
      rw [HFE.out, if_neg (by have := HL.out; omega), if_neg (fun e => of_decide_eq_false HBB.out.symm e.symm)]
    go_wp2
    refine bodyPost_ret (results_tmp2 rfl _ _ _) rfl ?_
    rw [HF.out]
    exact ⟨HB7.out, rfl⟩
end Go.Proofs.Ytfndiocohaploaa.L
