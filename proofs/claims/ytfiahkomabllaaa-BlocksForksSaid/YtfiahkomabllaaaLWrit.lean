/- blocks.written: the blocks of a record. -/
import Derived.Test.YtfiahkomabllaaaLWrit0
namespace Go.Proofs.Ytfiahkomabllaaa.L
open Go Go.RowKit
open Go.Lib

/-- How far it is: i blocks are filled out of D; what is left. -/
structure Filled (w : World) (gb : Nat) (D : Bytes) (k i : Nat) (r : Value) (W : World) : Prop where
  row : BoxB W gb t64 (fill D k i)
  left : BytesIn W r (D.drop (i * 64))
  ne : ∀ g, r.ownBlock = some g → g ≠ gb
  low : w.heap.size ≤ gb
  base : Below w.heap.size w W
theorem drop_min (D : Bytes) (i m : Nat) (h : m = min 64 (D.length - i * 64)) : (D.drop (i * 64)).drop m = D.drop ((i + 1) * 64) := by
  rw [List.drop_drop, Nat.succ_mul]
  by_cases h64 : 64 ≤ D.length - i * 64
  · rw [h, Nat.min_eq_left h64]
  · rw [List.drop_of_length_le (by omega), List.drop_of_length_le (by omega)]
theorem wpList_copy_fill {ops : Array Oper} {rest : List Oper} {o : Oper} {a : Act} {W w : World} {Q : Exit → Act → World → Prop} {gb k i : Nat} {D : Bytes} {r : Value} (hgd : o.guard = none) (d s : Operand) (ho : o.op = .call { callee := .builtin .copy, args := #[d, s], argTypes := #[30, 30] })
    (hd : a.eval d = .slice (some ⟨gb, i * 64, none⟩) 64 64) (hs : a.eval s = r) (hF : Filled w gb D k i r W) (hi : i < k) (h1 : i * 64 < D.length) (h2 : D.length ≤ k * 64)
    (h : ∀ W' v1 m, Hid (m = min 64 (D.length - i * 64)) → Hid (∀ u, (Instr.slice 30 r (some (.int .i64 (m : Nat))) none none).run Try.prog u = .ok v1 u) → Filled w gb D k (i + 1) v1 W' → wpList Try.prog ops Q rest (a.put o.dst (.int .i64 (m : Nat))) W') : wpList Try.prog ops Q (o :: rest) a W := by
  have hlen : (D.drop (i * 64)).length = D.length - i * 64 := List.length_drop
  have hm : (((D.drop (i * 64)).take 64).map bv).length = min 64 (D.length - i * 64) := by rw [List.length_map, List.length_take, hlen]
  have hfl := fill_length D k i (by omega)
  obtain ⟨v1, hv1, hv2, hv3⟩ := hF.left.tail (n := min 64 (D.length - i * 64)) (by omega) .i64
  rcases hF.left with ⟨c, hr, e⟩ | ⟨g, off, cap, hr, hc1, hc2, hg, h4⟩
  · rw [e] at hlen
    exact absurd hlen (by simp; omega)
  have h5 : LiesA W g off (D.drop (i * 64)) := h4
  have hne : g ≠ gb := hF.ne g (by rw [hr]; rfl)
  refine wpList_copy_own hgd d s 30 30 ho 5 Try.underlying30 (by kernel_rfl) gb (i * 64) 64 64 ⟨g, off, none⟩ (D.drop (i * 64)).length cap hd (hs.trans hr) ((fill D k i).map bv).toArray t64 hF.row (((D.drop (i * 64)).take 64).map bv)
    (by rw [hm, hlen]; exact Nat.min_comm _ _) (fun j u hj => ?_) (by rw [hm, List.size_toArray, List.length_map, hfl]; omega) (one_bv _) ?_
  · rw [add_lit']
    have := (h5.part 0 64).range j u hj
    rwa [Nat.add_zero] at this
  · rw [hm]
    have hrow : BoxB (W.setRow gb ((((fill D k i).map bv).toArray.toList.take (i * 64) ++ (((D.drop (i * 64)).take 64).map bv ++ ((fill D k i).map bv).toArray.toList.drop (i * 64 + min 64 (D.length - i * 64)))).toArray)) gb t64 (fill D k (i + 1)) := by
      rw [← fill_step D k i hi (by omega) h2]
      have e2 : (splice (fill D k i) (i * 64) ((D.drop (i * 64)).take 64)).map bv = ((fill D k i).map bv).toArray.toList.take (i * 64) ++ (((D.drop (i * 64)).take 64).map bv ++ ((fill D k i).map bv).toArray.toList.drop (i * 64 + min 64 (D.length - i * 64))) := by
        rw [← splice_map]
        unfold splice
        rw [hm]
      unfold BoxB
      rw [e2]
      exact setRow_heap _ _ _ _ _ _ hF.row
    refine h _ v1 _ (Lib.hid rfl) (Lib.hid hv1) ⟨hrow, ?_, fun g hg => hF.ne g (hv3 ▸ hg), hF.low, below_setRow hF.base hF.low _⟩
    rw [← drop_min D i _ rfl]
    rcases hv2 with h6 | ⟨g2, off2, cap2, hr2, h7, h8, h9, h10⟩
    · exact .inl h6
    · have hg2 : g2 ≠ gb := by
        have e3 := hv3
        rw [hr2, hr] at e3
        simp [Value.ownBlock] at e3
        omega
      exact .inr ⟨g2, off2, cap2, hr2, h7, h8, by rw [setRow_size]; exact h9, fun j hj => (cell_setRow_other _ _ _ _ hg2).trans (h10 j hj)⟩
set_option maxRecDepth 100000 in
set_option maxHeartbeats 400000 in
theorem written_any (v : Value) (l : Bytes) (n : Nat) (w : World) (hv : BytesIn w v l) (hne : need l.length ≠ 0) (hn : n ≤ 1000000000000) :
    Calls Try.prog 37 #[v, .int .i64 (n : Int)] w fun e w' => ∃ r, e = .returned r ∧ BlksIn w' r (need l.length) (laid l n) ∧ Below w.heap.size w w' := by
  obtain ⟨hl1, hl2, hl3, hl4⟩ := need_room hne
  have hk17 := need_le l.length
  have HLA : Hid (fill (head l n ++ l) (need l.length) (need l.length) = laid l n) := fill_laid l n hne
  have HNE := need_any (l.length : Int) w (by omega)
  rw [Int.toNat_natCast] at HNE
  have HND := Lib.hid HNE
  have HLN : Hid ((laid l n).length = need l.length * 64) := laid_length hne n
  have hdl : (head l n ++ l).length = 8 + l.length := by rw [List.length_append, head_length]
  obtain ⟨a, kk, c, rfl⟩ := hv.shape
  obtain rfl : kk = l.length := by rcases hv with ⟨c, h, rfl⟩ | ⟨g, off, cap, h, -⟩ <;> cases h <;> rfl
  have HV := Lib.hid hv
  clear HNE hv
  generalize hk : need l.length = k at *
  have HHD := fun W (h : BytesIn W (.slice a l.length c) l) => headOf_any _ l n W h (by omega) hn
  have h8 : (head l n).length = 8 := rfl
  generalize head l n = hd at *
  have HD8 := Lib.hid h8
  have HHH : Hid (∀ W, BytesIn W (.slice a l.length c) l → Calls Try.prog 48 #[.slice a l.length c, .int .i64 (n : Int)] W fun e w' => e = .returned (encA hd) ∧ Below W.heap.size W w') := HHD
  clear HHD h8
  go_enter Try.func37, Try.ntmps37
  go_wp2_with (first | (go_at_call 16; refine HND.out.mono ?_; rintro e w' ⟨rfl, rfl⟩) | refine wpList_make_blks rfl _ _ rfl k (by omega) rfl rfl ?_)
  intro W2 hx2 hb2
  have HX2 := Lib.hid hx2
  have HB2 := Lib.hid hb2
  clear hx2 hb2 HND
  go_wp2_with (first | (go_at_call 48; refine (HHH.out W2 (HV.out.after HB2.out)).mono ?_; rintro e W3 ⟨rfl, hb3⟩) | refine wpList_alloc_box rfl t8 rfl (zs 8) zero8 ?_)
  intro W4 hx4 hb4
  have HX4 := Lib.hid hx4
  have HB4 : Hid (Below w'.heap.size w' W4) := HB2.out.trans ((hb3.mono HB2.out.size).trans (hb4.mono (Nat.le_trans HB2.out.size hb3.size)))
  have HR4 := Lib.hid ((HX2.out.after hb3).after hb4)
  have HS4 : Hid (w'.heap.size < W3.heap.size) := Nat.lt_of_lt_of_le HX2.out.lt hb3.size
  clear hx4 hb4 hb3 HHH HX2 HB2
  go_wp2_with (refine wpList_store_box rfl t8 _ _ rfl W3.heap.size (zs 8) hd rfl rfl HX4.out (by rw [HD8.out]; rfl) (by rw [HD8.out]; exact size8) ?_)
  intro W5 hx5 ho5 hb5
  have HX5 := Lib.hid hx5
  have HB5 : Hid (Below w'.heap.size w' W5) := hb5 _ _ HB4.out (Nat.le_of_lt HS4.out)
  have HR5 : Hid (BoxB W5 w'.heap.size t64 (zs (k * 64))) := HR4.out.of_heap (ho5 _ (by have := HS4.out; omega))
  have HV5 := Lib.hid (HV.out.after HB5.out)
  clear hx5 ho5 hb5 HX4 HR4 HB4
  have hm1 : 8 < 8 + l.length := by omega
  have hm2 : 8 + l.length ≤ 1000000000 := by omega
  go_wp2_with (at_builtin; refine wpList_append_new rfl _ _ rfl W3.heap.size 0 8 8 hd rfl HD8.out HX5.out.lies _ l rfl HV5.out hm1 hl1 hm2 ?_)
  intro r0 W6 hH6 hb6
  have HF0 : Hid (Filled w' w'.heap.size (hd ++ l) k 0 r0 W6) := ⟨by rw [fill_zero]; exact HR5.out.after hb6, by rw [Nat.zero_mul, List.drop_zero]; exact hH6.bytes, fun g hg e => by have := hH6.low hg; have := HR5.out.lt; omega, Nat.le_refl _, HB5.out.trans (hb6.mono HB5.out.size)⟩
  clear hH6 hb6 HX5 HR5 HV5 HB5 HS4 hm1 hm2
  go_wp2
  go_loopw [7, 22] (fun r iv wr => ∃ i : Nat, i ≤ k ∧ iv = .int .i64 (i : Int) ∧ Filled w' w'.heap.size (hd ++ l) k i r wr) (fun _ iv _ => k - (RowKit.intOf iv).toNat)
  case atStart => exact ⟨0, Nat.zero_le _, rfl, HF0.out⟩
  case round =>
    clear HF0
    obtain ⟨i, hi, rfl, hF⟩ := hrel
    have HF := Lib.hid hF
    clear hF
    by_cases hp : i < k
    · have hp' : (i : Int) < (k : Int) := by omega
      have hd1 : i * 64 < (hd ++ l).length := by omega
      have hd2 : (hd ++ l).length ≤ k * 64 := by omega
      go_wp2_with (refine wpList_copy_fill rfl _ _ rfl rfl rfl HF.out hp hd1 hd2 ?_)
      intro W' v1 m hm HSL hF2
      have hsl := HSL.out
      have HF2 := Lib.hid hF2
      clear hF2 HF hm hd1 hd2
      go_wp2
      exact ⟨⟨i + 1, by omega, by go_num, HF2.out⟩, by simp [RowKit.intOf]; omega⟩
    · have hp' : ¬ (i : Int) < (k : Int) := by omega
      obtain rfl : i = k := by omega
      go_wp2
      go_ret
      have hF := HF.out
      have hr := hF.row
      rw [HLA.out] at hr
      exact ⟨_, rfl, ⟨HLN.out, .inr ⟨_, 0, _, rfl, Nat.le_refl _, by have : maxLen = 9223372036854775807 := rfl; omega, hr.lt, hr.lies⟩⟩, hF.base⟩
end Go.Proofs.Ytfiahkomabllaaa.L
