/- A record whose blocks are cut is whole, or not there: plain facts, no program is named here. -/
import Derived.Test.YtfiahkomabllaaaLPlain
namespace Go.Proofs.Ytfiahkomabllaaa.L

/-- What bytes come to. -/
def tot (l : Bytes) : Nat := (l.map (·.toNat)).sum
theorem fold_one (l : Bytes) : ∀ p : Nat × Nat, p.1 < 65521 → (l.foldl step p).1 = (p.1 + tot l) % 65521 := by
  induction l with
  | nil =>
    intro p hp
    simp [tot, Nat.mod_eq_of_lt hp]
  | cons b l ih =>
    intro p hp
    rw [List.foldl_cons, ih _ (Nat.mod_lt _ (by decide))]
    unfold step tot
    simp only [List.map_cons, List.sum_cons]
    omega
theorem half_one (l : Bytes) : (half l).1 = (1 + tot l) % 65521 := fold_one l (1, 0) (by decide)
theorem tot_le (l : Bytes) : tot l ≤ 255 * l.length := by
  induction l with
  | nil => simp [tot]
  | cons b l ih =>
    have h1 : b.toNat < 256 := b.toNat_lt
    unfold tot at *
    simp only [List.map_cons, List.sum_cons, List.length_cons]
    omega
theorem tot_append (a b : Bytes) : tot (a ++ b) = tot a + tot b := by unfold tot; rw [List.map_append, List.sum_append]
theorem tot_zero (n : Nat) : tot (List.replicate n 0) = 0 := by
  induction n with
  | zero => rfl
  | succ n ih =>
    rw [List.replicate_succ]
    unfold tot at *
    simp only [List.map_cons, List.sum_cons]
    rw [ih]
    rfl
theorem zero_of_tot {l : Bytes} (h : tot l = 0) : l = List.replicate l.length 0 := by
  induction l with
  | nil => rfl
  | cons b l ih =>
    unfold tot at h
    simp only [List.map_cons, List.sum_cons] at h
    have hb : b = 0 := UInt8.toNat_inj.1 (by show b.toNat = 0; omega)
    rw [List.length_cons, List.replicate_succ, ← ih (show tot l = 0 by unfold tot; omega), hb]
/-- The beginning of bytes, the rest zero, of one sum with them: it is they. -/
theorem same_of_tot {r : Bytes} {j : Nat} (hj : j ≤ r.length) (h : tot (r.take j ++ List.replicate (r.length - j) 0) = tot r) : r.take j ++ List.replicate (r.length - j) 0 = r := by
  have e := tot_append (r.take j) (r.drop j)
  rw [List.take_append_drop] at e
  rw [tot_append, tot_zero, e] at h
  have h0 := zero_of_tot (show tot (r.drop j) = 0 by omega)
  rw [List.length_drop] at h0
  rw [← h0, List.take_append_drop]
theorem u8_low {a b : Nat} (h : u8 a = u8 b) : a % 256 = b % 256 := by rw [← u8_nat, ← u8_nat, h]
theorem sum_of_bytes {a b : Nat} (ha : a < 4294967296) (hb : b < 4294967296) (h3 : u8 (a / 16777216) = u8 (b / 16777216)) (h2 : u8 (a / 65536) = u8 (b / 65536)) (h1 : u8 (a / 256) = u8 (b / 256)) (h0 : u8 a = u8 b) : a = b := by
  have e3 := u8_low h3
  have e2 := u8_low h2
  have e1 := u8_low h1
  have e0 := u8_low h0
  omega
/-- The first p bytes of a record on its blocks, all behind them zero. -/
def cutAt (r : Bytes) (n p : Nat) : Bytes := (laid r n).take p ++ List.replicate (need r.length * 64 - p) 0
theorem cutAt_length {r : Bytes} (h : need r.length ≠ 0) {n p : Nat} (hp : p ≤ need r.length * 64) : (cutAt r n p).length = need r.length * 64 := by
  unfold cutAt
  rw [List.length_append, List.length_take, List.length_replicate, laid_length h]
  omega
theorem getElem_cutAt {r : Bytes} (h : need r.length ≠ 0) {n p i : Nat} (_hp : p ≤ need r.length * 64) (hi : i < need r.length * 64) : (cutAt r n p).getD i 0 = if i < p then (laid r n).getD i 0 else 0 := by
  have hl := laid_length h n
  unfold cutAt
  by_cases h1 : i < p
  · rw [if_pos h1, List.getD_eq_getElem?_getD, List.getElem?_append_left (by rw [List.length_take]; omega), List.getElem?_take, if_pos h1, ← List.getD_eq_getElem?_getD]
  · rw [if_neg h1, List.getD_eq_getElem?_getD, List.getElem?_append_right (by rw [List.length_take]; omega), List.getElem?_replicate]
    split <;> rfl
theorem laid_data (r : Bytes) (n i : Nat) (hi : i < r.length) : (laid r n).getD (8 + i) 0 = r.getD i 0 := by
  unfold laid
  rw [List.getD_eq_getElem?_getD, List.getElem?_append_left (by rw [List.length_append, head_length]; omega), List.getElem?_append_right (by rw [head_length]; omega), head_length, Nat.add_sub_cancel_left, ← List.getD_eq_getElem?_getD]
theorem cut_data {r : Bytes} (h : need r.length ≠ 0) {n p : Nat} (hp : p ≤ need r.length * 64) : ((cutAt r n p).drop 8).take r.length = r.take (p - 8) ++ List.replicate (r.length - (p - 8)) 0 := by
  have hr := need_room h
  have hl := cutAt_length h (n := n) hp
  apply List.ext_getElem
  · rw [List.length_take, List.length_drop, hl, List.length_append, List.length_take, List.length_replicate]
    omega
  · intro i h1 h2
    have hi : i < r.length := by rw [List.length_take] at h1; omega
    have e := getElem_cutAt h (n := n) hp (show 8 + i < need r.length * 64 by omega)
    rw [laid_data r n i hi] at e
    have e1 : (((cutAt r n p).drop 8).take r.length)[i] = (cutAt r n p).getD (8 + i) 0 := by
      rw [List.getElem_take, List.getElem_drop, List.getD_eq_getElem?_getD, List.getElem?_eq_getElem (by omega)]
      rfl
    rw [e1, e]
    by_cases hc : i < p - 8
    · rw [if_pos (by omega), List.getElem_append_left (by rw [List.length_take]; omega), List.getElem_take, List.getD_eq_getElem?_getD, List.getElem?_eq_getElem hi]
      rfl
    · rw [List.getElem_append_right (by rw [List.length_take]; omega), List.getElem_replicate]
      by_cases hc2 : 8 + i < p
      · omega
      · rw [if_neg hc2]
theorem laid_head (r : Bytes) (n i : Nat) (hi : i < 8) : (laid r n).getD i 0 = (head r n).getD i 0 := by
  unfold laid
  rw [List.append_assoc, List.getD_eq_getElem?_getD, List.getElem?_append_left (by rw [head_length]; exact hi), ← List.getD_eq_getElem?_getD]
theorem lenOf_cut {r : Bytes} (h : need r.length ≠ 0) {n p : Nat} (hp : p ≤ need r.length * 64) (h2 : 2 ≤ p) : lenOf (cutAt r n p) = r.length := by
  have hr := need_room h
  unfold lenOf
  rw [getElem_cutAt h hp (by omega), getElem_cutAt h hp (by omega), if_pos (by omega), if_pos (by omega), laid_head r n 0 (by omega), laid_head r n 1 (by omega)]
  unfold head
  simp only [List.getD_cons_zero, List.getD_cons_succ, u8_nat]
  omega
theorem lenOf_cut1 {r : Bytes} (h : need r.length ≠ 0) (h120 : r.length ≤ 120) {n p : Nat} (hp : p ≤ need r.length * 64) (h2 : p < 2) : lenOf (cutAt r n p) = 0 := by
  have hr := need_room h
  unfold lenOf
  rw [getElem_cutAt h hp (by omega), getElem_cutAt h hp (by omega), if_neg (show ¬ 1 < p by omega)]
  have e : (laid r n).getD 0 0 = 0 := by
    rw [laid_head r n 0 (by omega)]
    unfold head
    simp only [List.getD_cons_zero]
    apply UInt8.toNat_inj.1
    rw [u8_nat]
    show r.length / 256 % 256 = 0
    omega
  rw [e]
  split <;> rfl
/-- It is the record, or none. -/
theorem first_cut {r : Bytes} (h : need r.length ≠ 0) (h120 : r.length ≤ 120) (n : Nat) {p : Nat} (hp : p ≤ need r.length * 64) : first (cutAt r n p) n = none ∨ first (cutAt r n p) n = some r := by
  have hr := need_room h
  cases hf : first (cutAt r n p) n with
  | none => exact .inl rfl
  | some d =>
    refine .inr ?_
    obtain ⟨f1, f2, f3, f4, f5⟩ := first_some hf
    have hp2 : 2 ≤ p := by
      rcases Nat.lt_or_ge p 2 with h2 | h2
      · rw [lenOf_cut1 h h120 hp h2] at f5
        rw [← f5] at f1
        exact absurd rfl f1
      · exact h2
    rw [lenOf_cut h hp hp2] at f5
    have hd : d = r.take (p - 8) ++ List.replicate (r.length - (p - 8)) 0 := by
      rw [f4, ← f5]
      exact cut_data h hp
    have hcl := cutAt_length h (n := n) hp
    rw [← f5, List.take_of_length_le (by omega)] at f2
    -- the heads
    have hh : ∀ i, i < 8 → (cutAt r n p).getD i 0 = (head d n).getD i 0 := fun i hi => by rw [f2, laid_head d n i hi]
    have hc : ∀ i, i < 8 → (if i < p then (head r n).getD i 0 else 0) = (head d n).getD i 0 := fun i hi => by
      rw [← hh i hi, getElem_cutAt h hp (by omega), laid_head r n i hi]
    have h7 := hc 7 (by omega)
    have hsd := sum_lt d
    have hsr := sum_lt r
    by_cases h8 : 8 ≤ p
    · have h4 := hc 4 (by omega)
      have h5 := hc 5 (by omega)
      have h6 := hc 6 (by omega)
      rw [if_pos (by omega)] at h4 h5 h6 h7
      unfold head at h4 h5 h6 h7
      simp only [List.getD_cons_zero, List.getD_cons_succ] at h4 h5 h6 h7
      have hs := sum_of_bytes hsr hsd h4 h5 h6 h7
      have hx : (half r).1 = (half d).1 := by
        have e1 := half_lt r
        have e2 := half_lt d
        unfold sum at hs
        omega
      rw [half_one, half_one] at hx
      have t1 := tot_le r
      have t2 := tot_le d
      have ht : tot d = tot r := by omega
      by_cases hj : p - 8 ≤ r.length
      · rw [hd] at ht
        rw [hd, same_of_tot hj ht]
      · rw [hd, List.take_of_length_le (by omega), show r.length - (p - 8) = 0 by omega]
        simp
    · rw [if_neg (by omega)] at h7
      unfold head at h7
      simp only [List.getD_cons_zero, List.getD_cons_succ] at h7
      have hz : tot d = 0 := by
        rw [hd, show p - 8 = 0 by omega, List.take_zero, List.nil_append]
        exact tot_zero _
      have e0 : sum d % 256 = 0 := by
        have := congrArg UInt8.toNat h7
        rw [u8_nat] at this
        exact this.symm
      have e1 : (half d).1 = 1 := by rw [half_one, hz]
      unfold sum at e0
      omega
end Go.Proofs.Ytfiahkomabllaaa.L
