/- A log that is cut in the midst of its last record. -/
import Derived.Test.YtfiahkomabllaaaLTornM
import Derived.Test.YtfiahkomabllaaaLFork
namespace Go.Proofs.Ytfiahkomabllaaa.L
open Go Go.RowKit
open Go.Lib

/-- A log of whole records alone, with more behind them. -/
theorem recs_more {b x : Bytes} {M : List Bytes} (hb : blks (recs b) * 64 = b.length) (hm : All M x ((recs b).length + 1)) : recs (b ++ x) = recs b ++ M := by
  refine (recs_of ((begin_more (recs_all b).1 x).all ?_)).symm
  rw [hb, List.drop_left, Nat.add_comm 1]
  exact hm
theorem all_none {x : Bytes} {n : Nat} (h : first x n = none) : All [] x n := ⟨trivial, by simpa [blks] using h⟩
theorem all_one {x r : Bytes} {n : Nat} (h : first x n = some r) (hl : x.length = need r.length * 64) : All [r] x n := by
  refine ⟨⟨h, trivial⟩, ?_⟩
  rw [List.drop_of_length_le (by simp [blks]; omega)]
  rfl
theorem first_short {r : Bytes} (h : need r.length ≠ 0) (h120 : r.length ≤ 120) (n : Nat) {p q : Nat} (hp : p ≤ q * 64) (hq : q < need r.length) : first ((laid r n).take p ++ zs (q * 64 - p)) n = none := by
  have hr := need_room h
  have hl := laid_length h n
  cases hf : first ((laid r n).take p ++ zs (q * 64 - p)) n with
  | none => rfl
  | some d =>
    exfalso
    obtain ⟨f1, -, f3, -, f5⟩ := first_some hf
    have hlen : ((laid r n).take p ++ zs (q * 64 - p)).length = q * 64 := by rw [List.length_append, List.length_take, zs_length]; omega
    rw [hlen] at f3
    have hq1 : 1 ≤ q := by omega
    have e : ∀ i, i < 2 → ((laid r n).take p ++ zs (q * 64 - p)).getD i 0 = (cutAt r n p).getD i 0 := fun i hi => by
      rw [getElem_cutAt h (by omega) (by omega)]
      by_cases h1 : i < p
      · rw [if_pos h1, List.getD_eq_getElem?_getD, List.getElem?_append_left (by rw [List.length_take]; omega), List.getElem?_take, if_pos h1, ← List.getD_eq_getElem?_getD]
      · rw [if_neg h1, List.getD_eq_getElem?_getD, List.getElem?_append_right (by rw [List.length_take]; omega)]
        unfold zs
        rw [List.getElem?_replicate]
        split <;> rfl
    have e2 : lenOf ((laid r n).take p ++ zs (q * 64 - p)) = lenOf (cutAt r n p) := by
      unfold lenOf
      rw [e 0 (by omega), e 1 (by omega)]
    rw [e2] at f5
    rcases Nat.lt_or_ge p 2 with h2 | h2
    · rw [lenOf_cut1 h h120 (by omega) h2] at f5
      rw [← f5] at f1
      exact f1 rfl
    · rw [lenOf_cut h (by omega) h2] at f5
      rw [← f5] at f3
      omega
theorem take_app {b x : Bytes} {k j : Nat} (hb : b.length = k * 64) : (b ++ x).take ((k + j) * 64) = b ++ x.take (j * 64) := by
  rw [Nat.add_mul, ← hb, List.take_append, List.take_of_length_le (by omega)]
  congr 2
  omega
theorem blk_app {b x : Bytes} {k j : Nat} (hb : b.length = k * 64) : blk (b ++ x) (k + j) = blk x j := by
  unfold blk
  rw [Nat.add_mul, ← hb, ← List.drop_drop, List.drop_left]
theorem torn_state (s : Lg) (k : Nat) (hb : s.b.length = k * 64) (hall : blks (recs s.b) * 64 = s.b.length) (hl : s.last = k) (r : Bytes) (h1 : 1 ≤ r.length) (h120 : r.length ≤ 120) (keep torn : Int) (hk : 0 ≤ keep) (ht : 0 ≤ torn) (ht64 : torn ≤ 64) :
    (recs (leftB { s with b := s.b ++ laid r ((recs s.b).length + 1) } keep torn) = recs s.b ∧ keep < (need r.length : Nat)) ∨ recs (leftB { s with b := s.b ++ laid r ((recs s.b).length + 1) } keep torn) = recs s.b ++ [r] := by
  have h0 : need r.length ≠ 0 := by rw [need_pos h1 (by omega)]; omega
  have hll := laid_length h0 ((recs s.b).length + 1)
  generalize hn : (recs s.b).length + 1 = n at *
  obtain ⟨m, hm⟩ : ∃ m, need r.length = m := ⟨_, rfl⟩
  rw [hm] at hll h0 ⊢
  have hk2 : (s.b ++ laid r n).length / 64 = k + m := by rw [List.length_append, hb, hll]; omega
  obtain ⟨j, hj⟩ : ∃ j, j = min keep.toNat m := ⟨_, rfl⟩
  have hst : stayN { s with b := s.b ++ laid r n } keep = k + j := by
    unfold stayN
    show s.last + min keep.toNat ((s.b ++ laid r n).length / 64 - s.last) = k + j
    rw [hk2, hl, hj]
    congr 2
    omega
  have hleft : leftB { s with b := s.b ++ laid r n } keep torn = s.b ++ ((laid r n).take (j * 64) ++ if j < m ∧ 0 < torn then tornB (blk (laid r n) j) torn.toNat else []) := by
    unfold leftB
    show (s.b ++ laid r n).take (stayN { s with b := s.b ++ laid r n } keep * 64) ++ (if stayN { s with b := s.b ++ laid r n } keep < (s.b ++ laid r n).length / 64 ∧ 0 < torn then tornB (blk (s.b ++ laid r n) (stayN { s with b := s.b ++ laid r n } keep)) torn.toNat else []) = _
    rw [hst, hk2, take_app hb, blk_app hb, List.append_assoc]
    congr 2
    by_cases hc : j < m ∧ 0 < torn
    · rw [if_pos hc, if_pos (by omega)]
    · rw [if_neg hc, if_neg (by omega)]
  rw [hleft]
  -- what is behind the whole records: the first p bytes of the record, zeros behind them, on q blocks
  obtain ⟨p, q, hp, hq, hx, hqm⟩ : ∃ p q, p ≤ q * 64 ∧ q ≤ m ∧ (laid r n).take (j * 64) ++ (if j < m ∧ 0 < torn then tornB (blk (laid r n) j) torn.toNat else []) = (laid r n).take p ++ zs (q * 64 - p) ∧ (j = m → q = m ∧ p = m * 64) := by
    by_cases hc : j < m ∧ 0 < torn
    · refine ⟨j * 64 + torn.toNat, j + 1, by omega, by omega, ?_, fun e => by omega⟩
      rw [if_pos hc]
      unfold tornB blk
      rw [List.take_take, Nat.min_eq_left (by omega), ← List.append_assoc, ← List.take_add]
      congr 2
      omega
    · refine ⟨j * 64, j, Nat.le_refl _, by omega, ?_, fun e => ⟨e, by rw [e]⟩⟩
      rw [if_neg hc, Nat.sub_self]
      rfl
  rw [hx]
  rcases Nat.lt_or_ge q m with hq2 | hq2
  · refine .inl ⟨?_, ?_⟩
    · have := first_short (r := r) (by rw [hm]; exact h0) h120 n hp (by rw [hm]; exact hq2)
      rw [← hn] at this ⊢
      rw [recs_more hall (all_none this), List.append_nil]
    · have : j ≠ m := fun e => by have := (hqm e).1; omega
      omega
  · obtain rfl : q = m := by omega
    have hlen : ((laid r n).take p ++ zs (q * 64 - p)).length = q * 64 := by rw [List.length_append, List.length_take, zs_length]; omega
    have hcut : (laid r n).take p ++ zs (q * 64 - p) = cutAt r n p := by unfold cutAt zs; rw [hm]
    rcases first_cut (r := r) (by rw [hm]; exact h0) h120 n (p := p) (by rw [hm]; exact hp) with hf | hf
    · refine .inl ⟨?_, ?_⟩
      · rw [hcut]
        rw [← hn] at hf ⊢
        rw [recs_more hall (all_none hf), List.append_nil]
      · by_cases hjm : j = q
        · exfalso
          obtain ⟨-, hp2⟩ := hqm hjm
          have e1 : cutAt r n p = laid r n ++ [] := by
            unfold cutAt
            rw [hm, hp2, Nat.sub_self, List.take_of_length_le (by omega)]
            rfl
          rw [e1, first_laid (by rw [hm]; exact h0)] at hf
          cases hf
        · omega
    · refine .inr ?_
      rw [hcut]
      have hl2 : (cutAt r n p).length = need r.length * 64 := by rw [← hcut, hlen, hm]
      rw [← hn] at hf hl2 ⊢
      exact recs_more hall (all_one hf hl2)
theorem all_blks_app {b r : Bytes} (hb : blks (recs b) * 64 = b.length) (h : need r.length ≠ 0) : recs (b ++ laid r ((recs b).length + 1)) = recs b ++ [r] := by
  have e := first_laid h ((recs b).length + 1) []
  rw [List.append_nil] at e
  exact recs_more hb (all_one e (laid_length h _))
end Go.Proofs.Ytfiahkomabllaaa.L
