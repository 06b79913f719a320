/- quant.Print, over the library's table of powers of ten. -/
import Derived.Test.YtggkdapfccanpaaDoorQGreatest
import Derived.Test.YtggkdapfccanpaaDoorQParse
import Derived.Test.YtggkdapfccanpaaDoorShelf
import Derived.Lib.AppendIntMem
import Derived.Lib.ItoaLen
namespace Go.Proofs.YtggkdapfccanpaaDoor.Q
open Go.RowKit

/-- The library's table holds its powers of ten. -/
def Tab (w : World) : Prop := Lib.TabIs Tryd.prog w "internal/strconv.uint64pow10" .u64 Lib.pow10Tab
theorem gTab : Tryd.prog.globalNamed "internal/strconv.uint64pow10" = some 0 := by kernel_rfl
theorem Tab.lt {w : World} (h : Tab w) : 0 < w.heap.size := World.block_lt_of_cell? w ⟨0, 0, none⟩ (Lib.TabIs.cell h gTab 0 (by decide))
theorem Tab.below {w w' : World} {B : Nat} (h : Tab w) (hb : Below B w w') (hB : w.heap.size ≤ B) : Tab w' := var?_below hb gTab (Nat.lt_of_lt_of_le h.lt hB) h

theorem printN_eq (n : Int) : printN n = n / gU n := by
  unfold printN gU
  repeat' split
  all_goals first | (subst_vars; rfl) | rfl | (rw [Int.ediv_one])
theorem gU_pos (n : Int) : 1 ≤ gU n ∧ gU n ≤ 1099511627776 := by
  unfold gU
  repeat' split
  all_goals decide
theorem suffix_le (n : Int) : (suffixOf n).length ≤ 2 := by
  unfold suffixOf
  repeat' split
  all_goals decide
theorem digits_le {n : Int} (h0 : 0 ≤ n) (h : n ≤ 1125899906842624) : (Lib.decDigits n.toNat).length ≤ 20 := by
  rw [Lib.decDigits_length]; exact Lib.nDigits_le20 _ (by omega)
theorem print_no {n : Int} (h : okSize n = false) : printT n = [] ∧ printE n = 3 := by simp [printT, printE, h]
theorem print_ok {n : Int} (h : okSize n = true) : printT n = Lib.decDigits (n / gU n).toNat ++ suffixOf n ∧ printE n = 0 := by simp [printT, printE, h, printN_eq]
theorem okSize_true {n : Int} (h1 : 0 ≤ n) (h2 : n ≤ 1125899906842624) : okSize n = true := by simp [okSize, h1, h2]
theorem okSize_false {n : Int} (h : n < 0 ∨ 1125899906842624 < n) : okSize n = false := by simp only [okSize, Bool.and_eq_false_iff, decide_eq_false_iff_not]; omega
theorem itoa_pos {n : Int} (h : 0 ≤ n) : Lib.itoa n = Lib.decDigits n.toNat := by unfold Lib.itoa; rw [if_neg (by omega)]

theorem ret_print {n : Int} {s : ByteArray} {b : Int} (h1 : s.data.toList = printT n) (h2 : b = printE n) : Ending.returned (.tuple #[.string s, .int .i64 b]) = .returned (.tuple #[encS (printT n), .int .i64 (printE n)]) := by
  rw [← h1, ← h2]; rfl

set_option maxHeartbeats 400000 in
theorem print_any (n : Int) (w : World) (ht : Tab w) :
    Calls Tryd.prog 16 #[.int .i64 n] w fun e W' => e = .returned (.tuple #[encS (printT n), .int .i64 (printE n)]) ∧ Below w.heap.size w W' := by
  have HT := Lib.hid ht
  clear ht
  by_cases h1 : n < 0
  · have H := Lib.hid (print_no (okSize_false (.inl h1)))
    go_enter Tryd.func16, Tryd.ntmps16
    go_wp2
    go_ret2
    exact ⟨ret_print H.out.1.symm H.out.2.symm, Below.refl _ _⟩
  by_cases h2 : 1125899906842624 < n
  · have H := Lib.hid (print_no (okSize_false (.inr h2)))
    go_enter Tryd.func16, Tryd.ntmps16
    go_wp2
    go_ret2
    exact ⟨ret_print H.out.1.symm H.out.2.symm, Below.refl _ _⟩
  have H := Lib.hid (print_ok (okSize_true (n := n) (by omega) (by omega)))
  have g1 : 0 ≤ n := by omega
  have g2 : n ≤ 1125899906842624 := by omega
  clear h1 h2
  obtain ⟨u1, u2⟩ := gU_pos n
  have q1 : 0 ≤ n / gU n := Int.ediv_nonneg g1 (by omega)
  have q2 : n / gU n ≤ n := Int.ediv_le_self _ g1
  have hl2 := digits_le q1 (Int.le_trans q2 g2)
  go_enter Tryd.func16, Tryd.ntmps16
  go_wp2_with fail
  refine (greatest_any n _ g1 g2).mono ?_
  rintro e w1 ⟨rfl, hb1⟩
  have ht1 := Lib.hid (HT.out.below hb1 (Nat.le_refl _))
  generalize gU n = u at *
  unfold encS
  have hl1 := suffix_le n
  generalize suffixOf n = sf at *
  go_wp2_with fail
  refine (Tryd.strconv_FormatInt_10 _ (by omega) (by omega) _ ht1.out).mono ?_
  rintro e w2 ⟨rfl, k, os, rfl⟩
  have hb := hb1.trans (Lib.below_grow w.heap.size w1 hb1.size k os)
  rw [itoa_pos q1]
  generalize Sort.grow (w1.drewN k) os = w2 at *
  go_wp2
  go_ret2
  refine ⟨ret_print ?_ H.out.2.symm, hb⟩
  rw [H.out.1]
  simp
end Go.Proofs.YtggkdapfccanpaaDoor.Q
