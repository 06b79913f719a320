/- blocks.Sum and blocks.Need: what they answer, and that nothing turns. -/
import Derived.Test.YtfiahkomabllaaaLBlks
import Derived.Test.YtfiahkomabllaaaChecked
import Derived.Laws.BitsAllLaws
namespace Go.Proofs.Ytfiahkomabllaaa.L
open Go Go.RowKit
open Go.Lib

theorem half_take (l : Bytes) (i : Nat) (h : i < l.length) : half (l.take (i + 1)) = step (half (l.take i)) l[i] := by
  rw [List.take_succ_eq_append_getElem h, half_snoc]
theorem or_join (a b i : Nat) (h : b < 2 ^ i) : a * 2 ^ i ||| b = a * 2 ^ i + b := by rw [Nat.mul_comm, Nat.two_pow_add_eq_or_of_lt h]
theorem u32_join (a b : Nat) (ha : a < 65536) (hb : b < 65536) : bits .or .u32 ((a : Int) * 65536) (b : Int) = ((a * 65536 + b : Nat) : Int) := by
  have h := u32_or_nat (a * 65536) b (by omega) (by omega)
  rw [show (((a * 65536 : Nat)) : Int) = (a : Int) * 65536 by omega] at h
  rw [h]
  congr 1
  exact or_join a b 16 (by omega)
theorem i64_or_nat (a b : Nat) (ha : a < 9223372036854775808) (hb : b < 9223372036854775808) : bits .or .i64 (a : Int) (b : Int) = ((a ||| b : Nat) : Int) := by
  have hx : a ||| b < 2 ^ 63 := Nat.or_lt_two_pow (by omega) (by omega)
  have e : ∀ x : Nat, x < 9223372036854775808 → (BitVec.ofInt 64 (x : Int)).toNat = x := fun x hx => by
    rw [BitVec.ofInt_natCast, BitVec.toNat_ofNat]; exact Nat.mod_eq_of_lt (by omega)
  show IntKind.i64.wrap ((BitVec.ofInt 64 (a : Int) ||| BitVec.ofInt 64 (b : Int)).toNat : Int) = _
  rw [BitVec.toNat_or, e a ha, e b hb]
  simp only [IntKind.wrap, IntKind.bits, IntKind.signed]
  go_num
theorem i64_join (a b : Nat) (ha : a < 256) (hb : b < 256) : bits .or .i64 ((a : Int) * 256) (b : Int) = ((a * 256 + b : Nat) : Int) := by
  have h := i64_or_nat (a * 256) b (by omega) (by omega)
  rw [show (((a * 256 : Nat)) : Int) = (a : Int) * 256 by omega] at h
  rw [h]
  congr 1
  exact or_join a b 8 (by omega)
set_option maxHeartbeats 400000 in
theorem sum_any (v : Value) (l : Bytes) (w : World) (hv : BytesIn w v l) :
    Calls Try.prog 14 #[v] w fun e w' => e = .returned (.int .u32 (sum l : Nat)) ∧ w' = w := by
  rcases hv with ⟨c, rfl, rfl⟩ | ⟨g, off, cap, rfl, h1, h2, h3, h4⟩
  · go_enter Try.func14, Try.ntmps14
    go_wp2
    go_loopw [3, 4, 9] (fun lo hi iv w' => lo = .int .u32 1 ∧ hi = .int .u32 0 ∧ iv = .int .i64 0 ∧ w' = w) (fun _ _ _ _ => 0)
    case atStart => exact ⟨rfl, rfl, rfl, rfl⟩
    case round =>
      obtain ⟨rfl, rfl, rfl, rfl⟩ := hrel
      go_wp2
      go_ret
      exact ⟨rfl, rfl⟩
  · have HC := Lib.hid h4
    have hlen : l.length ≤ 9223372036854775807 := by have : maxLen = 9223372036854775807 := rfl; omega
    clear h4 h3
    go_enter Try.func14, Try.ntmps14
    go_wp2
    go_loopw [3, 4, 9] (fun lo hi iv w' => ∃ i : Nat, i ≤ l.length ∧ lo = .int .u32 ((half (l.take i)).1 : Nat) ∧ hi = .int .u32 ((half (l.take i)).2 : Nat) ∧ iv = .int .i64 (i : Int) ∧ w' = w) (fun _ _ iv _ => l.length - (RowKit.intOf iv).toNat)
    case atStart => exact ⟨0, Nat.zero_le _, rfl, rfl, rfl, rfl⟩
    case round =>
      obtain ⟨i, hi, rfl, rfl, rfl, rfl⟩ := hrel
      have hlt := half_lt (l.take i)
      by_cases hp : i < l.length
      · have hp' : (i : Int) < (l.length : Int) := by omega
        have b1 : wr.cell? ⟨g, off + i, none⟩ = some (.int .u8 (l[i].toNat : Int)) := HC.out i hp
        have HS : Hid (half (l.take (i + 1)) = step (half (l.take i)) l[i]) := half_take l i hp
        have hb : l[i].toNat < 256 := l[i].toNat_lt
        generalize half (l.take i) = p at *
        generalize hq : l[i].toNat = q at *
        have HQ := Lib.hid hq
        clear hq
        obtain ⟨h5, h6⟩ := hlt
        go_wp2
        have e := HS.out
        unfold step at e
        rw [HQ.out] at e
        exact ⟨⟨i + 1, by omega, by rw [e]; congr 1, by rw [e]; congr 1, by go_num, trivial⟩, by simp [RowKit.intOf]; omega⟩
      · have hp' : ¬ (i : Int) < (l.length : Int) := by omega
        obtain rfl : i = l.length := by omega
        rw [List.take_length] at *
        have HS : Hid (sum l = (half l).2 * 65536 + (half l).1) := rfl
        go_wp2
        go_ret
        refine ⟨?_, rfl⟩
        show Ending.returned (.int .u32 (bits .or .u32 (((half l).2 : Nat) * 65536) ((half l).1 : Nat))) = _
        rw [u32_join _ _ (by omega) (by omega), HS.out]
theorem need_any (n : Int) (w : World) (hn : -9223372036854775808 ≤ n ∧ n ≤ 9223372036854775807) :
    Calls Try.prog 16 #[.int .i64 n] w fun e w' => e = .returned (.int .i64 (need n.toNat : Nat)) ∧ w' = w := by
  have HN : Hid (∀ m : Nat, (m : Int) = n → 1 ≤ m → m ≤ 1024 → ((need m : Nat) : Int) = (n + 71) / 64) := fun m h1 h2 h3 => by rw [need_pos h2 h3]; omega
  by_cases h1 : n < 1
  · have e : Hid (need n.toNat = 0) := need_zero.2 (by omega)
    go_enter Try.func16, Try.ntmps16
    go_wp2
    go_ret
    exact ⟨by rw [e.out]; rfl, rfl⟩
  · by_cases h2 : 1024 < n
    · have e : Hid (need n.toNat = 0) := need_zero.2 (by omega)
      go_enter Try.func16, Try.ntmps16
      go_wp2
      go_ret
      exact ⟨by rw [e.out]; rfl, rfl⟩
    · go_enter Try.func16, Try.ntmps16
      go_wp2
      go_ret
      refine ⟨?_, rfl⟩
      show Ending.returned (.int .i64 ((8 + n + 64 - 1) / 64)) = _
      rw [HN.out n.toNat (by omega) (by omega) (by omega), show 8 + n + 64 - 1 = n + 71 by omega]
end Go.Proofs.Ytfiahkomabllaaa.L
