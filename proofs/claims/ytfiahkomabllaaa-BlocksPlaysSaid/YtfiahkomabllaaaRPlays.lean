/- The law BlocksPlays: it answers true. -/
import Derived.Test.YtfiahkomabllaaaRSame
namespace Go.Proofs.Ytfiahkomabllaaa.L
open Go Go.RowKit
open Go.Lib

set_option maxRecDepth 100000 in
set_option maxHeartbeats 400000 in
theorem plays_law (n : Int) (hn : 0 ≤ n ∧ n ≤ 255) (a : Option Addr) (m c : Nat) (w : World) (hD : DeedsAt w a m) (hm : m ≤ 9223372036854775807) : Calls Try.prog 3 #[.int .u8 n, .slice a m c] w fun e w' => e = .returned (.bool true) ∧ Below w.heap.size w w' := by
  obtain ⟨n, rfl⟩ := Int.eq_ofNat_of_zero_le hn.1
  have HPL := Lib.hid (play_any n (by omega) a m c w hD hm)
  clear hD
  go_enter Try.func3, Try.ntmps3
  go_wp2_with (go_at_call 11; refine HPL.out.mono ?_)
  rintro e W1 ⟨q, p, og, s, rfl, hP, -, hb⟩
  have HP := Lib.hid hP
  have HB := Lib.hid hb
  clear hP hb HPL
  go_wp2_with (go_at_call 12; refine (live_any _).mono ?_)
  rintro e W2 ⟨rfl, hb2⟩
  have HSA := Lib.hid (same05_any _ q p og s W2 (HP.out.after hb2))
  have HB2 : Hid (Below w.heap.size w W2) := HB.out.trans (hb2.mono HB.out.size)
  clear hb2
  go_wp2_with (go_at_call 13; refine HSA.out.mono ?_)
  rintro e W3 ⟨rfl, hb3⟩
  have HB3 : Hid (Below w.heap.size w W3) := HB2.out.trans (hb3.mono HB2.out.size)
  clear hb3
  go_wp2
  go_ret
  exact ⟨rfl, HB3.out⟩
end Go.Proofs.Ytfiahkomabllaaa.L
