/- What must be whatever is asked: live answers true. -/
import Derived.Test.YtggkdapfccanpaaDoorQPrint
namespace Go.Proofs.YtggkdapfccanpaaDoor.Q
open Go.RowKit

theorem live_parse : parseV [49, 48, 71, 105] = 10737418240 ∧ parseE [49, 48, 71, 105] = 0 := by decide +kernel
theorem live_print : printT 2048 = [50, 75, 105] ∧ printE 2048 = 0 := by
  have h := print_ok (n := 2048) (by decide)
  rw [show gU 2048 = 1024 by decide, show suffixOf 2048 = [75, 105] by decide, show ((2048 : Int) / 1024).toNat = 2 by decide, Lib.decDigits_one (by decide)] at h
  exact h
theorem live_up : upV 5 4 = 8 ∧ upE 5 4 = 0 := by decide
theorem live_fits : fits 3 3 = true := by decide

set_option maxHeartbeats 400000 in
theorem live_any (w : World) (ht : Tab w) :
    Calls Tryd.prog 15 #[] w fun e W' => e = .returned (.bool true) ∧ Below w.heap.size w W' := by
  have HT := Lib.hid ht
  clear ht
  go_enter Tryd.func15, Tryd.ntmps15
  go_wp2_with fail
  refine (parse_any _ _ (by decide)).mono ?_
  rintro e w1 ⟨rfl, hb1⟩
  rw [show parseV (ByteArray.mk #[49, 48, 71, 105]).data.toList = 10737418240 from live_parse.1, show parseE (ByteArray.mk #[49, 48, 71, 105]).data.toList = 0 from live_parse.2]
  have ht1 := Lib.hid (HT.out.below hb1 (Nat.le_refl _))
  go_wp2_with fail
  refine (print_any _ _ ht1.out).mono ?_
  rintro e w2 ⟨rfl, hb2⟩
  rw [live_print.1, live_print.2]
  have hb := hb1.trans (hb2.mono hb1.size)
  unfold encS
  go_wp2_with fail
  refine (up_any _ _ _).mono ?_
  rintro e w3 ⟨rfl, rfl⟩
  rw [live_up.1, live_up.2]
  go_wp2_with fail
  refine (fits_any _ _ _).mono ?_
  rintro e w3 ⟨rfl, rfl⟩
  rw [live_fits]
  go_wp2
  go_ret
  exact ⟨rfl, hb⟩
end Go.Proofs.YtggkdapfccanpaaDoor.Q
