/- The law QuantParses: its walk. -/
import Derived.Test.YtggkdapfccanpaaDoorQLive
import Derived.Test.YtggkdapfccanpaaDoorQRef
namespace Go.Proofs.YtggkdapfccanpaaDoor.Q
open Go.RowKit

set_option maxHeartbeats 400000 in
theorem quantParses_any (s : ByteArray) (w : World) (ht : Tab w) (hs : s.size ≤ 9223372036854775807) :
    Calls Tryd.prog 3 #[.string s] w fun e W' => e = .returned (.bool true) ∧ Below w.heap.size w W' := by
  have HT := Lib.hid ht
  clear ht
  go_enter Tryd.func3, Tryd.ntmps3
  go_wp2_with fail
  refine (parse_any s _ hs).mono ?_
  rintro e w1 ⟨rfl, hb1⟩
  go_wp2_with fail
  refine (ref_parse_any s _ hs).mono ?_
  rintro e w2 ⟨rfl, rfl⟩
  go_wp2_with fail
  refine (unit_any s _).mono ?_
  rintro e w2 ⟨rfl, hb2⟩
  have hb := hb1.trans (hb2.mono hb1.size)
  have ht2 := Lib.hid (HT.out.below hb (Nat.le_refl _))
  have hb' := Lib.hid hb
  clear hb1 hb2 hb
  go_wp2_with fail
  refine (ref_unit_any s _).mono ?_
  rintro e w3 ⟨rfl, rfl⟩
  go_wp2_with fail
  refine (live_any _ ht2.out).mono ?_
  rintro e w3 ⟨rfl, hb3⟩
  have hbb := Lib.hid (hb'.out.trans (hb3.mono hb'.out.size))
  clear hb3
  generalize parseV s.data.toList = pv at *
  generalize parseE s.data.toList = pe at *
  generalize unitV s.data.toList = uv at *
  generalize unitB s.data.toList = ub at *
  go_wp2
  go_ret
  exact ⟨by simp, hbb.out⟩
end Go.Proofs.YtggkdapfccanpaaDoor.Q
