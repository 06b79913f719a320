/- Where a volume is wanted, and its attachments: as the document says. -/
import Derived.Test.YtigoghhjncpgfaaARSame
import Derived.Test.YtigoghhjncpgfaaARWant
namespace Go.Proofs.Ytigoghhjncpgfaa.O.B
open Go Go.RowKit Go.Shelf Go.Lib KM
attribute [local go_sem] Oper.semAt_some

set_option maxRecDepth 100000 in
set_option maxHeartbeats 4000000 in
theorem wants_any (l : List Obj) (v : Value) (name : ByteArray) (w : World) (hl : ObjsIn w v l) (hc : ∀ o n c, v = .slice o n c → n ≤ c) :
    Calls Try.prog 3 #[v, .string name] w fun e w' => e = .returned (.bool true) ∧ Below w.heap.size w w' := by
  have HF := Lib.hid (few_any l v w hl hc)
  have hq : (l.take 24).length < 90000 := by rw [List.length_take]; omega
  obtain ⟨o, cp, rfl, -, -⟩ := id hl
  clear hl hc
  go_enter Try.func3, Try.ntmps3
  go_wp2_with (fail)
  refine HF.out.mono ?_
  rintro e W1 ⟨v1, rfl, hl1, rfl⟩
  clear HF
  generalize l.take 24 = q at *
  obtain ⟨o1, c1, rfl, hq63, -⟩ := id hl1
  have HL := Lib.hid hl1
  have HQ := Lib.hid hq
  have HV := Lib.hid (live_any W1)
  clear hl1 hq
  go_wp2_with (fail)
  refine HV.out.mono ?_
  rintro e W2 ⟨rfl, hb2⟩
  have HW2 := Lib.hid hb2
  have HC := Lib.hid (wanted_any q _ name W2 (HL.out.after hb2) (by have := HQ.out; omega))
  clear hb2 HV
  go_wp2_with (fail)
  refine HC.out.mono ?_
  rintro e W3 ⟨L, wv, rfl, rfl, ht3, hb3⟩
  have HW3 := Lib.hid (HW2.out.trans (hb3.mono HW2.out.size))
  have HT3 := Lib.hid ht3
  have HD := Lib.hid (rwant_any q _ name W3 (HL.out.after HW3.out) HQ.out)
  clear ht3 hb3 HC HW2
  go_wp2_with (fail)
  refine HD.out.mono ?_
  rintro e W4 ⟨L, uv, rfl, rfl, ht4, hb4⟩
  have HW4 := Lib.hid (HW3.out.trans (hb4.mono HW3.out.size))
  have HS := Lib.hid (sameN_any (wantL q name) wv uv _ _ W4 (HT3.out.after hb4) ht4 (Nat.lt_of_le_of_lt (want_len q name) (by have := HQ.out; omega)))
  clear ht4 hb4 HD HW3 HT3
  go_wp2_with (fail)
  refine HS.out.mono ?_
  rintro e W5 ⟨rfl, hb5⟩
  have HW5 := Lib.hid (HW4.out.trans (hb5.mono HW4.out.size))
  have HC := Lib.hid (atts_any q _ name W5 (HL.out.after HW5.out) (by have := HQ.out; omega))
  clear hb5 HS HW4
  go_wp2_with (fail)
  refine HC.out.mono ?_
  rintro e W6 ⟨A, av, rfl, rfl, ha6, hb6⟩
  have HW6 := Lib.hid (HW5.out.trans (hb6.mono HW5.out.size))
  have HA6 := Lib.hid ha6
  have HD := Lib.hid (ratts_any q _ name W6 (HL.out.after HW6.out) HQ.out)
  clear ha6 hb6 HC HW5
  go_wp2_with (fail)
  refine HD.out.mono ?_
  rintro e W7 ⟨A, bv, rfl, rfl, ha7, hb7⟩
  have HW7 := Lib.hid (HW6.out.trans (hb7.mono HW6.out.size))
  have hnl : (attsL q name).length ≤ 9223372036854775807 := Nat.le_trans (atts_len q name) (by have := HQ.out; omega)
  have HS := Lib.hid (sameO_any (attsL q name) av bv W7 ((HA6.out.after hb7).objs hnl) (ha7.objs hnl))
  clear ha7 hb7 HD HW6 HA6 hnl
  go_wp2_with (fail)
  refine HS.out.mono ?_
  rintro e W8 ⟨rfl, hb8⟩
  have HX := Lib.hid (HW7.out.trans (hb8.mono HW7.out.size))
  clear hb8 HS HW7
  go_wp2
  go_ret
  exact ⟨rfl, HX.out⟩
end Go.Proofs.Ytigoghhjncpgfaa.O.B
