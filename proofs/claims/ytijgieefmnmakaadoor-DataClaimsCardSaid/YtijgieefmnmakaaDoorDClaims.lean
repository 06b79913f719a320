/- What is done next for a claim that grows is what the document says. -/
import Derived.Test.YtijgieefmnmakaaDoorDFew
import Derived.Test.YtijgieefmnmakaaDoorDStep
import Derived.Test.YtijgieefmnmakaaDoorDRClaim
namespace Go.Proofs.YtijgieefmnmakaaDoor.O.B
open Go Go.RowKit Go.Shelf Go.Lib RangeMap KM
attribute [local go_sem] Oper.semAt_some

set_option maxRecDepth 100000 in
set_option maxHeartbeats 4000000 in
theorem claims_any (l : List Obj) (v : Value) (ver : Int) (n : ByteArray) (w : World) (hl : ObjsIn w v l) (hcp : ∀ o n c, v = .slice o n c → n ≤ c) (ht : Tab w) :
    Calls Tryd.prog 3 #[v, .int .u64 ver, .string n] w fun e w' => e = .returned (.bool true) ∧ Below w.heap.size w w' := by
  have HT := Lib.hid ht
  have HF := Lib.hid (few_any l v w hl hcp)
  obtain ⟨o, cp, rfl, -, -⟩ := id hl
  have hq : (l.take 24).length < 100000 := by rw [List.length_take]; omega
  clear ht hl hcp
  go_enter Tryd.func3, Tryd.ntmps3
  go_wp2_with (fail)
  refine HF.out.mono ?_
  rintro e W1 ⟨v1, rfl, hl1, rfl⟩
  clear HF
  generalize l.take 24 = q at *
  obtain ⟨o1, c1, rfl, -, -⟩ := id hl1
  have HL := Lib.hid hl1
  have HQ := Lib.hid hq
  have HV := Lib.hid (live_any W1 HT.out)
  clear hl1 hq
  go_wp2_with (fail)
  refine HV.out.mono ?_
  rintro e W2 ⟨rfl, hb2⟩
  have HW := Lib.hid hb2
  have HC := Lib.hid (claimD_any q _ ver n W2 (HL.out.after hb2))
  clear HV hb2
  obtain ⟨a, ha⟩ : ∃ a, claimD q ver n = a := ⟨_, rfl⟩
  rw [ha] at HC
  have HAA := Lib.hid ha
  clear ha
  go_wp2_with (fail)
  refine HC.out.mono ?_
  rintro e W3 ⟨rfl, hb3⟩
  have hlw := HW.out.trans (hb3.mono HW.out.size)
  have HC2 := Lib.hid (rclaimD_any q _ ver n W3 (HL.out.after hlw) HQ.out)
  rw [HAA.out] at HC2
  replace HW := Lib.hid hlw
  clear HC hb3 hlw HAA
  go_wp2_with (fail)
  refine HC2.out.mono ?_
  rintro e W4 ⟨rfl, hb4⟩
  have HX := Lib.hid (HW.out.trans (hb4.mono HW.out.size))
  clear HC2 hb4 HW HL
  go_wp2_with (refine wpList_got rfl (exec_eql_same (A := a) rfl rfl rfl) ?_)
  go_ret
  exact ⟨rfl, HX.out⟩
end Go.Proofs.YtijgieefmnmakaaDoor.O.B
