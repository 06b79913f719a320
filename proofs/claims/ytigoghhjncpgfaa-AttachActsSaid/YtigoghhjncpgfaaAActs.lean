/- What is done next for a volume: as the document says. -/
import Derived.Test.YtigoghhjncpgfaaALive
import Derived.Test.YtigoghhjncpgfaaARVol
import Derived.Test.YtigoghhjncpgfaaARep
namespace Go.Proofs.Ytigoghhjncpgfaa.O.B
open Go Go.RowKit Go.Shelf Go.Lib KM
attribute [local go_sem] Oper.semAt_some

set_option maxRecDepth 100000 in
set_option maxHeartbeats 4000000 in
theorem acts_any (l : List Obj) (v : Value) (ver : Int) (name : ByteArray) (w : World) (hl : ObjsIn w v l) (hc : ∀ o n c, v = .slice o n c → n ≤ c) (hz : ∀ o ∈ l, o.name.size ≤ 140737488351232 ∧ o.node.size ≤ 140737488351232) :
    Calls Try.prog 4 #[v, .int .u64 ver, .string name] w fun e w' => e = .returned (.bool true) ∧ Below w.heap.size w w' := by
  have HF := Lib.hid (few_any l v w hl hc)
  have HZ := Lib.hid (fun o (ho : o ∈ l.take 24) => hz o (List.mem_of_mem_take ho))
  have hq : (l.take 24).length < 90000 := by rw [List.length_take]; omega
  obtain ⟨o, cp, rfl, -, -⟩ := id hl
  clear hl hc hz
  go_enter Try.func4, Try.ntmps4
  go_wp2_with (fail)
  refine HF.out.mono ?_
  rintro e W1 ⟨v1, rfl, hl1, rfl⟩
  clear HF
  generalize l.take 24 = q at *
  obtain ⟨o1, c1, rfl, hq63, -⟩ := id hl1
  have HL := Lib.hid hl1
  have HQ := Lib.hid hq
  have HV := Lib.hid (live_any W1)
  clear hl1 hq
  go_wp2_with (fail)
  refine HV.out.mono ?_
  rintro e W2 ⟨rfl, hb2⟩
  have HW2 := Lib.hid hb2
  have HC := Lib.hid (volA_any q _ ver name W2 (HL.out.after hb2) (by have := HQ.out; omega) HZ.out)
  have HD := Lib.hid (fun V (hV : Below W1.heap.size W1 V) => rvol_any q _ ver name V (HL.out.after hV) HQ.out HZ.out)
  obtain ⟨G, hG⟩ : ∃ G, volumeA q ver name = G := ⟨_, rfl⟩
  rw [hG] at HC HD
  clear hb2 HV hG
  go_wp2_with (fail)
  refine HC.out.mono ?_
  rintro e W3 ⟨rfl, hb3⟩
  have HW3 := Lib.hid (HW2.out.trans (hb3.mono HW2.out.size))
  have HE := Lib.hid (HD.out W3 HW3.out)
  clear hb3 HC HW2 HD
  go_wp2_with (fail)
  refine HE.out.mono ?_
  rintro e W4 ⟨rfl, hb4⟩
  have HX := Lib.hid (HW3.out.trans (hb4.mono HW3.out.size))
  clear hb4 HE HW3
  go_wp2_with (refine wpList_got rfl (exec_eql_same rfl rfl rfl) ?_)
  go_ret
  exact ⟨rfl, HX.out⟩
end Go.Proofs.Ytigoghhjncpgfaa.O.B
