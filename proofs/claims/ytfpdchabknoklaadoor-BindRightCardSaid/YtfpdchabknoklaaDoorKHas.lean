/- Whether one of a kind fits. -/
import Derived.Test.YtfpdchabknoklaaDoorKGet
namespace Go.Proofs.YtfpdchabknoklaaDoor.O.B
open Go Go.RowKit Go.Shelf Go.Lib RangeMap KM
attribute [local go_sem] Oper.semAt_some

set_option maxRecDepth 100000 in
set_option maxHeartbeats 2000000 in
theorem has_any (l : List Obj) (v : Value) (k : Int) (fid : FuncId) (caps : Array Value) (p : Obj → Bool) (w : World) (hl : ObjsIn w v l) (hf : Tells w l fid caps p) :
    Calls Tryd.prog 58 #[v, .int .u8 k, .func (.func fid) #[] caps] w fun e w' => e = .returned (.bool ((thereL k l).find? p).isSome) ∧ Below w.heap.size w w' := by
  obtain ⟨o, c, rfl, -, -⟩ := id hl
  have HC := Lib.hid (find_any l (.slice o l.length c) k fid caps p w hl hf)
  clear hl hf
  obtain ⟨r, hr⟩ : ∃ r, (thereL k l).find? p = r := ⟨_, rfl⟩
  rw [hr] at HC ⊢
  clear hr
  go_enter Tryd.func58, Tryd.ntmps58
  go_wp2_with (fail)
  refine HC.out.mono ?_
  rintro e W2 ⟨rfl, hb⟩
  have HB := Lib.hid hb
  clear HC hb
  obtain ⟨V, hst, -, hlw, -⟩ := boxing W2 (r.getD O0)
  have HW := Lib.hid (HB.out.trans (hlw.mono HB.out.size))
  clear HB hlw
  go_wp2_with (refine wpList_skip rfl (hst rfl rfl rfl) ?_)
  go_ret
  exact ⟨rfl, HW.out⟩
end Go.Proofs.YtfpdchabknoklaaDoor.O.B
