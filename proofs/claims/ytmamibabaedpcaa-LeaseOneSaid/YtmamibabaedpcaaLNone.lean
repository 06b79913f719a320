/- LeaseNone, and TopFenced: their walks. -/
import Derived.Test.YtmamibabaedpcaaLLive
import Derived.Test.YtmamibabaedpcaaLGuard
namespace Go.Proofs.Ytmamibabaedpcaa.L
open Go.RowKit T O
open Go.Lib

set_option maxRecDepth 100000 in
set_option maxHeartbeats 2000000 in
theorem leaseNone_any (term : Int) (w : World) : Calls Try.prog 8 #[.int .u64 term] w fun e w' => e = .returned (.bool true) ∧ Below w.heap.size w w' := by
  go_enter Try.func8, Try.ntmps8
  go_wp2_with fail
  refine (live_any _).mono ?_
  rintro e W1 ⟨rfl, hb⟩
  have HL := Lib.hid hb
  clear hb
  go_wp2_with fail
  refine (check_nil _ _).mono ?_
  rintro e W2 ⟨rfl, rfl⟩
  go_wp2_with fail
  refine (term_nil _).mono ?_
  rintro e W2 ⟨rfl, rfl⟩
  go_wp2_with fail
  refine (fork_nil _).mono ?_
  rintro e W2 ⟨rfl, rfl⟩
  go_wp2_with fail
  refine (newGuard_any _).mono ?_
  rintro e W2 ⟨rfl, hg, hb, -⟩
  have HF := Lib.hid (HL.out.trans (hb.mono HL.out.size))
  have HG := Lib.hid hg
  clear hb HL hg
  go_wp2_with fail
  refine (term_any _ _ _ HG.out).mono ?_
  rintro e W3 ⟨rfl, rfl⟩
  go_wp2
  go_ret
  exact ⟨rfl, HF.out⟩
end Go.Proofs.Ytmamibabaedpcaa.L
