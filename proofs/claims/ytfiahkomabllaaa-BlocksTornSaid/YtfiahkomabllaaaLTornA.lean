/- The law BlocksTorn: it answers true. -/
import Derived.Test.YtfiahkomabllaaaLTornL1
import Derived.Test.YtfiahkomabllaaaLTornL2
namespace Go.Proofs.Ytfiahkomabllaaa.L
open Go Go.RowKit

theorem torn_law (a : Option Addr) (n c : Nat) (rv : Value) (r : Bytes) (kd kp tn : Int) (sv : Value) (w : World) (hA : ArgRows w a n) (hr : BytesIn w rv r) :
    Calls Try.prog 8 #[.slice a n c, rv, .agg #[.int .i64 kd, .int .i64 kp, .int .i64 tn, sv]] w fun e w' => e = .returned (.bool true) ∧ Below w.heap.size w w' := by
  rcases Nat.lt_or_ge 8 n with h | h
  · exact tornl2_any a n c rv r kd kp tn sv w h hA hr
  · exact tornl1_any a n c rv r kd kp tn sv w h hA hr
end Go.Proofs.Ytfiahkomabllaaa.L
