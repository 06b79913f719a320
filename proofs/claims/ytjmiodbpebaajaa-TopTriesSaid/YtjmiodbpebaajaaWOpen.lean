/- What a closing text of workq asks. -/
import Derived.Test.YtjmiodbpebaajaaWPlain
import Derived.Test.YtjmiodbpebaajaaChecked
import Derived.OpenShut
import Derived.SizedLaws
import Derived.Deep.SlicePairs
import Derived.Deep.Strs
namespace Go.Proofs.Ytjmiodbpebaajaa.W
open Go Go.RowKit

theorem own : ownKnob Try.prog.godebug = none := by kernel_rfl
theorem laidOut : laidOutB Try.prog = true := by kernel_rfl
end Go.Proofs.Ytjmiodbpebaajaa.W
