/-
  NARROWER THAN 'FOR EVERY INPUT', by the rows' own cells (each row's printed sentence says how): QuantParses: laid · QuantPrints: laid · QuantBack: laid · QuantShort: laid · QuantUp: laid · QuantUnits: laid · QuantOrder: laid · TopRoom: laid.
  DERIVED. THE GIVEN ROWS OF THIS SEAT. 8 by the template 'for every input the law returns true; each argument reads behind the call as it read before'; 0 by the template 'total and deterministic' (their statements: YtggkdapfccanpaaDoorTotals.lean).
  GIVEN WITH THE SEED: the statements are not yours to turn. If you find one false, say at which input.
  Laid BY PROGRAM, IN A SANDBOX (cutbox-rows.mjs): the forced cells as the released guide's own fill.sh prints them over the translation 4ab654dd264547a1… (all of the seat's roots in one cut). By AI agents, Wed Nov 11 2026. No macro, syntax, notation, axiom, sorry.
-/
import Derived.Test.YtggkdapfccanpaaDoorChecked
import GoSem.Claim
import GoSem.ClaimJoined
import GoSem.ClaimMapViews
import Derived.JoinedTies
import Derived.KernelRfl
namespace Go.Proofs.YtggkdapfccanpaaDoor
/- THE CELL 'sum', in the pinned program and in every row, IS THE sha256 OF THE DUMP (.gsa) THAT YtggkdapfccanpaaDoorProg.lean LOADS. Nothing in Lean hashes anything: it is a label: what it is worth is what the hold of that sum in a sandbox is worth. -/
noncomputable def Tryd.pinned : Pinned := { name := "ytggkdapfccanpaadoor", sum := "4ab654dd264547a180edc9bb33e503fbb818b1c0fd4ebdd028119ef3ce05c51d", checked := Tryd.checked }
namespace Rows
def none {H : Type} : Left H := { results := [], args := [] }

/- WHAT THE LISTED PACKAGE-LEVEL VARIABLES READ AS WHEN THE CALL BEGINS. Each datum BY PROGRAM (the guide's laid-datum.mjs) off the statement by which the dump's own 'gosem.cut.vars' lays the variable. In a bare row this is a premise. The card (YtggkdapfccanpaaDoorCards.lean) ties it to the program's text. -/
def laid_math_bits_deBruijn32tab {H : Type} : DataW H := .agg [.lit (.int .u8 0), .lit (.int .u8 1), .lit (.int .u8 28), .lit (.int .u8 2), .lit (.int .u8 29), .lit (.int .u8 14), .lit (.int .u8 24), .lit (.int .u8 3), .lit (.int .u8 30), .lit (.int .u8 22), .lit (.int .u8 20), .lit (.int .u8 15), .lit (.int .u8 25), .lit (.int .u8 17), .lit (.int .u8 4), .lit (.int .u8 8), .lit (.int .u8 31), .lit (.int .u8 27), .lit (.int .u8 13), .lit (.int .u8 23), .lit (.int .u8 21), .lit (.int .u8 19), .lit (.int .u8 16), .lit (.int .u8 7), .lit (.int .u8 26), .lit (.int .u8 12), .lit (.int .u8 18), .lit (.int .u8 6), .lit (.int .u8 11), .lit (.int .u8 5), .lit (.int .u8 10), .lit (.int .u8 9)]
def laid_math_bits_deBruijn64tab {H : Type} : DataW H := .agg [.lit (.int .u8 0), .lit (.int .u8 1), .lit (.int .u8 56), .lit (.int .u8 2), .lit (.int .u8 57), .lit (.int .u8 49), .lit (.int .u8 28), .lit (.int .u8 3), .lit (.int .u8 61), .lit (.int .u8 58), .lit (.int .u8 42), .lit (.int .u8 50), .lit (.int .u8 38), .lit (.int .u8 29), .lit (.int .u8 17), .lit (.int .u8 4), .lit (.int .u8 62), .lit (.int .u8 47), .lit (.int .u8 59), .lit (.int .u8 36), .lit (.int .u8 45), .lit (.int .u8 43), .lit (.int .u8 51), .lit (.int .u8 22), .lit (.int .u8 53), .lit (.int .u8 39), .lit (.int .u8 33), .lit (.int .u8 30), .lit (.int .u8 24), .lit (.int .u8 18), .lit (.int .u8 12), .lit (.int .u8 5), .lit (.int .u8 63), .lit (.int .u8 55), .lit (.int .u8 48), .lit (.int .u8 27), .lit (.int .u8 60), .lit (.int .u8 41), .lit (.int .u8 37), .lit (.int .u8 16), .lit (.int .u8 46), .lit (.int .u8 35), .lit (.int .u8 44), .lit (.int .u8 21), .lit (.int .u8 52), .lit (.int .u8 32), .lit (.int .u8 23), .lit (.int .u8 11), .lit (.int .u8 54), .lit (.int .u8 26), .lit (.int .u8 40), .lit (.int .u8 15), .lit (.int .u8 34), .lit (.int .u8 20), .lit (.int .u8 31), .lit (.int .u8 10), .lit (.int .u8 25), .lit (.int .u8 14), .lit (.int .u8 19), .lit (.int .u8 9), .lit (.int .u8 13), .lit (.int .u8 8), .lit (.int .u8 7), .lit (.int .u8 6)]
def laid_internal_strconv_uint64pow10 {H : Type} : DataW H := .agg [.lit (.int .u64 1), .lit (.int .u64 10), .lit (.int .u64 100), .lit (.int .u64 1000), .lit (.int .u64 10000), .lit (.int .u64 100000), .lit (.int .u64 1000000), .lit (.int .u64 10000000), .lit (.int .u64 100000000), .lit (.int .u64 1000000000), .lit (.int .u64 10000000000), .lit (.int .u64 100000000000), .lit (.int .u64 1000000000000), .lit (.int .u64 10000000000000), .lit (.int .u64 100000000000000), .lit (.int .u64 1000000000000000), .lit (.int .u64 10000000000000000), .lit (.int .u64 100000000000000000), .lit (.int .u64 1000000000000000000), .lit (.int .u64 10000000000000000000)]

/-- 'wharfingerlaw01.QuantParses': WHATEVER THE INPUT: true; the input reads as it did. -/
def quantParsesSpec : ChangeSpec := { name := "quantParses", fn := fun _ => fun
  | [d] => { results := [.lit (.bool true)], args := [d] }
  | _ => none }
def quantParsesRow : OpenClaim := { program := "ytggkdapfccanpaadoor", sum := "4ab654dd264547a180edc9bb33e503fbb818b1c0fd4ebdd028119ef3ce05c51d", func := "wharfinger/wharfingerlaw01.QuantParses", spec := "quantParses", unfollowed := true, recurses := true, named := ["internal/strconv.uint64pow10", "math/bits.deBruijn32tab", "math/bits.deBruijn64tab"], apart := false, laid := [("math/bits.deBruijn32tab", laid_math_bits_deBruijn32tab), ("math/bits.deBruijn64tab", laid_math_bits_deBruijn64tab), ("internal/strconv.uint64pow10", laid_internal_strconv_uint64pow10)] }
def QuantParsesSaid : Prop := quantParsesRow.holds Tryd.pinned (OpenSpec.ofChange quantParsesSpec)

/-- ITS FALSE NEIGHBOUR: 'it returns false'. Refute it at one input. -/
def quantParsesWrong : ChangeSpec := { name := "quantParses", fn := fun _ => fun
  | [d] => { results := [.lit (.bool false)], args := [d] }
  | _ => none }
def QuantParsesWrongFalsely : Prop := quantParsesRow.holds Tryd.pinned (OpenSpec.ofChange quantParsesWrong)

/-- 'wharfingerlaw01.QuantPrints': WHATEVER THE INPUT: true; the input reads as it did. -/
def quantPrintsSpec : ChangeSpec := { name := "quantPrints", fn := fun _ => fun
  | [d1, d2] => { results := [.lit (.bool true)], args := [d1, d2] }
  | _ => none }
def quantPrintsRow : OpenClaim := { program := "ytggkdapfccanpaadoor", sum := "4ab654dd264547a180edc9bb33e503fbb818b1c0fd4ebdd028119ef3ce05c51d", func := "wharfinger/wharfingerlaw01.QuantPrints", spec := "quantPrints", unfollowed := true, recurses := true, named := ["internal/strconv.uint64pow10", "math/bits.deBruijn32tab", "math/bits.deBruijn64tab"], apart := false, laid := [("math/bits.deBruijn32tab", laid_math_bits_deBruijn32tab), ("math/bits.deBruijn64tab", laid_math_bits_deBruijn64tab), ("internal/strconv.uint64pow10", laid_internal_strconv_uint64pow10)] }
def QuantPrintsSaid : Prop := quantPrintsRow.holds Tryd.pinned (OpenSpec.ofChange quantPrintsSpec)

/-- ITS FALSE NEIGHBOUR: 'it returns false'. Refute it at one input. -/
def quantPrintsWrong : ChangeSpec := { name := "quantPrints", fn := fun _ => fun
  | [d1, d2] => { results := [.lit (.bool false)], args := [d1, d2] }
  | _ => none }
def QuantPrintsWrongFalsely : Prop := quantPrintsRow.holds Tryd.pinned (OpenSpec.ofChange quantPrintsWrong)

/-- 'wharfingerlaw01.QuantBack': WHATEVER THE INPUT: true; the input reads as it did. -/
def quantBackSpec : ChangeSpec := { name := "quantBack", fn := fun _ => fun
  | [d1, d2] => { results := [.lit (.bool true)], args := [d1, d2] }
  | _ => none }
def quantBackRow : OpenClaim := { program := "ytggkdapfccanpaadoor", sum := "4ab654dd264547a180edc9bb33e503fbb818b1c0fd4ebdd028119ef3ce05c51d", func := "wharfinger/wharfingerlaw01.QuantBack", spec := "quantBack", unfollowed := true, recurses := true, named := ["internal/strconv.uint64pow10", "math/bits.deBruijn32tab", "math/bits.deBruijn64tab"], apart := false, laid := [("math/bits.deBruijn32tab", laid_math_bits_deBruijn32tab), ("math/bits.deBruijn64tab", laid_math_bits_deBruijn64tab), ("internal/strconv.uint64pow10", laid_internal_strconv_uint64pow10)] }
def QuantBackSaid : Prop := quantBackRow.holds Tryd.pinned (OpenSpec.ofChange quantBackSpec)

/-- ITS FALSE NEIGHBOUR: 'it returns false'. Refute it at one input. -/
def quantBackWrong : ChangeSpec := { name := "quantBack", fn := fun _ => fun
  | [d1, d2] => { results := [.lit (.bool false)], args := [d1, d2] }
  | _ => none }
def QuantBackWrongFalsely : Prop := quantBackRow.holds Tryd.pinned (OpenSpec.ofChange quantBackWrong)

/-- 'wharfingerlaw01.QuantShort': WHATEVER THE INPUT: true; the input reads as it did. -/
def quantShortSpec : ChangeSpec := { name := "quantShort", fn := fun _ => fun
  | [d] => { results := [.lit (.bool true)], args := [d] }
  | _ => none }
def quantShortRow : OpenClaim := { program := "ytggkdapfccanpaadoor", sum := "4ab654dd264547a180edc9bb33e503fbb818b1c0fd4ebdd028119ef3ce05c51d", func := "wharfinger/wharfingerlaw01.QuantShort", spec := "quantShort", unfollowed := true, recurses := true, named := ["internal/strconv.uint64pow10", "math/bits.deBruijn32tab", "math/bits.deBruijn64tab"], apart := false, laid := [("math/bits.deBruijn32tab", laid_math_bits_deBruijn32tab), ("math/bits.deBruijn64tab", laid_math_bits_deBruijn64tab), ("internal/strconv.uint64pow10", laid_internal_strconv_uint64pow10)] }
def QuantShortSaid : Prop := quantShortRow.holds Tryd.pinned (OpenSpec.ofChange quantShortSpec)

/-- ITS FALSE NEIGHBOUR: 'it returns false'. Refute it at one input. -/
def quantShortWrong : ChangeSpec := { name := "quantShort", fn := fun _ => fun
  | [d] => { results := [.lit (.bool false)], args := [d] }
  | _ => none }
def QuantShortWrongFalsely : Prop := quantShortRow.holds Tryd.pinned (OpenSpec.ofChange quantShortWrong)

/-- 'wharfingerlaw01.QuantUp': WHATEVER THE INPUT: true; the input reads as it did. -/
def quantUpSpec : ChangeSpec := { name := "quantUp", fn := fun _ => fun
  | [d1, d2] => { results := [.lit (.bool true)], args := [d1, d2] }
  | _ => none }
def quantUpRow : OpenClaim := { program := "ytggkdapfccanpaadoor", sum := "4ab654dd264547a180edc9bb33e503fbb818b1c0fd4ebdd028119ef3ce05c51d", func := "wharfinger/wharfingerlaw01.QuantUp", spec := "quantUp", unfollowed := true, recurses := true, named := ["internal/strconv.uint64pow10", "math/bits.deBruijn32tab", "math/bits.deBruijn64tab"], apart := false, laid := [("math/bits.deBruijn32tab", laid_math_bits_deBruijn32tab), ("math/bits.deBruijn64tab", laid_math_bits_deBruijn64tab), ("internal/strconv.uint64pow10", laid_internal_strconv_uint64pow10)] }
def QuantUpSaid : Prop := quantUpRow.holds Tryd.pinned (OpenSpec.ofChange quantUpSpec)

/-- ITS FALSE NEIGHBOUR: 'it returns false'. Refute it at one input. -/
def quantUpWrong : ChangeSpec := { name := "quantUp", fn := fun _ => fun
  | [d1, d2] => { results := [.lit (.bool false)], args := [d1, d2] }
  | _ => none }
def QuantUpWrongFalsely : Prop := quantUpRow.holds Tryd.pinned (OpenSpec.ofChange quantUpWrong)

/-- 'wharfingerlaw01.QuantUnits': WHATEVER THE INPUT: true; the input reads as it did. -/
def quantUnitsSpec : ChangeSpec := { name := "quantUnits", fn := fun _ => fun
  | [d1, d2] => { results := [.lit (.bool true)], args := [d1, d2] }
  | _ => none }
def quantUnitsRow : OpenClaim := { program := "ytggkdapfccanpaadoor", sum := "4ab654dd264547a180edc9bb33e503fbb818b1c0fd4ebdd028119ef3ce05c51d", func := "wharfinger/wharfingerlaw01.QuantUnits", spec := "quantUnits", unfollowed := true, recurses := true, named := ["internal/strconv.uint64pow10", "math/bits.deBruijn32tab", "math/bits.deBruijn64tab"], apart := false, laid := [("math/bits.deBruijn32tab", laid_math_bits_deBruijn32tab), ("math/bits.deBruijn64tab", laid_math_bits_deBruijn64tab), ("internal/strconv.uint64pow10", laid_internal_strconv_uint64pow10)] }
def QuantUnitsSaid : Prop := quantUnitsRow.holds Tryd.pinned (OpenSpec.ofChange quantUnitsSpec)

/-- ITS FALSE NEIGHBOUR: 'it returns false'. Refute it at one input. -/
def quantUnitsWrong : ChangeSpec := { name := "quantUnits", fn := fun _ => fun
  | [d1, d2] => { results := [.lit (.bool false)], args := [d1, d2] }
  | _ => none }
def QuantUnitsWrongFalsely : Prop := quantUnitsRow.holds Tryd.pinned (OpenSpec.ofChange quantUnitsWrong)

/-- 'wharfingerlaw01.QuantOrder': WHATEVER THE INPUT: true; the input reads as it did. -/
def quantOrderSpec : ChangeSpec := { name := "quantOrder", fn := fun _ => fun
  | [d1, d2, d3] => { results := [.lit (.bool true)], args := [d1, d2, d3] }
  | _ => none }
def quantOrderRow : OpenClaim := { program := "ytggkdapfccanpaadoor", sum := "4ab654dd264547a180edc9bb33e503fbb818b1c0fd4ebdd028119ef3ce05c51d", func := "wharfinger/wharfingerlaw01.QuantOrder", spec := "quantOrder", unfollowed := true, recurses := true, named := ["internal/strconv.uint64pow10", "math/bits.deBruijn32tab", "math/bits.deBruijn64tab"], apart := false, laid := [("math/bits.deBruijn32tab", laid_math_bits_deBruijn32tab), ("math/bits.deBruijn64tab", laid_math_bits_deBruijn64tab), ("internal/strconv.uint64pow10", laid_internal_strconv_uint64pow10)] }
def QuantOrderSaid : Prop := quantOrderRow.holds Tryd.pinned (OpenSpec.ofChange quantOrderSpec)

/-- ITS FALSE NEIGHBOUR: 'it returns false'. Refute it at one input. -/
def quantOrderWrong : ChangeSpec := { name := "quantOrder", fn := fun _ => fun
  | [d1, d2, d3] => { results := [.lit (.bool false)], args := [d1, d2, d3] }
  | _ => none }
def QuantOrderWrongFalsely : Prop := quantOrderRow.holds Tryd.pinned (OpenSpec.ofChange quantOrderWrong)

/-- 'wharfingertop.TopRoom': WHATEVER THE INPUT: true; the input reads as it did. -/
def topRoomSpec : ChangeSpec := { name := "topRoom", fn := fun _ => fun
  | [d1, d2, d3] => { results := [.lit (.bool true)], args := [d1, d2, d3] }
  | _ => none }
def topRoomRow : OpenClaim := { program := "ytggkdapfccanpaadoor", sum := "4ab654dd264547a180edc9bb33e503fbb818b1c0fd4ebdd028119ef3ce05c51d", func := "wharfinger/wharfingertop.TopRoom", spec := "topRoom", unfollowed := true, recurses := true, named := ["internal/strconv.uint64pow10", "math/bits.deBruijn32tab", "math/bits.deBruijn64tab"], apart := false, laid := [("math/bits.deBruijn32tab", laid_math_bits_deBruijn32tab), ("math/bits.deBruijn64tab", laid_math_bits_deBruijn64tab), ("internal/strconv.uint64pow10", laid_internal_strconv_uint64pow10)] }
def TopRoomSaid : Prop := topRoomRow.holds Tryd.pinned (OpenSpec.ofChange topRoomSpec)

/-- ITS FALSE NEIGHBOUR: 'it returns false'. Refute it at one input. -/
def topRoomWrong : ChangeSpec := { name := "topRoom", fn := fun _ => fun
  | [d1, d2, d3] => { results := [.lit (.bool false)], args := [d1, d2, d3] }
  | _ => none }
def TopRoomWrongFalsely : Prop := topRoomRow.holds Tryd.pinned (OpenSpec.ofChange topRoomWrong)

/- THE SECOND FORM. 'bulk': how many values and letters a reading holds, each counted each time it is reached (what is shared counts as often as it is met; a slice's spare places count too). A statement '..UptoSaid' is the law's where the arguments, and the package variables that the reading takes, are together of bulk at most 1048576: NARROWER than '..Said'. Prove '..Said' where nothing that the law and all that it calls make is longer than what came in: it says more and counts as full. Else prove '..UptoSaid'. A law counts once. -/
mutual
def uptoBulk {H : Type} : DataW H → Nat
  | .lit (.string bytes) => bytes.length + 1
  | .lit _ => 1
  | .nil => 1
  | .ptr d => uptoBulk d + 1
  | .slice elems spare => uptoBulkAll elems + uptoBulkAll spare + 1
  | .agg parts => uptoBulkAll parts + 1
  | .iface _ d => uptoBulk d + 1
  | .map entries => uptoBulkEntries entries + 1
  | .held _ => 1
def uptoBulkAll {H : Type} : List (DataW H) → Nat
  | [] => 0
  | d :: r => uptoBulk d + uptoBulkAll r
def uptoBulkEntries {H : Type} : List (Lit × DataW H) → Nat
  | [] => 0
  | x :: r => uptoBulkEntry x + uptoBulkEntries r
def uptoBulkEntry {H : Type} : Lit × DataW H → Nat
  | (.string bytes, d) => bytes.length + uptoBulk d + 1
  | (_, d) => uptoBulk d + 1
 end
def uptoSmall : (H : Type) → List (DataW H) → Bool := fun _ ds => decide (uptoBulkAll ds ≤ 1048576)
def OpenSpec.upto (s : _root_.Go.ChangeSpec) : _root_.Go.OpenSpec := { _root_.Go.OpenSpec.ofChange s with cond := some uptoSmall }

/-- 'wharfingerlaw01.QuantParses', WHERE WHAT IT READS IS OF BULK AT MOST 1048576: true; the input reads as it did. -/
def quantParsesUptoRow : OpenClaim := { program := "ytggkdapfccanpaadoor", sum := "4ab654dd264547a180edc9bb33e503fbb818b1c0fd4ebdd028119ef3ce05c51d", func := "wharfinger/wharfingerlaw01.QuantParses", spec := "quantParses", unfollowed := true, recurses := true, named := ["internal/strconv.uint64pow10", "math/bits.deBruijn32tab", "math/bits.deBruijn64tab"], apart := false, laid := [("math/bits.deBruijn32tab", laid_math_bits_deBruijn32tab), ("math/bits.deBruijn64tab", laid_math_bits_deBruijn64tab), ("internal/strconv.uint64pow10", laid_internal_strconv_uint64pow10)], narrowed := true }
def QuantParsesUptoSaid : Prop := quantParsesUptoRow.holds Tryd.pinned (OpenSpec.upto quantParsesSpec)

/-- 'wharfingerlaw01.QuantPrints', WHERE WHAT IT READS IS OF BULK AT MOST 1048576: true; the input reads as it did. -/
def quantPrintsUptoRow : OpenClaim := { program := "ytggkdapfccanpaadoor", sum := "4ab654dd264547a180edc9bb33e503fbb818b1c0fd4ebdd028119ef3ce05c51d", func := "wharfinger/wharfingerlaw01.QuantPrints", spec := "quantPrints", unfollowed := true, recurses := true, named := ["internal/strconv.uint64pow10", "math/bits.deBruijn32tab", "math/bits.deBruijn64tab"], apart := false, laid := [("math/bits.deBruijn32tab", laid_math_bits_deBruijn32tab), ("math/bits.deBruijn64tab", laid_math_bits_deBruijn64tab), ("internal/strconv.uint64pow10", laid_internal_strconv_uint64pow10)], narrowed := true }
def QuantPrintsUptoSaid : Prop := quantPrintsUptoRow.holds Tryd.pinned (OpenSpec.upto quantPrintsSpec)

/-- 'wharfingerlaw01.QuantBack', WHERE WHAT IT READS IS OF BULK AT MOST 1048576: true; the input reads as it did. -/
def quantBackUptoRow : OpenClaim := { program := "ytggkdapfccanpaadoor", sum := "4ab654dd264547a180edc9bb33e503fbb818b1c0fd4ebdd028119ef3ce05c51d", func := "wharfinger/wharfingerlaw01.QuantBack", spec := "quantBack", unfollowed := true, recurses := true, named := ["internal/strconv.uint64pow10", "math/bits.deBruijn32tab", "math/bits.deBruijn64tab"], apart := false, laid := [("math/bits.deBruijn32tab", laid_math_bits_deBruijn32tab), ("math/bits.deBruijn64tab", laid_math_bits_deBruijn64tab), ("internal/strconv.uint64pow10", laid_internal_strconv_uint64pow10)], narrowed := true }
def QuantBackUptoSaid : Prop := quantBackUptoRow.holds Tryd.pinned (OpenSpec.upto quantBackSpec)

/-- 'wharfingerlaw01.QuantShort', WHERE WHAT IT READS IS OF BULK AT MOST 1048576: true; the input reads as it did. -/
def quantShortUptoRow : OpenClaim := { program := "ytggkdapfccanpaadoor", sum := "4ab654dd264547a180edc9bb33e503fbb818b1c0fd4ebdd028119ef3ce05c51d", func := "wharfinger/wharfingerlaw01.QuantShort", spec := "quantShort", unfollowed := true, recurses := true, named := ["internal/strconv.uint64pow10", "math/bits.deBruijn32tab", "math/bits.deBruijn64tab"], apart := false, laid := [("math/bits.deBruijn32tab", laid_math_bits_deBruijn32tab), ("math/bits.deBruijn64tab", laid_math_bits_deBruijn64tab), ("internal/strconv.uint64pow10", laid_internal_strconv_uint64pow10)], narrowed := true }
def QuantShortUptoSaid : Prop := quantShortUptoRow.holds Tryd.pinned (OpenSpec.upto quantShortSpec)

/-- 'wharfingerlaw01.QuantUp', WHERE WHAT IT READS IS OF BULK AT MOST 1048576: true; the input reads as it did. -/
def quantUpUptoRow : OpenClaim := { program := "ytggkdapfccanpaadoor", sum := "4ab654dd264547a180edc9bb33e503fbb818b1c0fd4ebdd028119ef3ce05c51d", func := "wharfinger/wharfingerlaw01.QuantUp", spec := "quantUp", unfollowed := true, recurses := true, named := ["internal/strconv.uint64pow10", "math/bits.deBruijn32tab", "math/bits.deBruijn64tab"], apart := false, laid := [("math/bits.deBruijn32tab", laid_math_bits_deBruijn32tab), ("math/bits.deBruijn64tab", laid_math_bits_deBruijn64tab), ("internal/strconv.uint64pow10", laid_internal_strconv_uint64pow10)], narrowed := true }
def QuantUpUptoSaid : Prop := quantUpUptoRow.holds Tryd.pinned (OpenSpec.upto quantUpSpec)

/-- 'wharfingerlaw01.QuantUnits', WHERE WHAT IT READS IS OF BULK AT MOST 1048576: true; the input reads as it did. -/
def quantUnitsUptoRow : OpenClaim := { program := "ytggkdapfccanpaadoor", sum := "4ab654dd264547a180edc9bb33e503fbb818b1c0fd4ebdd028119ef3ce05c51d", func := "wharfinger/wharfingerlaw01.QuantUnits", spec := "quantUnits", unfollowed := true, recurses := true, named := ["internal/strconv.uint64pow10", "math/bits.deBruijn32tab", "math/bits.deBruijn64tab"], apart := false, laid := [("math/bits.deBruijn32tab", laid_math_bits_deBruijn32tab), ("math/bits.deBruijn64tab", laid_math_bits_deBruijn64tab), ("internal/strconv.uint64pow10", laid_internal_strconv_uint64pow10)], narrowed := true }
def QuantUnitsUptoSaid : Prop := quantUnitsUptoRow.holds Tryd.pinned (OpenSpec.upto quantUnitsSpec)

/-- 'wharfingerlaw01.QuantOrder', WHERE WHAT IT READS IS OF BULK AT MOST 1048576: true; the input reads as it did. -/
def quantOrderUptoRow : OpenClaim := { program := "ytggkdapfccanpaadoor", sum := "4ab654dd264547a180edc9bb33e503fbb818b1c0fd4ebdd028119ef3ce05c51d", func := "wharfinger/wharfingerlaw01.QuantOrder", spec := "quantOrder", unfollowed := true, recurses := true, named := ["internal/strconv.uint64pow10", "math/bits.deBruijn32tab", "math/bits.deBruijn64tab"], apart := false, laid := [("math/bits.deBruijn32tab", laid_math_bits_deBruijn32tab), ("math/bits.deBruijn64tab", laid_math_bits_deBruijn64tab), ("internal/strconv.uint64pow10", laid_internal_strconv_uint64pow10)], narrowed := true }
def QuantOrderUptoSaid : Prop := quantOrderUptoRow.holds Tryd.pinned (OpenSpec.upto quantOrderSpec)

/-- 'wharfingertop.TopRoom', WHERE WHAT IT READS IS OF BULK AT MOST 1048576: true; the input reads as it did. -/
def topRoomUptoRow : OpenClaim := { program := "ytggkdapfccanpaadoor", sum := "4ab654dd264547a180edc9bb33e503fbb818b1c0fd4ebdd028119ef3ce05c51d", func := "wharfinger/wharfingertop.TopRoom", spec := "topRoom", unfollowed := true, recurses := true, named := ["internal/strconv.uint64pow10", "math/bits.deBruijn32tab", "math/bits.deBruijn64tab"], apart := false, laid := [("math/bits.deBruijn32tab", laid_math_bits_deBruijn32tab), ("math/bits.deBruijn64tab", laid_math_bits_deBruijn64tab), ("internal/strconv.uint64pow10", laid_internal_strconv_uint64pow10)], narrowed := true }
def TopRoomUptoSaid : Prop := topRoomUptoRow.holds Tryd.pinned (OpenSpec.upto topRoomSpec)

end Rows
end Go.Proofs.YtggkdapfccanpaaDoor
