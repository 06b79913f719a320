/-
  No cell of these rows narrows 'for every input' (looked for: loops, veiled, ifaces, maps, wideKeys, modest, calm, conditions, laid).
  DERIVED. THE GIVEN ROWS OF THIS SEAT. 8 by the template 'for every input the law returns true; each argument reads behind the call as it read before'; 0 by the template 'total and deterministic' (their statements: YtneogmcmkbhnaaaTotals.lean).
  GIVEN WITH THE SEED: the statements are not yours to turn. If you find one false, say at which input.
  Laid BY PROGRAM, IN A SANDBOX (cutbox-rows.mjs): the forced cells as the released guide's own fill.sh prints them over the translation 8b98492fe44d9200… (all of the seat's roots in one cut). By AI agents, Wed Nov 11 2026. No macro, syntax, notation, axiom, sorry.
-/
import Derived.Test.YtneogmcmkbhnaaaChecked
import GoSem.Claim
import GoSem.ClaimJoined
import GoSem.ClaimMapViews
import Derived.JoinedTies
import Derived.KernelRfl
namespace Go.Proofs.Ytneogmcmkbhnaaa
/- THE CELL 'sum', in the pinned program and in every row, IS THE sha256 OF THE DUMP (.gsa) THAT YtneogmcmkbhnaaaProg.lean LOADS. Nothing in Lean hashes anything: it is a label: what it is worth is what the hold of that sum in a sandbox is worth. -/
noncomputable def Try.pinned : Pinned := { name := "ytneogmcmkbhnaaa", sum := "8b98492fe44d920026757649490f201fefdf60a8a44c052621b9014bacf432f2", checked := Try.checked }
namespace Rows
def none {H : Type} : Left H := { results := [], args := [] }

/-- 'wharfingerlaw02.TopoPrints': WHATEVER THE INPUT: true; the input reads as it did. -/
def topoPrintsSpec : ChangeSpec := { name := "topoPrints", fn := fun _ => fun
  | [d1, d2] => { results := [.lit (.bool true)], args := [d1, d2] }
  | _ => none }
def topoPrintsRow : OpenClaim := { program := "ytneogmcmkbhnaaa", sum := "8b98492fe44d920026757649490f201fefdf60a8a44c052621b9014bacf432f2", func := "wharfinger/wharfingerlaw02.TopoPrints", spec := "topoPrints", inPlace := ["internal/abi.NoEscape", "internal/bytealg.MakeNoZero"], unfollowed := true, recurses := true, apart := false }
def TopoPrintsSaid : Prop := topoPrintsRow.holds Try.pinned (OpenSpec.ofChange topoPrintsSpec)

/-- ITS FALSE NEIGHBOUR: 'it returns false'. Refute it at one input. -/
def topoPrintsWrong : ChangeSpec := { name := "topoPrints", fn := fun _ => fun
  | [d1, d2] => { results := [.lit (.bool false)], args := [d1, d2] }
  | _ => none }
def TopoPrintsWrongFalsely : Prop := topoPrintsRow.holds Try.pinned (OpenSpec.ofChange topoPrintsWrong)

/-- 'wharfingerlaw02.TopoBack': WHATEVER THE INPUT: true; the input reads as it did. -/
def topoBackSpec : ChangeSpec := { name := "topoBack", fn := fun _ => fun
  | [d1, d2] => { results := [.lit (.bool true)], args := [d1, d2] }
  | _ => none }
def topoBackRow : OpenClaim := { program := "ytneogmcmkbhnaaa", sum := "8b98492fe44d920026757649490f201fefdf60a8a44c052621b9014bacf432f2", func := "wharfinger/wharfingerlaw02.TopoBack", spec := "topoBack", inPlace := ["internal/abi.NoEscape"], unfollowed := true, recurses := true, apart := false }
def TopoBackSaid : Prop := topoBackRow.holds Try.pinned (OpenSpec.ofChange topoBackSpec)

/-- ITS FALSE NEIGHBOUR: 'it returns false'. Refute it at one input. -/
def topoBackWrong : ChangeSpec := { name := "topoBack", fn := fun _ => fun
  | [d1, d2] => { results := [.lit (.bool false)], args := [d1, d2] }
  | _ => none }
def TopoBackWrongFalsely : Prop := topoBackRow.holds Try.pinned (OpenSpec.ofChange topoBackWrong)

/-- 'wharfingerlaw02.TopoLabels': WHATEVER THE INPUT: true; the input reads as it did. -/
def topoLabelsSpec : ChangeSpec := { name := "topoLabels", fn := fun _ => fun
  | [d] => { results := [.lit (.bool true)], args := [d] }
  | _ => none }
def topoLabelsRow : OpenClaim := { program := "ytneogmcmkbhnaaa", sum := "8b98492fe44d920026757649490f201fefdf60a8a44c052621b9014bacf432f2", func := "wharfinger/wharfingerlaw02.TopoLabels", spec := "topoLabels", inPlace := ["internal/abi.NoEscape"], unfollowed := true, recurses := true, apart := false }
def TopoLabelsSaid : Prop := topoLabelsRow.holds Try.pinned (OpenSpec.ofChange topoLabelsSpec)

/-- ITS FALSE NEIGHBOUR: 'it returns false'. Refute it at one input. -/
def topoLabelsWrong : ChangeSpec := { name := "topoLabels", fn := fun _ => fun
  | [d] => { results := [.lit (.bool false)], args := [d] }
  | _ => none }
def TopoLabelsWrongFalsely : Prop := topoLabelsRow.holds Try.pinned (OpenSpec.ofChange topoLabelsWrong)

/-- 'wharfingerlaw02.TopoMatches': WHATEVER THE INPUT: true; the input reads as it did. -/
def topoMatchesSpec : ChangeSpec := { name := "topoMatches", fn := fun _ => fun
  | [d1, d2] => { results := [.lit (.bool true)], args := [d1, d2] }
  | _ => none }
def topoMatchesRow : OpenClaim := { program := "ytneogmcmkbhnaaa", sum := "8b98492fe44d920026757649490f201fefdf60a8a44c052621b9014bacf432f2", func := "wharfinger/wharfingerlaw02.TopoMatches", spec := "topoMatches", unfollowed := true, recurses := true, apart := false }
def TopoMatchesSaid : Prop := topoMatchesRow.holds Try.pinned (OpenSpec.ofChange topoMatchesSpec)

/-- ITS FALSE NEIGHBOUR: 'it returns false'. Refute it at one input. -/
def topoMatchesWrong : ChangeSpec := { name := "topoMatches", fn := fun _ => fun
  | [d1, d2] => { results := [.lit (.bool false)], args := [d1, d2] }
  | _ => none }
def TopoMatchesWrongFalsely : Prop := topoMatchesRow.holds Try.pinned (OpenSpec.ofChange topoMatchesWrong)

/-- 'wharfingerlaw02.TopoNarrows': WHATEVER THE INPUT: true; the input reads as it did. -/
def topoNarrowsSpec : ChangeSpec := { name := "topoNarrows", fn := fun _ => fun
  | [d1, d2] => { results := [.lit (.bool true)], args := [d1, d2] }
  | _ => none }
def topoNarrowsRow : OpenClaim := { program := "ytneogmcmkbhnaaa", sum := "8b98492fe44d920026757649490f201fefdf60a8a44c052621b9014bacf432f2", func := "wharfinger/wharfingerlaw02.TopoNarrows", spec := "topoNarrows", inPlace := ["internal/abi.NoEscape"], unfollowed := true, recurses := true, apart := false }
def TopoNarrowsSaid : Prop := topoNarrowsRow.holds Try.pinned (OpenSpec.ofChange topoNarrowsSpec)

/-- ITS FALSE NEIGHBOUR: 'it returns false'. Refute it at one input. -/
def topoNarrowsWrong : ChangeSpec := { name := "topoNarrows", fn := fun _ => fun
  | [d1, d2] => { results := [.lit (.bool false)], args := [d1, d2] }
  | _ => none }
def TopoNarrowsWrongFalsely : Prop := topoNarrowsRow.holds Try.pinned (OpenSpec.ofChange topoNarrowsWrong)

/-- 'wharfingerlaw02.TopoBoth': WHATEVER THE INPUT: true; the input reads as it did. -/
def topoBothSpec : ChangeSpec := { name := "topoBoth", fn := fun _ => fun
  | [d1, d2, d3] => { results := [.lit (.bool true)], args := [d1, d2, d3] }
  | _ => none }
def topoBothRow : OpenClaim := { program := "ytneogmcmkbhnaaa", sum := "8b98492fe44d920026757649490f201fefdf60a8a44c052621b9014bacf432f2", func := "wharfinger/wharfingerlaw02.TopoBoth", spec := "topoBoth", inPlace := ["internal/abi.NoEscape"], unfollowed := true, recurses := true, apart := false }
def TopoBothSaid : Prop := topoBothRow.holds Try.pinned (OpenSpec.ofChange topoBothSpec)

/-- ITS FALSE NEIGHBOUR: 'it returns false'. Refute it at one input. -/
def topoBothWrong : ChangeSpec := { name := "topoBoth", fn := fun _ => fun
  | [d1, d2, d3] => { results := [.lit (.bool false)], args := [d1, d2, d3] }
  | _ => none }
def TopoBothWrongFalsely : Prop := topoBothRow.holds Try.pinned (OpenSpec.ofChange topoBothWrong)

/-- 'wharfingerlaw02.TopoSame': WHATEVER THE INPUT: true; the input reads as it did. -/
def topoSameSpec : ChangeSpec := { name := "topoSame", fn := fun _ => fun
  | [d1, d2] => { results := [.lit (.bool true)], args := [d1, d2] }
  | _ => none }
def topoSameRow : OpenClaim := { program := "ytneogmcmkbhnaaa", sum := "8b98492fe44d920026757649490f201fefdf60a8a44c052621b9014bacf432f2", func := "wharfinger/wharfingerlaw02.TopoSame", spec := "topoSame", unfollowed := true, recurses := true, apart := false }
def TopoSameSaid : Prop := topoSameRow.holds Try.pinned (OpenSpec.ofChange topoSameSpec)

/-- ITS FALSE NEIGHBOUR: 'it returns false'. Refute it at one input. -/
def topoSameWrong : ChangeSpec := { name := "topoSame", fn := fun _ => fun
  | [d1, d2] => { results := [.lit (.bool false)], args := [d1, d2] }
  | _ => none }
def TopoSameWrongFalsely : Prop := topoSameRow.holds Try.pinned (OpenSpec.ofChange topoSameWrong)

/-- 'wharfingertop.TopZones': WHATEVER THE INPUT: true; the input reads as it did. -/
def topZonesSpec : ChangeSpec := { name := "topZones", fn := fun _ => fun
  | [d1, d2] => { results := [.lit (.bool true)], args := [d1, d2] }
  | _ => none }
def topZonesRow : OpenClaim := { program := "ytneogmcmkbhnaaa", sum := "8b98492fe44d920026757649490f201fefdf60a8a44c052621b9014bacf432f2", func := "wharfinger/wharfingertop.TopZones", spec := "topZones", inPlace := ["internal/abi.NoEscape"], unfollowed := true, recurses := true, apart := false }
def TopZonesSaid : Prop := topZonesRow.holds Try.pinned (OpenSpec.ofChange topZonesSpec)

/-- ITS FALSE NEIGHBOUR: 'it returns false'. Refute it at one input. -/
def topZonesWrong : ChangeSpec := { name := "topZones", fn := fun _ => fun
  | [d1, d2] => { results := [.lit (.bool false)], args := [d1, d2] }
  | _ => none }
def TopZonesWrongFalsely : Prop := topZonesRow.holds Try.pinned (OpenSpec.ofChange topZonesWrong)

/- THE SECOND FORM. 'bulk': how many values and letters a reading holds, each counted each time it is reached (what is shared counts as often as it is met; a slice's spare places count too). A statement '..UptoSaid' is the law's where the arguments, and the package variables that the reading takes, are together of bulk at most 1048576: NARROWER than '..Said'. Prove '..Said' where nothing that the law and all that it calls make is longer than what came in: it says more and counts as full. Else prove '..UptoSaid'. A law counts once. -/
mutual
def uptoBulk {H : Type} : DataW H → Nat
  | .lit (.string bytes) => bytes.length + 1
  | .lit _ => 1
  | .nil => 1
  | .ptr d => uptoBulk d + 1
  | .slice elems spare => uptoBulkAll elems + uptoBulkAll spare + 1
  | .agg parts => uptoBulkAll parts + 1
  | .iface _ d => uptoBulk d + 1
  | .map entries => uptoBulkEntries entries + 1
  | .held _ => 1
def uptoBulkAll {H : Type} : List (DataW H) → Nat
  | [] => 0
  | d :: r => uptoBulk d + uptoBulkAll r
def uptoBulkEntries {H : Type} : List (Lit × DataW H) → Nat
  | [] => 0
  | x :: r => uptoBulkEntry x + uptoBulkEntries r
def uptoBulkEntry {H : Type} : Lit × DataW H → Nat
  | (.string bytes, d) => bytes.length + uptoBulk d + 1
  | (_, d) => uptoBulk d + 1
 end
def uptoSmall : (H : Type) → List (DataW H) → Bool := fun _ ds => decide (uptoBulkAll ds ≤ 1048576)
def OpenSpec.upto (s : _root_.Go.ChangeSpec) : _root_.Go.OpenSpec := { _root_.Go.OpenSpec.ofChange s with cond := some uptoSmall }

/-- 'wharfingerlaw02.TopoPrints', WHERE WHAT IT READS IS OF BULK AT MOST 1048576: true; the input reads as it did. -/
def topoPrintsUptoRow : OpenClaim := { program := "ytneogmcmkbhnaaa", sum := "8b98492fe44d920026757649490f201fefdf60a8a44c052621b9014bacf432f2", func := "wharfinger/wharfingerlaw02.TopoPrints", spec := "topoPrints", inPlace := ["internal/abi.NoEscape", "internal/bytealg.MakeNoZero"], unfollowed := true, recurses := true, apart := false, narrowed := true }
def TopoPrintsUptoSaid : Prop := topoPrintsUptoRow.holds Try.pinned (OpenSpec.upto topoPrintsSpec)

/-- 'wharfingerlaw02.TopoBack', WHERE WHAT IT READS IS OF BULK AT MOST 1048576: true; the input reads as it did. -/
def topoBackUptoRow : OpenClaim := { program := "ytneogmcmkbhnaaa", sum := "8b98492fe44d920026757649490f201fefdf60a8a44c052621b9014bacf432f2", func := "wharfinger/wharfingerlaw02.TopoBack", spec := "topoBack", inPlace := ["internal/abi.NoEscape"], unfollowed := true, recurses := true, apart := false, narrowed := true }
def TopoBackUptoSaid : Prop := topoBackUptoRow.holds Try.pinned (OpenSpec.upto topoBackSpec)

/-- 'wharfingerlaw02.TopoLabels', WHERE WHAT IT READS IS OF BULK AT MOST 1048576: true; the input reads as it did. -/
def topoLabelsUptoRow : OpenClaim := { program := "ytneogmcmkbhnaaa", sum := "8b98492fe44d920026757649490f201fefdf60a8a44c052621b9014bacf432f2", func := "wharfinger/wharfingerlaw02.TopoLabels", spec := "topoLabels", inPlace := ["internal/abi.NoEscape"], unfollowed := true, recurses := true, apart := false, narrowed := true }
def TopoLabelsUptoSaid : Prop := topoLabelsUptoRow.holds Try.pinned (OpenSpec.upto topoLabelsSpec)

/-- 'wharfingerlaw02.TopoMatches', WHERE WHAT IT READS IS OF BULK AT MOST 1048576: true; the input reads as it did. -/
def topoMatchesUptoRow : OpenClaim := { program := "ytneogmcmkbhnaaa", sum := "8b98492fe44d920026757649490f201fefdf60a8a44c052621b9014bacf432f2", func := "wharfinger/wharfingerlaw02.TopoMatches", spec := "topoMatches", unfollowed := true, recurses := true, apart := false, narrowed := true }
def TopoMatchesUptoSaid : Prop := topoMatchesUptoRow.holds Try.pinned (OpenSpec.upto topoMatchesSpec)

/-- 'wharfingerlaw02.TopoNarrows', WHERE WHAT IT READS IS OF BULK AT MOST 1048576: true; the input reads as it did. -/
def topoNarrowsUptoRow : OpenClaim := { program := "ytneogmcmkbhnaaa", sum := "8b98492fe44d920026757649490f201fefdf60a8a44c052621b9014bacf432f2", func := "wharfinger/wharfingerlaw02.TopoNarrows", spec := "topoNarrows", inPlace := ["internal/abi.NoEscape"], unfollowed := true, recurses := true, apart := false, narrowed := true }
def TopoNarrowsUptoSaid : Prop := topoNarrowsUptoRow.holds Try.pinned (OpenSpec.upto topoNarrowsSpec)

/-- 'wharfingerlaw02.TopoBoth', WHERE WHAT IT READS IS OF BULK AT MOST 1048576: true; the input reads as it did. -/
def topoBothUptoRow : OpenClaim := { program := "ytneogmcmkbhnaaa", sum := "8b98492fe44d920026757649490f201fefdf60a8a44c052621b9014bacf432f2", func := "wharfinger/wharfingerlaw02.TopoBoth", spec := "topoBoth", inPlace := ["internal/abi.NoEscape"], unfollowed := true, recurses := true, apart := false, narrowed := true }
def TopoBothUptoSaid : Prop := topoBothUptoRow.holds Try.pinned (OpenSpec.upto topoBothSpec)

/-- 'wharfingerlaw02.TopoSame', WHERE WHAT IT READS IS OF BULK AT MOST 1048576: true; the input reads as it did. -/
def topoSameUptoRow : OpenClaim := { program := "ytneogmcmkbhnaaa", sum := "8b98492fe44d920026757649490f201fefdf60a8a44c052621b9014bacf432f2", func := "wharfinger/wharfingerlaw02.TopoSame", spec := "topoSame", unfollowed := true, recurses := true, apart := false, narrowed := true }
def TopoSameUptoSaid : Prop := topoSameUptoRow.holds Try.pinned (OpenSpec.upto topoSameSpec)

/-- 'wharfingertop.TopZones', WHERE WHAT IT READS IS OF BULK AT MOST 1048576: true; the input reads as it did. -/
def topZonesUptoRow : OpenClaim := { program := "ytneogmcmkbhnaaa", sum := "8b98492fe44d920026757649490f201fefdf60a8a44c052621b9014bacf432f2", func := "wharfinger/wharfingertop.TopZones", spec := "topZones", inPlace := ["internal/abi.NoEscape"], unfollowed := true, recurses := true, apart := false, narrowed := true }
def TopZonesUptoSaid : Prop := topZonesUptoRow.holds Try.pinned (OpenSpec.upto topZonesSpec)

end Rows
end Go.Proofs.Ytneogmcmkbhnaaa
