/-
  DERIVED. GIVEN WITH THE SEED: THE CARDS: each row of YtdlbpfallmpkoaaDoorRows.lean that lists a variable, with what it lists TIED to the program's text (the seventh form; the later family's looks); each row that meets fmt, with fmt's text TOLD by the authors' own Lean function (tested against real Go, not proved from fmt's source: count such statements apart). THE CARD IS WHAT COUNTS. Prove the row's statement (the work); the ties are given (YtdlbpfallmpkoaaDoorTie.lean); close each card by the builder's one call (the guide's Derived/Test/ToyasCard.lean, 'card_holds'). Laid BY PROGRAM, IN A SANDBOX (cutbox-door.mjs). By AI agents, Wed Nov 11 2026. No macro, syntax, notation, axiom, sorry.
-/
import Derived.Test.YtdlbpfallmpkoaaDoorRows
import GoSem.ClaimSeven
namespace Go.Proofs.YtdlbpfallmpkoaaDoor
namespace Rows

/-- THE TIED CARD OF 'wharfingerlaw12.BindNames'. -/
def bindNamesCard : Claim7 := { stood := { row := bindNamesRow, standIns := [], harness := (true, "f3aea932cd6973ee58861ba39d5f3c78b567b929464aa5d584d607cc6e8b910d"), looks := false }, kinds := [], alts := [], laidByText := true, laidKinds := [.data, .data, .data], laidTests := true, laidLooks := .later }
def BindNamesCardSaid : Prop := Claim7.holds Tryd.pinned (.plain (OpenSpec.ofChange bindNamesSpec)) bindNamesCard

/-- THE TIED CARD OF 'wharfingerlaw12.BindFits'. -/
def bindFitsCard : Claim7 := { stood := { row := bindFitsRow, standIns := [], harness := (true, "f3aea932cd6973ee58861ba39d5f3c78b567b929464aa5d584d607cc6e8b910d"), looks := false }, kinds := [], alts := [], laidByText := true, laidKinds := [.data, .data, .data], laidTests := true, laidLooks := .later }
def BindFitsCardSaid : Prop := Claim7.holds Tryd.pinned (.plain (OpenSpec.ofChange bindFitsSpec)) bindFitsCard

/-- THE TIED CARD OF 'wharfingerlaw12.BindRefs'. -/
def bindRefsCard : Claim7 := { stood := { row := bindRefsRow, standIns := [], harness := (true, "f3aea932cd6973ee58861ba39d5f3c78b567b929464aa5d584d607cc6e8b910d"), looks := false }, kinds := [], alts := [], laidByText := true, laidKinds := [.data, .data, .data], laidTests := true, laidLooks := .later }
def BindRefsCardSaid : Prop := Claim7.holds Tryd.pinned (.plain (OpenSpec.ofChange bindRefsSpec)) bindRefsCard

/-- THE TIED CARD OF 'wharfingerlaw14.DataRight'. -/
def dataRightCard : Claim7 := { stood := { row := dataRightRow, standIns := [], harness := (true, "f3aea932cd6973ee58861ba39d5f3c78b567b929464aa5d584d607cc6e8b910d"), looks := false }, kinds := [], alts := [], laidByText := true, laidKinds := [.data, .data, .data], laidTests := true, laidLooks := .later }
def DataRightCardSaid : Prop := Claim7.holds Tryd.pinned (.plain (OpenSpec.ofChange dataRightSpec)) dataRightCard

/-- THE TIED CARD OF 'wharfingerlaw14.DataWaits'. -/
def dataWaitsCard : Claim7 := { stood := { row := dataWaitsRow, standIns := [], harness := (true, "f3aea932cd6973ee58861ba39d5f3c78b567b929464aa5d584d607cc6e8b910d"), looks := false }, kinds := [], alts := [], laidByText := true, laidKinds := [.data, .data, .data], laidTests := true, laidLooks := .later }
def DataWaitsCardSaid : Prop := Claim7.holds Tryd.pinned (.plain (OpenSpec.ofChange dataWaitsSpec)) dataWaitsCard

/-- THE SECOND FORM's CARD OF 'wharfingerlaw12.BindNames'. -/
def bindNamesUptoCard : Claim7 := { stood := { row := bindNamesUptoRow, standIns := [], harness := (true, "f3aea932cd6973ee58861ba39d5f3c78b567b929464aa5d584d607cc6e8b910d"), looks := false }, kinds := [], alts := [], laidByText := true, laidKinds := [.data, .data, .data], laidTests := true, laidLooks := .later }
def BindNamesUptoCardSaid : Prop := Claim7.holds Tryd.pinned (.plain (OpenSpec.upto bindNamesSpec)) bindNamesUptoCard

/-- THE SECOND FORM's CARD OF 'wharfingerlaw12.BindFits'. -/
def bindFitsUptoCard : Claim7 := { stood := { row := bindFitsUptoRow, standIns := [], harness := (true, "f3aea932cd6973ee58861ba39d5f3c78b567b929464aa5d584d607cc6e8b910d"), looks := false }, kinds := [], alts := [], laidByText := true, laidKinds := [.data, .data, .data], laidTests := true, laidLooks := .later }
def BindFitsUptoCardSaid : Prop := Claim7.holds Tryd.pinned (.plain (OpenSpec.upto bindFitsSpec)) bindFitsUptoCard

/-- THE SECOND FORM's CARD OF 'wharfingerlaw12.BindRefs'. -/
def bindRefsUptoCard : Claim7 := { stood := { row := bindRefsUptoRow, standIns := [], harness := (true, "f3aea932cd6973ee58861ba39d5f3c78b567b929464aa5d584d607cc6e8b910d"), looks := false }, kinds := [], alts := [], laidByText := true, laidKinds := [.data, .data, .data], laidTests := true, laidLooks := .later }
def BindRefsUptoCardSaid : Prop := Claim7.holds Tryd.pinned (.plain (OpenSpec.upto bindRefsSpec)) bindRefsUptoCard

/-- THE SECOND FORM's CARD OF 'wharfingerlaw14.DataRight'. -/
def dataRightUptoCard : Claim7 := { stood := { row := dataRightUptoRow, standIns := [], harness := (true, "f3aea932cd6973ee58861ba39d5f3c78b567b929464aa5d584d607cc6e8b910d"), looks := false }, kinds := [], alts := [], laidByText := true, laidKinds := [.data, .data, .data], laidTests := true, laidLooks := .later }
def DataRightUptoCardSaid : Prop := Claim7.holds Tryd.pinned (.plain (OpenSpec.upto dataRightSpec)) dataRightUptoCard

/-- THE SECOND FORM's CARD OF 'wharfingerlaw14.DataWaits'. -/
def dataWaitsUptoCard : Claim7 := { stood := { row := dataWaitsUptoRow, standIns := [], harness := (true, "f3aea932cd6973ee58861ba39d5f3c78b567b929464aa5d584d607cc6e8b910d"), looks := false }, kinds := [], alts := [], laidByText := true, laidKinds := [.data, .data, .data], laidTests := true, laidLooks := .later }
def DataWaitsUptoCardSaid : Prop := Claim7.holds Tryd.pinned (.plain (OpenSpec.upto dataWaitsSpec)) dataWaitsUptoCard
end Rows
end Go.Proofs.YtdlbpfallmpkoaaDoor
