/-
  DERIVED. GIVEN WITH THE SEED: THE CARDS: each row of YtfpdchabknoklaaDoorRows.lean that lists a variable, with what it lists TIED to the program's text (the seventh form; the later family's looks); each row that meets fmt, with fmt's text TOLD by the authors' own Lean function (tested against real Go, not proved from fmt's source: count such statements apart). THE CARD IS WHAT COUNTS. Prove the row's statement (the work); the ties are given (YtfpdchabknoklaaDoorTie.lean); close each card by the builder's one call (the guide's Derived/Test/ToyasCard.lean, 'card_holds'). Laid BY PROGRAM, IN A SANDBOX (cutbox-door.mjs). By AI agents, Wed Nov 11 2026. No macro, syntax, notation, axiom, sorry.
-/
import Derived.Test.YtfpdchabknoklaaDoorRows
import GoSem.ClaimSeven
namespace Go.Proofs.YtfpdchabknoklaaDoor
namespace Rows

/-- THE TIED CARD OF 'wharfingerlaw12.BindClaims'. -/
def bindClaimsCard : Claim7 := { stood := { row := bindClaimsRow, standIns := [], harness := (true, "444be6c1f6680d3d841afb5081927c535c6916d25439b76591447a1578b68ccd"), looks := false }, kinds := [], alts := [], laidByText := true, laidKinds := [.data, .data, .data], laidTests := true, laidLooks := .later }
def BindClaimsCardSaid : Prop := Claim7.holds Tryd.pinned (.plain (OpenSpec.ofChange bindClaimsSpec)) bindClaimsCard

/-- THE TIED CARD OF 'wharfingerlaw12.BindAfters'. -/
def bindAftersCard : Claim7 := { stood := { row := bindAftersRow, standIns := [], harness := (true, "444be6c1f6680d3d841afb5081927c535c6916d25439b76591447a1578b68ccd"), looks := false }, kinds := [], alts := [], laidByText := true, laidKinds := [.data, .data, .data], laidTests := true, laidLooks := .later }
def BindAftersCardSaid : Prop := Claim7.holds Tryd.pinned (.plain (OpenSpec.ofChange bindAftersSpec)) bindAftersCard

/-- THE TIED CARD OF 'wharfingerlaw12.BindRight'. -/
def bindRightCard : Claim7 := { stood := { row := bindRightRow, standIns := [], harness := (true, "444be6c1f6680d3d841afb5081927c535c6916d25439b76591447a1578b68ccd"), looks := false }, kinds := [], alts := [], laidByText := true, laidKinds := [.data, .data, .data], laidTests := true, laidLooks := .later }
def BindRightCardSaid : Prop := Claim7.holds Tryd.pinned (.plain (OpenSpec.ofChange bindRightSpec)) bindRightCard

/-- THE SECOND FORM's CARD OF 'wharfingerlaw12.BindClaims'. -/
def bindClaimsUptoCard : Claim7 := { stood := { row := bindClaimsUptoRow, standIns := [], harness := (true, "444be6c1f6680d3d841afb5081927c535c6916d25439b76591447a1578b68ccd"), looks := false }, kinds := [], alts := [], laidByText := true, laidKinds := [.data, .data, .data], laidTests := true, laidLooks := .later }
def BindClaimsUptoCardSaid : Prop := Claim7.holds Tryd.pinned (.plain (OpenSpec.upto bindClaimsSpec)) bindClaimsUptoCard

/-- THE SECOND FORM's CARD OF 'wharfingerlaw12.BindAfters'. -/
def bindAftersUptoCard : Claim7 := { stood := { row := bindAftersUptoRow, standIns := [], harness := (true, "444be6c1f6680d3d841afb5081927c535c6916d25439b76591447a1578b68ccd"), looks := false }, kinds := [], alts := [], laidByText := true, laidKinds := [.data, .data, .data], laidTests := true, laidLooks := .later }
def BindAftersUptoCardSaid : Prop := Claim7.holds Tryd.pinned (.plain (OpenSpec.upto bindAftersSpec)) bindAftersUptoCard

/-- THE SECOND FORM's CARD OF 'wharfingerlaw12.BindRight'. -/
def bindRightUptoCard : Claim7 := { stood := { row := bindRightUptoRow, standIns := [], harness := (true, "444be6c1f6680d3d841afb5081927c535c6916d25439b76591447a1578b68ccd"), looks := false }, kinds := [], alts := [], laidByText := true, laidKinds := [.data, .data, .data], laidTests := true, laidLooks := .later }
def BindRightUptoCardSaid : Prop := Claim7.holds Tryd.pinned (.plain (OpenSpec.upto bindRightSpec)) bindRightUptoCard
end Rows
end Go.Proofs.YtfpdchabknoklaaDoor
