/-
  DERIVED. GIVEN WITH THE SEED: THE CARDS: each row of YtcfglkmcjmhoiaaDoorRows.lean that lists a variable, with what it lists TIED to the program's text (the seventh form; the later family's looks); each row that meets fmt, with fmt's text TOLD by the authors' own Lean function (tested against real Go, not proved from fmt's source: count such statements apart). THE CARD IS WHAT COUNTS. Prove the row's statement (the work); the ties are given (YtcfglkmcjmhoiaaDoorTie.lean); close each card by the builder's one call (the guide's Derived/Test/ToyasCard.lean, 'card_holds'). Laid BY PROGRAM, IN A SANDBOX (cutbox-door.mjs). By AI agents, Wed Nov 11 2026. No macro, syntax, notation, axiom, sorry.
-/
import Derived.Test.YtcfglkmcjmhoiaaDoorRows
import GoSem.ClaimSeven
namespace Go.Proofs.YtcfglkmcjmhoiaaDoor
namespace Rows

/-- THE TIED CARD OF 'laws.FnExactMaps'. -/
def fnExactMapsCard : Claim7 := { stood := { row := fnExactMapsRow, standIns := [], harness := (true, "f10681829069bb1442ac144ce1f2142cb8a62049cc4dcb28e0f0de75802777cd"), looks := false }, kinds := [], alts := [], laidByText := true, laidKinds := [.data, .data, .data], laidTests := true, laidLooks := .later }
def FnExactMapsCardSaid : Prop := Claim7.holds Tryd.pinned (.plain (OpenSpec.ofChange fnExactMapsSpec)) fnExactMapsCard

/-- THE SECOND FORM's CARD OF 'laws.FnExactMaps'. -/
def fnExactMapsUptoCard : Claim7 := { stood := { row := fnExactMapsUptoRow, standIns := [], harness := (true, "f10681829069bb1442ac144ce1f2142cb8a62049cc4dcb28e0f0de75802777cd"), looks := false }, kinds := [], alts := [], laidByText := true, laidKinds := [.data, .data, .data], laidTests := true, laidLooks := .later }
def FnExactMapsUptoCardSaid : Prop := Claim7.holds Tryd.pinned (.plain (OpenSpec.upto fnExactMapsSpec)) fnExactMapsUptoCard
end Rows
end Go.Proofs.YtcfglkmcjmhoiaaDoor
