/-
  DERIVED. GIVEN WITH THE SEED: THE CARDS: each row of YtafehfpjogbmfaaDoorRows.lean that lists a variable, with what it lists TIED to the program's text (the seventh form; the later family's looks); each row that meets fmt, with fmt's text TOLD by the authors' own Lean function (tested against real Go, not proved from fmt's source: count such statements apart). THE CARD IS WHAT COUNTS. Prove the row's statement (the work); the ties are given (YtafehfpjogbmfaaDoorTie.lean); close each card by the builder's one call (the guide's Derived/Test/ToyasCard.lean, 'card_holds'). Laid BY PROGRAM, IN A SANDBOX (cutbox-door.mjs). By AI agents, Wed Nov 11 2026. No macro, syntax, notation, axiom, sorry.
-/
import Derived.Test.YtafehfpjogbmfaaDoorRows
import GoSem.ClaimSeven
namespace Go.Proofs.YtafehfpjogbmfaaDoor
namespace Rows

/-- THE TIED CARD OF 'laws.FnExactReadVal'. -/
def fnExactReadValCard : Claim7 := { stood := { row := fnExactReadValRow, standIns := [], harness := (true, "da0a946ade1f4a611d3160fb3c7ddab0f89c5c30c58b818964c4c0ec489ec73a"), looks := true }, kinds := [], alts := [], laidByText := true, laidKinds := [.data, .data, .data, .data], laidTests := true, laidLooks := .later }
def FnExactReadValCardSaid : Prop := Claim7.holds Tryd.pinned (.plain (OpenSpec.ofChange fnExactReadValSpec)) fnExactReadValCard

/-- THE SECOND FORM's CARD OF 'laws.FnExactReadVal'. -/
def fnExactReadValUptoCard : Claim7 := { stood := { row := fnExactReadValUptoRow, standIns := [], harness := (true, "da0a946ade1f4a611d3160fb3c7ddab0f89c5c30c58b818964c4c0ec489ec73a"), looks := true }, kinds := [], alts := [], laidByText := true, laidKinds := [.data, .data, .data, .data], laidTests := true, laidLooks := .later }
def FnExactReadValUptoCardSaid : Prop := Claim7.holds Tryd.pinned (.plain (OpenSpec.upto fnExactReadValSpec)) fnExactReadValUptoCard
end Rows
end Go.Proofs.YtafehfpjogbmfaaDoor
