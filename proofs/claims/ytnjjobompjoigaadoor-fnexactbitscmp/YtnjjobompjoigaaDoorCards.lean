/-
  DERIVED. GIVEN WITH THE SEED: THE CARDS: each row of YtnjjobompjoigaaDoorRows.lean that lists a variable, with what it lists TIED to the program's text (the seventh form; the later family's looks); each row that meets fmt, with fmt's text TOLD by the authors' own Lean function (tested against real Go, not proved from fmt's source: count such statements apart). THE CARD IS WHAT COUNTS. Prove the row's statement (the work); the ties are given (YtnjjobompjoigaaDoorTie.lean); close each card by the builder's one call (the guide's Derived/Test/ToyasCard.lean, 'card_holds'). Laid BY PROGRAM, IN A SANDBOX (cutbox-door.mjs). By AI agents, Wed Nov 11 2026. No macro, syntax, notation, axiom, sorry.
-/
import Derived.Test.YtnjjobompjoigaaDoorRows
import GoSem.ClaimSeven
namespace Go.Proofs.YtnjjobompjoigaaDoor
namespace Rows

/-- THE TIED CARD OF 'laws.FnExactBitsCmp'. -/
def fnExactBitsCmpCard : Claim7 := { stood := { row := fnExactBitsCmpRow, standIns := [], harness := (true, "e8df8051879b3500e6fbc0c65248c400b71ebb863007f8f20f7fcb259f4bf211"), looks := true }, kinds := [], alts := [], laidByText := true, laidKinds := [.sentinel, .sentinel], laidTests := true, laidLooks := .later }
def FnExactBitsCmpCardSaid : Prop := Claim7.holds Tryd.pinned (.plain (OpenSpec.ofChange fnExactBitsCmpSpec)) fnExactBitsCmpCard

/-- THE SECOND FORM's CARD OF 'laws.FnExactBitsCmp'. -/
def fnExactBitsCmpUptoCard : Claim7 := { stood := { row := fnExactBitsCmpUptoRow, standIns := [], harness := (true, "e8df8051879b3500e6fbc0c65248c400b71ebb863007f8f20f7fcb259f4bf211"), looks := true }, kinds := [], alts := [], laidByText := true, laidKinds := [.sentinel, .sentinel], laidTests := true, laidLooks := .later }
def FnExactBitsCmpUptoCardSaid : Prop := Claim7.holds Tryd.pinned (.plain (OpenSpec.upto fnExactBitsCmpSpec)) fnExactBitsCmpUptoCard
end Rows
end Go.Proofs.YtnjjobompjoigaaDoor
