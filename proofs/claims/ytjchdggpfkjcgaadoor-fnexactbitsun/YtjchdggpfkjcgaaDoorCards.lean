/-
  DERIVED. GIVEN WITH THE SEED: THE CARDS: each row of YtjchdggpfkjcgaaDoorRows.lean that lists a variable, with what it lists TIED to the program's text (the seventh form; the later family's looks); each row that meets fmt, with fmt's text TOLD by the authors' own Lean function (tested against real Go, not proved from fmt's source: count such statements apart). THE CARD IS WHAT COUNTS. Prove the row's statement (the work); the ties are given (YtjchdggpfkjcgaaDoorTie.lean); close each card by the builder's one call (the guide's Derived/Test/ToyasCard.lean, 'card_holds'). Laid BY PROGRAM, IN A SANDBOX (cutbox-door.mjs). By AI agents, Wed Nov 11 2026. No macro, syntax, notation, axiom, sorry.
-/
import Derived.Test.YtjchdggpfkjcgaaDoorRows
import GoSem.ClaimSeven
namespace Go.Proofs.YtjchdggpfkjcgaaDoor
namespace Rows

/-- THE TIED CARD OF 'laws.FnExactBitsUn'. -/
def fnExactBitsUnCard : Claim7 := { stood := { row := fnExactBitsUnRow, standIns := [], harness := (true, "a56cde364e901ec6efeb84e8982c96195640d9c5f89fd5d06f88cc2a42bdacf5"), looks := true }, kinds := [], alts := [], laidByText := true, laidKinds := [.sentinel, .sentinel], laidTests := true, laidLooks := .later }
def FnExactBitsUnCardSaid : Prop := Claim7.holds Tryd.pinned (.plain (OpenSpec.ofChange fnExactBitsUnSpec)) fnExactBitsUnCard

/-- THE TIED CARD OF 'laws.FnExactBitsCmp'. -/
def fnExactBitsCmpCard : Claim7 := { stood := { row := fnExactBitsCmpRow, standIns := [], harness := (true, "a56cde364e901ec6efeb84e8982c96195640d9c5f89fd5d06f88cc2a42bdacf5"), looks := true }, kinds := [], alts := [], laidByText := true, laidKinds := [.sentinel, .sentinel], laidTests := true, laidLooks := .later }
def FnExactBitsCmpCardSaid : Prop := Claim7.holds Tryd.pinned (.plain (OpenSpec.ofChange fnExactBitsCmpSpec)) fnExactBitsCmpCard

/-- THE TIED CARD OF 'laws.FnExactBitsIf'. -/
def fnExactBitsIfCard : Claim7 := { stood := { row := fnExactBitsIfRow, standIns := [], harness := (true, "a56cde364e901ec6efeb84e8982c96195640d9c5f89fd5d06f88cc2a42bdacf5"), looks := true }, kinds := [], alts := [], laidByText := true, laidKinds := [.sentinel, .sentinel], laidTests := true, laidLooks := .later }
def FnExactBitsIfCardSaid : Prop := Claim7.holds Tryd.pinned (.plain (OpenSpec.ofChange fnExactBitsIfSpec)) fnExactBitsIfCard

/-- THE SECOND FORM's CARD OF 'laws.FnExactBitsUn'. -/
def fnExactBitsUnUptoCard : Claim7 := { stood := { row := fnExactBitsUnUptoRow, standIns := [], harness := (true, "a56cde364e901ec6efeb84e8982c96195640d9c5f89fd5d06f88cc2a42bdacf5"), looks := true }, kinds := [], alts := [], laidByText := true, laidKinds := [.sentinel, .sentinel], laidTests := true, laidLooks := .later }
def FnExactBitsUnUptoCardSaid : Prop := Claim7.holds Tryd.pinned (.plain (OpenSpec.upto fnExactBitsUnSpec)) fnExactBitsUnUptoCard

/-- THE SECOND FORM's CARD OF 'laws.FnExactBitsCmp'. -/
def fnExactBitsCmpUptoCard : Claim7 := { stood := { row := fnExactBitsCmpUptoRow, standIns := [], harness := (true, "a56cde364e901ec6efeb84e8982c96195640d9c5f89fd5d06f88cc2a42bdacf5"), looks := true }, kinds := [], alts := [], laidByText := true, laidKinds := [.sentinel, .sentinel], laidTests := true, laidLooks := .later }
def FnExactBitsCmpUptoCardSaid : Prop := Claim7.holds Tryd.pinned (.plain (OpenSpec.upto fnExactBitsCmpSpec)) fnExactBitsCmpUptoCard

/-- THE SECOND FORM's CARD OF 'laws.FnExactBitsIf'. -/
def fnExactBitsIfUptoCard : Claim7 := { stood := { row := fnExactBitsIfUptoRow, standIns := [], harness := (true, "a56cde364e901ec6efeb84e8982c96195640d9c5f89fd5d06f88cc2a42bdacf5"), looks := true }, kinds := [], alts := [], laidByText := true, laidKinds := [.sentinel, .sentinel], laidTests := true, laidLooks := .later }
def FnExactBitsIfUptoCardSaid : Prop := Claim7.holds Tryd.pinned (.plain (OpenSpec.upto fnExactBitsIfSpec)) fnExactBitsIfUptoCard
end Rows
end Go.Proofs.YtjchdggpfkjcgaaDoor
