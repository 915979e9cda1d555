/-
  DERIVED. GIVEN WITH THE SEED: THE CARDS: each row of YtmpiiilkaadhfaaDoorRows.lean that lists a variable, with what it lists TIED to the program's text (the seventh form; the later family's looks); each row that meets fmt, with fmt's text TOLD by the authors' own Lean function (tested against real Go, not proved from fmt's source: count such statements apart). THE CARD IS WHAT COUNTS. Prove the row's statement (the work); the ties are given (YtmpiiilkaadhfaaDoorTie.lean); close each card by the builder's one call (the guide's Derived/Test/ToyasCard.lean, 'card_holds'). Laid BY PROGRAM, IN A SANDBOX (cutbox-door.mjs). By AI agents, Wed Nov 11 2026. No macro, syntax, notation, axiom, sorry.
-/
import Derived.Test.YtmpiiilkaadhfaaDoorRows
import GoSem.ClaimSeven
namespace Go.Proofs.YtmpiiilkaadhfaaDoor
namespace Rows

/-- THE TIED CARD OF 'laws.FnBitsCmp'. -/
def fnBitsCmpCard : Claim7 := { stood := { row := fnBitsCmpRow, standIns := [], harness := (true, "033188f31afe0c582f3e30d61e6ee500ca6baef3557afe6b2075875ebca7fbe2"), looks := true }, kinds := [], alts := [], laidByText := true, laidKinds := [.sentinel, .sentinel], laidTests := true, laidLooks := .later }
def FnBitsCmpCardSaid : Prop := Claim7.holds Tryd.pinned (.plain (OpenSpec.ofChange fnBitsCmpSpec)) fnBitsCmpCard

/-- THE TIED CARD OF 'laws.FnBitsIf'. -/
def fnBitsIfCard : Claim7 := { stood := { row := fnBitsIfRow, standIns := [], harness := (true, "033188f31afe0c582f3e30d61e6ee500ca6baef3557afe6b2075875ebca7fbe2"), looks := true }, kinds := [], alts := [], laidByText := true, laidKinds := [.sentinel, .sentinel], laidTests := true, laidLooks := .later }
def FnBitsIfCardSaid : Prop := Claim7.holds Tryd.pinned (.plain (OpenSpec.ofChange fnBitsIfSpec)) fnBitsIfCard

/-- THE TIED CARD OF 'laws.FnExactBitsCmp'. -/
def fnExactBitsCmpCard : Claim7 := { stood := { row := fnExactBitsCmpRow, standIns := [], harness := (true, "033188f31afe0c582f3e30d61e6ee500ca6baef3557afe6b2075875ebca7fbe2"), looks := true }, kinds := [], alts := [], laidByText := true, laidKinds := [.sentinel, .sentinel], laidTests := true, laidLooks := .later }
def FnExactBitsCmpCardSaid : Prop := Claim7.holds Tryd.pinned (.plain (OpenSpec.ofChange fnExactBitsCmpSpec)) fnExactBitsCmpCard

/-- THE SECOND FORM's CARD OF 'laws.FnBitsCmp'. -/
def fnBitsCmpUptoCard : Claim7 := { stood := { row := fnBitsCmpUptoRow, standIns := [], harness := (true, "033188f31afe0c582f3e30d61e6ee500ca6baef3557afe6b2075875ebca7fbe2"), looks := true }, kinds := [], alts := [], laidByText := true, laidKinds := [.sentinel, .sentinel], laidTests := true, laidLooks := .later }
def FnBitsCmpUptoCardSaid : Prop := Claim7.holds Tryd.pinned (.plain (OpenSpec.upto fnBitsCmpSpec)) fnBitsCmpUptoCard

/-- THE SECOND FORM's CARD OF 'laws.FnBitsIf'. -/
def fnBitsIfUptoCard : Claim7 := { stood := { row := fnBitsIfUptoRow, standIns := [], harness := (true, "033188f31afe0c582f3e30d61e6ee500ca6baef3557afe6b2075875ebca7fbe2"), looks := true }, kinds := [], alts := [], laidByText := true, laidKinds := [.sentinel, .sentinel], laidTests := true, laidLooks := .later }
def FnBitsIfUptoCardSaid : Prop := Claim7.holds Tryd.pinned (.plain (OpenSpec.upto fnBitsIfSpec)) fnBitsIfUptoCard

/-- THE SECOND FORM's CARD OF 'laws.FnExactBitsCmp'. -/
def fnExactBitsCmpUptoCard : Claim7 := { stood := { row := fnExactBitsCmpUptoRow, standIns := [], harness := (true, "033188f31afe0c582f3e30d61e6ee500ca6baef3557afe6b2075875ebca7fbe2"), looks := true }, kinds := [], alts := [], laidByText := true, laidKinds := [.sentinel, .sentinel], laidTests := true, laidLooks := .later }
def FnExactBitsCmpUptoCardSaid : Prop := Claim7.holds Tryd.pinned (.plain (OpenSpec.upto fnExactBitsCmpSpec)) fnExactBitsCmpUptoCard
end Rows
end Go.Proofs.YtmpiiilkaadhfaaDoor
