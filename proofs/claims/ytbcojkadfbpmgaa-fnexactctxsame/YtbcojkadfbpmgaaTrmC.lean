/- What the program's TermMany returns. -/
import Derived.Test.YtbcojkadfbpmgaaTrmB
namespace Go.Proofs.Ytbcojkadfbpmgaa
open Go.ChangeShapes Go.WideShapes Go.ChangeAt Go.RowKit Go.Joins
set_option linter.unusedVariables false

theorem Five.lt {w : World} {bl o : Nat} {t : TT} {ad : Option Addr} {cp : Nat} (h : Five w bl o t ad cp) : bl < w.heap.size := World.block_lt_of_cell? _ _ h.1
theorem Five.later {w w' : World} {bl o : Nat} {t : TT} {ad : Option Addr} {cp : Nat} (h : Five w bl o t ad cp) (hb : Below w.heap.size w w') : Five w' bl o t ad cp := h.keep (fun o => hb.cell (p := ⟨bl, o, none⟩) h.lt)
end Go.Proofs.Ytbcojkadfbpmgaa
