/-
  No cell of these rows narrows 'for every input' (looked for: loops, veiled, ifaces, maps, wideKeys, modest, calm, conditions, laid).
  DERIVED. THE GIVEN ROWS OF THIS SEAT. 4 by the template 'for every input the law returns true; each argument reads behind the call as it read before'; 0 by the template 'total and deterministic' (their statements: YtpabepcgfhgmiaaTotals.lean).
  GIVEN WITH THE SEED: the statements are not yours to turn. If you find one false, say at which input.
  Laid BY PROGRAM, IN A SANDBOX (cutbox-rows.mjs): the forced cells as the released guide's own fill.sh prints them over the translation 2246374dc686116c… (all of the seat's roots in one cut). By AI agents, Wed Nov 11 2026. No macro, syntax, notation, axiom, sorry.
-/
import Derived.Test.YtpabepcgfhgmiaaChecked
import GoSem.Claim
import GoSem.ClaimJoined
import GoSem.ClaimMapViews
import Derived.JoinedTies
import Derived.KernelRfl
namespace Go.Proofs.Ytpabepcgfhgmiaa
/- THE CELL 'sum', in the pinned program and in every row, IS THE sha256 OF THE DUMP (.gsa) THAT YtpabepcgfhgmiaaProg.lean LOADS. Nothing in Lean hashes anything: it is a label: what it is worth is what the hold of that sum in a sandbox is worth. -/
noncomputable def Try.pinned : Pinned := { name := "ytpabepcgfhgmiaa", sum := "2246374dc686116c0875d8943a7ddbd6c366318178b1818eb0cbe1587ea827de", checked := Try.checked }
namespace Rows
def none {H : Type} : Left H := { results := [], args := [] }

/-- 'laws.FnExactNetOk': WHATEVER THE INPUT: true; the input reads as it did. -/
def fnExactNetOkSpec : ChangeSpec := { name := "fnExactNetOk", fn := fun _ => fun
  | [d] => { results := [.lit (.bool true)], args := [d] }
  | _ => none }
def fnExactNetOkRow : OpenClaim := { program := "ytpabepcgfhgmiaa", sum := "2246374dc686116c0875d8943a7ddbd6c366318178b1818eb0cbe1587ea827de", func := "loop.example/seedlip/laws.FnExactNetOk", spec := "fnExactNetOk", plainKeys := false, apart := false }
def FnExactNetOkSaid : Prop := fnExactNetOkRow.holds Try.pinned (OpenSpec.ofChange fnExactNetOkSpec)

/-- ITS FALSE NEIGHBOUR: 'it returns false'. Refute it at one input. -/
def fnExactNetOkWrong : ChangeSpec := { name := "fnExactNetOk", fn := fun _ => fun
  | [d] => { results := [.lit (.bool false)], args := [d] }
  | _ => none }
def FnExactNetOkWrongFalsely : Prop := fnExactNetOkRow.holds Try.pinned (OpenSpec.ofChange fnExactNetOkWrong)

/-- 'laws.FnExactNetSame': WHATEVER THE INPUT: true; the input reads as it did. -/
def fnExactNetSameSpec : ChangeSpec := { name := "fnExactNetSame", fn := fun _ => fun
  | [d1, d2] => { results := [.lit (.bool true)], args := [d1, d2] }
  | _ => none }
def fnExactNetSameRow : OpenClaim := { program := "ytpabepcgfhgmiaa", sum := "2246374dc686116c0875d8943a7ddbd6c366318178b1818eb0cbe1587ea827de", func := "loop.example/seedlip/laws.FnExactNetSame", spec := "fnExactNetSame", plainKeys := false, apart := false }
def FnExactNetSameSaid : Prop := fnExactNetSameRow.holds Try.pinned (OpenSpec.ofChange fnExactNetSameSpec)

/-- ITS FALSE NEIGHBOUR: 'it returns false'. Refute it at one input. -/
def fnExactNetSameWrong : ChangeSpec := { name := "fnExactNetSame", fn := fun _ => fun
  | [d1, d2] => { results := [.lit (.bool false)], args := [d1, d2] }
  | _ => none }
def FnExactNetSameWrongFalsely : Prop := fnExactNetSameRow.holds Try.pinned (OpenSpec.ofChange fnExactNetSameWrong)

/-- 'laws.FnExactNetVals': WHATEVER THE INPUT: true; the input reads as it did. -/
def fnExactNetValsSpec : ChangeSpec := { name := "fnExactNetVals", fn := fun _ => fun
  | [d1, d2] => { results := [.lit (.bool true)], args := [d1, d2] }
  | _ => none }
def fnExactNetValsRow : OpenClaim := { program := "ytpabepcgfhgmiaa", sum := "2246374dc686116c0875d8943a7ddbd6c366318178b1818eb0cbe1587ea827de", func := "loop.example/seedlip/laws.FnExactNetVals", spec := "fnExactNetVals", plainKeys := false, apart := false }
def FnExactNetValsSaid : Prop := fnExactNetValsRow.holds Try.pinned (OpenSpec.ofChange fnExactNetValsSpec)

/-- ITS FALSE NEIGHBOUR: 'it returns false'. Refute it at one input. -/
def fnExactNetValsWrong : ChangeSpec := { name := "fnExactNetVals", fn := fun _ => fun
  | [d1, d2] => { results := [.lit (.bool false)], args := [d1, d2] }
  | _ => none }
def FnExactNetValsWrongFalsely : Prop := fnExactNetValsRow.holds Try.pinned (OpenSpec.ofChange fnExactNetValsWrong)

/-- 'laws.FnExactNetLit': WHATEVER THE INPUT: true; the input reads as it did. -/
def fnExactNetLitSpec : ChangeSpec := { name := "fnExactNetLit", fn := fun _ => fun
  | [d1, d2] => { results := [.lit (.bool true)], args := [d1, d2] }
  | _ => none }
def fnExactNetLitRow : OpenClaim := { program := "ytpabepcgfhgmiaa", sum := "2246374dc686116c0875d8943a7ddbd6c366318178b1818eb0cbe1587ea827de", func := "loop.example/seedlip/laws.FnExactNetLit", spec := "fnExactNetLit", plainKeys := false, apart := false }
def FnExactNetLitSaid : Prop := fnExactNetLitRow.holds Try.pinned (OpenSpec.ofChange fnExactNetLitSpec)

/-- ITS FALSE NEIGHBOUR: 'it returns false'. Refute it at one input. -/
def fnExactNetLitWrong : ChangeSpec := { name := "fnExactNetLit", fn := fun _ => fun
  | [d1, d2] => { results := [.lit (.bool false)], args := [d1, d2] }
  | _ => none }
def FnExactNetLitWrongFalsely : Prop := fnExactNetLitRow.holds Try.pinned (OpenSpec.ofChange fnExactNetLitWrong)

/- THE SECOND FORM. 'bulk': how many values and letters a reading holds, each counted each time it is reached (what is shared counts as often as it is met; a slice's spare places count too). A statement '..UptoSaid' is the law's where the arguments, and the package variables that the reading takes, are together of bulk at most 1048576: NARROWER than '..Said'. Prove '..Said' where nothing that the law and all that it calls make is longer than what came in: it says more and counts as full. Else prove '..UptoSaid'. A law counts once. -/
mutual
def uptoBulk {H : Type} : DataW H → Nat
  | .lit (.string bytes) => bytes.length + 1
  | .lit _ => 1
  | .nil => 1
  | .ptr d => uptoBulk d + 1
  | .slice elems spare => uptoBulkAll elems + uptoBulkAll spare + 1
  | .agg parts => uptoBulkAll parts + 1
  | .iface _ d => uptoBulk d + 1
  | .map entries => uptoBulkEntries entries + 1
  | .held _ => 1
def uptoBulkAll {H : Type} : List (DataW H) → Nat
  | [] => 0
  | d :: r => uptoBulk d + uptoBulkAll r
def uptoBulkEntries {H : Type} : List (Lit × DataW H) → Nat
  | [] => 0
  | x :: r => uptoBulkEntry x + uptoBulkEntries r
def uptoBulkEntry {H : Type} : Lit × DataW H → Nat
  | (.string bytes, d) => bytes.length + uptoBulk d + 1
  | (_, d) => uptoBulk d + 1
 end
def uptoSmall : (H : Type) → List (DataW H) → Bool := fun _ ds => decide (uptoBulkAll ds ≤ 1048576)
def OpenSpec.upto (s : _root_.Go.ChangeSpec) : _root_.Go.OpenSpec := { _root_.Go.OpenSpec.ofChange s with cond := some uptoSmall }

/-- 'laws.FnExactNetOk', WHERE WHAT IT READS IS OF BULK AT MOST 1048576: true; the input reads as it did. -/
def fnExactNetOkUptoRow : OpenClaim := { program := "ytpabepcgfhgmiaa", sum := "2246374dc686116c0875d8943a7ddbd6c366318178b1818eb0cbe1587ea827de", func := "loop.example/seedlip/laws.FnExactNetOk", spec := "fnExactNetOk", plainKeys := false, apart := false, narrowed := true }
def FnExactNetOkUptoSaid : Prop := fnExactNetOkUptoRow.holds Try.pinned (OpenSpec.upto fnExactNetOkSpec)

/-- 'laws.FnExactNetSame', WHERE WHAT IT READS IS OF BULK AT MOST 1048576: true; the input reads as it did. -/
def fnExactNetSameUptoRow : OpenClaim := { program := "ytpabepcgfhgmiaa", sum := "2246374dc686116c0875d8943a7ddbd6c366318178b1818eb0cbe1587ea827de", func := "loop.example/seedlip/laws.FnExactNetSame", spec := "fnExactNetSame", plainKeys := false, apart := false, narrowed := true }
def FnExactNetSameUptoSaid : Prop := fnExactNetSameUptoRow.holds Try.pinned (OpenSpec.upto fnExactNetSameSpec)

/-- 'laws.FnExactNetVals', WHERE WHAT IT READS IS OF BULK AT MOST 1048576: true; the input reads as it did. -/
def fnExactNetValsUptoRow : OpenClaim := { program := "ytpabepcgfhgmiaa", sum := "2246374dc686116c0875d8943a7ddbd6c366318178b1818eb0cbe1587ea827de", func := "loop.example/seedlip/laws.FnExactNetVals", spec := "fnExactNetVals", plainKeys := false, apart := false, narrowed := true }
def FnExactNetValsUptoSaid : Prop := fnExactNetValsUptoRow.holds Try.pinned (OpenSpec.upto fnExactNetValsSpec)

/-- 'laws.FnExactNetLit', WHERE WHAT IT READS IS OF BULK AT MOST 1048576: true; the input reads as it did. -/
def fnExactNetLitUptoRow : OpenClaim := { program := "ytpabepcgfhgmiaa", sum := "2246374dc686116c0875d8943a7ddbd6c366318178b1818eb0cbe1587ea827de", func := "loop.example/seedlip/laws.FnExactNetLit", spec := "fnExactNetLit", plainKeys := false, apart := false, narrowed := true }
def FnExactNetLitUptoSaid : Prop := fnExactNetLitUptoRow.holds Try.pinned (OpenSpec.upto fnExactNetLitSpec)

end Rows
end Go.Proofs.Ytpabepcgfhgmiaa
