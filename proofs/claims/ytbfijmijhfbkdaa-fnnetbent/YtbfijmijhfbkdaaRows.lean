/-
  No cell of these rows narrows 'for every input' (looked for: loops, veiled, ifaces, maps, wideKeys, modest, calm, conditions, laid).
  DERIVED. THE GIVEN ROWS OF THIS SEAT. 5 by the template 'for every input the law returns true; each argument reads behind the call as it read before'; 0 by the template 'total and deterministic' (their statements: YtbfijmijhfbkdaaTotals.lean).
  GIVEN WITH THE SEED: the statements are not yours to turn. If you find one false, say at which input.
  Laid BY PROGRAM, IN A SANDBOX (cutbox-rows.mjs): the forced cells as the released guide's own fill.sh prints them over the translation 91cf123074c0f3f7… (all of the seat's roots in one cut). By AI agents, Wed Nov 11 2026. No macro, syntax, notation, axiom, sorry.
-/
import Derived.Test.YtbfijmijhfbkdaaChecked
import GoSem.Claim
import GoSem.ClaimJoined
import GoSem.ClaimMapViews
import Derived.JoinedTies
import Derived.KernelRfl
namespace Go.Proofs.Ytbfijmijhfbkdaa
/- THE CELL 'sum', in the pinned program and in every row, IS THE sha256 OF THE DUMP (.gsa) THAT YtbfijmijhfbkdaaProg.lean LOADS. Nothing in Lean hashes anything: it is a label: what it is worth is what the hold of that sum in a sandbox is worth. -/
noncomputable def Try.pinned : Pinned := { name := "ytbfijmijhfbkdaa", sum := "91cf123074c0f3f70fb04679429bcbe6b37869e46fd4adc8350f3483bdedd35b", checked := Try.checked }
namespace Rows
def none {H : Type} : Left H := { results := [], args := [] }

/-- 'laws.FnNetVals': WHATEVER THE INPUT: true; the input reads as it did. -/
def fnNetValsSpec : ChangeSpec := { name := "fnNetVals", fn := fun _ => fun
  | [d] => { results := [.lit (.bool true)], args := [d] }
  | _ => none }
def fnNetValsRow : OpenClaim := { program := "ytbfijmijhfbkdaa", sum := "91cf123074c0f3f70fb04679429bcbe6b37869e46fd4adc8350f3483bdedd35b", func := "loop.example/seedlip/laws.FnNetVals", spec := "fnNetVals", plainKeys := false, apart := false }
def FnNetValsSaid : Prop := fnNetValsRow.holds Try.pinned (OpenSpec.ofChange fnNetValsSpec)

/-- ITS FALSE NEIGHBOUR: 'it returns false'. Refute it at one input. -/
def fnNetValsWrong : ChangeSpec := { name := "fnNetVals", fn := fun _ => fun
  | [d] => { results := [.lit (.bool false)], args := [d] }
  | _ => none }
def FnNetValsWrongFalsely : Prop := fnNetValsRow.holds Try.pinned (OpenSpec.ofChange fnNetValsWrong)

/-- 'laws.FnNetMore': WHATEVER THE INPUT: true; the input reads as it did. -/
def fnNetMoreSpec : ChangeSpec := { name := "fnNetMore", fn := fun _ => fun
  | [d1, d2] => { results := [.lit (.bool true)], args := [d1, d2] }
  | _ => none }
def fnNetMoreRow : OpenClaim := { program := "ytbfijmijhfbkdaa", sum := "91cf123074c0f3f70fb04679429bcbe6b37869e46fd4adc8350f3483bdedd35b", func := "loop.example/seedlip/laws.FnNetMore", spec := "fnNetMore", plainKeys := false, apart := false }
def FnNetMoreSaid : Prop := fnNetMoreRow.holds Try.pinned (OpenSpec.ofChange fnNetMoreSpec)

/-- ITS FALSE NEIGHBOUR: 'it returns false'. Refute it at one input. -/
def fnNetMoreWrong : ChangeSpec := { name := "fnNetMore", fn := fun _ => fun
  | [d1, d2] => { results := [.lit (.bool false)], args := [d1, d2] }
  | _ => none }
def FnNetMoreWrongFalsely : Prop := fnNetMoreRow.holds Try.pinned (OpenSpec.ofChange fnNetMoreWrong)

/-- 'laws.FnNetAnd': WHATEVER THE INPUT: true; the input reads as it did. -/
def fnNetAndSpec : ChangeSpec := { name := "fnNetAnd", fn := fun _ => fun
  | [d1, d2] => { results := [.lit (.bool true)], args := [d1, d2] }
  | _ => none }
def fnNetAndRow : OpenClaim := { program := "ytbfijmijhfbkdaa", sum := "91cf123074c0f3f70fb04679429bcbe6b37869e46fd4adc8350f3483bdedd35b", func := "loop.example/seedlip/laws.FnNetAnd", spec := "fnNetAnd", plainKeys := false, apart := false }
def FnNetAndSaid : Prop := fnNetAndRow.holds Try.pinned (OpenSpec.ofChange fnNetAndSpec)

/-- ITS FALSE NEIGHBOUR: 'it returns false'. Refute it at one input. -/
def fnNetAndWrong : ChangeSpec := { name := "fnNetAnd", fn := fun _ => fun
  | [d1, d2] => { results := [.lit (.bool false)], args := [d1, d2] }
  | _ => none }
def FnNetAndWrongFalsely : Prop := fnNetAndRow.holds Try.pinned (OpenSpec.ofChange fnNetAndWrong)

/-- 'laws.FnNetXor': WHATEVER THE INPUT: true; the input reads as it did. -/
def fnNetXorSpec : ChangeSpec := { name := "fnNetXor", fn := fun _ => fun
  | [d1, d2] => { results := [.lit (.bool true)], args := [d1, d2] }
  | _ => none }
def fnNetXorRow : OpenClaim := { program := "ytbfijmijhfbkdaa", sum := "91cf123074c0f3f70fb04679429bcbe6b37869e46fd4adc8350f3483bdedd35b", func := "loop.example/seedlip/laws.FnNetXor", spec := "fnNetXor", plainKeys := false, apart := false }
def FnNetXorSaid : Prop := fnNetXorRow.holds Try.pinned (OpenSpec.ofChange fnNetXorSpec)

/-- ITS FALSE NEIGHBOUR: 'it returns false'. Refute it at one input. -/
def fnNetXorWrong : ChangeSpec := { name := "fnNetXor", fn := fun _ => fun
  | [d1, d2] => { results := [.lit (.bool false)], args := [d1, d2] }
  | _ => none }
def FnNetXorWrongFalsely : Prop := fnNetXorRow.holds Try.pinned (OpenSpec.ofChange fnNetXorWrong)

/-- 'laws.FnNetBent': WHATEVER THE INPUT: true; the input reads as it did. -/
def fnNetBentSpec : ChangeSpec := { name := "fnNetBent", fn := fun _ => fun
  | [d] => { results := [.lit (.bool true)], args := [d] }
  | _ => none }
def fnNetBentRow : OpenClaim := { program := "ytbfijmijhfbkdaa", sum := "91cf123074c0f3f70fb04679429bcbe6b37869e46fd4adc8350f3483bdedd35b", func := "loop.example/seedlip/laws.FnNetBent", spec := "fnNetBent", plainKeys := false, apart := false }
def FnNetBentSaid : Prop := fnNetBentRow.holds Try.pinned (OpenSpec.ofChange fnNetBentSpec)

/-- ITS FALSE NEIGHBOUR: 'it returns false'. Refute it at one input. -/
def fnNetBentWrong : ChangeSpec := { name := "fnNetBent", fn := fun _ => fun
  | [d] => { results := [.lit (.bool false)], args := [d] }
  | _ => none }
def FnNetBentWrongFalsely : Prop := fnNetBentRow.holds Try.pinned (OpenSpec.ofChange fnNetBentWrong)

/- THE SECOND FORM. 'bulk': how many values and letters a reading holds, each counted each time it is reached (what is shared counts as often as it is met; a slice's spare places count too). A statement '..UptoSaid' is the law's where the arguments, and the package variables that the reading takes, are together of bulk at most 1048576: NARROWER than '..Said'. Prove '..Said' where nothing that the law and all that it calls make is longer than what came in: it says more and counts as full. Else prove '..UptoSaid'. A law counts once. -/
mutual
def uptoBulk {H : Type} : DataW H → Nat
  | .lit (.string bytes) => bytes.length + 1
  | .lit _ => 1
  | .nil => 1
  | .ptr d => uptoBulk d + 1
  | .slice elems spare => uptoBulkAll elems + uptoBulkAll spare + 1
  | .agg parts => uptoBulkAll parts + 1
  | .iface _ d => uptoBulk d + 1
  | .map entries => uptoBulkEntries entries + 1
  | .held _ => 1
def uptoBulkAll {H : Type} : List (DataW H) → Nat
  | [] => 0
  | d :: r => uptoBulk d + uptoBulkAll r
def uptoBulkEntries {H : Type} : List (Lit × DataW H) → Nat
  | [] => 0
  | x :: r => uptoBulkEntry x + uptoBulkEntries r
def uptoBulkEntry {H : Type} : Lit × DataW H → Nat
  | (.string bytes, d) => bytes.length + uptoBulk d + 1
  | (_, d) => uptoBulk d + 1
 end
def uptoSmall : (H : Type) → List (DataW H) → Bool := fun _ ds => decide (uptoBulkAll ds ≤ 1048576)
def OpenSpec.upto (s : _root_.Go.ChangeSpec) : _root_.Go.OpenSpec := { _root_.Go.OpenSpec.ofChange s with cond := some uptoSmall }

/-- 'laws.FnNetVals', WHERE WHAT IT READS IS OF BULK AT MOST 1048576: true; the input reads as it did. -/
def fnNetValsUptoRow : OpenClaim := { program := "ytbfijmijhfbkdaa", sum := "91cf123074c0f3f70fb04679429bcbe6b37869e46fd4adc8350f3483bdedd35b", func := "loop.example/seedlip/laws.FnNetVals", spec := "fnNetVals", plainKeys := false, apart := false, narrowed := true }
def FnNetValsUptoSaid : Prop := fnNetValsUptoRow.holds Try.pinned (OpenSpec.upto fnNetValsSpec)

/-- 'laws.FnNetMore', WHERE WHAT IT READS IS OF BULK AT MOST 1048576: true; the input reads as it did. -/
def fnNetMoreUptoRow : OpenClaim := { program := "ytbfijmijhfbkdaa", sum := "91cf123074c0f3f70fb04679429bcbe6b37869e46fd4adc8350f3483bdedd35b", func := "loop.example/seedlip/laws.FnNetMore", spec := "fnNetMore", plainKeys := false, apart := false, narrowed := true }
def FnNetMoreUptoSaid : Prop := fnNetMoreUptoRow.holds Try.pinned (OpenSpec.upto fnNetMoreSpec)

/-- 'laws.FnNetAnd', WHERE WHAT IT READS IS OF BULK AT MOST 1048576: true; the input reads as it did. -/
def fnNetAndUptoRow : OpenClaim := { program := "ytbfijmijhfbkdaa", sum := "91cf123074c0f3f70fb04679429bcbe6b37869e46fd4adc8350f3483bdedd35b", func := "loop.example/seedlip/laws.FnNetAnd", spec := "fnNetAnd", plainKeys := false, apart := false, narrowed := true }
def FnNetAndUptoSaid : Prop := fnNetAndUptoRow.holds Try.pinned (OpenSpec.upto fnNetAndSpec)

/-- 'laws.FnNetXor', WHERE WHAT IT READS IS OF BULK AT MOST 1048576: true; the input reads as it did. -/
def fnNetXorUptoRow : OpenClaim := { program := "ytbfijmijhfbkdaa", sum := "91cf123074c0f3f70fb04679429bcbe6b37869e46fd4adc8350f3483bdedd35b", func := "loop.example/seedlip/laws.FnNetXor", spec := "fnNetXor", plainKeys := false, apart := false, narrowed := true }
def FnNetXorUptoSaid : Prop := fnNetXorUptoRow.holds Try.pinned (OpenSpec.upto fnNetXorSpec)

/-- 'laws.FnNetBent', WHERE WHAT IT READS IS OF BULK AT MOST 1048576: true; the input reads as it did. -/
def fnNetBentUptoRow : OpenClaim := { program := "ytbfijmijhfbkdaa", sum := "91cf123074c0f3f70fb04679429bcbe6b37869e46fd4adc8350f3483bdedd35b", func := "loop.example/seedlip/laws.FnNetBent", spec := "fnNetBent", plainKeys := false, apart := false, narrowed := true }
def FnNetBentUptoSaid : Prop := fnNetBentUptoRow.holds Try.pinned (OpenSpec.upto fnNetBentSpec)

end Rows
end Go.Proofs.Ytbfijmijhfbkdaa
