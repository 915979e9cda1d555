/-
  No cell of these rows narrows 'for every input' (looked for: loops, veiled, ifaces, maps, wideKeys, modest, calm, conditions, laid).
  DERIVED. THE GIVEN ROWS OF THIS SEAT. 6 by the template 'for every input the law returns true; each argument reads behind the call as it read before'; 0 by the template 'total and deterministic' (their statements: YtbfechcncgoopaaTotals.lean).
  GIVEN WITH THE SEED: the statements are not yours to turn. If you find one false, say at which input.
  Laid BY PROGRAM, IN A SANDBOX (cutbox-rows.mjs): the forced cells as the released guide's own fill.sh prints them over the translation 068bedb03bddbfc2… (all of the seat's roots in one cut). By AI agents, Wed Nov 11 2026. No macro, syntax, notation, axiom, sorry.
-/
import Derived.Test.YtbfechcncgoopaaChecked
import GoSem.Claim
import GoSem.ClaimJoined
import GoSem.ClaimMapViews
import Derived.JoinedTies
import Derived.KernelRfl
namespace Go.Proofs.Ytbfechcncgoopaa
/- THE CELL 'sum', in the pinned program and in every row, IS THE sha256 OF THE DUMP (.gsa) THAT YtbfechcncgoopaaProg.lean LOADS. Nothing in Lean hashes anything: it is a label: what it is worth is what the hold of that sum in a sandbox is worth. -/
noncomputable def Try.pinned : Pinned := { name := "ytbfechcncgoopaa", sum := "068bedb03bddbfc2f3cc02fc98a05d83962ed290c7638c5afac800678de9efe1", checked := Try.checked }
namespace Rows
def none {H : Type} : Left H := { results := [], args := [] }

/-- 'laws.FnVec': WHATEVER THE INPUT: true; the input reads as it did. -/
def fnVecSpec : ChangeSpec := { name := "fnVec", fn := fun _ => fun
  | [d1, d2] => { results := [.lit (.bool true)], args := [d1, d2] }
  | _ => none }
def fnVecRow : OpenClaim := { program := "ytbfechcncgoopaa", sum := "068bedb03bddbfc2f3cc02fc98a05d83962ed290c7638c5afac800678de9efe1", func := "loop.example/seedlip/laws.FnVec", spec := "fnVec", recurses := true, apart := false }
def FnVecSaid : Prop := fnVecRow.holds Try.pinned (OpenSpec.ofChange fnVecSpec)

/-- ITS FALSE NEIGHBOUR: 'it returns false'. Refute it at one input. -/
def fnVecWrong : ChangeSpec := { name := "fnVec", fn := fun _ => fun
  | [d1, d2] => { results := [.lit (.bool false)], args := [d1, d2] }
  | _ => none }
def FnVecWrongFalsely : Prop := fnVecRow.holds Try.pinned (OpenSpec.ofChange fnVecWrong)

/-- 'laws.FnVecUn': WHATEVER THE INPUT: true; the input reads as it did. -/
def fnVecUnSpec : ChangeSpec := { name := "fnVecUn", fn := fun _ => fun
  | [d] => { results := [.lit (.bool true)], args := [d] }
  | _ => none }
def fnVecUnRow : OpenClaim := { program := "ytbfechcncgoopaa", sum := "068bedb03bddbfc2f3cc02fc98a05d83962ed290c7638c5afac800678de9efe1", func := "loop.example/seedlip/laws.FnVecUn", spec := "fnVecUn", unfollowed := true, recurses := true, apart := false }
def FnVecUnSaid : Prop := fnVecUnRow.holds Try.pinned (OpenSpec.ofChange fnVecUnSpec)

/-- ITS FALSE NEIGHBOUR: 'it returns false'. Refute it at one input. -/
def fnVecUnWrong : ChangeSpec := { name := "fnVecUn", fn := fun _ => fun
  | [d] => { results := [.lit (.bool false)], args := [d] }
  | _ => none }
def FnVecUnWrongFalsely : Prop := fnVecUnRow.holds Try.pinned (OpenSpec.ofChange fnVecUnWrong)

/-- 'laws.FnVecRing': WHATEVER THE INPUT: true; the input reads as it did. -/
def fnVecRingSpec : ChangeSpec := { name := "fnVecRing", fn := fun _ => fun
  | [d1, d2] => { results := [.lit (.bool true)], args := [d1, d2] }
  | _ => none }
def fnVecRingRow : OpenClaim := { program := "ytbfechcncgoopaa", sum := "068bedb03bddbfc2f3cc02fc98a05d83962ed290c7638c5afac800678de9efe1", func := "loop.example/seedlip/laws.FnVecRing", spec := "fnVecRing", unfollowed := true, recurses := true, apart := false }
def FnVecRingSaid : Prop := fnVecRingRow.holds Try.pinned (OpenSpec.ofChange fnVecRingSpec)

/-- ITS FALSE NEIGHBOUR: 'it returns false'. Refute it at one input. -/
def fnVecRingWrong : ChangeSpec := { name := "fnVecRing", fn := fun _ => fun
  | [d1, d2] => { results := [.lit (.bool false)], args := [d1, d2] }
  | _ => none }
def FnVecRingWrongFalsely : Prop := fnVecRingRow.holds Try.pinned (OpenSpec.ofChange fnVecRingWrong)

/-- 'laws.FnVecBits': WHATEVER THE INPUT: true; the input reads as it did. -/
def fnVecBitsSpec : ChangeSpec := { name := "fnVecBits", fn := fun _ => fun
  | [d] => { results := [.lit (.bool true)], args := [d] }
  | _ => none }
def fnVecBitsRow : OpenClaim := { program := "ytbfechcncgoopaa", sum := "068bedb03bddbfc2f3cc02fc98a05d83962ed290c7638c5afac800678de9efe1", func := "loop.example/seedlip/laws.FnVecBits", spec := "fnVecBits", unfollowed := true, recurses := true, apart := false }
def FnVecBitsSaid : Prop := fnVecBitsRow.holds Try.pinned (OpenSpec.ofChange fnVecBitsSpec)

/-- ITS FALSE NEIGHBOUR: 'it returns false'. Refute it at one input. -/
def fnVecBitsWrong : ChangeSpec := { name := "fnVecBits", fn := fun _ => fun
  | [d] => { results := [.lit (.bool false)], args := [d] }
  | _ => none }
def FnVecBitsWrongFalsely : Prop := fnVecBitsRow.holds Try.pinned (OpenSpec.ofChange fnVecBitsWrong)

/-- 'laws.FnVecDiv': WHATEVER THE INPUT: true; the input reads as it did. -/
def fnVecDivSpec : ChangeSpec := { name := "fnVecDiv", fn := fun _ => fun
  | [d] => { results := [.lit (.bool true)], args := [d] }
  | _ => none }
def fnVecDivRow : OpenClaim := { program := "ytbfechcncgoopaa", sum := "068bedb03bddbfc2f3cc02fc98a05d83962ed290c7638c5afac800678de9efe1", func := "loop.example/seedlip/laws.FnVecDiv", spec := "fnVecDiv", unfollowed := true, recurses := true, apart := false }
def FnVecDivSaid : Prop := fnVecDivRow.holds Try.pinned (OpenSpec.ofChange fnVecDivSpec)

/-- ITS FALSE NEIGHBOUR: 'it returns false'. Refute it at one input. -/
def fnVecDivWrong : ChangeSpec := { name := "fnVecDiv", fn := fun _ => fun
  | [d] => { results := [.lit (.bool false)], args := [d] }
  | _ => none }
def FnVecDivWrongFalsely : Prop := fnVecDivRow.holds Try.pinned (OpenSpec.ofChange fnVecDivWrong)

/-- 'laws.FnVecShift': WHATEVER THE INPUT: true; the input reads as it did. -/
def fnVecShiftSpec : ChangeSpec := { name := "fnVecShift", fn := fun _ => fun
  | [d] => { results := [.lit (.bool true)], args := [d] }
  | _ => none }
def fnVecShiftRow : OpenClaim := { program := "ytbfechcncgoopaa", sum := "068bedb03bddbfc2f3cc02fc98a05d83962ed290c7638c5afac800678de9efe1", func := "loop.example/seedlip/laws.FnVecShift", spec := "fnVecShift", unfollowed := true, recurses := true, apart := false }
def FnVecShiftSaid : Prop := fnVecShiftRow.holds Try.pinned (OpenSpec.ofChange fnVecShiftSpec)

/-- ITS FALSE NEIGHBOUR: 'it returns false'. Refute it at one input. -/
def fnVecShiftWrong : ChangeSpec := { name := "fnVecShift", fn := fun _ => fun
  | [d] => { results := [.lit (.bool false)], args := [d] }
  | _ => none }
def FnVecShiftWrongFalsely : Prop := fnVecShiftRow.holds Try.pinned (OpenSpec.ofChange fnVecShiftWrong)

/- THE SECOND FORM. 'bulk': how many values and letters a reading holds, each counted each time it is reached (what is shared counts as often as it is met; a slice's spare places count too). A statement '..UptoSaid' is the law's where the arguments, and the package variables that the reading takes, are together of bulk at most 1048576: NARROWER than '..Said'. Prove '..Said' where nothing that the law and all that it calls make is longer than what came in: it says more and counts as full. Else prove '..UptoSaid'. A law counts once. -/
mutual
def uptoBulk {H : Type} : DataW H → Nat
  | .lit (.string bytes) => bytes.length + 1
  | .lit _ => 1
  | .nil => 1
  | .ptr d => uptoBulk d + 1
  | .slice elems spare => uptoBulkAll elems + uptoBulkAll spare + 1
  | .agg parts => uptoBulkAll parts + 1
  | .iface _ d => uptoBulk d + 1
  | .map entries => uptoBulkEntries entries + 1
  | .held _ => 1
def uptoBulkAll {H : Type} : List (DataW H) → Nat
  | [] => 0
  | d :: r => uptoBulk d + uptoBulkAll r
def uptoBulkEntries {H : Type} : List (Lit × DataW H) → Nat
  | [] => 0
  | x :: r => uptoBulkEntry x + uptoBulkEntries r
def uptoBulkEntry {H : Type} : Lit × DataW H → Nat
  | (.string bytes, d) => bytes.length + uptoBulk d + 1
  | (_, d) => uptoBulk d + 1
 end
def uptoSmall : (H : Type) → List (DataW H) → Bool := fun _ ds => decide (uptoBulkAll ds ≤ 1048576)
def OpenSpec.upto (s : _root_.Go.ChangeSpec) : _root_.Go.OpenSpec := { _root_.Go.OpenSpec.ofChange s with cond := some uptoSmall }

/-- 'laws.FnVec', WHERE WHAT IT READS IS OF BULK AT MOST 1048576: true; the input reads as it did. -/
def fnVecUptoRow : OpenClaim := { program := "ytbfechcncgoopaa", sum := "068bedb03bddbfc2f3cc02fc98a05d83962ed290c7638c5afac800678de9efe1", func := "loop.example/seedlip/laws.FnVec", spec := "fnVec", recurses := true, apart := false, narrowed := true }
def FnVecUptoSaid : Prop := fnVecUptoRow.holds Try.pinned (OpenSpec.upto fnVecSpec)

/-- 'laws.FnVecUn', WHERE WHAT IT READS IS OF BULK AT MOST 1048576: true; the input reads as it did. -/
def fnVecUnUptoRow : OpenClaim := { program := "ytbfechcncgoopaa", sum := "068bedb03bddbfc2f3cc02fc98a05d83962ed290c7638c5afac800678de9efe1", func := "loop.example/seedlip/laws.FnVecUn", spec := "fnVecUn", unfollowed := true, recurses := true, apart := false, narrowed := true }
def FnVecUnUptoSaid : Prop := fnVecUnUptoRow.holds Try.pinned (OpenSpec.upto fnVecUnSpec)

/-- 'laws.FnVecRing', WHERE WHAT IT READS IS OF BULK AT MOST 1048576: true; the input reads as it did. -/
def fnVecRingUptoRow : OpenClaim := { program := "ytbfechcncgoopaa", sum := "068bedb03bddbfc2f3cc02fc98a05d83962ed290c7638c5afac800678de9efe1", func := "loop.example/seedlip/laws.FnVecRing", spec := "fnVecRing", unfollowed := true, recurses := true, apart := false, narrowed := true }
def FnVecRingUptoSaid : Prop := fnVecRingUptoRow.holds Try.pinned (OpenSpec.upto fnVecRingSpec)

/-- 'laws.FnVecBits', WHERE WHAT IT READS IS OF BULK AT MOST 1048576: true; the input reads as it did. -/
def fnVecBitsUptoRow : OpenClaim := { program := "ytbfechcncgoopaa", sum := "068bedb03bddbfc2f3cc02fc98a05d83962ed290c7638c5afac800678de9efe1", func := "loop.example/seedlip/laws.FnVecBits", spec := "fnVecBits", unfollowed := true, recurses := true, apart := false, narrowed := true }
def FnVecBitsUptoSaid : Prop := fnVecBitsUptoRow.holds Try.pinned (OpenSpec.upto fnVecBitsSpec)

/-- 'laws.FnVecDiv', WHERE WHAT IT READS IS OF BULK AT MOST 1048576: true; the input reads as it did. -/
def fnVecDivUptoRow : OpenClaim := { program := "ytbfechcncgoopaa", sum := "068bedb03bddbfc2f3cc02fc98a05d83962ed290c7638c5afac800678de9efe1", func := "loop.example/seedlip/laws.FnVecDiv", spec := "fnVecDiv", unfollowed := true, recurses := true, apart := false, narrowed := true }
def FnVecDivUptoSaid : Prop := fnVecDivUptoRow.holds Try.pinned (OpenSpec.upto fnVecDivSpec)

/-- 'laws.FnVecShift', WHERE WHAT IT READS IS OF BULK AT MOST 1048576: true; the input reads as it did. -/
def fnVecShiftUptoRow : OpenClaim := { program := "ytbfechcncgoopaa", sum := "068bedb03bddbfc2f3cc02fc98a05d83962ed290c7638c5afac800678de9efe1", func := "loop.example/seedlip/laws.FnVecShift", spec := "fnVecShift", unfollowed := true, recurses := true, apart := false, narrowed := true }
def FnVecShiftUptoSaid : Prop := fnVecShiftUptoRow.holds Try.pinned (OpenSpec.upto fnVecShiftSpec)

end Rows
end Go.Proofs.Ytbfechcncgoopaa
