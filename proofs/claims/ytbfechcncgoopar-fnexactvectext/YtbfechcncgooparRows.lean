/-
  No cell of these rows narrows 'for every input' (looked for: loops, veiled, ifaces, maps, wideKeys, modest, calm, conditions, laid).
  DERIVED. THE GIVEN ROWS OF THIS SEAT. 6 by the template 'for every input the law returns true; each argument reads behind the call as it read before'; 0 by the template 'total and deterministic' (their statements: YtbfechcncgooparTotals.lean).
  GIVEN WITH THE SEED: the statements are not yours to turn. If you find one false, say at which input.
  Laid BY PROGRAM, IN A SANDBOX (cutbox-rows.mjs): the forced cells as the released guide's own fill.sh prints them over the translation d25d9a8e011ddee2… (all of the seat's roots in one cut). By AI agents, Wed Nov 11 2026. No macro, syntax, notation, axiom, sorry.
-/
import Derived.Test.YtbfechcncgooparChecked
import GoSem.Claim
import GoSem.ClaimJoined
import GoSem.ClaimMapViews
import Derived.JoinedTies
import Derived.KernelRfl
namespace Go.Proofs.Ytbfechcncgoopar
/- THE CELL 'sum', in the pinned program and in every row, IS THE sha256 OF THE DUMP (.gsa) THAT YtbfechcncgooparProg.lean LOADS. Nothing in Lean hashes anything: it is a label: what it is worth is what the hold of that sum in a sandbox is worth. -/
noncomputable def Try.pinned : Pinned := { name := "ytbfechcncgoopar", sum := "d25d9a8e011ddee2b56a1b19bafa6143ad906266907f426c3d89274f474c422a", checked := Try.checked }
namespace Rows
def none {H : Type} : Left H := { results := [], args := [] }

/-- 'laws.FnExactVecSigned': WHATEVER THE INPUT: true; the input reads as it did. -/
def fnExactVecSignedSpec : ChangeSpec := { name := "fnExactVecSigned", fn := fun _ => fun
  | [d] => { results := [.lit (.bool true)], args := [d] }
  | _ => none }
def fnExactVecSignedRow : OpenClaim := { program := "ytbfechcncgoopar", sum := "d25d9a8e011ddee2b56a1b19bafa6143ad906266907f426c3d89274f474c422a", func := "loop.example/seedlip/laws.FnExactVecSigned", spec := "fnExactVecSigned", apart := false }
def FnExactVecSignedSaid : Prop := fnExactVecSignedRow.holds Try.pinned (OpenSpec.ofChange fnExactVecSignedSpec)

/-- ITS FALSE NEIGHBOUR: 'it returns false'. Refute it at one input. -/
def fnExactVecSignedWrong : ChangeSpec := { name := "fnExactVecSigned", fn := fun _ => fun
  | [d] => { results := [.lit (.bool false)], args := [d] }
  | _ => none }
def FnExactVecSignedWrongFalsely : Prop := fnExactVecSignedRow.holds Try.pinned (OpenSpec.ofChange fnExactVecSignedWrong)

/-- 'laws.FnExactVecUn': WHATEVER THE INPUT: true; the input reads as it did. -/
def fnExactVecUnSpec : ChangeSpec := { name := "fnExactVecUn", fn := fun _ => fun
  | [d1, d2] => { results := [.lit (.bool true)], args := [d1, d2] }
  | _ => none }
def fnExactVecUnRow : OpenClaim := { program := "ytbfechcncgoopar", sum := "d25d9a8e011ddee2b56a1b19bafa6143ad906266907f426c3d89274f474c422a", func := "loop.example/seedlip/laws.FnExactVecUn", spec := "fnExactVecUn", unfollowed := true, recurses := true, apart := false }
def FnExactVecUnSaid : Prop := fnExactVecUnRow.holds Try.pinned (OpenSpec.ofChange fnExactVecUnSpec)

/-- ITS FALSE NEIGHBOUR: 'it returns false'. Refute it at one input. -/
def fnExactVecUnWrong : ChangeSpec := { name := "fnExactVecUn", fn := fun _ => fun
  | [d1, d2] => { results := [.lit (.bool false)], args := [d1, d2] }
  | _ => none }
def FnExactVecUnWrongFalsely : Prop := fnExactVecUnRow.holds Try.pinned (OpenSpec.ofChange fnExactVecUnWrong)

/-- 'laws.FnExactVecBin': WHATEVER THE INPUT: true; the input reads as it did. -/
def fnExactVecBinSpec : ChangeSpec := { name := "fnExactVecBin", fn := fun _ => fun
  | [d1, d2, d3] => { results := [.lit (.bool true)], args := [d1, d2, d3] }
  | _ => none }
def fnExactVecBinRow : OpenClaim := { program := "ytbfechcncgoopar", sum := "d25d9a8e011ddee2b56a1b19bafa6143ad906266907f426c3d89274f474c422a", func := "loop.example/seedlip/laws.FnExactVecBin", spec := "fnExactVecBin", unfollowed := true, recurses := true, apart := false }
def FnExactVecBinSaid : Prop := fnExactVecBinRow.holds Try.pinned (OpenSpec.ofChange fnExactVecBinSpec)

/-- ITS FALSE NEIGHBOUR: 'it returns false'. Refute it at one input. -/
def fnExactVecBinWrong : ChangeSpec := { name := "fnExactVecBin", fn := fun _ => fun
  | [d1, d2, d3] => { results := [.lit (.bool false)], args := [d1, d2, d3] }
  | _ => none }
def FnExactVecBinWrongFalsely : Prop := fnExactVecBinRow.holds Try.pinned (OpenSpec.ofChange fnExactVecBinWrong)

/-- 'laws.FnExactVecCmp': WHATEVER THE INPUT: true; the input reads as it did. -/
def fnExactVecCmpSpec : ChangeSpec := { name := "fnExactVecCmp", fn := fun _ => fun
  | [d1, d2, d3] => { results := [.lit (.bool true)], args := [d1, d2, d3] }
  | _ => none }
def fnExactVecCmpRow : OpenClaim := { program := "ytbfechcncgoopar", sum := "d25d9a8e011ddee2b56a1b19bafa6143ad906266907f426c3d89274f474c422a", func := "loop.example/seedlip/laws.FnExactVecCmp", spec := "fnExactVecCmp", unfollowed := true, recurses := true, apart := false }
def FnExactVecCmpSaid : Prop := fnExactVecCmpRow.holds Try.pinned (OpenSpec.ofChange fnExactVecCmpSpec)

/-- ITS FALSE NEIGHBOUR: 'it returns false'. Refute it at one input. -/
def fnExactVecCmpWrong : ChangeSpec := { name := "fnExactVecCmp", fn := fun _ => fun
  | [d1, d2, d3] => { results := [.lit (.bool false)], args := [d1, d2, d3] }
  | _ => none }
def FnExactVecCmpWrongFalsely : Prop := fnExactVecCmpRow.holds Try.pinned (OpenSpec.ofChange fnExactVecCmpWrong)

/-- 'laws.FnExactVecCut': WHATEVER THE INPUT: true; the input reads as it did. -/
def fnExactVecCutSpec : ChangeSpec := { name := "fnExactVecCut", fn := fun _ => fun
  | [d1, d2, d3] => { results := [.lit (.bool true)], args := [d1, d2, d3] }
  | _ => none }
def fnExactVecCutRow : OpenClaim := { program := "ytbfechcncgoopar", sum := "d25d9a8e011ddee2b56a1b19bafa6143ad906266907f426c3d89274f474c422a", func := "loop.example/seedlip/laws.FnExactVecCut", spec := "fnExactVecCut", apart := false }
def FnExactVecCutSaid : Prop := fnExactVecCutRow.holds Try.pinned (OpenSpec.ofChange fnExactVecCutSpec)

/-- ITS FALSE NEIGHBOUR: 'it returns false'. Refute it at one input. -/
def fnExactVecCutWrong : ChangeSpec := { name := "fnExactVecCut", fn := fun _ => fun
  | [d1, d2, d3] => { results := [.lit (.bool false)], args := [d1, d2, d3] }
  | _ => none }
def FnExactVecCutWrongFalsely : Prop := fnExactVecCutRow.holds Try.pinned (OpenSpec.ofChange fnExactVecCutWrong)

/-- 'laws.FnExactVecText': WHATEVER THE INPUT: true; the input reads as it did. -/
def fnExactVecTextSpec : ChangeSpec := { name := "fnExactVecText", fn := fun _ => fun
  | [d] => { results := [.lit (.bool true)], args := [d] }
  | _ => none }
def fnExactVecTextRow : OpenClaim := { program := "ytbfechcncgoopar", sum := "d25d9a8e011ddee2b56a1b19bafa6143ad906266907f426c3d89274f474c422a", func := "loop.example/seedlip/laws.FnExactVecText", spec := "fnExactVecText", recurses := true, apart := false }
def FnExactVecTextSaid : Prop := fnExactVecTextRow.holds Try.pinned (OpenSpec.ofChange fnExactVecTextSpec)

/-- ITS FALSE NEIGHBOUR: 'it returns false'. Refute it at one input. -/
def fnExactVecTextWrong : ChangeSpec := { name := "fnExactVecText", fn := fun _ => fun
  | [d] => { results := [.lit (.bool false)], args := [d] }
  | _ => none }
def FnExactVecTextWrongFalsely : Prop := fnExactVecTextRow.holds Try.pinned (OpenSpec.ofChange fnExactVecTextWrong)

/- THE SECOND FORM. 'bulk': how many values and letters a reading holds, each counted each time it is reached (what is shared counts as often as it is met; a slice's spare places count too). A statement '..UptoSaid' is the law's where the arguments, and the package variables that the reading takes, are together of bulk at most 1048576: NARROWER than '..Said'. Prove '..Said' where nothing that the law and all that it calls make is longer than what came in: it says more and counts as full. Else prove '..UptoSaid'. A law counts once. -/
mutual
def uptoBulk {H : Type} : DataW H → Nat
  | .lit (.string bytes) => bytes.length + 1
  | .lit _ => 1
  | .nil => 1
  | .ptr d => uptoBulk d + 1
  | .slice elems spare => uptoBulkAll elems + uptoBulkAll spare + 1
  | .agg parts => uptoBulkAll parts + 1
  | .iface _ d => uptoBulk d + 1
  | .map entries => uptoBulkEntries entries + 1
  | .held _ => 1
def uptoBulkAll {H : Type} : List (DataW H) → Nat
  | [] => 0
  | d :: r => uptoBulk d + uptoBulkAll r
def uptoBulkEntries {H : Type} : List (Lit × DataW H) → Nat
  | [] => 0
  | x :: r => uptoBulkEntry x + uptoBulkEntries r
def uptoBulkEntry {H : Type} : Lit × DataW H → Nat
  | (.string bytes, d) => bytes.length + uptoBulk d + 1
  | (_, d) => uptoBulk d + 1
 end
def uptoSmall : (H : Type) → List (DataW H) → Bool := fun _ ds => decide (uptoBulkAll ds ≤ 1048576)
def OpenSpec.upto (s : _root_.Go.ChangeSpec) : _root_.Go.OpenSpec := { _root_.Go.OpenSpec.ofChange s with cond := some uptoSmall }

/-- 'laws.FnExactVecSigned', WHERE WHAT IT READS IS OF BULK AT MOST 1048576: true; the input reads as it did. -/
def fnExactVecSignedUptoRow : OpenClaim := { program := "ytbfechcncgoopar", sum := "d25d9a8e011ddee2b56a1b19bafa6143ad906266907f426c3d89274f474c422a", func := "loop.example/seedlip/laws.FnExactVecSigned", spec := "fnExactVecSigned", apart := false, narrowed := true }
def FnExactVecSignedUptoSaid : Prop := fnExactVecSignedUptoRow.holds Try.pinned (OpenSpec.upto fnExactVecSignedSpec)

/-- 'laws.FnExactVecUn', WHERE WHAT IT READS IS OF BULK AT MOST 1048576: true; the input reads as it did. -/
def fnExactVecUnUptoRow : OpenClaim := { program := "ytbfechcncgoopar", sum := "d25d9a8e011ddee2b56a1b19bafa6143ad906266907f426c3d89274f474c422a", func := "loop.example/seedlip/laws.FnExactVecUn", spec := "fnExactVecUn", unfollowed := true, recurses := true, apart := false, narrowed := true }
def FnExactVecUnUptoSaid : Prop := fnExactVecUnUptoRow.holds Try.pinned (OpenSpec.upto fnExactVecUnSpec)

/-- 'laws.FnExactVecBin', WHERE WHAT IT READS IS OF BULK AT MOST 1048576: true; the input reads as it did. -/
def fnExactVecBinUptoRow : OpenClaim := { program := "ytbfechcncgoopar", sum := "d25d9a8e011ddee2b56a1b19bafa6143ad906266907f426c3d89274f474c422a", func := "loop.example/seedlip/laws.FnExactVecBin", spec := "fnExactVecBin", unfollowed := true, recurses := true, apart := false, narrowed := true }
def FnExactVecBinUptoSaid : Prop := fnExactVecBinUptoRow.holds Try.pinned (OpenSpec.upto fnExactVecBinSpec)

/-- 'laws.FnExactVecCmp', WHERE WHAT IT READS IS OF BULK AT MOST 1048576: true; the input reads as it did. -/
def fnExactVecCmpUptoRow : OpenClaim := { program := "ytbfechcncgoopar", sum := "d25d9a8e011ddee2b56a1b19bafa6143ad906266907f426c3d89274f474c422a", func := "loop.example/seedlip/laws.FnExactVecCmp", spec := "fnExactVecCmp", unfollowed := true, recurses := true, apart := false, narrowed := true }
def FnExactVecCmpUptoSaid : Prop := fnExactVecCmpUptoRow.holds Try.pinned (OpenSpec.upto fnExactVecCmpSpec)

/-- 'laws.FnExactVecCut', WHERE WHAT IT READS IS OF BULK AT MOST 1048576: true; the input reads as it did. -/
def fnExactVecCutUptoRow : OpenClaim := { program := "ytbfechcncgoopar", sum := "d25d9a8e011ddee2b56a1b19bafa6143ad906266907f426c3d89274f474c422a", func := "loop.example/seedlip/laws.FnExactVecCut", spec := "fnExactVecCut", apart := false, narrowed := true }
def FnExactVecCutUptoSaid : Prop := fnExactVecCutUptoRow.holds Try.pinned (OpenSpec.upto fnExactVecCutSpec)

/-- 'laws.FnExactVecText', WHERE WHAT IT READS IS OF BULK AT MOST 1048576: true; the input reads as it did. -/
def fnExactVecTextUptoRow : OpenClaim := { program := "ytbfechcncgoopar", sum := "d25d9a8e011ddee2b56a1b19bafa6143ad906266907f426c3d89274f474c422a", func := "loop.example/seedlip/laws.FnExactVecText", spec := "fnExactVecText", recurses := true, apart := false, narrowed := true }
def FnExactVecTextUptoSaid : Prop := fnExactVecTextUptoRow.holds Try.pinned (OpenSpec.upto fnExactVecTextSpec)

end Rows
end Go.Proofs.Ytbfechcncgoopar
