/-
  No cell of these rows narrows 'for every input' (looked for: loops, veiled, ifaces, maps, wideKeys, modest, calm, conditions, laid).
  DERIVED. THE GIVEN ROWS OF THIS SEAT. 3 by the template 'for every input the law returns true; each argument reads behind the call as it read before'; 0 by the template 'total and deterministic' (their statements: YtbfechcncgoopabTotals.lean).
  GIVEN WITH THE SEED: the statements are not yours to turn. If you find one false, say at which input.
  Laid BY PROGRAM, IN A SANDBOX (cutbox-rows.mjs): the forced cells as the released guide's own fill.sh prints them over the translation 76a62048fc857e4d… (all of the seat's roots in one cut). By AI agents, Wed Nov 11 2026. No macro, syntax, notation, axiom, sorry.
-/
import Derived.Test.YtbfechcncgoopabChecked
import GoSem.Claim
import GoSem.ClaimJoined
import GoSem.ClaimMapViews
import Derived.JoinedTies
import Derived.KernelRfl
namespace Go.Proofs.Ytbfechcncgoopab
/- THE CELL 'sum', in the pinned program and in every row, IS THE sha256 OF THE DUMP (.gsa) THAT YtbfechcncgoopabProg.lean LOADS. Nothing in Lean hashes anything: it is a label: what it is worth is what the hold of that sum in a sandbox is worth. -/
noncomputable def Try.pinned : Pinned := { name := "ytbfechcncgoopab", sum := "76a62048fc857e4d96f06b20b35fb1b6c8ec6c8cec2494c8a29ecef20d73ed59", checked := Try.checked }
namespace Rows
def none {H : Type} : Left H := { results := [], args := [] }

/-- 'laws.FnVecCut': WHATEVER THE INPUT: true; the input reads as it did. -/
def fnVecCutSpec : ChangeSpec := { name := "fnVecCut", fn := fun _ => fun
  | [d] => { results := [.lit (.bool true)], args := [d] }
  | _ => none }
def fnVecCutRow : OpenClaim := { program := "ytbfechcncgoopab", sum := "76a62048fc857e4d96f06b20b35fb1b6c8ec6c8cec2494c8a29ecef20d73ed59", func := "loop.example/seedlip/laws.FnVecCut", spec := "fnVecCut", unfollowed := true, recurses := true, apart := false }
def FnVecCutSaid : Prop := fnVecCutRow.holds Try.pinned (OpenSpec.ofChange fnVecCutSpec)

/-- ITS FALSE NEIGHBOUR: 'it returns false'. Refute it at one input. -/
def fnVecCutWrong : ChangeSpec := { name := "fnVecCut", fn := fun _ => fun
  | [d] => { results := [.lit (.bool false)], args := [d] }
  | _ => none }
def FnVecCutWrongFalsely : Prop := fnVecCutRow.holds Try.pinned (OpenSpec.ofChange fnVecCutWrong)

/-- 'laws.FnVecCmp': WHATEVER THE INPUT: true; the input reads as it did. -/
def fnVecCmpSpec : ChangeSpec := { name := "fnVecCmp", fn := fun _ => fun
  | [d] => { results := [.lit (.bool true)], args := [d] }
  | _ => none }
def fnVecCmpRow : OpenClaim := { program := "ytbfechcncgoopab", sum := "76a62048fc857e4d96f06b20b35fb1b6c8ec6c8cec2494c8a29ecef20d73ed59", func := "loop.example/seedlip/laws.FnVecCmp", spec := "fnVecCmp", unfollowed := true, recurses := true, apart := false }
def FnVecCmpSaid : Prop := fnVecCmpRow.holds Try.pinned (OpenSpec.ofChange fnVecCmpSpec)

/-- ITS FALSE NEIGHBOUR: 'it returns false'. Refute it at one input. -/
def fnVecCmpWrong : ChangeSpec := { name := "fnVecCmp", fn := fun _ => fun
  | [d] => { results := [.lit (.bool false)], args := [d] }
  | _ => none }
def FnVecCmpWrongFalsely : Prop := fnVecCmpRow.holds Try.pinned (OpenSpec.ofChange fnVecCmpWrong)

/-- 'laws.FnVecCat': WHATEVER THE INPUT: true; the input reads as it did. -/
def fnVecCatSpec : ChangeSpec := { name := "fnVecCat", fn := fun _ => fun
  | [d1, d2] => { results := [.lit (.bool true)], args := [d1, d2] }
  | _ => none }
def fnVecCatRow : OpenClaim := { program := "ytbfechcncgoopab", sum := "76a62048fc857e4d96f06b20b35fb1b6c8ec6c8cec2494c8a29ecef20d73ed59", func := "loop.example/seedlip/laws.FnVecCat", spec := "fnVecCat", unfollowed := true, recurses := true, apart := false }
def FnVecCatSaid : Prop := fnVecCatRow.holds Try.pinned (OpenSpec.ofChange fnVecCatSpec)

/-- ITS FALSE NEIGHBOUR: 'it returns false'. Refute it at one input. -/
def fnVecCatWrong : ChangeSpec := { name := "fnVecCat", fn := fun _ => fun
  | [d1, d2] => { results := [.lit (.bool false)], args := [d1, d2] }
  | _ => none }
def FnVecCatWrongFalsely : Prop := fnVecCatRow.holds Try.pinned (OpenSpec.ofChange fnVecCatWrong)

/- THE SECOND FORM. 'bulk': how many values and letters a reading holds, each counted each time it is reached (what is shared counts as often as it is met; a slice's spare places count too). A statement '..UptoSaid' is the law's where the arguments, and the package variables that the reading takes, are together of bulk at most 1048576: NARROWER than '..Said'. Prove '..Said' where nothing that the law and all that it calls make is longer than what came in: it says more and counts as full. Else prove '..UptoSaid'. A law counts once. -/
mutual
def uptoBulk {H : Type} : DataW H → Nat
  | .lit (.string bytes) => bytes.length + 1
  | .lit _ => 1
  | .nil => 1
  | .ptr d => uptoBulk d + 1
  | .slice elems spare => uptoBulkAll elems + uptoBulkAll spare + 1
  | .agg parts => uptoBulkAll parts + 1
  | .iface _ d => uptoBulk d + 1
  | .map entries => uptoBulkEntries entries + 1
  | .held _ => 1
def uptoBulkAll {H : Type} : List (DataW H) → Nat
  | [] => 0
  | d :: r => uptoBulk d + uptoBulkAll r
def uptoBulkEntries {H : Type} : List (Lit × DataW H) → Nat
  | [] => 0
  | x :: r => uptoBulkEntry x + uptoBulkEntries r
def uptoBulkEntry {H : Type} : Lit × DataW H → Nat
  | (.string bytes, d) => bytes.length + uptoBulk d + 1
  | (_, d) => uptoBulk d + 1
 end
def uptoSmall : (H : Type) → List (DataW H) → Bool := fun _ ds => decide (uptoBulkAll ds ≤ 1048576)
def OpenSpec.upto (s : _root_.Go.ChangeSpec) : _root_.Go.OpenSpec := { _root_.Go.OpenSpec.ofChange s with cond := some uptoSmall }

/-- 'laws.FnVecCut', WHERE WHAT IT READS IS OF BULK AT MOST 1048576: true; the input reads as it did. -/
def fnVecCutUptoRow : OpenClaim := { program := "ytbfechcncgoopab", sum := "76a62048fc857e4d96f06b20b35fb1b6c8ec6c8cec2494c8a29ecef20d73ed59", func := "loop.example/seedlip/laws.FnVecCut", spec := "fnVecCut", unfollowed := true, recurses := true, apart := false, narrowed := true }
def FnVecCutUptoSaid : Prop := fnVecCutUptoRow.holds Try.pinned (OpenSpec.upto fnVecCutSpec)

/-- 'laws.FnVecCmp', WHERE WHAT IT READS IS OF BULK AT MOST 1048576: true; the input reads as it did. -/
def fnVecCmpUptoRow : OpenClaim := { program := "ytbfechcncgoopab", sum := "76a62048fc857e4d96f06b20b35fb1b6c8ec6c8cec2494c8a29ecef20d73ed59", func := "loop.example/seedlip/laws.FnVecCmp", spec := "fnVecCmp", unfollowed := true, recurses := true, apart := false, narrowed := true }
def FnVecCmpUptoSaid : Prop := fnVecCmpUptoRow.holds Try.pinned (OpenSpec.upto fnVecCmpSpec)

/-- 'laws.FnVecCat', WHERE WHAT IT READS IS OF BULK AT MOST 1048576: true; the input reads as it did. -/
def fnVecCatUptoRow : OpenClaim := { program := "ytbfechcncgoopab", sum := "76a62048fc857e4d96f06b20b35fb1b6c8ec6c8cec2494c8a29ecef20d73ed59", func := "loop.example/seedlip/laws.FnVecCat", spec := "fnVecCat", unfollowed := true, recurses := true, apart := false, narrowed := true }
def FnVecCatUptoSaid : Prop := fnVecCatUptoRow.holds Try.pinned (OpenSpec.upto fnVecCatSpec)

end Rows
end Go.Proofs.Ytbfechcncgoopab
