/-
  No cell of these rows narrows 'for every input' (looked for: loops, veiled, ifaces, maps, wideKeys, modest, calm, conditions, laid).
  DERIVED. THE GIVEN ROWS OF THIS SEAT. 3 by the template 'for every input the law returns true; each argument reads behind the call as it read before'; 0 by the template 'total and deterministic' (their statements: YtmpkmcnkkbahoaaTotals.lean).
  GIVEN WITH THE SEED: the statements are not yours to turn. If you find one false, say at which input.
  Laid BY PROGRAM, IN A SANDBOX (cutbox-rows.mjs): the forced cells as the released guide's own fill.sh prints them over the translation dab20b3a873485d1… (all of the seat's roots in one cut). By AI agents, Wed Nov 11 2026. No macro, syntax, notation, axiom, sorry.
-/
import Derived.Test.YtmpkmcnkkbahoaaChecked
import GoSem.Claim
import GoSem.ClaimJoined
import GoSem.ClaimMapViews
import Derived.JoinedTies
import Derived.KernelRfl
namespace Go.Proofs.Ytmpkmcnkkbahoaa
/- THE CELL 'sum', in the pinned program and in every row, IS THE sha256 OF THE DUMP (.gsa) THAT YtmpkmcnkkbahoaaProg.lean LOADS. Nothing in Lean hashes anything: it is a label: what it is worth is what the hold of that sum in a sandbox is worth. -/
noncomputable def Try.pinned : Pinned := { name := "ytmpkmcnkkbahoaa", sum := "dab20b3a873485d11a85e5ba61e824c6ae46f7e0e4fecf10d21a8c7742591e09", checked := Try.checked }
namespace Rows
def none {H : Type} : Left H := { results := [], args := [] }

/-- 'laws.FnExactNetAnd': WHATEVER THE INPUT: true; the input reads as it did. -/
def fnExactNetAndSpec : ChangeSpec := { name := "fnExactNetAnd", fn := fun _ => fun
  | [d1, d2, d3] => { results := [.lit (.bool true)], args := [d1, d2, d3] }
  | _ => none }
def fnExactNetAndRow : OpenClaim := { program := "ytmpkmcnkkbahoaa", sum := "dab20b3a873485d11a85e5ba61e824c6ae46f7e0e4fecf10d21a8c7742591e09", func := "loop.example/seedlip/laws.FnExactNetAnd", spec := "fnExactNetAnd", plainKeys := false, apart := false }
def FnExactNetAndSaid : Prop := fnExactNetAndRow.holds Try.pinned (OpenSpec.ofChange fnExactNetAndSpec)

/-- ITS FALSE NEIGHBOUR: 'it returns false'. Refute it at one input. -/
def fnExactNetAndWrong : ChangeSpec := { name := "fnExactNetAnd", fn := fun _ => fun
  | [d1, d2, d3] => { results := [.lit (.bool false)], args := [d1, d2, d3] }
  | _ => none }
def FnExactNetAndWrongFalsely : Prop := fnExactNetAndRow.holds Try.pinned (OpenSpec.ofChange fnExactNetAndWrong)

/-- 'laws.FnExactNetXor': WHATEVER THE INPUT: true; the input reads as it did. -/
def fnExactNetXorSpec : ChangeSpec := { name := "fnExactNetXor", fn := fun _ => fun
  | [d1, d2, d3] => { results := [.lit (.bool true)], args := [d1, d2, d3] }
  | _ => none }
def fnExactNetXorRow : OpenClaim := { program := "ytmpkmcnkkbahoaa", sum := "dab20b3a873485d11a85e5ba61e824c6ae46f7e0e4fecf10d21a8c7742591e09", func := "loop.example/seedlip/laws.FnExactNetXor", spec := "fnExactNetXor", plainKeys := false, apart := false }
def FnExactNetXorSaid : Prop := fnExactNetXorRow.holds Try.pinned (OpenSpec.ofChange fnExactNetXorSpec)

/-- ITS FALSE NEIGHBOUR: 'it returns false'. Refute it at one input. -/
def fnExactNetXorWrong : ChangeSpec := { name := "fnExactNetXor", fn := fun _ => fun
  | [d1, d2, d3] => { results := [.lit (.bool false)], args := [d1, d2, d3] }
  | _ => none }
def FnExactNetXorWrongFalsely : Prop := fnExactNetXorRow.holds Try.pinned (OpenSpec.ofChange fnExactNetXorWrong)

/-- 'laws.FnExactNetCnf': WHATEVER THE INPUT: true; the input reads as it did. -/
def fnExactNetCnfSpec : ChangeSpec := { name := "fnExactNetCnf", fn := fun _ => fun
  | [d] => { results := [.lit (.bool true)], args := [d] }
  | _ => none }
def fnExactNetCnfRow : OpenClaim := { program := "ytmpkmcnkkbahoaa", sum := "dab20b3a873485d11a85e5ba61e824c6ae46f7e0e4fecf10d21a8c7742591e09", func := "loop.example/seedlip/laws.FnExactNetCnf", spec := "fnExactNetCnf", plainKeys := false, apart := false }
def FnExactNetCnfSaid : Prop := fnExactNetCnfRow.holds Try.pinned (OpenSpec.ofChange fnExactNetCnfSpec)

/-- ITS FALSE NEIGHBOUR: 'it returns false'. Refute it at one input. -/
def fnExactNetCnfWrong : ChangeSpec := { name := "fnExactNetCnf", fn := fun _ => fun
  | [d] => { results := [.lit (.bool false)], args := [d] }
  | _ => none }
def FnExactNetCnfWrongFalsely : Prop := fnExactNetCnfRow.holds Try.pinned (OpenSpec.ofChange fnExactNetCnfWrong)

/- THE SECOND FORM. 'bulk': how many values and letters a reading holds, each counted each time it is reached (what is shared counts as often as it is met; a slice's spare places count too). A statement '..UptoSaid' is the law's where the arguments, and the package variables that the reading takes, are together of bulk at most 1048576: NARROWER than '..Said'. Prove '..Said' where nothing that the law and all that it calls make is longer than what came in: it says more and counts as full. Else prove '..UptoSaid'. A law counts once. -/
mutual
def uptoBulk {H : Type} : DataW H → Nat
  | .lit (.string bytes) => bytes.length + 1
  | .lit _ => 1
  | .nil => 1
  | .ptr d => uptoBulk d + 1
  | .slice elems spare => uptoBulkAll elems + uptoBulkAll spare + 1
  | .agg parts => uptoBulkAll parts + 1
  | .iface _ d => uptoBulk d + 1
  | .map entries => uptoBulkEntries entries + 1
  | .held _ => 1
def uptoBulkAll {H : Type} : List (DataW H) → Nat
  | [] => 0
  | d :: r => uptoBulk d + uptoBulkAll r
def uptoBulkEntries {H : Type} : List (Lit × DataW H) → Nat
  | [] => 0
  | x :: r => uptoBulkEntry x + uptoBulkEntries r
def uptoBulkEntry {H : Type} : Lit × DataW H → Nat
  | (.string bytes, d) => bytes.length + uptoBulk d + 1
  | (_, d) => uptoBulk d + 1
 end
def uptoSmall : (H : Type) → List (DataW H) → Bool := fun _ ds => decide (uptoBulkAll ds ≤ 1048576)
def OpenSpec.upto (s : _root_.Go.ChangeSpec) : _root_.Go.OpenSpec := { _root_.Go.OpenSpec.ofChange s with cond := some uptoSmall }

/-- 'laws.FnExactNetAnd', WHERE WHAT IT READS IS OF BULK AT MOST 1048576: true; the input reads as it did. -/
def fnExactNetAndUptoRow : OpenClaim := { program := "ytmpkmcnkkbahoaa", sum := "dab20b3a873485d11a85e5ba61e824c6ae46f7e0e4fecf10d21a8c7742591e09", func := "loop.example/seedlip/laws.FnExactNetAnd", spec := "fnExactNetAnd", plainKeys := false, apart := false, narrowed := true }
def FnExactNetAndUptoSaid : Prop := fnExactNetAndUptoRow.holds Try.pinned (OpenSpec.upto fnExactNetAndSpec)

/-- 'laws.FnExactNetXor', WHERE WHAT IT READS IS OF BULK AT MOST 1048576: true; the input reads as it did. -/
def fnExactNetXorUptoRow : OpenClaim := { program := "ytmpkmcnkkbahoaa", sum := "dab20b3a873485d11a85e5ba61e824c6ae46f7e0e4fecf10d21a8c7742591e09", func := "loop.example/seedlip/laws.FnExactNetXor", spec := "fnExactNetXor", plainKeys := false, apart := false, narrowed := true }
def FnExactNetXorUptoSaid : Prop := fnExactNetXorUptoRow.holds Try.pinned (OpenSpec.upto fnExactNetXorSpec)

/-- 'laws.FnExactNetCnf', WHERE WHAT IT READS IS OF BULK AT MOST 1048576: true; the input reads as it did. -/
def fnExactNetCnfUptoRow : OpenClaim := { program := "ytmpkmcnkkbahoaa", sum := "dab20b3a873485d11a85e5ba61e824c6ae46f7e0e4fecf10d21a8c7742591e09", func := "loop.example/seedlip/laws.FnExactNetCnf", spec := "fnExactNetCnf", plainKeys := false, apart := false, narrowed := true }
def FnExactNetCnfUptoSaid : Prop := fnExactNetCnfUptoRow.holds Try.pinned (OpenSpec.upto fnExactNetCnfSpec)

end Rows
end Go.Proofs.Ytmpkmcnkkbahoaa
