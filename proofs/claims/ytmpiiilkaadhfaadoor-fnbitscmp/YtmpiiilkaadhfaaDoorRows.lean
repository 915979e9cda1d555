/-
  NARROWER THAN 'FOR EVERY INPUT', by the rows' own cells (each row's printed sentence says how): FnBitsCmp: ifaces, laid · FnBitsIf: ifaces, laid · FnExactBitsCmp: ifaces, laid.
  DERIVED. THE GIVEN ROWS OF THIS SEAT. 3 by the template 'for every input the law returns true; each argument reads behind the call as it read before'; 0 by the template 'total and deterministic' (their statements: YtmpiiilkaadhfaaDoorTotals.lean).
  GIVEN WITH THE SEED: the statements are not yours to turn. If you find one false, say at which input.
  Laid BY PROGRAM, IN A SANDBOX (cutbox-rows.mjs): the forced cells as the released guide's own fill.sh prints them over the translation 689424630ad67727… (all of the seat's roots in one cut). By AI agents, Wed Nov 11 2026. No macro, syntax, notation, axiom, sorry.
-/
import Derived.Test.YtmpiiilkaadhfaaDoorChecked
import GoSem.Claim
import GoSem.ClaimJoined
import GoSem.ClaimMapViews
import Derived.JoinedTies
import Derived.KernelRfl
namespace Go.Proofs.YtmpiiilkaadhfaaDoor
/- THE CELL 'sum', in the pinned program and in every row, IS THE sha256 OF THE DUMP (.gsa) THAT YtmpiiilkaadhfaaDoorProg.lean LOADS. Nothing in Lean hashes anything: it is a label: what it is worth is what the hold of that sum in a sandbox is worth. -/
noncomputable def Tryd.pinned : Pinned := { name := "ytmpiiilkaadhfaadoor", sum := "689424630ad67727d139ad0ad70bf649f97f784d38bea435c2ff03a6e507f0a9", checked := Tryd.checked }
namespace Rows
def none {H : Type} : Left H := { results := [], args := [] }

/- WHAT THE LISTED PACKAGE-LEVEL VARIABLES READ AS WHEN THE CALL BEGINS. Each datum BY PROGRAM (the guide's laid-datum.mjs) off the statement by which the dump's own 'gosem.cut.vars' lays the variable. In a bare row this is a premise. The card (YtmpiiilkaadhfaaDoorCards.lean) ties it to the program's text. -/
def laid_loop_example_seedlip_impl_errBitsForm {H : Type} : DataW H := .iface "*errors.errorString" (.ptr (.agg [.lit (.string [110, 111, 32, 115, 117, 99, 104, 32, 111, 112, 44, 32, 111, 114, 32, 110, 111, 32, 109, 97, 114, 107, 115, 32, 116, 104, 97, 116, 32, 105, 116, 32, 99, 97, 110, 32, 98, 101, 32, 100, 111, 110, 101, 32, 116, 111])]))
def laid_loop_example_seedlip_impl_errBitsRoom {H : Type} : DataW H := .iface "*errors.errorString" (.ptr (.agg [.lit (.string [110, 111, 32, 114, 111, 111, 109, 32, 102, 111, 114, 32, 97, 32, 103, 97, 116, 101])]))

/-- 'laws.FnBitsCmp': WHATEVER THE INPUT: true; the input reads as it did. -/
def fnBitsCmpSpec : ChangeSpec := { name := "fnBitsCmp", vars := ["loop.example/seedlip/impl.errBitsForm", "loop.example/seedlip/impl.errBitsRoom"], fn := fun _ => fun
  | [d1, d2, g1, g2] => { results := [.lit (.bool true)], args := [d1, d2], vars := [g1, g2] }
  | _ => none }
def fnBitsCmpRow : OpenClaim := { program := "ytmpiiilkaadhfaadoor", sum := "689424630ad67727d139ad0ad70bf649f97f784d38bea435c2ff03a6e507f0a9", func := "loop.example/seedlip/laws.FnBitsCmp", spec := "fnBitsCmp", inPlace := ["internal/reflectlite.TypeOf"], unfollowed := true, recurses := true, named := ["loop.example/seedlip/impl.errBitsForm", "loop.example/seedlip/impl.errBitsRoom"], ifaces := true, plainKeys := false, apart := false, laid := [("loop.example/seedlip/impl.errBitsForm", laid_loop_example_seedlip_impl_errBitsForm), ("loop.example/seedlip/impl.errBitsRoom", laid_loop_example_seedlip_impl_errBitsRoom)] }
def FnBitsCmpSaid : Prop := fnBitsCmpRow.holds Tryd.pinned (OpenSpec.ofChange fnBitsCmpSpec)

/-- ITS FALSE NEIGHBOUR: 'it returns false'. Refute it at one input. -/
def fnBitsCmpWrong : ChangeSpec := { name := "fnBitsCmp", vars := ["loop.example/seedlip/impl.errBitsForm", "loop.example/seedlip/impl.errBitsRoom"], fn := fun _ => fun
  | [d1, d2, g1, g2] => { results := [.lit (.bool false)], args := [d1, d2], vars := [g1, g2] }
  | _ => none }
def FnBitsCmpWrongFalsely : Prop := fnBitsCmpRow.holds Tryd.pinned (OpenSpec.ofChange fnBitsCmpWrong)

/-- 'laws.FnBitsIf': WHATEVER THE INPUT: true; the input reads as it did. -/
def fnBitsIfSpec : ChangeSpec := { name := "fnBitsIf", vars := ["loop.example/seedlip/impl.errBitsForm", "loop.example/seedlip/impl.errBitsRoom"], fn := fun _ => fun
  | [d1, d2, g1, g2] => { results := [.lit (.bool true)], args := [d1, d2], vars := [g1, g2] }
  | _ => none }
def fnBitsIfRow : OpenClaim := { program := "ytmpiiilkaadhfaadoor", sum := "689424630ad67727d139ad0ad70bf649f97f784d38bea435c2ff03a6e507f0a9", func := "loop.example/seedlip/laws.FnBitsIf", spec := "fnBitsIf", inPlace := ["internal/reflectlite.TypeOf"], unfollowed := true, recurses := true, named := ["loop.example/seedlip/impl.errBitsForm", "loop.example/seedlip/impl.errBitsRoom"], ifaces := true, plainKeys := false, apart := false, laid := [("loop.example/seedlip/impl.errBitsForm", laid_loop_example_seedlip_impl_errBitsForm), ("loop.example/seedlip/impl.errBitsRoom", laid_loop_example_seedlip_impl_errBitsRoom)] }
def FnBitsIfSaid : Prop := fnBitsIfRow.holds Tryd.pinned (OpenSpec.ofChange fnBitsIfSpec)

/-- ITS FALSE NEIGHBOUR: 'it returns false'. Refute it at one input. -/
def fnBitsIfWrong : ChangeSpec := { name := "fnBitsIf", vars := ["loop.example/seedlip/impl.errBitsForm", "loop.example/seedlip/impl.errBitsRoom"], fn := fun _ => fun
  | [d1, d2, g1, g2] => { results := [.lit (.bool false)], args := [d1, d2], vars := [g1, g2] }
  | _ => none }
def FnBitsIfWrongFalsely : Prop := fnBitsIfRow.holds Tryd.pinned (OpenSpec.ofChange fnBitsIfWrong)

/-- 'laws.FnExactBitsCmp': WHATEVER THE INPUT: true; the input reads as it did. -/
def fnExactBitsCmpSpec : ChangeSpec := { name := "fnExactBitsCmp", vars := ["loop.example/seedlip/impl.errBitsForm", "loop.example/seedlip/impl.errBitsRoom"], fn := fun _ => fun
  | [d1, d2, d3, d4, g1, g2] => { results := [.lit (.bool true)], args := [d1, d2, d3, d4], vars := [g1, g2] }
  | _ => none }
def fnExactBitsCmpRow : OpenClaim := { program := "ytmpiiilkaadhfaadoor", sum := "689424630ad67727d139ad0ad70bf649f97f784d38bea435c2ff03a6e507f0a9", func := "loop.example/seedlip/laws.FnExactBitsCmp", spec := "fnExactBitsCmp", inPlace := ["internal/reflectlite.TypeOf"], unfollowed := true, recurses := true, named := ["loop.example/seedlip/impl.errBitsForm", "loop.example/seedlip/impl.errBitsRoom"], ifaces := true, plainKeys := false, apart := false, laid := [("loop.example/seedlip/impl.errBitsForm", laid_loop_example_seedlip_impl_errBitsForm), ("loop.example/seedlip/impl.errBitsRoom", laid_loop_example_seedlip_impl_errBitsRoom)] }
def FnExactBitsCmpSaid : Prop := fnExactBitsCmpRow.holds Tryd.pinned (OpenSpec.ofChange fnExactBitsCmpSpec)

/-- ITS FALSE NEIGHBOUR: 'it returns false'. Refute it at one input. -/
def fnExactBitsCmpWrong : ChangeSpec := { name := "fnExactBitsCmp", vars := ["loop.example/seedlip/impl.errBitsForm", "loop.example/seedlip/impl.errBitsRoom"], fn := fun _ => fun
  | [d1, d2, d3, d4, g1, g2] => { results := [.lit (.bool false)], args := [d1, d2, d3, d4], vars := [g1, g2] }
  | _ => none }
def FnExactBitsCmpWrongFalsely : Prop := fnExactBitsCmpRow.holds Tryd.pinned (OpenSpec.ofChange fnExactBitsCmpWrong)

/- THE SECOND FORM. 'bulk': how many values and letters a reading holds, each counted each time it is reached (what is shared counts as often as it is met; a slice's spare places count too). A statement '..UptoSaid' is the law's where the arguments, and the package variables that the reading takes, are together of bulk at most 1048576: NARROWER than '..Said'. Prove '..Said' where nothing that the law and all that it calls make is longer than what came in: it says more and counts as full. Else prove '..UptoSaid'. A law counts once. -/
mutual
def uptoBulk {H : Type} : DataW H → Nat
  | .lit (.string bytes) => bytes.length + 1
  | .lit _ => 1
  | .nil => 1
  | .ptr d => uptoBulk d + 1
  | .slice elems spare => uptoBulkAll elems + uptoBulkAll spare + 1
  | .agg parts => uptoBulkAll parts + 1
  | .iface _ d => uptoBulk d + 1
  | .map entries => uptoBulkEntries entries + 1
  | .held _ => 1
def uptoBulkAll {H : Type} : List (DataW H) → Nat
  | [] => 0
  | d :: r => uptoBulk d + uptoBulkAll r
def uptoBulkEntries {H : Type} : List (Lit × DataW H) → Nat
  | [] => 0
  | x :: r => uptoBulkEntry x + uptoBulkEntries r
def uptoBulkEntry {H : Type} : Lit × DataW H → Nat
  | (.string bytes, d) => bytes.length + uptoBulk d + 1
  | (_, d) => uptoBulk d + 1
 end
def uptoSmall : (H : Type) → List (DataW H) → Bool := fun _ ds => decide (uptoBulkAll ds ≤ 1048576)
def OpenSpec.upto (s : _root_.Go.ChangeSpec) : _root_.Go.OpenSpec := { _root_.Go.OpenSpec.ofChange s with cond := some uptoSmall }

/-- 'laws.FnBitsCmp', WHERE WHAT IT READS IS OF BULK AT MOST 1048576: true; the input reads as it did. -/
def fnBitsCmpUptoRow : OpenClaim := { program := "ytmpiiilkaadhfaadoor", sum := "689424630ad67727d139ad0ad70bf649f97f784d38bea435c2ff03a6e507f0a9", func := "loop.example/seedlip/laws.FnBitsCmp", spec := "fnBitsCmp", inPlace := ["internal/reflectlite.TypeOf"], unfollowed := true, recurses := true, named := ["loop.example/seedlip/impl.errBitsForm", "loop.example/seedlip/impl.errBitsRoom"], ifaces := true, plainKeys := false, apart := false, laid := [("loop.example/seedlip/impl.errBitsForm", laid_loop_example_seedlip_impl_errBitsForm), ("loop.example/seedlip/impl.errBitsRoom", laid_loop_example_seedlip_impl_errBitsRoom)], narrowed := true }
def FnBitsCmpUptoSaid : Prop := fnBitsCmpUptoRow.holds Tryd.pinned (OpenSpec.upto fnBitsCmpSpec)

/-- 'laws.FnBitsIf', WHERE WHAT IT READS IS OF BULK AT MOST 1048576: true; the input reads as it did. -/
def fnBitsIfUptoRow : OpenClaim := { program := "ytmpiiilkaadhfaadoor", sum := "689424630ad67727d139ad0ad70bf649f97f784d38bea435c2ff03a6e507f0a9", func := "loop.example/seedlip/laws.FnBitsIf", spec := "fnBitsIf", inPlace := ["internal/reflectlite.TypeOf"], unfollowed := true, recurses := true, named := ["loop.example/seedlip/impl.errBitsForm", "loop.example/seedlip/impl.errBitsRoom"], ifaces := true, plainKeys := false, apart := false, laid := [("loop.example/seedlip/impl.errBitsForm", laid_loop_example_seedlip_impl_errBitsForm), ("loop.example/seedlip/impl.errBitsRoom", laid_loop_example_seedlip_impl_errBitsRoom)], narrowed := true }
def FnBitsIfUptoSaid : Prop := fnBitsIfUptoRow.holds Tryd.pinned (OpenSpec.upto fnBitsIfSpec)

/-- 'laws.FnExactBitsCmp', WHERE WHAT IT READS IS OF BULK AT MOST 1048576: true; the input reads as it did. -/
def fnExactBitsCmpUptoRow : OpenClaim := { program := "ytmpiiilkaadhfaadoor", sum := "689424630ad67727d139ad0ad70bf649f97f784d38bea435c2ff03a6e507f0a9", func := "loop.example/seedlip/laws.FnExactBitsCmp", spec := "fnExactBitsCmp", inPlace := ["internal/reflectlite.TypeOf"], unfollowed := true, recurses := true, named := ["loop.example/seedlip/impl.errBitsForm", "loop.example/seedlip/impl.errBitsRoom"], ifaces := true, plainKeys := false, apart := false, laid := [("loop.example/seedlip/impl.errBitsForm", laid_loop_example_seedlip_impl_errBitsForm), ("loop.example/seedlip/impl.errBitsRoom", laid_loop_example_seedlip_impl_errBitsRoom)], narrowed := true }
def FnExactBitsCmpUptoSaid : Prop := fnExactBitsCmpUptoRow.holds Tryd.pinned (OpenSpec.upto fnExactBitsCmpSpec)

end Rows
end Go.Proofs.YtmpiiilkaadhfaaDoor
