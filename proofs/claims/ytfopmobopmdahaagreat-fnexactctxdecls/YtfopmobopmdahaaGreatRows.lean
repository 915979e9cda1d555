/-
  NARROWER THAN 'FOR EVERY INPUT', by the rows' own cells (each row's printed sentence says how): FnExactCtxOk: loops · FnExactCtxDecls: loops · FnExactCtxPush: loops · FnExactCtxPop: loops · FnExactCtxName: loops · FnExactCtxAssert: loops.
  DERIVED. THE GIVEN ROWS OF THIS SEAT. 6 by the template 'for every input the law returns true; each argument reads behind the call as it read before'; 0 by the template 'total and deterministic' (their statements: YtfopmobopmdahaaGreatTotals.lean).
  GIVEN WITH THE SEED: the statements are not yours to turn. If you find one false, say at which input.
  Laid BY PROGRAM, IN A SANDBOX (cutbox-rows.mjs): the forced cells as the released guide's own fill.sh prints them over the translation 56291ecf07a9595b… (all of the seat's roots in one cut). By AI agents, Wed Nov 11 2026. No macro, syntax, notation, axiom, sorry.
-/
import Derived.Test.YtfopmobopmdahaaGreatChecked
import GoSem.Claim
import GoSem.ClaimJoined
import GoSem.ClaimMapViews
import Derived.JoinedTies
import Derived.KernelRfl
namespace Go.Proofs.YtfopmobopmdahaaGreat
/- THE CELL 'sum', in the pinned program and in every row, IS THE sha256 OF THE DUMP (.gsa) THAT YtfopmobopmdahaaGreatProg.lean LOADS. Nothing in Lean hashes anything: it is a label: what it is worth is what the hold of that sum in a sandbox is worth. -/
noncomputable def Tryz.pinned : Pinned := { name := "ytfopmobopmdahaagreat", sum := "56291ecf07a9595bb76ec93a069e0ebe89a2e1eb089fd3f3e4b19703643746e7", checked := Tryz.checked }
namespace Rows
def none {H : Type} : Left H := { results := [], args := [] }

/-- 'laws.FnExactCtxOk': WHATEVER THE INPUT: true; the input reads as it did. -/
def fnExactCtxOkSpec : ChangeSpec := { name := "fnExactCtxOk", fn := fun _ => fun
  | [d] => { results := [.lit (.bool true)], args := [d] }
  | _ => none }
def fnExactCtxOkRow : OpenClaim := { program := "ytfopmobopmdahaagreat", sum := "56291ecf07a9595bb76ec93a069e0ebe89a2e1eb089fd3f3e4b19703643746e7", func := "loop.example/seedlip/laws.FnExactCtxOk", spec := "fnExactCtxOk", unfollowed := true, recurses := true, loops := true, apart := false }
def FnExactCtxOkSaid : Prop := fnExactCtxOkRow.holds Tryz.pinned (OpenSpec.ofChange fnExactCtxOkSpec)

/-- ITS FALSE NEIGHBOUR: 'it returns false'. Refute it at one input. -/
def fnExactCtxOkWrong : ChangeSpec := { name := "fnExactCtxOk", fn := fun _ => fun
  | [d] => { results := [.lit (.bool false)], args := [d] }
  | _ => none }
def FnExactCtxOkWrongFalsely : Prop := fnExactCtxOkRow.holds Tryz.pinned (OpenSpec.ofChange fnExactCtxOkWrong)

/-- 'laws.FnExactCtxDecls': WHATEVER THE INPUT: true; the input reads as it did. -/
def fnExactCtxDeclsSpec : ChangeSpec := { name := "fnExactCtxDecls", fn := fun _ => fun
  | [d] => { results := [.lit (.bool true)], args := [d] }
  | _ => none }
def fnExactCtxDeclsRow : OpenClaim := { program := "ytfopmobopmdahaagreat", sum := "56291ecf07a9595bb76ec93a069e0ebe89a2e1eb089fd3f3e4b19703643746e7", func := "loop.example/seedlip/laws.FnExactCtxDecls", spec := "fnExactCtxDecls", unfollowed := true, recurses := true, loops := true, apart := false }
def FnExactCtxDeclsSaid : Prop := fnExactCtxDeclsRow.holds Tryz.pinned (OpenSpec.ofChange fnExactCtxDeclsSpec)

/-- ITS FALSE NEIGHBOUR: 'it returns false'. Refute it at one input. -/
def fnExactCtxDeclsWrong : ChangeSpec := { name := "fnExactCtxDecls", fn := fun _ => fun
  | [d] => { results := [.lit (.bool false)], args := [d] }
  | _ => none }
def FnExactCtxDeclsWrongFalsely : Prop := fnExactCtxDeclsRow.holds Tryz.pinned (OpenSpec.ofChange fnExactCtxDeclsWrong)

/-- 'laws.FnExactCtxPush': WHATEVER THE INPUT: true; the input reads as it did. -/
def fnExactCtxPushSpec : ChangeSpec := { name := "fnExactCtxPush", fn := fun _ => fun
  | [d] => { results := [.lit (.bool true)], args := [d] }
  | _ => none }
def fnExactCtxPushRow : OpenClaim := { program := "ytfopmobopmdahaagreat", sum := "56291ecf07a9595bb76ec93a069e0ebe89a2e1eb089fd3f3e4b19703643746e7", func := "loop.example/seedlip/laws.FnExactCtxPush", spec := "fnExactCtxPush", unfollowed := true, recurses := true, loops := true, apart := false }
def FnExactCtxPushSaid : Prop := fnExactCtxPushRow.holds Tryz.pinned (OpenSpec.ofChange fnExactCtxPushSpec)

/-- ITS FALSE NEIGHBOUR: 'it returns false'. Refute it at one input. -/
def fnExactCtxPushWrong : ChangeSpec := { name := "fnExactCtxPush", fn := fun _ => fun
  | [d] => { results := [.lit (.bool false)], args := [d] }
  | _ => none }
def FnExactCtxPushWrongFalsely : Prop := fnExactCtxPushRow.holds Tryz.pinned (OpenSpec.ofChange fnExactCtxPushWrong)

/-- 'laws.FnExactCtxPop': WHATEVER THE INPUT: true; the input reads as it did. -/
def fnExactCtxPopSpec : ChangeSpec := { name := "fnExactCtxPop", fn := fun _ => fun
  | [d] => { results := [.lit (.bool true)], args := [d] }
  | _ => none }
def fnExactCtxPopRow : OpenClaim := { program := "ytfopmobopmdahaagreat", sum := "56291ecf07a9595bb76ec93a069e0ebe89a2e1eb089fd3f3e4b19703643746e7", func := "loop.example/seedlip/laws.FnExactCtxPop", spec := "fnExactCtxPop", unfollowed := true, recurses := true, loops := true, apart := false }
def FnExactCtxPopSaid : Prop := fnExactCtxPopRow.holds Tryz.pinned (OpenSpec.ofChange fnExactCtxPopSpec)

/-- ITS FALSE NEIGHBOUR: 'it returns false'. Refute it at one input. -/
def fnExactCtxPopWrong : ChangeSpec := { name := "fnExactCtxPop", fn := fun _ => fun
  | [d] => { results := [.lit (.bool false)], args := [d] }
  | _ => none }
def FnExactCtxPopWrongFalsely : Prop := fnExactCtxPopRow.holds Tryz.pinned (OpenSpec.ofChange fnExactCtxPopWrong)

/-- 'laws.FnExactCtxName': WHATEVER THE INPUT: true; the input reads as it did. -/
def fnExactCtxNameSpec : ChangeSpec := { name := "fnExactCtxName", fn := fun _ => fun
  | [d1, d2] => { results := [.lit (.bool true)], args := [d1, d2] }
  | _ => none }
def fnExactCtxNameRow : OpenClaim := { program := "ytfopmobopmdahaagreat", sum := "56291ecf07a9595bb76ec93a069e0ebe89a2e1eb089fd3f3e4b19703643746e7", func := "loop.example/seedlip/laws.FnExactCtxName", spec := "fnExactCtxName", unfollowed := true, recurses := true, loops := true, apart := false }
def FnExactCtxNameSaid : Prop := fnExactCtxNameRow.holds Tryz.pinned (OpenSpec.ofChange fnExactCtxNameSpec)

/-- ITS FALSE NEIGHBOUR: 'it returns false'. Refute it at one input. -/
def fnExactCtxNameWrong : ChangeSpec := { name := "fnExactCtxName", fn := fun _ => fun
  | [d1, d2] => { results := [.lit (.bool false)], args := [d1, d2] }
  | _ => none }
def FnExactCtxNameWrongFalsely : Prop := fnExactCtxNameRow.holds Tryz.pinned (OpenSpec.ofChange fnExactCtxNameWrong)

/-- 'laws.FnExactCtxAssert': WHATEVER THE INPUT: true; the input reads as it did. -/
def fnExactCtxAssertSpec : ChangeSpec := { name := "fnExactCtxAssert", fn := fun _ => fun
  | [d1, d2] => { results := [.lit (.bool true)], args := [d1, d2] }
  | _ => none }
def fnExactCtxAssertRow : OpenClaim := { program := "ytfopmobopmdahaagreat", sum := "56291ecf07a9595bb76ec93a069e0ebe89a2e1eb089fd3f3e4b19703643746e7", func := "loop.example/seedlip/laws.FnExactCtxAssert", spec := "fnExactCtxAssert", unfollowed := true, recurses := true, loops := true, apart := false }
def FnExactCtxAssertSaid : Prop := fnExactCtxAssertRow.holds Tryz.pinned (OpenSpec.ofChange fnExactCtxAssertSpec)

/-- ITS FALSE NEIGHBOUR: 'it returns false'. Refute it at one input. -/
def fnExactCtxAssertWrong : ChangeSpec := { name := "fnExactCtxAssert", fn := fun _ => fun
  | [d1, d2] => { results := [.lit (.bool false)], args := [d1, d2] }
  | _ => none }
def FnExactCtxAssertWrongFalsely : Prop := fnExactCtxAssertRow.holds Tryz.pinned (OpenSpec.ofChange fnExactCtxAssertWrong)

/- THE SECOND FORM. 'bulk': how many values and letters a reading holds, each counted each time it is reached (what is shared counts as often as it is met; a slice's spare places count too). A statement '..UptoSaid' is the law's where the arguments, and the package variables that the reading takes, are together of bulk at most 1048576: NARROWER than '..Said'. Prove '..Said' where nothing that the law and all that it calls make is longer than what came in: it says more and counts as full. Else prove '..UptoSaid'. A law counts once. -/
mutual
def uptoBulk {H : Type} : DataW H → Nat
  | .lit (.string bytes) => bytes.length + 1
  | .lit _ => 1
  | .nil => 1
  | .ptr d => uptoBulk d + 1
  | .slice elems spare => uptoBulkAll elems + uptoBulkAll spare + 1
  | .agg parts => uptoBulkAll parts + 1
  | .iface _ d => uptoBulk d + 1
  | .map entries => uptoBulkEntries entries + 1
  | .held _ => 1
def uptoBulkAll {H : Type} : List (DataW H) → Nat
  | [] => 0
  | d :: r => uptoBulk d + uptoBulkAll r
def uptoBulkEntries {H : Type} : List (Lit × DataW H) → Nat
  | [] => 0
  | x :: r => uptoBulkEntry x + uptoBulkEntries r
def uptoBulkEntry {H : Type} : Lit × DataW H → Nat
  | (.string bytes, d) => bytes.length + uptoBulk d + 1
  | (_, d) => uptoBulk d + 1
 end
def uptoSmall : (H : Type) → List (DataW H) → Bool := fun _ ds => decide (uptoBulkAll ds ≤ 1048576)
def OpenSpec.upto (s : _root_.Go.ChangeSpec) : _root_.Go.OpenSpec := { _root_.Go.OpenSpec.ofChange s with cond := some uptoSmall }

/-- 'laws.FnExactCtxOk', WHERE WHAT IT READS IS OF BULK AT MOST 1048576: true; the input reads as it did. -/
def fnExactCtxOkUptoRow : OpenClaim := { program := "ytfopmobopmdahaagreat", sum := "56291ecf07a9595bb76ec93a069e0ebe89a2e1eb089fd3f3e4b19703643746e7", func := "loop.example/seedlip/laws.FnExactCtxOk", spec := "fnExactCtxOk", unfollowed := true, recurses := true, loops := true, apart := false, narrowed := true }
def FnExactCtxOkUptoSaid : Prop := fnExactCtxOkUptoRow.holds Tryz.pinned (OpenSpec.upto fnExactCtxOkSpec)

/-- 'laws.FnExactCtxDecls', WHERE WHAT IT READS IS OF BULK AT MOST 1048576: true; the input reads as it did. -/
def fnExactCtxDeclsUptoRow : OpenClaim := { program := "ytfopmobopmdahaagreat", sum := "56291ecf07a9595bb76ec93a069e0ebe89a2e1eb089fd3f3e4b19703643746e7", func := "loop.example/seedlip/laws.FnExactCtxDecls", spec := "fnExactCtxDecls", unfollowed := true, recurses := true, loops := true, apart := false, narrowed := true }
def FnExactCtxDeclsUptoSaid : Prop := fnExactCtxDeclsUptoRow.holds Tryz.pinned (OpenSpec.upto fnExactCtxDeclsSpec)

/-- 'laws.FnExactCtxPush', WHERE WHAT IT READS IS OF BULK AT MOST 1048576: true; the input reads as it did. -/
def fnExactCtxPushUptoRow : OpenClaim := { program := "ytfopmobopmdahaagreat", sum := "56291ecf07a9595bb76ec93a069e0ebe89a2e1eb089fd3f3e4b19703643746e7", func := "loop.example/seedlip/laws.FnExactCtxPush", spec := "fnExactCtxPush", unfollowed := true, recurses := true, loops := true, apart := false, narrowed := true }
def FnExactCtxPushUptoSaid : Prop := fnExactCtxPushUptoRow.holds Tryz.pinned (OpenSpec.upto fnExactCtxPushSpec)

/-- 'laws.FnExactCtxPop', WHERE WHAT IT READS IS OF BULK AT MOST 1048576: true; the input reads as it did. -/
def fnExactCtxPopUptoRow : OpenClaim := { program := "ytfopmobopmdahaagreat", sum := "56291ecf07a9595bb76ec93a069e0ebe89a2e1eb089fd3f3e4b19703643746e7", func := "loop.example/seedlip/laws.FnExactCtxPop", spec := "fnExactCtxPop", unfollowed := true, recurses := true, loops := true, apart := false, narrowed := true }
def FnExactCtxPopUptoSaid : Prop := fnExactCtxPopUptoRow.holds Tryz.pinned (OpenSpec.upto fnExactCtxPopSpec)

/-- 'laws.FnExactCtxName', WHERE WHAT IT READS IS OF BULK AT MOST 1048576: true; the input reads as it did. -/
def fnExactCtxNameUptoRow : OpenClaim := { program := "ytfopmobopmdahaagreat", sum := "56291ecf07a9595bb76ec93a069e0ebe89a2e1eb089fd3f3e4b19703643746e7", func := "loop.example/seedlip/laws.FnExactCtxName", spec := "fnExactCtxName", unfollowed := true, recurses := true, loops := true, apart := false, narrowed := true }
def FnExactCtxNameUptoSaid : Prop := fnExactCtxNameUptoRow.holds Tryz.pinned (OpenSpec.upto fnExactCtxNameSpec)

/-- 'laws.FnExactCtxAssert', WHERE WHAT IT READS IS OF BULK AT MOST 1048576: true; the input reads as it did. -/
def fnExactCtxAssertUptoRow : OpenClaim := { program := "ytfopmobopmdahaagreat", sum := "56291ecf07a9595bb76ec93a069e0ebe89a2e1eb089fd3f3e4b19703643746e7", func := "loop.example/seedlip/laws.FnExactCtxAssert", spec := "fnExactCtxAssert", unfollowed := true, recurses := true, loops := true, apart := false, narrowed := true }
def FnExactCtxAssertUptoSaid : Prop := fnExactCtxAssertUptoRow.holds Tryz.pinned (OpenSpec.upto fnExactCtxAssertSpec)

end Rows
end Go.Proofs.YtfopmobopmdahaaGreat
