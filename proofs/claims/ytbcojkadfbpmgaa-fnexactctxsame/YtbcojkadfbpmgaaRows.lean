/-
  NARROWER THAN 'FOR EVERY INPUT', by the rows' own cells (each row's printed sentence says how): FnExactCtxSame: loops.
  DERIVED. THE GIVEN ROWS OF THIS SEAT. 2 by the template 'for every input the law returns true; each argument reads behind the call as it read before'; 0 by the template 'total and deterministic' (their statements: YtbcojkadfbpmgaaTotals.lean).
  GIVEN WITH THE SEED: the statements are not yours to turn. If you find one false, say at which input.
  Laid BY PROGRAM, IN A SANDBOX (cutbox-rows.mjs): the forced cells as the released guide's own fill.sh prints them over the translation 351f123b049a71a1… (all of the seat's roots in one cut). By AI agents, Wed Nov 11 2026. No macro, syntax, notation, axiom, sorry.
-/
import Derived.Test.YtbcojkadfbpmgaaChecked
import GoSem.Claim
import GoSem.ClaimJoined
import GoSem.ClaimMapViews
import Derived.JoinedTies
import Derived.KernelRfl
namespace Go.Proofs.Ytbcojkadfbpmgaa
/- THE CELL 'sum', in the pinned program and in every row, IS THE sha256 OF THE DUMP (.gsa) THAT YtbcojkadfbpmgaaProg.lean LOADS. Nothing in Lean hashes anything: it is a label: what it is worth is what the hold of that sum in a sandbox is worth. -/
noncomputable def Try.pinned : Pinned := { name := "ytbcojkadfbpmgaa", sum := "351f123b049a71a1e592227e38bb8b7cfadd65f0c182cb78731febc9e2f129e1", checked := Try.checked }
namespace Rows
def none {H : Type} : Left H := { results := [], args := [] }

/-- 'laws.FnExactCtxNew': WHATEVER THE INPUT: true; the input reads as it did. -/
def fnExactCtxNewSpec : ChangeSpec := { name := "fnExactCtxNew", fn := fun _ => fun
  | [] => { results := [.lit (.bool true)], args := [] }
  | _ => none }
def fnExactCtxNewRow : OpenClaim := { program := "ytbcojkadfbpmgaa", sum := "351f123b049a71a1e592227e38bb8b7cfadd65f0c182cb78731febc9e2f129e1", func := "loop.example/seedlip/laws.FnExactCtxNew", spec := "fnExactCtxNew", recurses := true, plainKeys := false, apart := false }
def FnExactCtxNewSaid : Prop := fnExactCtxNewRow.holds Try.pinned (OpenSpec.ofChange fnExactCtxNewSpec)

/-- ITS FALSE NEIGHBOUR: 'it returns false'. Refute it at one input. -/
def fnExactCtxNewWrong : ChangeSpec := { name := "fnExactCtxNew", fn := fun _ => fun
  | [] => { results := [.lit (.bool false)], args := [] }
  | _ => none }
def FnExactCtxNewWrongFalsely : Prop := fnExactCtxNewRow.holds Try.pinned (OpenSpec.ofChange fnExactCtxNewWrong)

/-- 'laws.FnExactCtxSame': WHATEVER THE INPUT: true; the input reads as it did. -/
def fnExactCtxSameSpec : ChangeSpec := { name := "fnExactCtxSame", fn := fun _ => fun
  | [d1, d2] => { results := [.lit (.bool true)], args := [d1, d2] }
  | _ => none }
def fnExactCtxSameRow : OpenClaim := { program := "ytbcojkadfbpmgaa", sum := "351f123b049a71a1e592227e38bb8b7cfadd65f0c182cb78731febc9e2f129e1", func := "loop.example/seedlip/laws.FnExactCtxSame", spec := "fnExactCtxSame", unfollowed := true, recurses := true, loops := true, plainKeys := false, apart := false }
def FnExactCtxSameSaid : Prop := fnExactCtxSameRow.holds Try.pinned (OpenSpec.ofChange fnExactCtxSameSpec)

/-- ITS FALSE NEIGHBOUR: 'it returns false'. Refute it at one input. -/
def fnExactCtxSameWrong : ChangeSpec := { name := "fnExactCtxSame", fn := fun _ => fun
  | [d1, d2] => { results := [.lit (.bool false)], args := [d1, d2] }
  | _ => none }
def FnExactCtxSameWrongFalsely : Prop := fnExactCtxSameRow.holds Try.pinned (OpenSpec.ofChange fnExactCtxSameWrong)

/- THE SECOND FORM. 'bulk': how many values and letters a reading holds, each counted each time it is reached (what is shared counts as often as it is met; a slice's spare places count too). A statement '..UptoSaid' is the law's where the arguments, and the package variables that the reading takes, are together of bulk at most 1048576: NARROWER than '..Said'. Prove '..Said' where nothing that the law and all that it calls make is longer than what came in: it says more and counts as full. Else prove '..UptoSaid'. A law counts once. -/
mutual
def uptoBulk {H : Type} : DataW H → Nat
  | .lit (.string bytes) => bytes.length + 1
  | .lit _ => 1
  | .nil => 1
  | .ptr d => uptoBulk d + 1
  | .slice elems spare => uptoBulkAll elems + uptoBulkAll spare + 1
  | .agg parts => uptoBulkAll parts + 1
  | .iface _ d => uptoBulk d + 1
  | .map entries => uptoBulkEntries entries + 1
  | .held _ => 1
def uptoBulkAll {H : Type} : List (DataW H) → Nat
  | [] => 0
  | d :: r => uptoBulk d + uptoBulkAll r
def uptoBulkEntries {H : Type} : List (Lit × DataW H) → Nat
  | [] => 0
  | x :: r => uptoBulkEntry x + uptoBulkEntries r
def uptoBulkEntry {H : Type} : Lit × DataW H → Nat
  | (.string bytes, d) => bytes.length + uptoBulk d + 1
  | (_, d) => uptoBulk d + 1
 end
def uptoSmall : (H : Type) → List (DataW H) → Bool := fun _ ds => decide (uptoBulkAll ds ≤ 1048576)
def OpenSpec.upto (s : _root_.Go.ChangeSpec) : _root_.Go.OpenSpec := { _root_.Go.OpenSpec.ofChange s with cond := some uptoSmall }

/-- 'laws.FnExactCtxNew', WHERE WHAT IT READS IS OF BULK AT MOST 1048576: true; the input reads as it did. -/
def fnExactCtxNewUptoRow : OpenClaim := { program := "ytbcojkadfbpmgaa", sum := "351f123b049a71a1e592227e38bb8b7cfadd65f0c182cb78731febc9e2f129e1", func := "loop.example/seedlip/laws.FnExactCtxNew", spec := "fnExactCtxNew", recurses := true, plainKeys := false, apart := false, narrowed := true }
def FnExactCtxNewUptoSaid : Prop := fnExactCtxNewUptoRow.holds Try.pinned (OpenSpec.upto fnExactCtxNewSpec)

/-- 'laws.FnExactCtxSame', WHERE WHAT IT READS IS OF BULK AT MOST 1048576: true; the input reads as it did. -/
def fnExactCtxSameUptoRow : OpenClaim := { program := "ytbcojkadfbpmgaa", sum := "351f123b049a71a1e592227e38bb8b7cfadd65f0c182cb78731febc9e2f129e1", func := "loop.example/seedlip/laws.FnExactCtxSame", spec := "fnExactCtxSame", unfollowed := true, recurses := true, loops := true, plainKeys := false, apart := false, narrowed := true }
def FnExactCtxSameUptoSaid : Prop := fnExactCtxSameUptoRow.holds Try.pinned (OpenSpec.upto fnExactCtxSameSpec)

end Rows
end Go.Proofs.Ytbcojkadfbpmgaa
