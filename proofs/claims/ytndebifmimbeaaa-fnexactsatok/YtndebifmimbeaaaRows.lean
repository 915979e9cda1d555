/-
  No cell of these rows narrows 'for every input' (looked for: loops, veiled, ifaces, maps, wideKeys, modest, calm, conditions, laid).
  DERIVED. THE GIVEN ROWS OF THIS SEAT. 6 by the template 'for every input the law returns true; each argument reads behind the call as it read before'; 0 by the template 'total and deterministic' (their statements: YtndebifmimbeaaaTotals.lean).
  GIVEN WITH THE SEED: the statements are not yours to turn. If you find one false, say at which input.
  Laid BY PROGRAM, IN A SANDBOX (cutbox-rows.mjs): the forced cells as the released guide's own fill.sh prints them over the translation 1823a2aeff96a646… (all of the seat's roots in one cut). By AI agents, Wed Nov 11 2026. No macro, syntax, notation, axiom, sorry.
-/
import Derived.Test.YtndebifmimbeaaaChecked
import GoSem.Claim
import GoSem.ClaimJoined
import GoSem.ClaimMapViews
import Derived.JoinedTies
import Derived.KernelRfl
namespace Go.Proofs.Ytndebifmimbeaaa
/- THE CELL 'sum', in the pinned program and in every row, IS THE sha256 OF THE DUMP (.gsa) THAT YtndebifmimbeaaaProg.lean LOADS. Nothing in Lean hashes anything: it is a label: what it is worth is what the hold of that sum in a sandbox is worth. -/
noncomputable def Try.pinned : Pinned := { name := "ytndebifmimbeaaa", sum := "1823a2aeff96a646436a597fc8fc46172f4f6965a7880300f0d18b0c6e6306ff", checked := Try.checked }
namespace Rows
def none {H : Type} : Left H := { results := [], args := [] }

/-- 'laws.FnExactCnfOk': WHATEVER THE INPUT: true; the input reads as it did. -/
def fnExactCnfOkSpec : ChangeSpec := { name := "fnExactCnfOk", fn := fun _ => fun
  | [d] => { results := [.lit (.bool true)], args := [d] }
  | _ => none }
def fnExactCnfOkRow : OpenClaim := { program := "ytndebifmimbeaaa", sum := "1823a2aeff96a646436a597fc8fc46172f4f6965a7880300f0d18b0c6e6306ff", func := "loop.example/seedlip/laws.FnExactCnfOk", spec := "fnExactCnfOk", apart := false }
def FnExactCnfOkSaid : Prop := fnExactCnfOkRow.holds Try.pinned (OpenSpec.ofChange fnExactCnfOkSpec)

/-- ITS FALSE NEIGHBOUR: 'it returns false'. Refute it at one input. -/
def fnExactCnfOkWrong : ChangeSpec := { name := "fnExactCnfOk", fn := fun _ => fun
  | [d] => { results := [.lit (.bool false)], args := [d] }
  | _ => none }
def FnExactCnfOkWrongFalsely : Prop := fnExactCnfOkRow.holds Try.pinned (OpenSpec.ofChange fnExactCnfOkWrong)

/-- 'laws.FnExactCnfSame': WHATEVER THE INPUT: true; the input reads as it did. -/
def fnExactCnfSameSpec : ChangeSpec := { name := "fnExactCnfSame", fn := fun _ => fun
  | [d1, d2] => { results := [.lit (.bool true)], args := [d1, d2] }
  | _ => none }
def fnExactCnfSameRow : OpenClaim := { program := "ytndebifmimbeaaa", sum := "1823a2aeff96a646436a597fc8fc46172f4f6965a7880300f0d18b0c6e6306ff", func := "loop.example/seedlip/laws.FnExactCnfSame", spec := "fnExactCnfSame", apart := false }
def FnExactCnfSameSaid : Prop := fnExactCnfSameRow.holds Try.pinned (OpenSpec.ofChange fnExactCnfSameSpec)

/-- ITS FALSE NEIGHBOUR: 'it returns false'. Refute it at one input. -/
def fnExactCnfSameWrong : ChangeSpec := { name := "fnExactCnfSame", fn := fun _ => fun
  | [d1, d2] => { results := [.lit (.bool false)], args := [d1, d2] }
  | _ => none }
def FnExactCnfSameWrongFalsely : Prop := fnExactCnfSameRow.holds Try.pinned (OpenSpec.ofChange fnExactCnfSameWrong)

/-- 'laws.FnExactClauseHas': WHATEVER THE INPUT: true; the input reads as it did. -/
def fnExactClauseHasSpec : ChangeSpec := { name := "fnExactClauseHas", fn := fun _ => fun
  | [d1, d2] => { results := [.lit (.bool true)], args := [d1, d2] }
  | _ => none }
def fnExactClauseHasRow : OpenClaim := { program := "ytndebifmimbeaaa", sum := "1823a2aeff96a646436a597fc8fc46172f4f6965a7880300f0d18b0c6e6306ff", func := "loop.example/seedlip/laws.FnExactClauseHas", spec := "fnExactClauseHas", apart := false }
def FnExactClauseHasSaid : Prop := fnExactClauseHasRow.holds Try.pinned (OpenSpec.ofChange fnExactClauseHasSpec)

/-- ITS FALSE NEIGHBOUR: 'it returns false'. Refute it at one input. -/
def fnExactClauseHasWrong : ChangeSpec := { name := "fnExactClauseHas", fn := fun _ => fun
  | [d1, d2] => { results := [.lit (.bool false)], args := [d1, d2] }
  | _ => none }
def FnExactClauseHasWrongFalsely : Prop := fnExactClauseHasRow.holds Try.pinned (OpenSpec.ofChange fnExactClauseHasWrong)

/-- 'laws.FnExactCnfHas': WHATEVER THE INPUT: true; the input reads as it did. -/
def fnExactCnfHasSpec : ChangeSpec := { name := "fnExactCnfHas", fn := fun _ => fun
  | [d1, d2] => { results := [.lit (.bool true)], args := [d1, d2] }
  | _ => none }
def fnExactCnfHasRow : OpenClaim := { program := "ytndebifmimbeaaa", sum := "1823a2aeff96a646436a597fc8fc46172f4f6965a7880300f0d18b0c6e6306ff", func := "loop.example/seedlip/laws.FnExactCnfHas", spec := "fnExactCnfHas", apart := false }
def FnExactCnfHasSaid : Prop := fnExactCnfHasRow.holds Try.pinned (OpenSpec.ofChange fnExactCnfHasSpec)

/-- ITS FALSE NEIGHBOUR: 'it returns false'. Refute it at one input. -/
def fnExactCnfHasWrong : ChangeSpec := { name := "fnExactCnfHas", fn := fun _ => fun
  | [d1, d2] => { results := [.lit (.bool false)], args := [d1, d2] }
  | _ => none }
def FnExactCnfHasWrongFalsely : Prop := fnExactCnfHasRow.holds Try.pinned (OpenSpec.ofChange fnExactCnfHasWrong)

/-- 'laws.FnExactCnfLeast': WHATEVER THE INPUT: true; the input reads as it did. -/
def fnExactCnfLeastSpec : ChangeSpec := { name := "fnExactCnfLeast", fn := fun _ => fun
  | [d] => { results := [.lit (.bool true)], args := [d] }
  | _ => none }
def fnExactCnfLeastRow : OpenClaim := { program := "ytndebifmimbeaaa", sum := "1823a2aeff96a646436a597fc8fc46172f4f6965a7880300f0d18b0c6e6306ff", func := "loop.example/seedlip/laws.FnExactCnfLeast", spec := "fnExactCnfLeast", apart := false }
def FnExactCnfLeastSaid : Prop := fnExactCnfLeastRow.holds Try.pinned (OpenSpec.ofChange fnExactCnfLeastSpec)

/-- ITS FALSE NEIGHBOUR: 'it returns false'. Refute it at one input. -/
def fnExactCnfLeastWrong : ChangeSpec := { name := "fnExactCnfLeast", fn := fun _ => fun
  | [d] => { results := [.lit (.bool false)], args := [d] }
  | _ => none }
def FnExactCnfLeastWrongFalsely : Prop := fnExactCnfLeastRow.holds Try.pinned (OpenSpec.ofChange fnExactCnfLeastWrong)

/-- 'laws.FnExactSatOk': WHATEVER THE INPUT: true; the input reads as it did. -/
def fnExactSatOkSpec : ChangeSpec := { name := "fnExactSatOk", fn := fun _ => fun
  | [d1, d2] => { results := [.lit (.bool true)], args := [d1, d2] }
  | _ => none }
def fnExactSatOkRow : OpenClaim := { program := "ytndebifmimbeaaa", sum := "1823a2aeff96a646436a597fc8fc46172f4f6965a7880300f0d18b0c6e6306ff", func := "loop.example/seedlip/laws.FnExactSatOk", spec := "fnExactSatOk", apart := false }
def FnExactSatOkSaid : Prop := fnExactSatOkRow.holds Try.pinned (OpenSpec.ofChange fnExactSatOkSpec)

/-- ITS FALSE NEIGHBOUR: 'it returns false'. Refute it at one input. -/
def fnExactSatOkWrong : ChangeSpec := { name := "fnExactSatOk", fn := fun _ => fun
  | [d1, d2] => { results := [.lit (.bool false)], args := [d1, d2] }
  | _ => none }
def FnExactSatOkWrongFalsely : Prop := fnExactSatOkRow.holds Try.pinned (OpenSpec.ofChange fnExactSatOkWrong)

/- THE SECOND FORM. 'bulk': how many values and letters a reading holds, each counted each time it is reached (what is shared counts as often as it is met; a slice's spare places count too). A statement '..UptoSaid' is the law's where the arguments, and the package variables that the reading takes, are together of bulk at most 1048576: NARROWER than '..Said'. Prove '..Said' where nothing that the law and all that it calls make is longer than what came in: it says more and counts as full. Else prove '..UptoSaid'. A law counts once. -/
mutual
def uptoBulk {H : Type} : DataW H → Nat
  | .lit (.string bytes) => bytes.length + 1
  | .lit _ => 1
  | .nil => 1
  | .ptr d => uptoBulk d + 1
  | .slice elems spare => uptoBulkAll elems + uptoBulkAll spare + 1
  | .agg parts => uptoBulkAll parts + 1
  | .iface _ d => uptoBulk d + 1
  | .map entries => uptoBulkEntries entries + 1
  | .held _ => 1
def uptoBulkAll {H : Type} : List (DataW H) → Nat
  | [] => 0
  | d :: r => uptoBulk d + uptoBulkAll r
def uptoBulkEntries {H : Type} : List (Lit × DataW H) → Nat
  | [] => 0
  | x :: r => uptoBulkEntry x + uptoBulkEntries r
def uptoBulkEntry {H : Type} : Lit × DataW H → Nat
  | (.string bytes, d) => bytes.length + uptoBulk d + 1
  | (_, d) => uptoBulk d + 1
 end
def uptoSmall : (H : Type) → List (DataW H) → Bool := fun _ ds => decide (uptoBulkAll ds ≤ 1048576)
def OpenSpec.upto (s : _root_.Go.ChangeSpec) : _root_.Go.OpenSpec := { _root_.Go.OpenSpec.ofChange s with cond := some uptoSmall }

/-- 'laws.FnExactCnfOk', WHERE WHAT IT READS IS OF BULK AT MOST 1048576: true; the input reads as it did. -/
def fnExactCnfOkUptoRow : OpenClaim := { program := "ytndebifmimbeaaa", sum := "1823a2aeff96a646436a597fc8fc46172f4f6965a7880300f0d18b0c6e6306ff", func := "loop.example/seedlip/laws.FnExactCnfOk", spec := "fnExactCnfOk", apart := false, narrowed := true }
def FnExactCnfOkUptoSaid : Prop := fnExactCnfOkUptoRow.holds Try.pinned (OpenSpec.upto fnExactCnfOkSpec)

/-- 'laws.FnExactCnfSame', WHERE WHAT IT READS IS OF BULK AT MOST 1048576: true; the input reads as it did. -/
def fnExactCnfSameUptoRow : OpenClaim := { program := "ytndebifmimbeaaa", sum := "1823a2aeff96a646436a597fc8fc46172f4f6965a7880300f0d18b0c6e6306ff", func := "loop.example/seedlip/laws.FnExactCnfSame", spec := "fnExactCnfSame", apart := false, narrowed := true }
def FnExactCnfSameUptoSaid : Prop := fnExactCnfSameUptoRow.holds Try.pinned (OpenSpec.upto fnExactCnfSameSpec)

/-- 'laws.FnExactClauseHas', WHERE WHAT IT READS IS OF BULK AT MOST 1048576: true; the input reads as it did. -/
def fnExactClauseHasUptoRow : OpenClaim := { program := "ytndebifmimbeaaa", sum := "1823a2aeff96a646436a597fc8fc46172f4f6965a7880300f0d18b0c6e6306ff", func := "loop.example/seedlip/laws.FnExactClauseHas", spec := "fnExactClauseHas", apart := false, narrowed := true }
def FnExactClauseHasUptoSaid : Prop := fnExactClauseHasUptoRow.holds Try.pinned (OpenSpec.upto fnExactClauseHasSpec)

/-- 'laws.FnExactCnfHas', WHERE WHAT IT READS IS OF BULK AT MOST 1048576: true; the input reads as it did. -/
def fnExactCnfHasUptoRow : OpenClaim := { program := "ytndebifmimbeaaa", sum := "1823a2aeff96a646436a597fc8fc46172f4f6965a7880300f0d18b0c6e6306ff", func := "loop.example/seedlip/laws.FnExactCnfHas", spec := "fnExactCnfHas", apart := false, narrowed := true }
def FnExactCnfHasUptoSaid : Prop := fnExactCnfHasUptoRow.holds Try.pinned (OpenSpec.upto fnExactCnfHasSpec)

/-- 'laws.FnExactCnfLeast', WHERE WHAT IT READS IS OF BULK AT MOST 1048576: true; the input reads as it did. -/
def fnExactCnfLeastUptoRow : OpenClaim := { program := "ytndebifmimbeaaa", sum := "1823a2aeff96a646436a597fc8fc46172f4f6965a7880300f0d18b0c6e6306ff", func := "loop.example/seedlip/laws.FnExactCnfLeast", spec := "fnExactCnfLeast", apart := false, narrowed := true }
def FnExactCnfLeastUptoSaid : Prop := fnExactCnfLeastUptoRow.holds Try.pinned (OpenSpec.upto fnExactCnfLeastSpec)

/-- 'laws.FnExactSatOk', WHERE WHAT IT READS IS OF BULK AT MOST 1048576: true; the input reads as it did. -/
def fnExactSatOkUptoRow : OpenClaim := { program := "ytndebifmimbeaaa", sum := "1823a2aeff96a646436a597fc8fc46172f4f6965a7880300f0d18b0c6e6306ff", func := "loop.example/seedlip/laws.FnExactSatOk", spec := "fnExactSatOk", apart := false, narrowed := true }
def FnExactSatOkUptoSaid : Prop := fnExactSatOkUptoRow.holds Try.pinned (OpenSpec.upto fnExactSatOkSpec)

end Rows
end Go.Proofs.Ytndebifmimbeaaa
