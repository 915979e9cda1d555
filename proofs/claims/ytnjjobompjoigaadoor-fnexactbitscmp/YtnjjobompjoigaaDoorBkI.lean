/- errors.Is at a sentinel and at nil; what the program's sentinels are in memory. -/
import Derived.Test.YtnjjobompjoigaaDoorRd
import Derived.LaidEql
import Derived.Stop.Asserts
import Derived.RowKitTokens
namespace Go.Proofs.YtnjjobompjoigaaDoor
open Go.ChangeShapes Go.WideShapes Go.ChangeAt Go.RowKit Go.Joins
open Go.Extern.Stop Go.Stop Go.Extern
set_option linter.unusedVariables false
set_option maxRecDepth 100000
set_option linter.unusedSimpArgs false

theorem isTypeOf (v : Value) (w : World) : (Extern.ReflectliteType.typeOf #[.iface 114 v]).run Tryd.prog w = .ok (.iface 104 (.agg #[.pointer (some ⟨2, 114, none⟩)])) w := by kernel_rfl
theorem isComparable (w : World) : ((Extern.ReflectliteType.method fun t => do Rtype.noPackHeld "Comparable" t; pure (.bool (← typeInfo t).comparable)) #[.agg #[.pointer (some ⟨2, 114, none⟩)]]).run Tryd.prog w = .ok (.bool true) w := by kernel_rfl
theorem isMethodComparable (v : Value) (w : World) : (Go.method 254 104 v "Comparable").run Tryd.prog w = .ok (88, v) w := by kernel_rfl
theorem isComp : (Tryd.prog.info? 114).map (·.comparable) = some true := by kernel_rfl
theorem isSize : (Tryd.prog.info? 142).map (·.size) = some 1 := by kernel_rfl
theorem is_same (a : Addr) (w : World) :
    Calls Tryd.prog 63 #[.iface 114 (.pointer (some a)), .iface 114 (.pointer (some a))] w fun e w' => e = .returned (.bool true) ∧ w' = w := by
  obtain ⟨i, hi, hcmp⟩ := Option.map_eq_some_iff.1 isComp
  obtain ⟨j, hj, hjs⟩ := Option.map_eq_some_iff.1 isSize
  have h8 : ∀ w, (callFunc 66 #[.iface 114 (.pointer (some a))]).run Tryd.prog w = .ok (.value (.iface 104 (.agg #[.pointer (some ⟨2, 114, none⟩)]))) w := fun w => by
    rw [@run_callFunc_extern Tryd.prog 66 _ Extern.ReflectliteType.typeOf Tryd.func66 (by kernel_rfl) (by kernel_rfl) (by kernel_rfl) (by kernel_rfl), isTypeOf]; rfl
  have h32 : ∀ w, (callFunc 88 #[.agg #[.pointer (some ⟨2, 114, none⟩)]]).run Tryd.prog w = .ok (.value (.bool true)) w := fun w => by
    rw [@run_callFunc_extern Tryd.prog 88 _ (Extern.ReflectliteType.method fun t => do Rtype.noPackHeld "Comparable" t; pure (.bool (← typeInfo t).comparable)) Tryd.func88 (by kernel_rfl) (by kernel_rfl) (by kernel_rfl) (by kernel_rfl), isComparable]; rfl
  have mR := isMethodComparable
  have heq := run_eql_iface_ptr_same (P := Tryd.prog) w a Tryd.underlying68 Tryd.underlying114 hi hcmp hj
  go_enter Tryd.func63, Tryd.ntmps63
  go_wp2_with fail
  refine Calls.mono (?_ : Calls Tryd.prog 67 #[.iface 114 (.pointer (some a)), .iface 114 (.pointer (some a)), .bool true] w fun e w' => e = .returned (.bool true) ∧ w' = w) ?_
  · go_enter Tryd.func67, Tryd.ntmps67
    go_wp2
    refine wp_loop_rounds 1 ?_
    rw [rounds_succ]
    go_wp2
    go_ret
    exact ⟨rfl, rfl⟩
  · rintro e w1 ⟨rfl, rfl⟩
    go_wp2
    go_ret
    exact ⟨rfl, rfl⟩
theorem is_nil (b : Addr) (w : World) :
    Calls Tryd.prog 63 #[.nilIface, .iface 114 (.pointer (some b))] w fun e w' => e = .returned (.bool false) ∧ w' = w := by
  have hn := run_eql_iface_nil_left (P := Tryd.prog) w 114 (.pointer (some b)) Tryd.underlying68
  go_enter Tryd.func63, Tryd.ntmps63
  go_wp2
  go_ret
  exact ⟨rfl, rfl⟩
/-- The two sentinels, where they are: below a place. -/
structure Sent (w : World) (base : Nat) (aF aR : Addr) : Prop where
  f : w.cell? ⟨0, 0, none⟩ = some (.iface 114 (.pointer (some aF)))
  r : w.cell? ⟨1, 0, none⟩ = some (.iface 114 (.pointer (some aR)))
  b : 2 ≤ base
theorem Sent.below {w w' : World} {base B : Nat} {aF aR : Addr} (h : Sent w base aF aR) (hb : Below B w w') (hB : base ≤ B) : Sent w' base aF aR :=
  ⟨(hb.cell (p := ⟨0, 0, none⟩) (by have := h.b; simp only; omega)).trans h.f, (hb.cell (p := ⟨1, 0, none⟩) (by have := h.b; simp only; omega)).trans h.r, h.b⟩
theorem Sent.drew {w : World} {base : Nat} {aF aR : Addr} (h : Sent w base aF aR) : Sent w.drew base aF aR := ⟨h.f, h.r, h.b⟩
end Go.Proofs.YtnjjobompjoigaaDoor
