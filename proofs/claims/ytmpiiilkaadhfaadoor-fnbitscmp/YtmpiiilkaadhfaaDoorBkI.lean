/- errors.Is at a sentinel and at nil; what the program's sentinels are in memory. -/
import Derived.Test.YtmpiiilkaadhfaaDoorRd
import Derived.LaidEql
import Derived.Stop.Asserts
import Derived.RowKitTokens
namespace Go.Proofs.YtmpiiilkaadhfaaDoor
open Go.ChangeShapes Go.WideShapes Go.ChangeAt Go.RowKit Go.Joins
open Go.Extern.Stop Go.Stop Go.Extern
set_option linter.unusedVariables false
set_option maxRecDepth 100000
set_option linter.unusedSimpArgs false

theorem isTypeOf (v : Value) (w : World) : (Extern.ReflectliteType.typeOf #[.iface 168 v]).run Tryd.prog w = .ok (.iface 158 (.agg #[.pointer (some ⟨2, 168, none⟩)])) w := by kernel_rfl
theorem isComparable (w : World) : ((Extern.ReflectliteType.method fun t => do Rtype.noPackHeld "Comparable" t; pure (.bool (← typeInfo t).comparable)) #[.agg #[.pointer (some ⟨2, 168, none⟩)]]).run Tryd.prog w = .ok (.bool true) w := by kernel_rfl
theorem isMethodComparable (v : Value) (w : World) : (Go.method 308 158 v "Comparable").run Tryd.prog w = .ok (135, v) w := by kernel_rfl
theorem isComp : (Tryd.prog.info? 168).map (·.comparable) = some true := by kernel_rfl
theorem isSize : (Tryd.prog.info? 196).map (·.size) = some 1 := by kernel_rfl
theorem is_same (a : Addr) (w : World) :
    Calls Tryd.prog 109 #[.iface 168 (.pointer (some a)), .iface 168 (.pointer (some a))] w fun e w' => e = .returned (.bool true) ∧ w' = w := by
  obtain ⟨i, hi, hcmp⟩ := Option.map_eq_some_iff.1 isComp
  obtain ⟨j, hj, hjs⟩ := Option.map_eq_some_iff.1 isSize
  have h8 : ∀ w, (callFunc 112 #[.iface 168 (.pointer (some a))]).run Tryd.prog w = .ok (.value (.iface 158 (.agg #[.pointer (some ⟨2, 168, none⟩)]))) w := fun w => by
    rw [@run_callFunc_extern Tryd.prog 112 _ Extern.ReflectliteType.typeOf Tryd.func112 (by kernel_rfl) (by kernel_rfl) (by kernel_rfl) (by kernel_rfl), isTypeOf]; rfl
  have h32 : ∀ w, (callFunc 135 #[.agg #[.pointer (some ⟨2, 168, none⟩)]]).run Tryd.prog w = .ok (.value (.bool true)) w := fun w => by
    rw [@run_callFunc_extern Tryd.prog 135 _ (Extern.ReflectliteType.method fun t => do Rtype.noPackHeld "Comparable" t; pure (.bool (← typeInfo t).comparable)) Tryd.func135 (by kernel_rfl) (by kernel_rfl) (by kernel_rfl) (by kernel_rfl), isComparable]; rfl
  have mR := isMethodComparable
  have heq := run_eql_iface_ptr_same (P := Tryd.prog) w a Tryd.underlying111 Tryd.underlying168 hi hcmp hj
  go_enter Tryd.func109, Tryd.ntmps109
  go_wp2_with fail
  refine Calls.mono (?_ : Calls Tryd.prog 113 #[.iface 168 (.pointer (some a)), .iface 168 (.pointer (some a)), .bool true] w fun e w' => e = .returned (.bool true) ∧ w' = w) ?_
  · go_enter Tryd.func113, Tryd.ntmps113
    go_wp2
    refine wp_loop_rounds 1 ?_
    rw [rounds_succ]
    go_wp2
    go_ret
    exact ⟨rfl, rfl⟩
  · rintro e w1 ⟨rfl, rfl⟩
    go_wp2
    go_ret
    exact ⟨rfl, rfl⟩
theorem is_nil (b : Addr) (w : World) :
    Calls Tryd.prog 109 #[.nilIface, .iface 168 (.pointer (some b))] w fun e w' => e = .returned (.bool false) ∧ w' = w := by
  have hn := run_eql_iface_nil_left (P := Tryd.prog) w 168 (.pointer (some b)) Tryd.underlying111
  go_enter Tryd.func109, Tryd.ntmps109
  go_wp2
  go_ret
  exact ⟨rfl, rfl⟩
/-- The two sentinels, where they are: below a place. -/
structure Sent (w : World) (base : Nat) (aF aR : Addr) : Prop where
  f : w.cell? ⟨0, 0, none⟩ = some (.iface 168 (.pointer (some aF)))
  r : w.cell? ⟨1, 0, none⟩ = some (.iface 168 (.pointer (some aR)))
  b : 2 ≤ base
theorem Sent.below {w w' : World} {base B : Nat} {aF aR : Addr} (h : Sent w base aF aR) (hb : Below B w w') (hB : base ≤ B) : Sent w' base aF aR :=
  ⟨(hb.cell (p := ⟨0, 0, none⟩) (by have := h.b; simp only; omega)).trans h.f, (hb.cell (p := ⟨1, 0, none⟩) (by have := h.b; simp only; omega)).trans h.r, h.b⟩
theorem Sent.drew {w : World} {base : Nat} {aF aR : Addr} (h : Sent w base aF aR) : Sent w.drew base aF aR := ⟨h.f, h.r, h.b⟩
end Go.Proofs.YtmpiiilkaadhfaaDoor
