/- At every argument the program's VecRead answers as the model's, field by field: the law FnExactVecRead returns true for every text, and leaves it as it was. No condition (the law itself answers true where the text takes more than 1048576 bytes). -/
import Derived.Test.YtbfechcncgoopasVecR
import Derived.Test.YtbfechcncgoopasVecX
import Derived.ShutString
namespace Go.Proofs.Ytbfechcncgoopas
open Go.ChangeShapes Go.WideShapes Go.ChangeAt Go.RowKit Go.Joins
open Go.ChangeMaps (open_string shut_string)
set_option linter.unusedVariables false

namespace exRead
set_option maxHeartbeats 2000000 in
theorem walk (s : ByteArray) (w : World) (ws : s.size ≤ maxLen) :
    Calls Try.prog 3 #[.string s] w fun e w' => e = .returned (.bool true) ∧ Below w.heap.size w w' := by
  by_cases hbig : 1048576 < s.size
  · go_enter Try.func3, Try.ntmps3
    go_wp2
    go_ret
    exact ⟨rfl, Below.refl _ _⟩
  · obtain ⟨c, d, t, hs, hi⟩ : ∃ c d t, (∀ w, Calls Try.prog 5 #[.string s] w fun e w' => e = .returned (.tuple #[.agg #[.int .i64 c, .int .i64 d], .bool t]) ∧ Below w.heap.size w w') ∧ (∀ w, Calls Try.prog 6 #[.string s] w fun e w' => e = .returned (.tuple #[.agg #[.int .i64 c, .int .i64 d], .bool t]) ∧ Below w.heap.size w w') := by
      by_cases g : Good s
      · refine ⟨(s.size : Int) - 1, valR s (s.size - 1), true, fun w => ?_, fun w => ?_⟩
        · exact (sVecRead_any s w (by omega)).mono fun e w' h => ⟨(h.1.resolve_right (fun k => k.1 g)).2, h.2⟩
        · exact (iVecRead_any s w (by omega)).mono fun e w' h => ⟨(h.1.resolve_right (fun k => k.1 g)).2, h.2⟩
      · refine ⟨0, 0, false, fun w => ?_, fun w => ?_⟩
        · exact (sVecRead_any s w (by omega)).mono fun e w' h => ⟨(h.1.resolve_left (fun k => g k.1)).2, h.2⟩
        · exact (iVecRead_any s w (by omega)).mono fun e w' h => ⟨(h.1.resolve_left (fun k => g k.1)).2, h.2⟩
    have HS := hide hs
    have HI := hide hi
    clear hs hi
    have ht : (t != t) = false := by simp
    go_enter Try.func3, Try.ntmps3
    go_wp2_with fail
    refine (unhide HS _).mono ?_
    rintro e w1 ⟨rfl, b1⟩
    go_wp2_with fail
    refine (unhide HI _).mono ?_
    rintro e w2 ⟨rfl, b2⟩
    have q0 : w2.cell? ⟨w1.heap.size, 0, none⟩ = some (.int .i64 c) := cell_later b2 (by simp [go_sem])
    have q1 : w2.cell? ⟨w1.heap.size, 1, none⟩ = some (.int .i64 d) := cell_later b2 (by simp [go_sem])
    have lq := World.block_lt_of_cell? _ _ q0
    simp only at lq
    simp only [World.size_alloc] at b2
    have z1 := b1.size
    go_wp2_with fail
    refine (eqVec_same _ _ _).mono ?_
    rintro e w3 ⟨rfl, b3⟩
    simp only [World.size_alloc] at b3
    go_wp2
    go_ret
    exact ⟨rfl, (((b1.alloc z1 _).trans (b2.mono (by omega))).alloc (by omega) _).trans (b3.mono (by omega))⟩

set_option maxRecDepth 100000 in
theorem lifted (os : Os) (started : os.Started) (H : Type) (enc : TypeId × Value → H) :
    ReturnsInHanded {} Try.checked os 3 .any (Rows.fnExactVecReadSpec.pre6 enc Try.prog Try.f3 Rows.fnExactVecReadRow.domain false) (Rows.fnExactVecReadSpec.post enc Try.prog Try.f3 false true false false) := by
  refine returnsInHanded_of_change (C := Try.checked) own started (by kernel_rfl) Try.func3
    (ChangeSpec.witness6 (enc := enc) (C := Try.checked) false ⟨#[], #[.string ByteArray.empty], []⟩ 8 (by kernel_rfl) (by kernel_rfl) (by kernel_rfl) (by kernel_rfl)) ?_
  intro W base args ds gs before hval0 hW hcnd _
  have hval : ∀ (j : Nat) t v, Try.f3.params[j]? = some t → args[j]? = some v → Value.okWide Try.prog W .any base t v := hval0
  have hW' := hW
  obtain ⟨p, q, hA0, hV, rfl, hfz, hnd⟩ := hW
  have hA : DataW.TrodAll enc Try.prog W 0 (fun _ => true) true Try.f3.params.toList args.toList ds p := hA0
  rw [Try.params3] at hA hval
  obtain ⟨v0, vs0, d0, ds0, p0, q0, hargs, rfl, rfl, h0, r0⟩ := trodAll_cons hA
  obtain ⟨rfl, rfl, rfl⟩ := trodAll_nil r0
  obtain rfl : args = #[v0] := by cases args; simp_all
  obtain ⟨rfl, rfl⟩ := trodVars_none hV
  obtain ⟨s, rfl, rfl, rfl, ws⟩ := open_string Try.underlying9 (hval 0 9 v0 rfl rfl) h0
  clear hA0 hval0
  refine (walk s W ws).mono fun e W' ⟨he, bel⟩ => ?_
  subst he
  exact ⟨_, rfl, _, _, _, [], _, [], hW', trodAll_mk1 (shut_bool Try.underlying4 _), (trodAll_cons_mk (shut_string Try.underlying9 ws) trodAll_mk0), rfl, bel.frame _, fun h => by cases h⟩

theorem over : Rows.fnExactVecReadRow.holds Try.pinned (OpenSpec.ofChange Rows.fnExactVecReadSpec) :=
  OpenClaim.holds_of_wide 3 Try.f3 rfl rfl rfl rfl rfl rfl rfl ⟨rfl, rfl, rfl, rfl, rfl⟩ rfl rfl rfl rfl rfl (by kernel_rfl) Try.func3 (by kernel_rfl)
    (of_decide_eq_true (by kernel_rfl)) (by unfold Func.isWrapper; first | (rw [if_pos (by decide +kernel)]; kernel_rfl) | (rw [if_neg (by decide +kernel)]; exact ⟨rfl, rfl⟩))
    (fun os started H enc _ => lifted os started H enc)
end exRead

theorem exRead_holds : Rows.FnExactVecReadSaid := exRead.over
#print axioms exRead_holds
end Go.Proofs.Ytbfechcncgoopas
