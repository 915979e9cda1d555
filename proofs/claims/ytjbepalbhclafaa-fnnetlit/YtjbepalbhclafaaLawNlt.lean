/- Turned marks say the opposite: the law FnNetLit returns true for every code of bytes, and leaves it as it was. No condition (the law itself answers true where the code is longer than 1048576 bytes). -/
import Derived.Test.YtjbepalbhclafaaNldA
import Derived.Test.YtjbepalbhclafaaRowC
namespace Go.Proofs.Ytjbepalbhclafaa
open Go.ChangeShapes Go.WideShapes Go.ChangeAt Go.RowKit Go.Joins
open Go.ChangeMaps (open_string shut_string)
set_option linter.unusedVariables false

theorem lone_has (v : Int) (V : Nat → Int) (n : Nat) (B : Nat → Bool) (h : V 0 = v) : hasB 1 V n B = metB v n B := by
  cases e : metB v n B
  · exact hasB_no (fun k hk => by have : k = 0 := by omega
                                  subst this; rw [h]; exact e)
  · exact hasB_yes ⟨0, by omega, by rw [h]; exact e⟩

namespace nLit
set_option maxHeartbeats 2000000 in
theorem walk (code : Option Addr) (lencode capcode : Nat) (zcode : List Int) (w : World) (wcode : IsRow .u8 w code lencode capcode zcode) :
    Calls Try.prog 4 #[.slice code lencode capcode] w fun e w' => e = .returned (.bool true) ∧ Below w.heap.size w w' := by
  obtain ⟨hby, hlc, hcm⟩ := wcode.byts
  by_cases hl : lencode ≤ 1048576
  · go_enter Try.func4, Try.ntmps4
    go_wp2_with fail
    refine (drawNetLit_any _ _ _ _ hl hlc hcm hby).mono ?_
    rintro e w1 ⟨q, N, k, m, rfl, hN, hm, hV, BL⟩
    have Y := hide hV
    clear hV wcode hby
    have kb : (metB m N (vls N k) != metB m N (vls N k)) = false := by simp
    go_wp2_with fail
    refine (iNetLit_any _ _ _ _ _ _ hm (unhide Y) (by omega)).mono ?_
    rintro e w2 ⟨rfl, rfl⟩
    go_wp2_with fail
    refine (sNetLit_any _ _ _ _ _ _ hm (unhide Y) (by omega)).mono ?_
    rintro e w3 ⟨rfl, rfl⟩
    rcases met_ways N m with ⟨j, hj, rfl⟩ | ⟨j, hj, rfl⟩ | ho
    · have e1 := met_pos (B := vls N k) hj
      have e2 := met_neg (B := vls N k) hj
      rw [e1] at kb
      rw [e1]
      have hmn : W64 (-((j : Int) + 1)) := by unfold W64; omega
      have nz : ((((j : Int) + 1) : Int) == 0) = false := by simp; omega
      have nn : -((j : Int) + 1) = -((j : Int) + 1) := by omega
      have k2 : ((!vls N k j) != (vls N k j)) = true := by cases vls N k j <;> rfl
      have k3 : ((vls N k j) == (vls N k j)) = true := by simp
      go_wp2_with fail
      (try rw [nn])
      refine (iNetLit_any _ _ _ _ _ _ hmn (unhide Y) (by omega)).mono ?_
      rintro e w4 ⟨rfl, rfl⟩
      rw [e2]
      go_wp2_with fail
      obtain ⟨wz, hwz⟩ : ∃ wz, wz = w4.alloc (.cells #[.int .i64 ((j : Int) + 1)] 3) := ⟨_, rfl⟩
      have BZ : Below w4.heap.size w4 wz := by rw [hwz]; exact (Below.refl _ _).alloc (Nat.le_refl _) _
      have I1 : IntsAt wz (some ⟨w4.heap.size, 0, none⟩) 1 (fun _ => (j : Int) + 1) := by
        refine Or.inr ⟨_, _, rfl, by rw [hwz]; simp, fun i hi => ?_⟩
        have : i = 0 := by omega
        subst this
        rw [hwz]; simp [go_sem]
      rw [← hwz]
      clear hwz
      refine (iClauseHas_any _ _ _ _ _ _ _ _ _ I1 (by omega) (fun i hi => by unfold W64; omega) ((unhide Y).later BZ) (by omega)).mono ?_
      rintro e w5 ⟨rfl, rfl⟩
      rw [lone_has _ _ _ _ rfl, e1]
      go_wp2
      go_ret
      exact ⟨ret_bool (by first | rfl | (cases vls N k j <;> rfl)), BL.trans (BZ.mono BL.size)⟩
    · have e1 := met_neg (B := vls N k) hj
      have e2 := met_pos (B := vls N k) hj
      rw [e1] at kb
      rw [e1]
      have hmn : W64 ((j : Int) + 1) := by unfold W64; omega
      have nz : (((-((j : Int) + 1)) : Int) == 0) = false := by simp; omega
      have nn : -(-((j : Int) + 1)) = (j : Int) + 1 := by omega
      have k2 : ((vls N k j) != (!vls N k j)) = true := by cases vls N k j <;> rfl
      have k3 : ((!vls N k j) == (!vls N k j)) = true := by simp
      go_wp2_with fail
      (try rw [nn])
      refine (iNetLit_any _ _ _ _ _ _ hmn (unhide Y) (by omega)).mono ?_
      rintro e w4 ⟨rfl, rfl⟩
      rw [e2]
      go_wp2_with fail
      obtain ⟨wz, hwz⟩ : ∃ wz, wz = w4.alloc (.cells #[.int .i64 (-((j : Int) + 1))] 3) := ⟨_, rfl⟩
      have BZ : Below w4.heap.size w4 wz := by rw [hwz]; exact (Below.refl _ _).alloc (Nat.le_refl _) _
      have I1 : IntsAt wz (some ⟨w4.heap.size, 0, none⟩) 1 (fun _ => -((j : Int) + 1)) := by
        refine Or.inr ⟨_, _, rfl, by rw [hwz]; simp, fun i hi => ?_⟩
        have : i = 0 := by omega
        subst this
        rw [hwz]; simp [go_sem]
      rw [← hwz]
      clear hwz
      refine (iClauseHas_any _ _ _ _ _ _ _ _ _ I1 (by omega) (fun i hi => by unfold W64; omega) ((unhide Y).later BZ) (by omega)).mono ?_
      rintro e w5 ⟨rfl, rfl⟩
      rw [lone_has _ _ _ _ rfl, e1]
      go_wp2
      go_ret
      exact ⟨ret_bool (by first | rfl | (cases vls N k j <;> rfl)), BL.trans (BZ.mono BL.size)⟩
    · rw [met_out ho] at kb
      rw [met_out ho]
      rcases ho with rfl | ho | ho
      all_goals
        go_wp2
        go_ret
        exact ⟨rfl, BL⟩
  · go_enter Try.func4, Try.ntmps4
    go_wp2
    go_ret
    exact ⟨rfl, (by repeat (first | exact Below.refl _ _ | assumption | refine below_drewN ?_ _ | refine Below.drew ?_ | refine Below.alloc ?_ (by first | exact Nat.le_refl _ | exact Below.size (by assumption) | (simp; done) | (simp; omega)) _ | refine Below.setCell ?_ (by first | exact Nat.le_refl _ | exact Below.size (by assumption) | (simp; done) | (simp; omega)) _ | refine Below.trans ?_ (by assumption)))⟩

set_option maxRecDepth 100000 in
theorem lifted (os : Os) (started : os.Started) (H : Type) (enc : TypeId × Value → H) :
    ReturnsInHanded {} Try.checked os 4 .any (Rows.fnNetLitSpec.pre6 enc Try.prog Try.f4 Rows.fnNetLitRow.domain false) (Rows.fnNetLitSpec.post enc Try.prog Try.f4 false true false false) := by
  refine returnsInHanded_of_change (C := Try.checked) own started (by kernel_rfl) Try.func4
    (ChangeSpec.witness6 (enc := enc) (C := Try.checked) false ⟨#[], #[.slice none 0 0], []⟩ 8 (by kernel_rfl) (by kernel_rfl) (by kernel_rfl) (by kernel_rfl)) ?_
  intro W base args ds gs before hval0 hW hcnd _
  have hval : ∀ (j : Nat) t v, Try.f4.params[j]? = some t → args[j]? = some v → Value.okWide Try.prog W .any base t v := hval0
  have hW' := hW
  obtain ⟨p, q, hA0, hV, rfl, hfz, hnd⟩ := hW
  have hA : DataW.TrodAll enc Try.prog W 0 (fun _ => true) true Try.f4.params.toList args.toList ds p := hA0
  rw [Try.params4] at hA hval
  obtain ⟨v0, vs0, d0, ds0, p0, q0, hargs, rfl, rfl, h0, r0⟩ := trodAll_cons hA
  obtain ⟨rfl, rfl, rfl⟩ := trodAll_nil r0
  obtain rfl : args = #[v0] := by cases args; simp_all
  obtain ⟨rfl, rfl⟩ := trodVars_none hV
  obtain ⟨code, lencode, capcode, rfl⟩ := okWide_slice Try.underlying22 (hval 0 22 v0 rfl rfl)
  have k0 := h0
  have lt0 : ∀ x ∈ p0, x.block < W.heap.size := by obtain ⟨m, hm⟩ := k0; exact DataW.trod_lt m _ _ _ hm
  obtain ⟨zcode, wcode⟩ : ∃ zs, IsRow .u8 W code lencode capcode zs := by
    obtain ⟨fuel, hf⟩ := h0
    rcases open_ints Try.underlying22 Try.underlying5 (by kernel_rfl) hf with ⟨hcs, _⟩ | ⟨x, l, c, zs, hcs, _, hl, hm, hz, _, hcell, hwz⟩
    · simp [Value.cells] at hcs
      obtain ⟨rfl, rfl, rfl⟩ := hcs
      exact ⟨[], .inl ⟨rfl, rfl, rfl, rfl⟩⟩
    · simp [Value.cells] at hcs
      obtain ⟨rfl, rfl, rfl⟩ := hcs
      exact ⟨zs, .inr ⟨_, rfl, hl, hm, by simpa using hz, hcell, hwz⟩⟩
  clear hA0 hval0
  refine (walk code lencode capcode zcode W wcode).mono fun e W' ⟨he, bel⟩ => ?_
  subst he
  exact ⟨_, rfl, _, _, _, [], _, [], hW', trodAll_mk1 (shut_bool Try.underlying4 _), (trodAll_cons_mk (Below.trod laidOut (by kernel_rfl) (of_decide_eq_true (by kernel_rfl)) k0 bel lt0) trodAll_mk0), rfl, bel.frame _, fun h => by cases h⟩

theorem over : Rows.fnNetLitRow.holds Try.pinned (OpenSpec.ofChange Rows.fnNetLitSpec) :=
  OpenClaim.holds_of_wide 4 Try.f4 rfl rfl rfl rfl rfl rfl rfl ⟨rfl, rfl, rfl, rfl, rfl⟩ rfl rfl rfl rfl rfl (by kernel_rfl) Try.func4 (by kernel_rfl)
    (of_decide_eq_true (by kernel_rfl)) (by unfold Func.isWrapper; first | (rw [if_pos (by decide +kernel)]; kernel_rfl) | (rw [if_neg (by decide +kernel)]; exact ⟨rfl, rfl⟩))
    (fun os started H enc _ => lifted os started H enc)
end nLit

theorem nLit_holds : Rows.FnNetLitSaid := nLit.over
#print axioms nLit_holds
end Go.Proofs.Ytjbepalbhclafaa
