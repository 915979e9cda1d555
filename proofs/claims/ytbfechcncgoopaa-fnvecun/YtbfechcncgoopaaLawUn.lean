/- Negations undo themselves: the law FnVecUn returns true for every code of bytes, and leaves it as it was. No condition (the law itself answers true where the code takes more than 1048576 bytes). -/
import Derived.Test.YtbfechcncgoopaaVecW
import Derived.Test.YtbfechcncgoopaaVecT
import Derived.Test.YtbfechcncgoopaaDrwB
import Derived.Test.YtbfechcncgoopaaRow
namespace Go.Proofs.Ytbfechcncgoopaa
open Go.ChangeShapes Go.WideShapes Go.ChangeAt Go.RowKit Go.Joins
open Go.ChangeMaps (open_string shut_string)
set_option linter.unusedVariables false
attribute [local go_sem ↓] Go.wp_at_zero Go.wp_at_succ

namespace vUn
set_option maxRecDepth 100000 in
set_option maxHeartbeats 4000000 in
theorem walk (code : Option Addr) (lencode capcode : Nat) (zcode : List Int) (w : World) (wcode : IsRow .u8 w code lencode capcode zcode) :
    Calls Try.prog 4 #[.slice code lencode capcode] w fun e w' => e = .returned (.bool true) ∧ Below w.heap.size w w' := by
  obtain ⟨hby, hlc, hcm⟩ := wcode.byts
  by_cases hbig : 1048576 < lencode
  · go_enter Try.func4, Try.ntmps4
    go_wp2
    go_ret
    exact ⟨rfl, Below.refl _ _⟩
  · have t0 : decide (1048576 < (lencode : Int)) = false := by simp; omega
    have HB := hide hby
    have HL := hide hcm
    clear hby wcode hcm
    go_enter Try.func4, Try.ntmps4
    go_wp2_with fail
    refine (drawUn_any _ _ _ _ (by omega) hlc (unhide HL) (unhide HB)).mono ?_
    rintro e w1 ⟨op, a, x, rfl, BL⟩
    clear HB
    have hs := fun w => sVecUn_any op a x w
    have hi := fun w => iVecUn_any op a x w
    by_cases hg : okB a x = true ∧ (op = 1 ∨ op = 2)
    · have hV := unV_yes hg.1 hg.2
      simp only [hV] at hs hi
      have HS := hide hs
      have HI := hide hi
      clear hs hi hV
      obtain ⟨hx, hop⟩ := hg
      obtain ⟨u1, u2, u3, u4, u5⟩ := un_facts hx
      have h1 := ok_one hx
      have kaa : (a == a) = true := by simp
      have hu : okB a (unN op a x) = true := by rcases hop with rfl | rfl <;> assumption
      have hbk : unN op a (unN op a x) = x := by rcases hop with rfl | rfl <;> assumption
      have c1 : (unN op a (unN op a x) == x) = true := by simpa using hbk
      have c2 : (unN 2 a x == binN 6 a (unN 1 a x) 1) = true := by simpa using u5
      clear u3 u4 u5 hbk
      go_wp2_with fail
      refine (unhide HI _).mono ?_
      rintro e w2 ⟨rfl, b2⟩
      have PB := ((Box.new w1 a x 24)).below b2
      replace BL := (BL.alloc (BL.size) (.cells #[.int .i64 a, .int .i64 x] 24)).trans (b2.mono (BL.alloc (BL.size) (.cells #[.int .i64 a, .int .i64 x] 24)).size)
      clear b2
      obtain ⟨PB0, PB1, _, _⟩ := id PB
      have PBl := PB.lt
      go_wp2_with fail
      refine (unhide HS _).mono ?_
      rintro e w3 ⟨rfl, b3⟩
      clear PB0 PB1 PBl
      replace PB := (PB.alloc _).below b3
      have XB := ((Box.new w2 a (unN op a x) 24)).below b3
      replace BL := (BL.alloc (BL.size) (.cells #[.int .i64 a, .int .i64 (unN op a x)] 24)).trans (b3.mono (BL.alloc (BL.size) (.cells #[.int .i64 a, .int .i64 (unN op a x)] 24)).size)
      clear b3
      obtain ⟨PB0, PB1, _, _⟩ := id PB
      have PBl := PB.lt
      obtain ⟨XB0, XB1, _, _⟩ := id XB
      have XBl := XB.lt
      go_wp2
      clear PB0 PB1 PBl XB0 XB1 XBl
      replace PB := PB.alloc (.cells #[.int .i64 a, .int .i64 (unN op a x)] 24)
      replace XB := XB.alloc (.cells #[.int .i64 a, .int .i64 (unN op a x)] 24)
      have YB := Box.new w3 a (unN op a x) 24
      replace BL := BL.alloc BL.size (.cells #[.int .i64 a, .int .i64 (unN op a x)] 24)
      replace PB := PB.alloc (.cells #[.int .i64 a, .int .i64 1] 24)
      replace XB := XB.alloc (.cells #[.int .i64 a, .int .i64 1] 24)
      replace YB := YB.alloc (.cells #[.int .i64 a, .int .i64 1] 24)
      have OB := Box.new (w3.alloc (.cells #[.int .i64 a, .int .i64 (unN op a x)] 24)) a 1 24
      simp only [World.size_alloc] at OB
      replace BL := BL.alloc BL.size (.cells #[.int .i64 a, .int .i64 1] 24)
      obtain ⟨PB0, PB1, _, _⟩ := id PB
      have PBl := PB.lt
      obtain ⟨XB0, XB1, _, _⟩ := id XB
      have XBl := XB.lt
      obtain ⟨YB0, YB1, _, _⟩ := id YB
      have YBl := YB.lt
      obtain ⟨OB0, OB1, _, _⟩ := id OB
      have OBl := OB.lt
      go_region_held3 (fun w' => w'.cell? ⟨w1.heap.size, 0, none⟩ = some (.int .i64 a) ∧ w'.cell? ⟨w1.heap.size, 1, none⟩ = some (.int .i64 x) ∧ w'.cell? ⟨w2.heap.size, 0, none⟩ = some (.int .i64 a) ∧ w'.cell? ⟨w2.heap.size, 1, none⟩ = some (.int .i64 (unN op a x)) ∧ w'.cell? ⟨w3.heap.size + 1, 0, none⟩ = some (.int .i64 a) ∧ w'.cell? ⟨w3.heap.size + 1, 1, none⟩ = some (.int .i64 1)) (first | go_keep | exact ⟨PB.1, PB.2.1, XB.1, XB.2.1, OB.1, OB.2.1⟩)
        (first | (go_at_call 13; refine (iVecOk_any _ _ _).mono ?_; rintro e wq ⟨rfl, bq⟩; have PB := (by first | exact PB.below bq | exact PB.drew.below bq); have XB := (by first | exact XB.below bq | exact XB.drew.below bq); have YB := (by first | exact YB.below bq | exact YB.drew.below bq); have OB := (by first | exact OB.below bq | exact OB.drew.below bq); have BL := (by first | exact BL.trans (bq.mono BL.size) | exact BL.drew.trans (bq.mono BL.size))) | (go_at_call_of 20 (Value.int .i64 op); refine (wpUn_ok hu hop _).mono ?_; rintro e wq ⟨rfl, bq⟩; have PB := (by first | exact PB.below bq | exact PB.drew.below bq); have XB := (by first | exact XB.below bq | exact XB.drew.below bq); have YB := (by first | exact YB.below bq | exact YB.drew.below bq); have OB := (by first | exact OB.below bq | exact OB.drew.below bq); have BL := (by first | exact BL.trans (bq.mono BL.size) | exact BL.drew.trans (bq.mono BL.size))) | (go_at_call_of 20 (Value.int .i64 2); refine (wpUn_ok hx (Or.inr rfl) _).mono ?_; rintro e wq ⟨rfl, bq⟩; have PB := (by first | exact PB.below bq | exact PB.drew.below bq); have XB := (by first | exact XB.below bq | exact XB.drew.below bq); have YB := (by first | exact YB.below bq | exact YB.drew.below bq); have OB := (by first | exact OB.below bq | exact OB.drew.below bq); have BL := (by first | exact BL.trans (bq.mono BL.size) | exact BL.drew.trans (bq.mono BL.size))) | (go_at_call_of 20 (Value.int .i64 1); refine (wpUn_ok hx (Or.inl rfl) _).mono ?_; rintro e wq ⟨rfl, bq⟩; have PB := (by first | exact PB.below bq | exact PB.drew.below bq); have XB := (by first | exact XB.below bq | exact XB.drew.below bq); have YB := (by first | exact YB.below bq | exact YB.drew.below bq); have OB := (by first | exact OB.below bq | exact OB.drew.below bq); have BL := (by first | exact BL.trans (bq.mono BL.size) | exact BL.drew.trans (bq.mono BL.size))) | (go_at_call 21; refine (wpBin_ok u1 h1 (by omega) (by omega) _).mono ?_; rintro e wq ⟨rfl, bq⟩; have PB := (by first | exact PB.below bq | exact PB.drew.below bq); have XB := (by first | exact XB.below bq | exact XB.drew.below bq); have YB := (by first | exact YB.below bq | exact YB.drew.below bq); have OB := (by first | exact OB.below bq | exact OB.drew.below bq); have BL := (by first | exact BL.trans (bq.mono BL.size) | exact BL.drew.trans (bq.mono BL.size))))
      all_goals go_wp2
      go_ret
      exact ⟨rfl, BL⟩
    · have hV : unV op a x = .tuple #[.agg #[.int .i64 0, .int .i64 0], .bool false] := by unfold unV; rw [if_neg hg]; rfl
      simp only [hV] at hs hi
      have HS := hide hs
      have HI := hide hi
      clear hs hi hV
      go_wp2_with fail
      refine (unhide HI _).mono ?_
      rintro e w2 ⟨rfl, b2⟩
      have PB := ((Box.new w1 a x 24)).below b2
      replace BL := (BL.alloc (BL.size) (.cells #[.int .i64 a, .int .i64 x] 24)).trans (b2.mono (BL.alloc (BL.size) (.cells #[.int .i64 a, .int .i64 x] 24)).size)
      clear b2
      obtain ⟨PB0, PB1, _, _⟩ := id PB
      have PBl := PB.lt
      go_wp2_with fail
      refine (unhide HS _).mono ?_
      rintro e w3 ⟨rfl, b3⟩
      clear PB0 PB1 PBl
      replace PB := (PB.alloc _).below b3
      have XB := ((Box.new w2 0 0 24)).below b3
      replace BL := (BL.alloc (BL.size) (.cells #[.int .i64 0, .int .i64 0] 24)).trans (b3.mono (BL.alloc (BL.size) (.cells #[.int .i64 0, .int .i64 0] 24)).size)
      clear b3
      obtain ⟨PB0, PB1, _, _⟩ := id PB
      have PBl := PB.lt
      obtain ⟨XB0, XB1, _, _⟩ := id XB
      have XBl := XB.lt
      go_wp2
      go_ret
      exact ⟨rfl, (BL.alloc (BL.size) (.cells #[.int .i64 0, .int .i64 0] 24))⟩

set_option maxRecDepth 100000 in
theorem lifted (os : Os) (started : os.Started) (H : Type) (enc : TypeId × Value → H) :
    ReturnsInHanded {} Try.checked os 4 .any (Rows.fnVecUnSpec.pre6 enc Try.prog Try.f4 Rows.fnVecUnRow.domain false) (Rows.fnVecUnSpec.post enc Try.prog Try.f4 false true false false) := by
  refine returnsInHanded_of_change (C := Try.checked) own started (by kernel_rfl) Try.func4
    (ChangeSpec.witness6 (enc := enc) (C := Try.checked) false ⟨#[], #[.slice none 0 0], []⟩ 8 (by kernel_rfl) (by kernel_rfl) (by kernel_rfl) (by kernel_rfl)) ?_
  intro W base args ds gs before hval0 hW hcnd _
  have hval : ∀ (j : Nat) t v, Try.f4.params[j]? = some t → args[j]? = some v → Value.okWide Try.prog W .any base t v := hval0
  have hW' := hW
  obtain ⟨p, q, hA0, hV, rfl, hfz, hnd⟩ := hW
  have hA : DataW.TrodAll enc Try.prog W 0 (fun _ => true) true Try.f4.params.toList args.toList ds p := hA0
  rw [Try.params4] at hA hval
  obtain ⟨v0, vs0, d0, ds0, p0, q0, hargs, rfl, rfl, h0, r0⟩ := trodAll_cons hA
  obtain ⟨rfl, rfl, rfl⟩ := trodAll_nil r0
  obtain rfl : args = #[v0] := by cases args; simp_all
  obtain ⟨rfl, rfl⟩ := trodVars_none hV
  obtain ⟨code, lencode, capcode, rfl⟩ := okWide_slice Try.underlying22 (hval 0 22 v0 rfl rfl)
  have k0 := h0
  have lt0 : ∀ x ∈ p0, x.block < W.heap.size := by obtain ⟨m, hm⟩ := k0; exact DataW.trod_lt m _ _ _ hm
  obtain ⟨zcode, wcode⟩ : ∃ zs, IsRow .u8 W code lencode capcode zs := by
    obtain ⟨fuel, hf⟩ := h0
    rcases open_ints Try.underlying22 Try.underlying5 (by kernel_rfl) hf with ⟨hcs, _⟩ | ⟨x, l, c, zs, hcs, _, hl, hm, hz, _, hcell, hwz⟩
    · simp [Value.cells] at hcs
      obtain ⟨rfl, rfl, rfl⟩ := hcs
      exact ⟨[], .inl ⟨rfl, rfl, rfl, rfl⟩⟩
    · simp [Value.cells] at hcs
      obtain ⟨rfl, rfl, rfl⟩ := hcs
      exact ⟨zs, .inr ⟨_, rfl, hl, hm, by simpa using hz, hcell, hwz⟩⟩
  clear hA0 hval0
  refine (walk code lencode capcode zcode W wcode).mono fun e W' ⟨he, bel⟩ => ?_
  subst he
  exact ⟨_, rfl, _, _, _, [], _, [], hW', trodAll_mk1 (shut_bool Try.underlying4 _), (trodAll_cons_mk (Below.trod laidOut (by kernel_rfl) (of_decide_eq_true (by kernel_rfl)) k0 bel lt0) trodAll_mk0), rfl, bel.frame _, fun h => by cases h⟩

theorem over : Rows.fnVecUnRow.holds Try.pinned (OpenSpec.ofChange Rows.fnVecUnSpec) :=
  OpenClaim.holds_of_wide 4 Try.f4 rfl rfl rfl rfl rfl rfl rfl ⟨rfl, rfl, rfl, rfl, rfl⟩ rfl rfl rfl rfl rfl (by kernel_rfl) Try.func4 (by kernel_rfl)
    (of_decide_eq_true (by kernel_rfl)) (by unfold Func.isWrapper; first | (rw [if_pos (by decide +kernel)]; kernel_rfl) | (rw [if_neg (by decide +kernel)]; exact ⟨rfl, rfl⟩))
    (fun os started H enc _ => lifted os started H enc)
end vUn

theorem vUn_holds : Rows.FnVecUnSaid := vUn.over
#print axioms vUn_holds
end Go.Proofs.Ytbfechcncgoopaa
