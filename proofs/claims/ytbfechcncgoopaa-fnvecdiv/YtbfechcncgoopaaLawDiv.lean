/- Quotient and remainder make up the dividend: the law FnVecDiv returns true for every code of bytes, and leaves it as it was. No condition (the law itself answers true where the code takes more than 1048576 bytes). -/
import Derived.Test.YtbfechcncgoopaaVecW
import Derived.Test.YtbfechcncgoopaaDrwB
import Derived.Test.YtbfechcncgoopaaRow
namespace Go.Proofs.Ytbfechcncgoopaa
open Go.ChangeShapes Go.WideShapes Go.ChangeAt Go.RowKit Go.Joins
open Go.ChangeMaps (open_string shut_string)
set_option linter.unusedVariables false
attribute [local go_sem ↓] Go.wp_at_zero Go.wp_at_succ

namespace vDiv
set_option maxRecDepth 100000 in
set_option maxHeartbeats 4000000 in
theorem walk (code : Option Addr) (lencode capcode : Nat) (zcode : List Int) (w : World) (wcode : IsRow .u8 w code lencode capcode zcode) :
    Calls Try.prog 7 #[.slice code lencode capcode] w fun e w' => e = .returned (.bool true) ∧ Below w.heap.size w w' := by
  obtain ⟨hby, hlc, hcm⟩ := wcode.byts
  by_cases hbig : 1048576 < lencode
  · go_enter Try.func7, Try.ntmps7
    go_wp2
    go_ret
    exact ⟨rfl, Below.refl _ _⟩
  · have t0 : decide (1048576 < (lencode : Int)) = false := by simp; omega
    have HB := hide hby
    have HL := hide hcm
    clear hby wcode hcm
    go_enter Try.func7, Try.ntmps7
    go_wp2_with fail
    refine (drawBin_any _ _ _ _ (by omega) hlc (unhide HL) (unhide HB)).mono ?_
    rintro e w1 ⟨op, a, x, b, y, rfl, BL⟩
    clear HB
    obtain ⟨c, d, t, hV⟩ := binV_form op a x b y
    have hs := fun w => sVecBin_any op a x b y w
    have hi := fun w => iVecBin_any op a x b y w
    simp only [hV] at hs hi
    have HS := hide hs
    have HI := hide hi
    have HV := hide hV
    clear hs hi hV
    have ht : (t != t) = false := by simp
    go_wp2_with fail
    refine (unhide HI _).mono ?_
    rintro e w2 ⟨rfl, b2⟩
    have PB := ((Box.new w1 a x 24).alloc _).below b2
    have QB := ((Box.new (w1.alloc (.cells #[.int .i64 a, .int .i64 x] 24)) b y 24)).below b2
    simp only [World.size_alloc] at QB
    replace BL := ((BL.alloc (BL.size) (.cells #[.int .i64 a, .int .i64 x] 24)).alloc ((BL.alloc (BL.size) (.cells #[.int .i64 a, .int .i64 x] 24)).size) (.cells #[.int .i64 b, .int .i64 y] 24)).trans (b2.mono ((BL.alloc (BL.size) (.cells #[.int .i64 a, .int .i64 x] 24)).alloc ((BL.alloc (BL.size) (.cells #[.int .i64 a, .int .i64 x] 24)).size) (.cells #[.int .i64 b, .int .i64 y] 24)).size)
    clear b2
    obtain ⟨PB0, PB1, _, _⟩ := id PB
    have PBl := PB.lt
    obtain ⟨QB0, QB1, _, _⟩ := id QB
    have QBl := QB.lt
    go_wp2_with fail
    refine (unhide HS _).mono ?_
    rintro e w3 ⟨rfl, b3⟩
    clear PB0 PB1 PBl QB0 QB1 QBl
    replace PB := (PB.alloc _).below b3
    replace QB := (QB.alloc _).below b3
    have XB := ((Box.new w2 c d 24)).below b3
    replace BL := (BL.alloc (BL.size) (.cells #[.int .i64 c, .int .i64 d] 24)).trans (b3.mono (BL.alloc (BL.size) (.cells #[.int .i64 c, .int .i64 d] 24)).size)
    clear b3
    obtain ⟨PB0, PB1, _, _⟩ := id PB
    have PBl := PB.lt
    obtain ⟨QB0, QB1, _, _⟩ := id QB
    have QBl := QB.lt
    obtain ⟨XB0, XB1, _, _⟩ := id XB
    have XBl := XB.lt
    go_wp2_with fail
    refine (iVecOk_any _ _ _).mono ?_
    rintro e w4 ⟨rfl, b4⟩
    clear PB0 PB1 PBl QB0 QB1 QBl XB0 XB1 XBl
    replace PB := (PB.alloc _).below b4
    replace QB := (QB.alloc _).below b4
    replace XB := (XB.alloc _).below b4
    have YB := ((Box.new w3 c d 24)).below b4
    replace BL := (BL.alloc (BL.size) (.cells #[.int .i64 c, .int .i64 d] 24)).trans (b4.mono (BL.alloc (BL.size) (.cells #[.int .i64 c, .int .i64 d] 24)).size)
    clear b4
    obtain ⟨PB0, PB1, _, _⟩ := id PB
    have PBl := PB.lt
    obtain ⟨QB0, QB1, _, _⟩ := id QB
    have QBl := QB.lt
    obtain ⟨XB0, XB1, _, _⟩ := id XB
    have XBl := XB.lt
    obtain ⟨YB0, YB1, _, _⟩ := id YB
    have YBl := YB.lt
    cases hx : okB a x
    · go_wp2
      go_ret
      exact ⟨rfl, BL⟩
    · go_wp2_with fail
      refine (iVecOk_any _ _ _).mono ?_
      rintro e w5 ⟨rfl, b5⟩
      clear PB0 PB1 PBl QB0 QB1 QBl XB0 XB1 XBl YB0 YB1 YBl
      replace PB := (PB).below b5
      replace QB := (QB).below b5
      replace XB := (XB).below b5
      replace YB := (YB).below b5
      replace BL := BL.trans (b5.mono BL.size)
      clear b5
      obtain ⟨PB0, PB1, _, _⟩ := id PB
      have PBl := PB.lt
      obtain ⟨QB0, QB1, _, _⟩ := id QB
      have QBl := QB.lt
      obtain ⟨XB0, XB1, _, _⟩ := id XB
      have XBl := XB.lt
      obtain ⟨YB0, YB1, _, _⟩ := id YB
      have YBl := YB.lt
      cases hy : okB b y
      · go_wp2
        go_ret
        exact ⟨rfl, BL⟩
      · by_cases hab : a = b
        · subst hab
          have kab : (a != a) = false := by simp
          obtain ⟨h1, h2, h3, h4, h5⟩ := ok_of hx
          obtain ⟨_, _, g3, g4, g5⟩ := ok_of hy
          by_cases hz : y = 0
          · subst hz
            have e9 : binV 9 a x a 0 = .tuple #[.agg #[.int .i64 a, .int .i64 (two a - 1)], .bool true] := by rw [binV_yes hx hy (by omega) (by omega)]; simp [binN]
            have e10 : binV 10 a x a 0 = .tuple #[.agg #[.int .i64 a, .int .i64 x], .bool true] := by rw [binV_yes hx hy (by omega) (by omega)]; simp [binN]
            have eU : unV 1 a 0 = .tuple #[.agg #[.int .i64 a, .int .i64 (two a - 1)], .bool true] := by rw [unV_yes hy (Or.inl rfl)]; simp [unN]
            have H9 := hide e9
            have H10 := hide e10
            have HU := hide eU
            clear e9 e10 eU
            go_wp2_with fail
            refine (wpBin_of (unhide H9) _).mono ?_
            rintro e w6 ⟨rfl, b6⟩
            clear PB0 PB1 PBl QB0 QB1 QBl XB0 XB1 XBl YB0 YB1 YBl
            replace PB := (PB).below b6
            replace QB := (QB).below b6
            replace XB := (XB).below b6
            replace YB := (YB).below b6
            replace BL := BL.trans (b6.mono BL.size)
            clear b6
            obtain ⟨PB0, PB1, _, _⟩ := id PB
            have PBl := PB.lt
            obtain ⟨QB0, QB1, _, _⟩ := id QB
            have QBl := QB.lt
            obtain ⟨XB0, XB1, _, _⟩ := id XB
            have XBl := XB.lt
            obtain ⟨YB0, YB1, _, _⟩ := id YB
            have YBl := YB.lt
            go_wp2_with fail
            refine (wpBin_of (unhide H10) _).mono ?_
            rintro e w7 ⟨rfl, b7⟩
            clear PB0 PB1 PBl QB0 QB1 QBl XB0 XB1 XBl YB0 YB1 YBl
            replace PB := (PB.alloc _).below b7
            replace QB := (QB.alloc _).below b7
            replace XB := (XB.alloc _).below b7
            replace YB := (YB.alloc _).below b7
            have KB := ((Box.new w6 a (two a - 1) 24)).below b7
            replace BL := (BL.alloc (BL.size) (.cells #[.int .i64 a, .int .i64 (two a - 1)] 24)).trans (b7.mono (BL.alloc (BL.size) (.cells #[.int .i64 a, .int .i64 (two a - 1)] 24)).size)
            clear b7
            obtain ⟨PB0, PB1, _, _⟩ := id PB
            have PBl := PB.lt
            obtain ⟨QB0, QB1, _, _⟩ := id QB
            have QBl := QB.lt
            obtain ⟨XB0, XB1, _, _⟩ := id XB
            have XBl := XB.lt
            obtain ⟨YB0, YB1, _, _⟩ := id YB
            have YBl := YB.lt
            obtain ⟨KB0, KB1, _, _⟩ := id KB
            have KBl := KB.lt
            go_wp2
            go_region_held3 (fun w' => w'.cell? ⟨w1.heap.size, 0, none⟩ = some (.int .i64 a) ∧ w'.cell? ⟨w1.heap.size, 1, none⟩ = some (.int .i64 x) ∧ w'.cell? ⟨w1.heap.size + 1, 0, none⟩ = some (.int .i64 a) ∧ w'.cell? ⟨w1.heap.size + 1, 1, none⟩ = some (.int .i64 0) ∧ w'.cell? ⟨w6.heap.size, 0, none⟩ = some (.int .i64 a) ∧ w'.cell? ⟨w6.heap.size, 1, none⟩ = some (.int .i64 (two a - 1)) ∧ w'.cell? ⟨w7.heap.size, 0, none⟩ = some (.int .i64 a) ∧ w'.cell? ⟨w7.heap.size, 1, none⟩ = some (.int .i64 x)) (first | go_keep | exact ⟨PB'.1, PB'.2.1, QB'.1, QB'.2.1, KB'.1, KB'.2.1, RB'.1, RB'.2.1⟩)
              (first | (go_at_call 20; refine (wpUn_of (unhide HU) _).mono ?_; rintro e w8 ⟨rfl, b8⟩; have PB' := (PB.alloc _).drew.below b8; have QB' := (QB.alloc _).drew.below b8; have KB' := (KB.alloc _).drew.below b8; have RB' := (Box.new w7 a x 24).drew.below b8))
            all_goals go_wp2
            go_ret
            exact ⟨rfl, ((BL.alloc (BL.size) (.cells #[.int .i64 a, .int .i64 x] 24))).drew.trans (b8.mono (by have := BL.size; simp; omega))⟩
          · have hzb : (y == 0) = false := by simpa using hz
            have e9 : binV 9 a x a y = .tuple #[.agg #[.int .i64 a, .int .i64 (x / y)], .bool true] := by rw [binV_yes hx hy (by omega) (by omega)]; simp [binN, hz]
            have e10 : binV 10 a x a y = .tuple #[.agg #[.int .i64 a, .int .i64 (x % y)], .bool true] := by rw [binV_yes hx hy (by omega) (by omega)]; simp [binN, hz]
            have H9 := hide e9
            have H10 := hide e10
            clear e9 e10
            have q0 : 0 ≤ x / y := Int.ediv_nonneg h3 g3
            have m0 : 0 ≤ x % y := Int.emod_nonneg _ hz
            have m1 : x % y < y := Int.emod_lt_of_pos _ (by omega)
            have hsum : x / y * y + x % y = x := by rw [Int.mul_comm]; exact Int.mul_ediv_add_emod x y
            have p0 : 0 ≤ x / y * y := Int.mul_nonneg q0 g3
            have p1 : x / y * y ≤ 15 := by omega
            have c1 : (x / y * y + x % y == x) = true := by simpa using hsum
            have HSUM := hide hsum
            clear hsum
            go_wp2_with fail
            refine (wpBin_of (unhide H9) _).mono ?_
            rintro e w6 ⟨rfl, b6⟩
            clear PB0 PB1 PBl QB0 QB1 QBl XB0 XB1 XBl YB0 YB1 YBl
            replace PB := (PB).below b6
            replace QB := (QB).below b6
            replace XB := (XB).below b6
            replace YB := (YB).below b6
            replace BL := BL.trans (b6.mono BL.size)
            clear b6
            obtain ⟨PB0, PB1, _, _⟩ := id PB
            have PBl := PB.lt
            obtain ⟨QB0, QB1, _, _⟩ := id QB
            have QBl := QB.lt
            obtain ⟨XB0, XB1, _, _⟩ := id XB
            have XBl := XB.lt
            obtain ⟨YB0, YB1, _, _⟩ := id YB
            have YBl := YB.lt
            go_wp2_with fail
            refine (wpBin_of (unhide H10) _).mono ?_
            rintro e w7 ⟨rfl, b7⟩
            clear PB0 PB1 PBl QB0 QB1 QBl XB0 XB1 XBl YB0 YB1 YBl
            replace PB := (PB.alloc _).below b7
            replace QB := (QB.alloc _).below b7
            replace XB := (XB.alloc _).below b7
            replace YB := (YB.alloc _).below b7
            have KB := ((Box.new w6 a (x / y) 24)).below b7
            replace BL := (BL.alloc (BL.size) (.cells #[.int .i64 a, .int .i64 (x / y)] 24)).trans (b7.mono (BL.alloc (BL.size) (.cells #[.int .i64 a, .int .i64 (x / y)] 24)).size)
            clear b7
            obtain ⟨PB0, PB1, _, _⟩ := id PB
            have PBl := PB.lt
            obtain ⟨QB0, QB1, _, _⟩ := id QB
            have QBl := QB.lt
            obtain ⟨XB0, XB1, _, _⟩ := id XB
            have XBl := XB.lt
            obtain ⟨YB0, YB1, _, _⟩ := id YB
            have YBl := YB.lt
            obtain ⟨KB0, KB1, _, _⟩ := id KB
            have KBl := KB.lt
            go_wp2
            go_ret
            exact ⟨rfl, (BL.alloc (BL.size) (.cells #[.int .i64 a, .int .i64 (x % y)] 24))⟩
        · have kab : (a != b) = true := by simpa using hab
          go_wp2
          go_ret
          exact ⟨rfl, BL⟩

set_option maxRecDepth 100000 in
theorem lifted (os : Os) (started : os.Started) (H : Type) (enc : TypeId × Value → H) :
    ReturnsInHanded {} Try.checked os 7 .any (Rows.fnVecDivSpec.pre6 enc Try.prog Try.f7 Rows.fnVecDivRow.domain false) (Rows.fnVecDivSpec.post enc Try.prog Try.f7 false true false false) := by
  refine returnsInHanded_of_change (C := Try.checked) own started (by kernel_rfl) Try.func7
    (ChangeSpec.witness6 (enc := enc) (C := Try.checked) false ⟨#[], #[.slice none 0 0], []⟩ 8 (by kernel_rfl) (by kernel_rfl) (by kernel_rfl) (by kernel_rfl)) ?_
  intro W base args ds gs before hval0 hW hcnd _
  have hval : ∀ (j : Nat) t v, Try.f7.params[j]? = some t → args[j]? = some v → Value.okWide Try.prog W .any base t v := hval0
  have hW' := hW
  obtain ⟨p, q, hA0, hV, rfl, hfz, hnd⟩ := hW
  have hA : DataW.TrodAll enc Try.prog W 0 (fun _ => true) true Try.f7.params.toList args.toList ds p := hA0
  rw [Try.params7] at hA hval
  obtain ⟨v0, vs0, d0, ds0, p0, q0, hargs, rfl, rfl, h0, r0⟩ := trodAll_cons hA
  obtain ⟨rfl, rfl, rfl⟩ := trodAll_nil r0
  obtain rfl : args = #[v0] := by cases args; simp_all
  obtain ⟨rfl, rfl⟩ := trodVars_none hV
  obtain ⟨code, lencode, capcode, rfl⟩ := okWide_slice Try.underlying22 (hval 0 22 v0 rfl rfl)
  have k0 := h0
  have lt0 : ∀ x ∈ p0, x.block < W.heap.size := by obtain ⟨m, hm⟩ := k0; exact DataW.trod_lt m _ _ _ hm
  obtain ⟨zcode, wcode⟩ : ∃ zs, IsRow .u8 W code lencode capcode zs := by
    obtain ⟨fuel, hf⟩ := h0
    rcases open_ints Try.underlying22 Try.underlying5 (by kernel_rfl) hf with ⟨hcs, _⟩ | ⟨x, l, c, zs, hcs, _, hl, hm, hz, _, hcell, hwz⟩
    · simp [Value.cells] at hcs
      obtain ⟨rfl, rfl, rfl⟩ := hcs
      exact ⟨[], .inl ⟨rfl, rfl, rfl, rfl⟩⟩
    · simp [Value.cells] at hcs
      obtain ⟨rfl, rfl, rfl⟩ := hcs
      exact ⟨zs, .inr ⟨_, rfl, hl, hm, by simpa using hz, hcell, hwz⟩⟩
  clear hA0 hval0
  refine (walk code lencode capcode zcode W wcode).mono fun e W' ⟨he, bel⟩ => ?_
  subst he
  exact ⟨_, rfl, _, _, _, [], _, [], hW', trodAll_mk1 (shut_bool Try.underlying4 _), (trodAll_cons_mk (Below.trod laidOut (by kernel_rfl) (of_decide_eq_true (by kernel_rfl)) k0 bel lt0) trodAll_mk0), rfl, bel.frame _, fun h => by cases h⟩

theorem over : Rows.fnVecDivRow.holds Try.pinned (OpenSpec.ofChange Rows.fnVecDivSpec) :=
  OpenClaim.holds_of_wide 7 Try.f7 rfl rfl rfl rfl rfl rfl rfl ⟨rfl, rfl, rfl, rfl, rfl⟩ rfl rfl rfl rfl rfl (by kernel_rfl) Try.func7 (by kernel_rfl)
    (of_decide_eq_true (by kernel_rfl)) (by unfold Func.isWrapper; first | (rw [if_pos (by decide +kernel)]; kernel_rfl) | (rw [if_neg (by decide +kernel)]; exact ⟨rfl, rfl⟩))
    (fun os started H enc _ => lifted os started H enc)
end vDiv

theorem vDiv_holds : Rows.FnVecDivSaid := vDiv.over
#print axioms vDiv_holds
end Go.Proofs.Ytbfechcncgoopaa
