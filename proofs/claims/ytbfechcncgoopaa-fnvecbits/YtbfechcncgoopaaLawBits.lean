/- Bitwise operations form a Boolean algebra: the law FnVecBits returns true for every code of bytes, and leaves it as it was. No condition (the law itself answers true where the code takes more than 1048576 bytes). -/
import Derived.Test.YtbfechcncgoopaaVecW
import Derived.Test.YtbfechcncgoopaaVecT
import Derived.Test.YtbfechcncgoopaaDrwB
import Derived.Test.YtbfechcncgoopaaRow
namespace Go.Proofs.Ytbfechcncgoopaa
open Go.ChangeShapes Go.WideShapes Go.ChangeAt Go.RowKit Go.Joins
open Go.ChangeMaps (open_string shut_string)
set_option linter.unusedVariables false
attribute [local go_sem ↓] Go.wp_at_zero Go.wp_at_succ

namespace vBits
set_option maxRecDepth 100000 in
set_option maxHeartbeats 4000000 in
theorem walk (code : Option Addr) (lencode capcode : Nat) (zcode : List Int) (w : World) (wcode : IsRow .u8 w code lencode capcode zcode) :
    Calls Try.prog 6 #[.slice code lencode capcode] w fun e w' => e = .returned (.bool true) ∧ Below w.heap.size w w' := by
  obtain ⟨hby, hlc, hcm⟩ := wcode.byts
  by_cases hbig : 1048576 < lencode
  · go_enter Try.func6, Try.ntmps6
    go_wp2
    go_ret
    exact ⟨rfl, Below.refl _ _⟩
  · have t0 : decide (1048576 < (lencode : Int)) = false := by simp; omega
    have HB := hide hby
    have HL := hide hcm
    clear hby wcode hcm
    go_enter Try.func6, Try.ntmps6
    go_wp2_with fail
    refine (drawBin_any _ _ _ _ (by omega) hlc (unhide HL) (unhide HB)).mono ?_
    rintro e w1 ⟨op, a, x, b, y, rfl, BL⟩
    clear HB
    obtain ⟨c, d, t, hV⟩ := binV_form op a x b y
    have hs := fun w => sVecBin_any op a x b y w
    have hi := fun w => iVecBin_any op a x b y w
    simp only [hV] at hs hi
    have HS := hide hs
    have HI := hide hi
    have HV := hide hV
    clear hs hi hV
    have ht : (t != t) = false := by simp
    go_wp2_with fail
    refine (unhide HI _).mono ?_
    rintro e w2 ⟨rfl, b2⟩
    have PB := ((Box.new w1 a x 24).alloc _).below b2
    have QB := ((Box.new (w1.alloc (.cells #[.int .i64 a, .int .i64 x] 24)) b y 24)).below b2
    simp only [World.size_alloc] at QB
    replace BL := ((BL.alloc (BL.size) (.cells #[.int .i64 a, .int .i64 x] 24)).alloc ((BL.alloc (BL.size) (.cells #[.int .i64 a, .int .i64 x] 24)).size) (.cells #[.int .i64 b, .int .i64 y] 24)).trans (b2.mono ((BL.alloc (BL.size) (.cells #[.int .i64 a, .int .i64 x] 24)).alloc ((BL.alloc (BL.size) (.cells #[.int .i64 a, .int .i64 x] 24)).size) (.cells #[.int .i64 b, .int .i64 y] 24)).size)
    clear b2
    obtain ⟨PB0, PB1, _, _⟩ := id PB
    have PBl := PB.lt
    obtain ⟨QB0, QB1, _, _⟩ := id QB
    have QBl := QB.lt
    go_wp2_with fail
    refine (unhide HS _).mono ?_
    rintro e w3 ⟨rfl, b3⟩
    clear PB0 PB1 PBl QB0 QB1 QBl
    replace PB := (PB.alloc _).below b3
    replace QB := (QB.alloc _).below b3
    have XB := ((Box.new w2 c d 24)).below b3
    replace BL := (BL.alloc (BL.size) (.cells #[.int .i64 c, .int .i64 d] 24)).trans (b3.mono (BL.alloc (BL.size) (.cells #[.int .i64 c, .int .i64 d] 24)).size)
    clear b3
    obtain ⟨PB0, PB1, _, _⟩ := id PB
    have PBl := PB.lt
    obtain ⟨QB0, QB1, _, _⟩ := id QB
    have QBl := QB.lt
    obtain ⟨XB0, XB1, _, _⟩ := id XB
    have XBl := XB.lt
    go_wp2_with fail
    refine (iVecOk_any _ _ _).mono ?_
    rintro e w4 ⟨rfl, b4⟩
    clear PB0 PB1 PBl QB0 QB1 QBl XB0 XB1 XBl
    replace PB := (PB.alloc _).below b4
    replace QB := (QB.alloc _).below b4
    replace XB := (XB.alloc _).below b4
    have YB := ((Box.new w3 c d 24)).below b4
    replace BL := (BL.alloc (BL.size) (.cells #[.int .i64 c, .int .i64 d] 24)).trans (b4.mono (BL.alloc (BL.size) (.cells #[.int .i64 c, .int .i64 d] 24)).size)
    clear b4
    obtain ⟨PB0, PB1, _, _⟩ := id PB
    have PBl := PB.lt
    obtain ⟨QB0, QB1, _, _⟩ := id QB
    have QBl := QB.lt
    obtain ⟨XB0, XB1, _, _⟩ := id XB
    have XBl := XB.lt
    obtain ⟨YB0, YB1, _, _⟩ := id YB
    have YBl := YB.lt
    cases hx : okB a x
    · go_wp2
      go_ret
      exact ⟨rfl, BL⟩
    · go_wp2_with fail
      refine (iVecOk_any _ _ _).mono ?_
      rintro e w5 ⟨rfl, b5⟩
      clear PB0 PB1 PBl QB0 QB1 QBl XB0 XB1 XBl YB0 YB1 YBl
      replace PB := (PB).below b5
      replace QB := (QB).below b5
      replace XB := (XB).below b5
      replace YB := (YB).below b5
      replace BL := BL.trans (b5.mono BL.size)
      clear b5
      obtain ⟨PB0, PB1, _, _⟩ := id PB
      have PBl := PB.lt
      obtain ⟨QB0, QB1, _, _⟩ := id QB
      have QBl := QB.lt
      obtain ⟨XB0, XB1, _, _⟩ := id XB
      have XBl := XB.lt
      obtain ⟨YB0, YB1, _, _⟩ := id YB
      have YBl := YB.lt
      cases hy : okB b y
      · go_wp2
        go_ret
        exact ⟨rfl, BL⟩
      · by_cases hab : a = b
        · subst hab
          have kab : (a != a) = false := by simp
          have kaa : (a == a) = true := by simp
          obtain ⟨f1, f2, f3, f4, f5, f6⟩ := bits_facts hx hy
          have k3 := bin_ok hx hy (op := 3) (by omega) (by omega)
          have k4 := bin_ok hx hy (op := 4) (by omega) (by omega)
          have k5 := bin_ok hx hy (op := 5) (by omega) (by omega)
          have ux := (un_facts hx).1
          have uy := (un_facts hy).1
          have c1 : (unN 1 a (binN 3 a x y) == binN 4 a (unN 1 a x) (unN 1 a y)) = true := by simpa using f1
          have c2 : (binN 5 a x y == binN 7 a (binN 4 a x y) (binN 3 a x y)) = true := by simpa using f2
          have c3 : (binN 6 a (binN 3 a x y) (binN 4 a x y) == binN 6 a x y) = true := by simpa using f3
          have c4 : (binN 5 a (binN 5 a x y) y == x) = true := by simpa using f4
          have c5 : (binN 3 a x (binN 4 a x y) == x) = true := by simpa using f5
          have c6 : (binN 4 a x (binN 3 a x y) == x) = true := by simpa using f6
          clear f1 f2 f3 f4 f5 f6 HV HS HI
          go_wp2_with fail
          refine (wpBin_ok hx hy (by omega) (by omega) _).mono ?_
          rintro e w6 ⟨rfl, b6⟩
          clear PB0 PB1 PBl QB0 QB1 QBl XB0 XB1 XBl YB0 YB1 YBl
          replace PB := (PB).below b6
          replace QB := (QB).below b6
          replace XB := (XB).below b6
          replace YB := (YB).below b6
          replace BL := BL.trans (b6.mono BL.size)
          clear b6
          obtain ⟨PB0, PB1, _, _⟩ := id PB
          have PBl := PB.lt
          obtain ⟨QB0, QB1, _, _⟩ := id QB
          have QBl := QB.lt
          obtain ⟨XB0, XB1, _, _⟩ := id XB
          have XBl := XB.lt
          obtain ⟨YB0, YB1, _, _⟩ := id YB
          have YBl := YB.lt
          clear XB0 XB1 XBl XB YB0 YB1 YBl YB
          go_wp2_with fail
          refine (wpBin_ok hx hy (by omega) (by omega) _).mono ?_
          rintro e w7 ⟨rfl, b7⟩
          clear PB0 PB1 PBl QB0 QB1 QBl
          replace PB := (PB.alloc _).below b7
          replace QB := (QB.alloc _).below b7
          have BB := ((Box.new w6 a (binN 3 a x y) 24)).below b7
          replace BL := (BL.alloc (BL.size) (.cells #[.int .i64 a, .int .i64 (binN 3 a x y)] 24)).trans (b7.mono (BL.alloc (BL.size) (.cells #[.int .i64 a, .int .i64 (binN 3 a x y)] 24)).size)
          clear b7
          obtain ⟨PB0, PB1, _, _⟩ := id PB
          have PBl := PB.lt
          obtain ⟨QB0, QB1, _, _⟩ := id QB
          have QBl := QB.lt
          obtain ⟨BB0, BB1, _, _⟩ := id BB
          have BBl := BB.lt
          go_wp2
          clear PB0 PB1 PBl QB0 QB1 QBl BB0 BB1 BBl
          replace PB := PB.alloc (.cells #[.int .i64 a, .int .i64 (binN 4 a x y)] 24)
          replace QB := QB.alloc (.cells #[.int .i64 a, .int .i64 (binN 4 a x y)] 24)
          replace BB := BB.alloc (.cells #[.int .i64 a, .int .i64 (binN 4 a x y)] 24)
          have SB := Box.new w7 a (binN 4 a x y) 24
          replace BL := BL.alloc BL.size (.cells #[.int .i64 a, .int .i64 (binN 4 a x y)] 24)
          obtain ⟨PB0, PB1, _, _⟩ := id PB
          have PBl := PB.lt
          obtain ⟨QB0, QB1, _, _⟩ := id QB
          have QBl := QB.lt
          obtain ⟨BB0, BB1, _, _⟩ := id BB
          have BBl := BB.lt
          obtain ⟨SB0, SB1, _, _⟩ := id SB
          have SBl := SB.lt
          go_region_held3 (fun w' => w'.cell? ⟨w1.heap.size, 0, none⟩ = some (.int .i64 a) ∧ w'.cell? ⟨w1.heap.size, 1, none⟩ = some (.int .i64 x) ∧ w'.cell? ⟨w1.heap.size + 1, 0, none⟩ = some (.int .i64 a) ∧ w'.cell? ⟨w1.heap.size + 1, 1, none⟩ = some (.int .i64 y) ∧ w'.cell? ⟨w6.heap.size, 0, none⟩ = some (.int .i64 a) ∧ w'.cell? ⟨w6.heap.size, 1, none⟩ = some (.int .i64 (binN 3 a x y)) ∧ w'.cell? ⟨w7.heap.size, 0, none⟩ = some (.int .i64 a) ∧ w'.cell? ⟨w7.heap.size, 1, none⟩ = some (.int .i64 (binN 4 a x y))) (first | go_keep | exact ⟨PB.1, PB.2.1, QB.1, QB.2.1, BB.1, BB.2.1, SB.1, SB.2.1⟩)
            (first | (go_at_call 20; refine (wpUn_ok (by assumption) (by first | exact Or.inl rfl | exact Or.inr rfl) _).mono ?_; rintro e wq ⟨rfl, bq⟩; have PB := (by first | exact PB.below bq | exact PB.drew.below bq); have QB := (by first | exact QB.below bq | exact QB.drew.below bq); have BB := (by first | exact BB.below bq | exact BB.drew.below bq); have SB := (by first | exact SB.below bq | exact SB.drew.below bq); have BL := (by first | exact BL.trans (bq.mono BL.size) | exact BL.drew.trans (bq.mono BL.size))) | (go_at_call 21; refine (wpBin_ok (by assumption) (by assumption) (by omega) (by omega) _).mono ?_; rintro e wq ⟨rfl, bq⟩; have PB := (by first | exact PB.below bq | exact PB.drew.below bq); have QB := (by first | exact QB.below bq | exact QB.drew.below bq); have BB := (by first | exact BB.below bq | exact BB.drew.below bq); have SB := (by first | exact SB.below bq | exact SB.drew.below bq); have BL := (by first | exact BL.trans (bq.mono BL.size) | exact BL.drew.trans (bq.mono BL.size))))
          all_goals go_wp2
          go_region_held3 (fun w' => w'.cell? ⟨w1.heap.size, 0, none⟩ = some (.int .i64 a) ∧ w'.cell? ⟨w1.heap.size, 1, none⟩ = some (.int .i64 x) ∧ w'.cell? ⟨w1.heap.size + 1, 0, none⟩ = some (.int .i64 a) ∧ w'.cell? ⟨w1.heap.size + 1, 1, none⟩ = some (.int .i64 y) ∧ w'.cell? ⟨w6.heap.size, 0, none⟩ = some (.int .i64 a) ∧ w'.cell? ⟨w6.heap.size, 1, none⟩ = some (.int .i64 (binN 3 a x y)) ∧ w'.cell? ⟨w7.heap.size, 0, none⟩ = some (.int .i64 a) ∧ w'.cell? ⟨w7.heap.size, 1, none⟩ = some (.int .i64 (binN 4 a x y))) (first | go_keep | exact ⟨PB.1, PB.2.1, QB.1, QB.2.1, BB.1, BB.2.1, SB.1, SB.2.1⟩)
            (first | (go_at_call 20; refine (wpUn_ok (by assumption) (by first | exact Or.inl rfl | exact Or.inr rfl) _).mono ?_; rintro e wq ⟨rfl, bq⟩; have PB := (by first | exact PB.below bq | exact PB.drew.below bq); have QB := (by first | exact QB.below bq | exact QB.drew.below bq); have BB := (by first | exact BB.below bq | exact BB.drew.below bq); have SB := (by first | exact SB.below bq | exact SB.drew.below bq); have BL := (by first | exact BL.trans (bq.mono BL.size) | exact BL.drew.trans (bq.mono BL.size))) | (go_at_call 21; refine (wpBin_ok (by assumption) (by assumption) (by omega) (by omega) _).mono ?_; rintro e wq ⟨rfl, bq⟩; have PB := (by first | exact PB.below bq | exact PB.drew.below bq); have QB := (by first | exact QB.below bq | exact QB.drew.below bq); have BB := (by first | exact BB.below bq | exact BB.drew.below bq); have SB := (by first | exact SB.below bq | exact SB.drew.below bq); have BL := (by first | exact BL.trans (bq.mono BL.size) | exact BL.drew.trans (bq.mono BL.size))))
          all_goals go_wp2
          go_ret
          exact ⟨rfl, BL⟩
        · have kab : (a != b) = true := by simpa using hab
          go_wp2
          go_ret
          exact ⟨rfl, BL⟩

set_option maxRecDepth 100000 in
theorem lifted (os : Os) (started : os.Started) (H : Type) (enc : TypeId × Value → H) :
    ReturnsInHanded {} Try.checked os 6 .any (Rows.fnVecBitsSpec.pre6 enc Try.prog Try.f6 Rows.fnVecBitsRow.domain false) (Rows.fnVecBitsSpec.post enc Try.prog Try.f6 false true false false) := by
  refine returnsInHanded_of_change (C := Try.checked) own started (by kernel_rfl) Try.func6
    (ChangeSpec.witness6 (enc := enc) (C := Try.checked) false ⟨#[], #[.slice none 0 0], []⟩ 8 (by kernel_rfl) (by kernel_rfl) (by kernel_rfl) (by kernel_rfl)) ?_
  intro W base args ds gs before hval0 hW hcnd _
  have hval : ∀ (j : Nat) t v, Try.f6.params[j]? = some t → args[j]? = some v → Value.okWide Try.prog W .any base t v := hval0
  have hW' := hW
  obtain ⟨p, q, hA0, hV, rfl, hfz, hnd⟩ := hW
  have hA : DataW.TrodAll enc Try.prog W 0 (fun _ => true) true Try.f6.params.toList args.toList ds p := hA0
  rw [Try.params6] at hA hval
  obtain ⟨v0, vs0, d0, ds0, p0, q0, hargs, rfl, rfl, h0, r0⟩ := trodAll_cons hA
  obtain ⟨rfl, rfl, rfl⟩ := trodAll_nil r0
  obtain rfl : args = #[v0] := by cases args; simp_all
  obtain ⟨rfl, rfl⟩ := trodVars_none hV
  obtain ⟨code, lencode, capcode, rfl⟩ := okWide_slice Try.underlying22 (hval 0 22 v0 rfl rfl)
  have k0 := h0
  have lt0 : ∀ x ∈ p0, x.block < W.heap.size := by obtain ⟨m, hm⟩ := k0; exact DataW.trod_lt m _ _ _ hm
  obtain ⟨zcode, wcode⟩ : ∃ zs, IsRow .u8 W code lencode capcode zs := by
    obtain ⟨fuel, hf⟩ := h0
    rcases open_ints Try.underlying22 Try.underlying5 (by kernel_rfl) hf with ⟨hcs, _⟩ | ⟨x, l, c, zs, hcs, _, hl, hm, hz, _, hcell, hwz⟩
    · simp [Value.cells] at hcs
      obtain ⟨rfl, rfl, rfl⟩ := hcs
      exact ⟨[], .inl ⟨rfl, rfl, rfl, rfl⟩⟩
    · simp [Value.cells] at hcs
      obtain ⟨rfl, rfl, rfl⟩ := hcs
      exact ⟨zs, .inr ⟨_, rfl, hl, hm, by simpa using hz, hcell, hwz⟩⟩
  clear hA0 hval0
  refine (walk code lencode capcode zcode W wcode).mono fun e W' ⟨he, bel⟩ => ?_
  subst he
  exact ⟨_, rfl, _, _, _, [], _, [], hW', trodAll_mk1 (shut_bool Try.underlying4 _), (trodAll_cons_mk (Below.trod laidOut (by kernel_rfl) (of_decide_eq_true (by kernel_rfl)) k0 bel lt0) trodAll_mk0), rfl, bel.frame _, fun h => by cases h⟩

theorem over : Rows.fnVecBitsRow.holds Try.pinned (OpenSpec.ofChange Rows.fnVecBitsSpec) :=
  OpenClaim.holds_of_wide 6 Try.f6 rfl rfl rfl rfl rfl rfl rfl ⟨rfl, rfl, rfl, rfl, rfl⟩ rfl rfl rfl rfl rfl (by kernel_rfl) Try.func6 (by kernel_rfl)
    (of_decide_eq_true (by kernel_rfl)) (by unfold Func.isWrapper; first | (rw [if_pos (by decide +kernel)]; kernel_rfl) | (rw [if_neg (by decide +kernel)]; exact ⟨rfl, rfl⟩))
    (fun os started H enc _ => lifted os started H enc)
end vBits

theorem vBits_holds : Rows.FnVecBitsSaid := vBits.over
#print axioms vBits_holds
end Go.Proofs.Ytbfechcncgoopaa
