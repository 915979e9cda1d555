/- Arithmetic of few bits is that of a ring: the law FnVecRing returns true for every two codes of bytes, and leaves them as they were. No condition (the law itself answers true where a code takes more than 1048576 bytes). -/
import Derived.Test.YtbfechcncgoopaaVecY
import Derived.Test.YtbfechcncgoopaaDrwB
import Derived.Test.YtbfechcncgoopaaRow
namespace Go.Proofs.Ytbfechcncgoopaa
open Go.ChangeShapes Go.WideShapes Go.ChangeAt Go.RowKit Go.Joins
open Go.ChangeMaps (open_string shut_string)
set_option linter.unusedVariables false
attribute [local go_sem ↓] Go.wp_at_zero Go.wp_at_succ

namespace vRing
set_option maxRecDepth 100000 in
set_option maxHeartbeats 4000000 in
theorem walk (code : Option Addr) (lencode capcode : Nat) (zcode : List Int) (more : Option Addr) (lenmore capmore : Nat) (zmore : List Int) (w : World) (wcode : IsRow .u8 w code lencode capcode zcode) (wmore : IsRow .u8 w more lenmore capmore zmore) :
    Calls Try.prog 5 #[.slice code lencode capcode, .slice more lenmore capmore] w fun e w' => e = .returned (.bool true) ∧ Below w.heap.size w w' := by
  obtain ⟨hby, hlc, hcm⟩ := wcode.byts
  obtain ⟨hby', hlm, hmm⟩ := wmore.byts
  by_cases hbig : 1048576 < lencode
  · go_enter Try.func5, Try.ntmps5
    go_wp2
    go_ret
    exact ⟨rfl, Below.refl _ _⟩
  · have t0 : decide (1048576 < (lencode : Int)) = false := by simp; omega
    by_cases hbig' : 1048576 < lenmore
    · go_enter Try.func5, Try.ntmps5
      go_wp2
      go_ret
      exact ⟨rfl, Below.refl _ _⟩
    · have t1 : decide (1048576 < (lenmore : Int)) = false := by simp; omega
      have HB := hide hby
      have HL := hide hcm
      have HB' := hide hby'
      have HL' := hide hmm
      clear hby wcode hcm hby' wmore hmm
      go_enter Try.func5, Try.ntmps5
      go_wp2_with fail
      refine (drawBin_any _ _ _ _ (by omega) hlc (unhide HL) (unhide HB)).mono ?_
      rintro e w1 ⟨op, a, x, b, y, rfl, BL⟩
      clear HB
      go_wp2_with fail
      refine (drawBin_any _ _ _ _ (by omega) hlm (unhide HL') ((unhide HB').up (by have := BL.size; simp; omega) ((BL.alloc BL.size _).alloc (BL.alloc BL.size _).size _))).mono ?_
      rintro e w2 ⟨op2, g, z, h, v, rfl, b2⟩
      have PB := ((Box.new w1 a x 24).alloc _).below b2
      have QB := ((Box.new (w1.alloc (.cells #[.int .i64 a, .int .i64 x] 24)) b y 24)).below b2
      simp only [World.size_alloc] at QB
      replace BL := ((BL.alloc (BL.size) (.cells #[.int .i64 a, .int .i64 x] 24)).alloc ((BL.alloc (BL.size) (.cells #[.int .i64 a, .int .i64 x] 24)).size) (.cells #[.int .i64 b, .int .i64 y] 24)).trans (b2.mono ((BL.alloc (BL.size) (.cells #[.int .i64 a, .int .i64 x] 24)).alloc ((BL.alloc (BL.size) (.cells #[.int .i64 a, .int .i64 x] 24)).size) (.cells #[.int .i64 b, .int .i64 y] 24)).size)
      clear b2
      obtain ⟨PB0, PB1, _, _⟩ := id PB
      have PBl := PB.lt
      obtain ⟨QB0, QB1, _, _⟩ := id QB
      have QBl := QB.lt
      clear HB'
      have le2 := BL.size
      have lq := QB.lt
      obtain ⟨c, d, t, hV⟩ := binV_form op a x b y
      have hs := fun w => sVecBin_any op a x b y w
      have hi := fun w => iVecBin_any op a x b y w
      simp only [hV] at hs hi
      have HS := hide hs
      have HI := hide hi
      clear hs hi hV
      have ht : (t != t) = false := by simp
      go_wp2_with fail
      refine (unhide HI _).mono ?_
      rintro e w3 ⟨rfl, b3⟩
      clear PB0 PB1 PBl QB0 QB1 QBl
      replace PB := ((PB.alloc _).alloc _).below b3
      replace QB := ((QB.alloc _).alloc _).below b3
      have CB := ((Box.new w2 g z 24).alloc _).below b3
      have DB := ((Box.new (w2.alloc (.cells #[.int .i64 g, .int .i64 z] 24)) h v 24)).below b3
      simp only [World.size_alloc] at DB
      replace BL := ((BL.alloc (BL.size) (.cells #[.int .i64 g, .int .i64 z] 24)).alloc ((BL.alloc (BL.size) (.cells #[.int .i64 g, .int .i64 z] 24)).size) (.cells #[.int .i64 h, .int .i64 v] 24)).trans (b3.mono ((BL.alloc (BL.size) (.cells #[.int .i64 g, .int .i64 z] 24)).alloc ((BL.alloc (BL.size) (.cells #[.int .i64 g, .int .i64 z] 24)).size) (.cells #[.int .i64 h, .int .i64 v] 24)).size)
      clear b3
      obtain ⟨PB0, PB1, _, _⟩ := id PB
      have PBl := PB.lt
      obtain ⟨QB0, QB1, _, _⟩ := id QB
      have QBl := QB.lt
      obtain ⟨CB0, CB1, _, _⟩ := id CB
      have CBl := CB.lt
      obtain ⟨DB0, DB1, _, _⟩ := id DB
      have DBl := DB.lt
      go_wp2_with fail
      refine (unhide HS _).mono ?_
      rintro e w4 ⟨rfl, b4⟩
      clear PB0 PB1 PBl QB0 QB1 QBl CB0 CB1 CBl DB0 DB1 DBl
      replace PB := (PB.alloc _).below b4
      replace QB := (QB.alloc _).below b4
      replace CB := (CB.alloc _).below b4
      replace DB := (DB.alloc _).below b4
      have XB := ((Box.new w3 c d 24)).below b4
      replace BL := (BL.alloc (BL.size) (.cells #[.int .i64 c, .int .i64 d] 24)).trans (b4.mono (BL.alloc (BL.size) (.cells #[.int .i64 c, .int .i64 d] 24)).size)
      clear b4
      obtain ⟨PB0, PB1, _, _⟩ := id PB
      have PBl := PB.lt
      obtain ⟨QB0, QB1, _, _⟩ := id QB
      have QBl := QB.lt
      obtain ⟨CB0, CB1, _, _⟩ := id CB
      have CBl := CB.lt
      obtain ⟨DB0, DB1, _, _⟩ := id DB
      have DBl := DB.lt
      obtain ⟨XB0, XB1, _, _⟩ := id XB
      have XBl := XB.lt
      go_wp2_with fail
      refine (iVecOk_any _ _ _).mono ?_
      rintro e w5 ⟨rfl, b5⟩
      clear PB0 PB1 PBl QB0 QB1 QBl CB0 CB1 CBl DB0 DB1 DBl XB0 XB1 XBl
      replace PB := (PB.alloc _).below b5
      replace QB := (QB.alloc _).below b5
      replace CB := (CB.alloc _).below b5
      replace DB := (DB.alloc _).below b5
      replace XB := (XB.alloc _).below b5
      have YB := ((Box.new w4 c d 24)).below b5
      replace BL := (BL.alloc (BL.size) (.cells #[.int .i64 c, .int .i64 d] 24)).trans (b5.mono (BL.alloc (BL.size) (.cells #[.int .i64 c, .int .i64 d] 24)).size)
      clear b5
      obtain ⟨PB0, PB1, _, _⟩ := id PB
      have PBl := PB.lt
      obtain ⟨QB0, QB1, _, _⟩ := id QB
      have QBl := QB.lt
      obtain ⟨CB0, CB1, _, _⟩ := id CB
      have CBl := CB.lt
      obtain ⟨DB0, DB1, _, _⟩ := id DB
      have DBl := DB.lt
      obtain ⟨XB0, XB1, _, _⟩ := id XB
      have XBl := XB.lt
      obtain ⟨YB0, YB1, _, _⟩ := id YB
      have YBl := YB.lt
      cases hx : okB a x
      · go_wp2
        go_ret
        exact ⟨rfl, BL⟩
      · skip
        go_wp2_with fail
        refine (iVecOk_any _ _ _).mono ?_
        rintro e w6 ⟨rfl, b6⟩
        clear PB0 PB1 PBl QB0 QB1 QBl CB0 CB1 CBl DB0 DB1 DBl XB0 XB1 XBl YB0 YB1 YBl
        replace PB := (PB).below b6
        replace QB := (QB).below b6
        replace CB := (CB).below b6
        replace DB := (DB).below b6
        replace XB := (XB).below b6
        replace YB := (YB).below b6
        replace BL := BL.trans (b6.mono BL.size)
        clear b6
        obtain ⟨PB0, PB1, _, _⟩ := id PB
        have PBl := PB.lt
        obtain ⟨QB0, QB1, _, _⟩ := id QB
        have QBl := QB.lt
        obtain ⟨CB0, CB1, _, _⟩ := id CB
        have CBl := CB.lt
        obtain ⟨DB0, DB1, _, _⟩ := id DB
        have DBl := DB.lt
        obtain ⟨XB0, XB1, _, _⟩ := id XB
        have XBl := XB.lt
        obtain ⟨YB0, YB1, _, _⟩ := id YB
        have YBl := YB.lt
        cases hy : okB b y
        · go_wp2
          go_ret
          exact ⟨rfl, BL⟩
        · skip
          go_wp2_with fail
          refine (iVecOk_any _ _ _).mono ?_
          rintro e w7 ⟨rfl, b7⟩
          clear PB0 PB1 PBl QB0 QB1 QBl CB0 CB1 CBl DB0 DB1 DBl XB0 XB1 XBl YB0 YB1 YBl
          replace PB := (PB).below b7
          replace QB := (QB).below b7
          replace CB := (CB).below b7
          replace DB := (DB).below b7
          replace XB := (XB).below b7
          replace YB := (YB).below b7
          replace BL := BL.trans (b7.mono BL.size)
          clear b7
          obtain ⟨PB0, PB1, _, _⟩ := id PB
          have PBl := PB.lt
          obtain ⟨QB0, QB1, _, _⟩ := id QB
          have QBl := QB.lt
          obtain ⟨CB0, CB1, _, _⟩ := id CB
          have CBl := CB.lt
          obtain ⟨DB0, DB1, _, _⟩ := id DB
          have DBl := DB.lt
          obtain ⟨XB0, XB1, _, _⟩ := id XB
          have XBl := XB.lt
          obtain ⟨YB0, YB1, _, _⟩ := id YB
          have YBl := YB.lt
          cases hz : okB g z
          · go_wp2
            go_ret
            exact ⟨rfl, BL⟩
          by_cases hab : a = b
          rotate_left
          · have kab : (a != b) = true := by simpa using hab
            go_wp2
            go_ret
            exact ⟨rfl, BL⟩
          subst hab
          have kab : (a != a) = false := by simp
          have kaa : (a == a) = true := by simp
          obtain ⟨a1, a2, x3, x4, x5⟩ := ok_of hx
          obtain ⟨_, _, z3, z4, z5⟩ := ok_of hz
          have tb := two_bd a a1 a2
          have hzz : okB a (z % two a) = true := okB_of a1 a2 (Int.emod_nonneg _ (by omega)) (Int.emod_lt_of_pos _ (by omega))
          clear HS HI
          have n0 : w1.heap.size ≠ w2.heap.size := by omega
          have n1 : w1.heap.size + 1 ≠ w2.heap.size := by omega
          have n2 : w2.heap.size ≠ w1.heap.size := by omega
          have n3 : w2.heap.size ≠ w1.heap.size + 1 := by omega
          obtain ⟨_, _, CBf0, CBf1⟩ := id CB
          clear XB0 XB1 XBl XB YB0 YB1 YBl YB DB0 DB1 DBl DB
          go_wp2
          go_cut [9] (fun s9 wx => s9 = .pointer (some ⟨w2.heap.size, 0, none⟩) ∧ Box wx w1.heap.size a x ∧ Box wx (w1.heap.size + 1) a y ∧ Box wx w2.heap.size a (z % two a) ∧ Below w.heap.size w wx)
          case first =>
            go_region_with (go_at_call 25; refine (wpLow_any _ _ _ z3 z5 a1 a2).mono ?_; rintro e w' ⟨rfl, rfl⟩)
            all_goals
              go_wp2_with fail
              go_meet
              exact ⟨rfl, ((PB.set (by omega) _ _).set (by omega) _ _).drew, ((QB.set (by omega) _ _).set (by omega) _ _).drew, (CB.put _ _).drew, ((BL.setCell le2 _).setCell le2 _).drew⟩
          case rest =>
            clear PB0 PB1 PBl PB QB0 QB1 QBl QB CB0 CB1 CBl CB CBf0 CBf1 BL
            obtain ⟨rfl, PB, QB, CB, BL⟩ := hcut
            generalize z % two a = u at *
            obtain ⟨PB0, PB1, _, _⟩ := id PB
            have PBl := PB.lt
            obtain ⟨QB0, QB1, _, _⟩ := id QB
            have QBl := QB.lt
            obtain ⟨CB0, CB1, _, _⟩ := id CB
            have CBl := CB.lt
            obtain ⟨f1, f2, f3, f4, f5, f6⟩ := ring_facts hx hy hzz
            have ksum := bin_ok hx hy (op := 6) (by omega) (by omega)
            have kxy := bin_ok hx hy (op := 8) (by omega) (by omega)
            have kyz := bin_ok hy hzz (op := 6) (by omega) (by omega)
            have myz := bin_ok hy hzz (op := 8) (by omega) (by omega)
            have mxz := bin_ok hx hzz (op := 8) (by omega) (by omega)
            have c1 : (binN 6 a x y == binN 6 a y x) = true := by simpa using f1
            have c2 : (binN 8 a x y == binN 8 a y x) = true := by simpa using f2
            have c3 : (binN 7 a (binN 6 a x y) y == x) = true := by simpa using f3
            have c4 : (binN 6 a (binN 6 a x y) u == binN 6 a x (binN 6 a y u)) = true := by simpa using f4
            have c5 : (binN 8 a (binN 8 a x y) u == binN 8 a x (binN 8 a y u)) = true := by simpa using f5
            have c6 : (binN 8 a (binN 6 a x y) u == binN 6 a (binN 8 a x u) (binN 8 a y u)) = true := by simpa using f6
            clear f1 f2 f3 f4 f5 f6
            go_wp2_with fail
            refine (wpBin_ok hx hy (by omega) (by omega) _).mono ?_
            rintro e w8 ⟨rfl, b8⟩
            clear PB0 PB1 PBl QB0 QB1 QBl CB0 CB1 CBl
            replace PB := (PB).below b8
            replace QB := (QB).below b8
            replace CB := (CB).below b8
            replace BL := BL.trans (b8.mono BL.size)
            clear b8
            obtain ⟨PB0, PB1, _, _⟩ := id PB
            have PBl := PB.lt
            obtain ⟨QB0, QB1, _, _⟩ := id QB
            have QBl := QB.lt
            obtain ⟨CB0, CB1, _, _⟩ := id CB
            have CBl := CB.lt
            go_wp2
            clear PB0 PB1 PBl QB0 QB1 QBl CB0 CB1 CBl
            replace PB := PB.alloc (.cells #[.int .i64 a, .int .i64 (binN 6 a x y)] 24)
            replace QB := QB.alloc (.cells #[.int .i64 a, .int .i64 (binN 6 a x y)] 24)
            replace CB := CB.alloc (.cells #[.int .i64 a, .int .i64 (binN 6 a x y)] 24)
            have SB := Box.new w8 a (binN 6 a x y) 24
            replace BL := BL.alloc BL.size (.cells #[.int .i64 a, .int .i64 (binN 6 a x y)] 24)
            obtain ⟨PB0, PB1, _, _⟩ := id PB
            have PBl := PB.lt
            obtain ⟨QB0, QB1, _, _⟩ := id QB
            have QBl := QB.lt
            obtain ⟨CB0, CB1, _, _⟩ := id CB
            have CBl := CB.lt
            obtain ⟨SB0, SB1, _, _⟩ := id SB
            have SBl := SB.lt
            go_region_held3 (fun w' => w'.cell? ⟨w1.heap.size, 0, none⟩ = some (.int .i64 a) ∧ w'.cell? ⟨w1.heap.size, 1, none⟩ = some (.int .i64 x) ∧ w'.cell? ⟨w1.heap.size + 1, 0, none⟩ = some (.int .i64 a) ∧ w'.cell? ⟨w1.heap.size + 1, 1, none⟩ = some (.int .i64 y) ∧ w'.cell? ⟨w2.heap.size, 0, none⟩ = some (.int .i64 a) ∧ w'.cell? ⟨w2.heap.size, 1, none⟩ = some (.int .i64 u) ∧ w'.cell? ⟨w8.heap.size, 0, none⟩ = some (.int .i64 a) ∧ w'.cell? ⟨w8.heap.size, 1, none⟩ = some (.int .i64 (binN 6 a x y))) (first | go_keep | exact ⟨PB.1, PB.2.1, QB.1, QB.2.1, CB.1, CB.2.1, SB.1, SB.2.1⟩)
              (first | (go_at_call 21; refine (wpBin_ok (by assumption) (by assumption) (by omega) (by omega) _).mono ?_; rintro e wq ⟨rfl, bq⟩; have PB := (by first | exact PB.below bq | exact PB.drew.below bq); have QB := (by first | exact QB.below bq | exact QB.drew.below bq); have CB := (by first | exact CB.below bq | exact CB.drew.below bq); have SB := (by first | exact SB.below bq | exact SB.drew.below bq); have BL := (by first | exact BL.trans (bq.mono BL.size) | exact BL.drew.trans (bq.mono BL.size))))
            all_goals go_wp2
            go_region_held3 (fun w' => w'.cell? ⟨w1.heap.size, 0, none⟩ = some (.int .i64 a) ∧ w'.cell? ⟨w1.heap.size, 1, none⟩ = some (.int .i64 x) ∧ w'.cell? ⟨w1.heap.size + 1, 0, none⟩ = some (.int .i64 a) ∧ w'.cell? ⟨w1.heap.size + 1, 1, none⟩ = some (.int .i64 y) ∧ w'.cell? ⟨w2.heap.size, 0, none⟩ = some (.int .i64 a) ∧ w'.cell? ⟨w2.heap.size, 1, none⟩ = some (.int .i64 u) ∧ w'.cell? ⟨w8.heap.size, 0, none⟩ = some (.int .i64 a) ∧ w'.cell? ⟨w8.heap.size, 1, none⟩ = some (.int .i64 (binN 6 a x y))) (first | go_keep | exact ⟨PB.1, PB.2.1, QB.1, QB.2.1, CB.1, CB.2.1, SB.1, SB.2.1⟩)
              (first | (go_at_call 21; refine (wpBin_ok (by assumption) (by assumption) (by omega) (by omega) _).mono ?_; rintro e wq ⟨rfl, bq⟩; have PB := (by first | exact PB.below bq | exact PB.drew.below bq); have QB := (by first | exact QB.below bq | exact QB.drew.below bq); have CB := (by first | exact CB.below bq | exact CB.drew.below bq); have SB := (by first | exact SB.below bq | exact SB.drew.below bq); have BL := (by first | exact BL.trans (bq.mono BL.size) | exact BL.drew.trans (bq.mono BL.size))))
            all_goals go_wp2
            go_region_held3 (fun w' => w'.cell? ⟨w1.heap.size, 0, none⟩ = some (.int .i64 a) ∧ w'.cell? ⟨w1.heap.size, 1, none⟩ = some (.int .i64 x) ∧ w'.cell? ⟨w1.heap.size + 1, 0, none⟩ = some (.int .i64 a) ∧ w'.cell? ⟨w1.heap.size + 1, 1, none⟩ = some (.int .i64 y) ∧ w'.cell? ⟨w2.heap.size, 0, none⟩ = some (.int .i64 a) ∧ w'.cell? ⟨w2.heap.size, 1, none⟩ = some (.int .i64 u) ∧ w'.cell? ⟨w8.heap.size, 0, none⟩ = some (.int .i64 a) ∧ w'.cell? ⟨w8.heap.size, 1, none⟩ = some (.int .i64 (binN 6 a x y))) (first | go_keep | exact ⟨PB.1, PB.2.1, QB.1, QB.2.1, CB.1, CB.2.1, SB.1, SB.2.1⟩)
              (first | (go_at_call 21; refine (wpBin_ok (by assumption) (by assumption) (by omega) (by omega) _).mono ?_; rintro e wq ⟨rfl, bq⟩; have PB := (by first | exact PB.below bq | exact PB.drew.below bq); have QB := (by first | exact QB.below bq | exact QB.drew.below bq); have CB := (by first | exact CB.below bq | exact CB.drew.below bq); have SB := (by first | exact SB.below bq | exact SB.drew.below bq); have BL := (by first | exact BL.trans (bq.mono BL.size) | exact BL.drew.trans (bq.mono BL.size))))
            all_goals go_wp2
            go_ret
            exact ⟨rfl, BL⟩

set_option maxRecDepth 100000 in
theorem lifted (os : Os) (started : os.Started) (H : Type) (enc : TypeId × Value → H) :
    ReturnsInHanded {} Try.checked os 5 .any (Rows.fnVecRingSpec.pre6 enc Try.prog Try.f5 Rows.fnVecRingRow.domain false) (Rows.fnVecRingSpec.post enc Try.prog Try.f5 false true false false) := by
  refine returnsInHanded_of_change (C := Try.checked) own started (by kernel_rfl) Try.func5
    (ChangeSpec.witness6 (enc := enc) (C := Try.checked) false ⟨#[], #[.slice none 0 0, .slice none 0 0], []⟩ 8 (by kernel_rfl) (by kernel_rfl) (by kernel_rfl) (by kernel_rfl)) ?_
  intro W base args ds gs before hval0 hW hcnd _
  have hval : ∀ (j : Nat) t v, Try.f5.params[j]? = some t → args[j]? = some v → Value.okWide Try.prog W .any base t v := hval0
  have hW' := hW
  obtain ⟨p, q, hA0, hV, rfl, hfz, hnd⟩ := hW
  have hA : DataW.TrodAll enc Try.prog W 0 (fun _ => true) true Try.f5.params.toList args.toList ds p := hA0
  rw [Try.params5] at hA hval
  obtain ⟨v0, vs0, d0, ds0, p0, q0, hargs, rfl, rfl, h0, r0⟩ := trodAll_cons hA
  obtain ⟨v1, vs1, d1, ds1, p1, q1, rfl, rfl, rfl, h1, r1⟩ := trodAll_cons r0
  obtain ⟨rfl, rfl, rfl⟩ := trodAll_nil r1
  obtain rfl : args = #[v0, v1] := by cases args; simp_all
  obtain ⟨rfl, rfl⟩ := trodVars_none hV
  obtain ⟨code, lencode, capcode, rfl⟩ := okWide_slice Try.underlying22 (hval 0 22 v0 rfl rfl)
  have k0 := h0
  have lt0 : ∀ x ∈ p0, x.block < W.heap.size := by obtain ⟨m, hm⟩ := k0; exact DataW.trod_lt m _ _ _ hm
  obtain ⟨zcode, wcode⟩ : ∃ zs, IsRow .u8 W code lencode capcode zs := by
    obtain ⟨fuel, hf⟩ := h0
    rcases open_ints Try.underlying22 Try.underlying5 (by kernel_rfl) hf with ⟨hcs, _⟩ | ⟨x, l, c, zs, hcs, _, hl, hm, hz, _, hcell, hwz⟩
    · simp [Value.cells] at hcs
      obtain ⟨rfl, rfl, rfl⟩ := hcs
      exact ⟨[], .inl ⟨rfl, rfl, rfl, rfl⟩⟩
    · simp [Value.cells] at hcs
      obtain ⟨rfl, rfl, rfl⟩ := hcs
      exact ⟨zs, .inr ⟨_, rfl, hl, hm, by simpa using hz, hcell, hwz⟩⟩
  obtain ⟨more, lenmore, capmore, rfl⟩ := okWide_slice Try.underlying22 (hval 1 22 v1 rfl rfl)
  have k1 := h1
  have lt1 : ∀ x ∈ p1, x.block < W.heap.size := by obtain ⟨m, hm⟩ := k1; exact DataW.trod_lt m _ _ _ hm
  obtain ⟨zmore, wmore⟩ : ∃ zs, IsRow .u8 W more lenmore capmore zs := by
    obtain ⟨fuel, hf⟩ := h1
    rcases open_ints Try.underlying22 Try.underlying5 (by kernel_rfl) hf with ⟨hcs, _⟩ | ⟨x, l, c, zs, hcs, _, hl, hm, hz, _, hcell, hwz⟩
    · simp [Value.cells] at hcs
      obtain ⟨rfl, rfl, rfl⟩ := hcs
      exact ⟨[], .inl ⟨rfl, rfl, rfl, rfl⟩⟩
    · simp [Value.cells] at hcs
      obtain ⟨rfl, rfl, rfl⟩ := hcs
      exact ⟨zs, .inr ⟨_, rfl, hl, hm, by simpa using hz, hcell, hwz⟩⟩
  clear hA0 hval0
  refine (walk code lencode capcode zcode more lenmore capmore zmore W wcode wmore).mono fun e W' ⟨he, bel⟩ => ?_
  subst he
  exact ⟨_, rfl, _, _, _, [], _, [], hW', trodAll_mk1 (shut_bool Try.underlying4 _), (trodAll_cons_mk (Below.trod laidOut (by kernel_rfl) (of_decide_eq_true (by kernel_rfl)) k0 bel lt0) (trodAll_cons_mk (Below.trod laidOut (by kernel_rfl) (of_decide_eq_true (by kernel_rfl)) k1 bel lt1) trodAll_mk0)), rfl, bel.frame _, fun h => by cases h⟩

theorem over : Rows.fnVecRingRow.holds Try.pinned (OpenSpec.ofChange Rows.fnVecRingSpec) :=
  OpenClaim.holds_of_wide 5 Try.f5 rfl rfl rfl rfl rfl rfl rfl ⟨rfl, rfl, rfl, rfl, rfl⟩ rfl rfl rfl rfl rfl (by kernel_rfl) Try.func5 (by kernel_rfl)
    (of_decide_eq_true (by kernel_rfl)) (by unfold Func.isWrapper; first | (rw [if_pos (by decide +kernel)]; kernel_rfl) | (rw [if_neg (by decide +kernel)]; exact ⟨rfl, rfl⟩))
    (fun os started H enc _ => lifted os started H enc)
end vRing

theorem vRing_holds : Rows.FnVecRingSaid := vRing.over
#print axioms vRing_holds
end Go.Proofs.Ytbfechcncgoopaa
