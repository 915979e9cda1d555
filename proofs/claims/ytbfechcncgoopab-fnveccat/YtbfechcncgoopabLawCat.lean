/- Joining bits is associative: the law FnVecCat returns true for every two codes of bytes, and leaves them as they were. No condition (the law itself answers true where a code takes more than 1048576 bytes). -/
import Derived.Test.YtbfechcncgoopabVecL
import Derived.Test.YtbfechcncgoopabVecT
import Derived.Test.YtbfechcncgoopabDrwO
import Derived.Test.YtbfechcncgoopabRow
namespace Go.Proofs.Ytbfechcncgoopab
open Go.ChangeShapes Go.WideShapes Go.ChangeAt Go.RowKit Go.Joins
open Go.ChangeMaps (open_string shut_string)
set_option linter.unusedVariables false
attribute [local go_sem ↓] Go.wp_at_zero Go.wp_at_succ
theorem cat_yes {a x b y : Int} (hx : okB a x = true) (hy : okB b y = true) (h : a + b ≤ 4) : binV 14 a x b y = .tuple #[.agg #[.int .i64 (a + b), .int .i64 (x * two b + y)], .bool true] := by
  unfold binV
  rw [if_pos ⟨hx, hy⟩, if_pos rfl, if_pos h]
  rfl
theorem cat_no {a x b y : Int} (h : ¬ (okB a x = true ∧ okB b y = true ∧ a + b ≤ 4)) : binV 14 a x b y = .tuple #[.agg #[.int .i64 0, .int .i64 0], .bool false] := by
  unfold binV
  by_cases k : okB a x = true ∧ okB b y = true
  · rw [if_pos k, if_pos rfl, if_neg (fun k' => h ⟨k.1, k.2, k'⟩)]
    rfl
  · rw [if_neg k]
    rfl
theorem two_add {a b : Int} (ha : 0 ≤ a) (hb : 0 ≤ b) : two (a + b) = two a * two b := by
  unfold two
  rw [Int.toNat_add ha hb, Nat.pow_add]
  simp
theorem two_pos (a : Int) : 0 < two a := by unfold two; exact_mod_cast Nat.pow_pos (by omega)
theorem cat_ok {a x b y : Int} (hx : okB a x = true) (hy : okB b y = true) (h : a + b ≤ 4) : okB (a + b) (x * two b + y) = true := by
  obtain ⟨h1, h2, h3, h4, h5⟩ := ok_of hx
  obtain ⟨g1, g2, g3, g4, g5⟩ := ok_of hy
  have p := two_pos b
  refine okB_of (by omega) h (by have := Int.mul_nonneg h3 (Int.le_of_lt p); omega) ?_
  rw [two_add (by omega) (by omega)]
  have := Int.mul_le_mul_of_nonneg_right (show x + 1 ≤ two a by omega) (Int.le_of_lt p)
  rw [Int.add_mul] at this
  omega
/-- What is joined first does not matter. -/
theorem cat_ways {a x b y g z : Int} (hx : okB a x = true) (hy : okB b y = true) (hz : okB g z = true) : ∃ c d c2 d2 c3 d3 c4 d4 : Int, ∃ t t2 t3 t4 : Bool,
    binV 14 a x b y = .tuple #[.agg #[.int .i64 c, .int .i64 d], .bool t] ∧ binV 14 c d g z = .tuple #[.agg #[.int .i64 c2, .int .i64 d2], .bool t2] ∧ binV 14 b y g z = .tuple #[.agg #[.int .i64 c3, .int .i64 d3], .bool t3] ∧ binV 14 a x c3 d3 = .tuple #[.agg #[.int .i64 c4, .int .i64 d4], .bool t4]
      ∧ decide (a + b ≤ 4) = t ∧ ((t2 = true ∧ t3 = true ∧ t4 = true ∧ c4 = c2 ∧ d4 = d2 ∧ decide (a + b + g ≤ 4) = true) ∨ (t2 = false ∧ t3 = true ∧ t4 = false ∧ decide (a + b + g ≤ 4) = false) ∨ (t2 = false ∧ t3 = false ∧ t4 = false ∧ decide (a + b + g ≤ 4) = false)) := by
  have h0 : okB 0 0 = false := by decide +kernel
  obtain ⟨a1, a2, a3, a4, a5⟩ := ok_of hx
  obtain ⟨b1, b2, b3, b4, b5⟩ := ok_of hy
  obtain ⟨g1, g2, g3, g4, g5⟩ := ok_of hz
  by_cases hf : a + b + g ≤ 4
  · have k1 : a + b ≤ 4 := by omega
    have k2 : b + g ≤ 4 := by omega
    refine ⟨_, _, _, _, _, _, _, _, _, _, _, _, cat_yes hx hy k1, cat_yes (cat_ok hx hy k1) hz hf, cat_yes hy hz k2, cat_yes hx (cat_ok hy hz k2) (by omega), by simpa using k1, Or.inl ⟨rfl, rfl, rfl, by omega, ?_, by simpa using hf⟩⟩
    rw [two_add (by omega) (by omega), Int.add_mul, Int.mul_assoc, Int.add_assoc]
  · have kf : decide (a + b + g ≤ 4) = false := by simpa using hf
    have e2 : ∀ c d, (c = a + b ∨ okB c d = false) → binV 14 c d g z = .tuple #[.agg #[.int .i64 0, .int .i64 0], .bool false] := by
      intro c d h
      refine cat_no (fun k => ?_)
      rcases h with rfl | h
      · omega
      · simp [h] at k
    by_cases k2 : b + g ≤ 4
    · have e4 : binV 14 a x (b + g) (y * two g + z) = .tuple #[.agg #[.int .i64 0, .int .i64 0], .bool false] := cat_no (fun k => by omega)
      by_cases k1 : a + b ≤ 4
      · exact ⟨_, _, _, _, _, _, _, _, _, _, _, _, cat_yes hx hy k1, e2 _ _ (Or.inl rfl), cat_yes hy hz k2, e4, by simpa using k1, Or.inr (Or.inl ⟨rfl, rfl, rfl, kf⟩)⟩
      · exact ⟨_, _, _, _, _, _, _, _, _, _, _, _, cat_no (fun k => k1 k.2.2), e2 _ _ (Or.inr h0), cat_yes hy hz k2, e4, by simpa using k1, Or.inr (Or.inl ⟨rfl, rfl, rfl, kf⟩)⟩
    · have e4 : binV 14 a x 0 0 = .tuple #[.agg #[.int .i64 0, .int .i64 0], .bool false] := cat_no (fun k => by simp [h0] at k)
      by_cases k1 : a + b ≤ 4
      · exact ⟨_, _, _, _, _, _, _, _, _, _, _, _, cat_yes hx hy k1, e2 _ _ (Or.inl rfl), cat_no (fun k => k2 k.2.2), e4, by simpa using k1, Or.inr (Or.inr ⟨rfl, rfl, rfl, kf⟩)⟩
      · exact ⟨_, _, _, _, _, _, _, _, _, _, _, _, cat_no (fun k => k1 k.2.2), e2 _ _ (Or.inr h0), cat_no (fun k => k2 k.2.2), e4, by simpa using k1, Or.inr (Or.inr ⟨rfl, rfl, rfl, kf⟩)⟩

namespace vCat
set_option maxRecDepth 100000 in
set_option maxHeartbeats 4000000 in
theorem walk (code : Option Addr) (lencode capcode : Nat) (zcode : List Int) (more : Option Addr) (lenmore capmore : Nat) (zmore : List Int) (w : World) (wcode : IsRow .u8 w code lencode capcode zcode) (wmore : IsRow .u8 w more lenmore capmore zmore) :
    Calls Try.prog 5 #[.slice code lencode capcode, .slice more lenmore capmore] w fun e w' => e = .returned (.bool true) ∧ Below w.heap.size w w' := by
  obtain ⟨hby, hlc, hcm⟩ := wcode.byts
  obtain ⟨hby', hlm, hmm⟩ := wmore.byts
  by_cases hbig : 1048576 < lencode
  · go_enter Try.func5, Try.ntmps5
    go_wp2
    go_ret
    exact ⟨rfl, Below.refl _ _⟩
  · have t0 : decide (1048576 < (lencode : Int)) = false := by simp; omega
    by_cases hbig' : 1048576 < lenmore
    · go_enter Try.func5, Try.ntmps5
      go_wp2
      go_ret
      exact ⟨rfl, Below.refl _ _⟩
    · have t1 : decide (1048576 < (lenmore : Int)) = false := by simp; omega
      have HB := hide hby
      have HL := hide hcm
      have HB' := hide hby'
      have HL' := hide hmm
      clear hby wcode hcm hby' wmore hmm
      go_enter Try.func5, Try.ntmps5
      go_wp2_with fail
      refine (drawBin_any _ _ _ _ (by omega) hlc (unhide HL) (unhide HB)).mono ?_
      rintro e w1 ⟨op, a, x, b, y, rfl, BL⟩
      clear HB
      go_wp2_with fail
      refine (drawOk_any _ _ _ _ (by omega) hlm (unhide HL') ((unhide HB').up (by have := BL.size; simp; omega) ((BL.alloc BL.size _).alloc (BL.alloc BL.size _).size _))).mono ?_
      rintro e w2 ⟨g, z, rfl, b2⟩
      have PB := ((Box.new w1 a x 24).alloc _).below b2
      have QB := ((Box.new (w1.alloc (.cells #[.int .i64 a, .int .i64 x] 24)) b y 24)).below b2
      simp only [World.size_alloc] at QB
      replace BL := ((BL.alloc (BL.size) (.cells #[.int .i64 a, .int .i64 x] 24)).alloc ((BL.alloc (BL.size) (.cells #[.int .i64 a, .int .i64 x] 24)).size) (.cells #[.int .i64 b, .int .i64 y] 24)).trans (b2.mono ((BL.alloc (BL.size) (.cells #[.int .i64 a, .int .i64 x] 24)).alloc ((BL.alloc (BL.size) (.cells #[.int .i64 a, .int .i64 x] 24)).size) (.cells #[.int .i64 b, .int .i64 y] 24)).size)
      clear b2
      obtain ⟨PB0, PB1, _, _⟩ := id PB
      have PBl := PB.lt
      obtain ⟨QB0, QB1, _, _⟩ := id QB
      have QBl := QB.lt
      clear HB'
      by_cases hxy : okB a x = true ∧ okB b y = true
      · obtain ⟨hx, hy⟩ := hxy
        cases hz : okB g z
        · obtain ⟨c, d, t, hV⟩ := binV_form 14 a x b y
          have hs := fun w => sVecBin_any 14 a x b y w
          have hi := fun w => iVecBin_any 14 a x b y w
          simp only [hV] at hs hi
          have HS := hide hs
          have HI := hide hi
          clear hs hi
          have ht : (t != t) = false := by simp
          clear hV
          go_wp2_with fail
          refine (unhide HI _).mono ?_
          rintro e w3 ⟨rfl, b3⟩
          clear PB0 PB1 PBl QB0 QB1 QBl
          replace PB := (PB.alloc _).below b3
          replace QB := (QB.alloc _).below b3
          have GB := ((Box.new w2 g z 24)).below b3
          replace BL := (BL.alloc (BL.size) (.cells #[.int .i64 g, .int .i64 z] 24)).trans (b3.mono (BL.alloc (BL.size) (.cells #[.int .i64 g, .int .i64 z] 24)).size)
          clear b3
          obtain ⟨PB0, PB1, _, _⟩ := id PB
          have PBl := PB.lt
          obtain ⟨QB0, QB1, _, _⟩ := id QB
          have QBl := QB.lt
          obtain ⟨GB0, GB1, _, _⟩ := id GB
          have GBl := GB.lt
          go_wp2_with fail
          refine (unhide HS _).mono ?_
          rintro e w4 ⟨rfl, b4⟩
          clear PB0 PB1 PBl QB0 QB1 QBl GB0 GB1 GBl
          replace PB := (PB.alloc _).below b4
          replace QB := (QB.alloc _).below b4
          replace GB := (GB.alloc _).below b4
          have XB := ((Box.new w3 c d 24)).below b4
          replace BL := (BL.alloc (BL.size) (.cells #[.int .i64 c, .int .i64 d] 24)).trans (b4.mono (BL.alloc (BL.size) (.cells #[.int .i64 c, .int .i64 d] 24)).size)
          clear b4
          obtain ⟨PB0, PB1, _, _⟩ := id PB
          have PBl := PB.lt
          obtain ⟨QB0, QB1, _, _⟩ := id QB
          have QBl := QB.lt
          obtain ⟨GB0, GB1, _, _⟩ := id GB
          have GBl := GB.lt
          obtain ⟨XB0, XB1, _, _⟩ := id XB
          have XBl := XB.lt
          have kz : (okB g z != okB g z) = false := by simp
          go_wp2_with fail
          clear PB0 PB1 PBl QB0 QB1 QBl GB0 GB1 GBl XB0 XB1 XBl
          replace PB := PB.alloc (.cells #[.int .i64 c, .int .i64 d] 24)
          replace QB := QB.alloc (.cells #[.int .i64 c, .int .i64 d] 24)
          replace GB := GB.alloc (.cells #[.int .i64 c, .int .i64 d] 24)
          replace XB := XB.alloc (.cells #[.int .i64 c, .int .i64 d] 24)
          have YB := Box.new w4 c d 24
          replace BL := BL.alloc BL.size (.cells #[.int .i64 c, .int .i64 d] 24)
          obtain ⟨PB0, PB1, _, _⟩ := id PB
          have PBl := PB.lt
          obtain ⟨QB0, QB1, _, _⟩ := id QB
          have QBl := QB.lt
          obtain ⟨GB0, GB1, _, _⟩ := id GB
          have GBl := GB.lt
          obtain ⟨XB0, XB1, _, _⟩ := id XB
          have XBl := XB.lt
          obtain ⟨YB0, YB1, _, _⟩ := id YB
          have YBl := YB.lt
          go_region_held3 (fun w' => w'.cell? ⟨w2.heap.size, 0, none⟩ = some (.int .i64 g) ∧ w'.cell? ⟨w2.heap.size, 1, none⟩ = some (.int .i64 z) ∧ w'.cell? ⟨w3.heap.size, 0, none⟩ = some (.int .i64 c) ∧ w'.cell? ⟨w3.heap.size, 1, none⟩ = some (.int .i64 d) ∧ w'.cell? ⟨w4.heap.size, 0, none⟩ = some (.int .i64 c) ∧ w'.cell? ⟨w4.heap.size, 1, none⟩ = some (.int .i64 d)) (first | go_keep | exact ⟨GB.1, GB.2.1, XB.1, XB.2.1, YB.1, YB.2.1⟩)
            (first | (go_at_call 10; refine (iVecOk_any _ _ _).mono ?_; rintro e wq ⟨rfl, bq⟩; have PB := (by first | exact PB.below bq | exact PB.drew.below bq); have QB := (by first | exact QB.below bq | exact QB.drew.below bq); have GB := (by first | exact GB.below bq | exact GB.drew.below bq); have XB := (by first | exact XB.below bq | exact XB.drew.below bq); have YB := (by first | exact YB.below bq | exact YB.drew.below bq); have BL := (by first | exact BL.trans (bq.mono BL.size) | exact BL.drew.trans (bq.mono BL.size))) | (go_at_call 20; refine (sVecOk_any _ _ _).mono ?_; rintro e wq ⟨rfl, bq⟩; have PB := (by first | exact PB.below bq | exact PB.drew.below bq); have QB := (by first | exact QB.below bq | exact QB.drew.below bq); have GB := (by first | exact GB.below bq | exact GB.drew.below bq); have XB := (by first | exact XB.below bq | exact XB.drew.below bq); have YB := (by first | exact YB.below bq | exact YB.drew.below bq); have BL := (by first | exact BL.trans (bq.mono BL.size) | exact BL.drew.trans (bq.mono BL.size))))
          clear PB0 PB1 PBl QB0 QB1 QBl GB0 GB1 GBl XB0 XB1 XBl YB0 YB1 YBl
          obtain ⟨PB0, PB1, _, _⟩ := id PB
          have PBl := PB.lt
          obtain ⟨QB0, QB1, _, _⟩ := id QB
          have QBl := QB.lt
          obtain ⟨GB0, GB1, _, _⟩ := id GB
          have GBl := GB.lt
          obtain ⟨XB0, XB1, _, _⟩ := id XB
          have XBl := XB.lt
          obtain ⟨YB0, YB1, _, _⟩ := id YB
          have YBl := YB.lt
          go_wp2_with fail
          refine (iVecOk_any _ _ _).mono ?_
          rintro e w7 ⟨rfl, b7⟩
          clear PB0 PB1 PBl QB0 QB1 QBl GB0 GB1 GBl XB0 XB1 XBl YB0 YB1 YBl
          replace PB := (by first | exact PB.below b7 | exact PB.drew.below b7)
          replace QB := (by first | exact QB.below b7 | exact QB.drew.below b7)
          replace GB := (by first | exact GB.below b7 | exact GB.drew.below b7)
          replace XB := (by first | exact XB.below b7 | exact XB.drew.below b7)
          replace YB := (by first | exact YB.below b7 | exact YB.drew.below b7)
          replace BL := (by first | exact BL.trans (b7.mono BL.size) | exact BL.drew.trans (b7.mono BL.size))
          clear b7
          obtain ⟨PB0, PB1, _, _⟩ := id PB
          have PBl := PB.lt
          obtain ⟨QB0, QB1, _, _⟩ := id QB
          have QBl := QB.lt
          obtain ⟨GB0, GB1, _, _⟩ := id GB
          have GBl := GB.lt
          obtain ⟨XB0, XB1, _, _⟩ := id XB
          have XBl := XB.lt
          obtain ⟨YB0, YB1, _, _⟩ := id YB
          have YBl := YB.lt
          go_wp2_with fail
          refine (iVecOk_any _ _ _).mono ?_
          rintro e w8 ⟨rfl, b8⟩
          clear PB0 PB1 PBl QB0 QB1 QBl GB0 GB1 GBl XB0 XB1 XBl YB0 YB1 YBl
          replace PB := (PB).below b8
          replace QB := (QB).below b8
          replace GB := (GB).below b8
          replace XB := (XB).below b8
          replace YB := (YB).below b8
          replace BL := BL.trans (b8.mono BL.size)
          clear b8
          obtain ⟨PB0, PB1, _, _⟩ := id PB
          have PBl := PB.lt
          obtain ⟨QB0, QB1, _, _⟩ := id QB
          have QBl := QB.lt
          obtain ⟨GB0, GB1, _, _⟩ := id GB
          have GBl := GB.lt
          obtain ⟨XB0, XB1, _, _⟩ := id XB
          have XBl := XB.lt
          obtain ⟨YB0, YB1, _, _⟩ := id YB
          have YBl := YB.lt
          go_wp2_with fail
          refine (iVecOk_any _ _ _).mono ?_
          rintro e w9 ⟨rfl, b9⟩
          clear PB0 PB1 PBl QB0 QB1 QBl GB0 GB1 GBl XB0 XB1 XBl YB0 YB1 YBl
          replace PB := (PB).below b9
          replace QB := (QB).below b9
          replace GB := (GB).below b9
          replace XB := (XB).below b9
          replace YB := (YB).below b9
          replace BL := BL.trans (b9.mono BL.size)
          clear b9
          obtain ⟨PB0, PB1, _, _⟩ := id PB
          have PBl := PB.lt
          obtain ⟨QB0, QB1, _, _⟩ := id QB
          have QBl := QB.lt
          obtain ⟨GB0, GB1, _, _⟩ := id GB
          have GBl := GB.lt
          obtain ⟨XB0, XB1, _, _⟩ := id XB
          have XBl := XB.lt
          obtain ⟨YB0, YB1, _, _⟩ := id YB
          have YBl := YB.lt
          cases t
          · go_wp2
            go_ret
            exact ⟨rfl, BL⟩
          · go_wp2_with fail
            refine (iVecOk_any _ _ _).mono ?_
            rintro e w10 ⟨rfl, b10⟩
            clear PB0 PB1 PBl QB0 QB1 QBl GB0 GB1 GBl XB0 XB1 XBl YB0 YB1 YBl
            replace PB := (PB).below b10
            replace QB := (QB).below b10
            replace GB := (GB).below b10
            replace XB := (XB).below b10
            replace YB := (YB).below b10
            replace BL := BL.trans (b10.mono BL.size)
            clear b10
            obtain ⟨PB0, PB1, _, _⟩ := id PB
            have PBl := PB.lt
            obtain ⟨QB0, QB1, _, _⟩ := id QB
            have QBl := QB.lt
            obtain ⟨GB0, GB1, _, _⟩ := id GB
            have GBl := GB.lt
            obtain ⟨XB0, XB1, _, _⟩ := id XB
            have XBl := XB.lt
            obtain ⟨YB0, YB1, _, _⟩ := id YB
            have YBl := YB.lt
            go_wp2_with fail
            refine (iVecOk_any _ _ _).mono ?_
            rintro e w11 ⟨rfl, b11⟩
            clear PB0 PB1 PBl QB0 QB1 QBl GB0 GB1 GBl XB0 XB1 XBl YB0 YB1 YBl
            replace PB := (PB).below b11
            replace QB := (QB).below b11
            replace GB := (GB).below b11
            replace XB := (XB).below b11
            replace YB := (YB).below b11
            replace BL := BL.trans (b11.mono BL.size)
            clear b11
            obtain ⟨PB0, PB1, _, _⟩ := id PB
            have PBl := PB.lt
            obtain ⟨QB0, QB1, _, _⟩ := id QB
            have QBl := QB.lt
            obtain ⟨GB0, GB1, _, _⟩ := id GB
            have GBl := GB.lt
            obtain ⟨XB0, XB1, _, _⟩ := id XB
            have XBl := XB.lt
            obtain ⟨YB0, YB1, _, _⟩ := id YB
            have YBl := YB.lt
            go_wp2
            go_ret
            exact ⟨rfl, BL⟩
        · obtain ⟨a1, a2, a3, a4, a5⟩ := ok_of hx
          obtain ⟨b1, b2, b3, b4, b5⟩ := ok_of hy
          obtain ⟨g1, g2, g3, g4, g5⟩ := ok_of hz
          obtain ⟨c, d, c2, d2, c3, d3, c4, d4, t, t2, t3, t4, hV, hV2, hV3, hV4, hab, hw⟩ := cat_ways hx hy hz
          have hs := fun w => sVecBin_any 14 a x b y w
          have hi := fun w => iVecBin_any 14 a x b y w
          simp only [hV] at hs hi
          have HS := hide hs
          have HI := hide hi
          clear hs hi
          have ht : (t != t) = false := by simp
          have hi2 := fun w => iVecBin_any 14 c d g z w
          simp only [hV2] at hi2
          have HI2 := hide hi2
          clear hi2
          have hi3 := fun w => iVecBin_any 14 b y g z w
          simp only [hV3] at hi3
          have HI3 := hide hi3
          clear hi3
          have hi4 := fun w => iVecBin_any 14 a x c3 d3 w
          simp only [hV4] at hi4
          have HI4 := hide hi4
          clear hi4
          clear hV hV2 hV3 hV4
          go_wp2_with fail
          refine (unhide HI _).mono ?_
          rintro e w3 ⟨rfl, b3⟩
          clear PB0 PB1 PBl QB0 QB1 QBl
          replace PB := (PB.alloc _).below b3
          replace QB := (QB.alloc _).below b3
          have GB := ((Box.new w2 g z 24)).below b3
          replace BL := (BL.alloc (BL.size) (.cells #[.int .i64 g, .int .i64 z] 24)).trans (b3.mono (BL.alloc (BL.size) (.cells #[.int .i64 g, .int .i64 z] 24)).size)
          clear b3
          obtain ⟨PB0, PB1, _, _⟩ := id PB
          have PBl := PB.lt
          obtain ⟨QB0, QB1, _, _⟩ := id QB
          have QBl := QB.lt
          obtain ⟨GB0, GB1, _, _⟩ := id GB
          have GBl := GB.lt
          go_wp2_with fail
          refine (unhide HS _).mono ?_
          rintro e w4 ⟨rfl, b4⟩
          clear PB0 PB1 PBl QB0 QB1 QBl GB0 GB1 GBl
          replace PB := (PB.alloc _).below b4
          replace QB := (QB.alloc _).below b4
          replace GB := (GB.alloc _).below b4
          have XB := ((Box.new w3 c d 24)).below b4
          replace BL := (BL.alloc (BL.size) (.cells #[.int .i64 c, .int .i64 d] 24)).trans (b4.mono (BL.alloc (BL.size) (.cells #[.int .i64 c, .int .i64 d] 24)).size)
          clear b4
          obtain ⟨PB0, PB1, _, _⟩ := id PB
          have PBl := PB.lt
          obtain ⟨QB0, QB1, _, _⟩ := id QB
          have QBl := QB.lt
          obtain ⟨GB0, GB1, _, _⟩ := id GB
          have GBl := GB.lt
          obtain ⟨XB0, XB1, _, _⟩ := id XB
          have XBl := XB.lt
          have kz : (okB g z != okB g z) = false := by simp
          go_wp2_with fail
          clear PB0 PB1 PBl QB0 QB1 QBl GB0 GB1 GBl XB0 XB1 XBl
          replace PB := PB.alloc (.cells #[.int .i64 c, .int .i64 d] 24)
          replace QB := QB.alloc (.cells #[.int .i64 c, .int .i64 d] 24)
          replace GB := GB.alloc (.cells #[.int .i64 c, .int .i64 d] 24)
          replace XB := XB.alloc (.cells #[.int .i64 c, .int .i64 d] 24)
          have YB := Box.new w4 c d 24
          replace BL := BL.alloc BL.size (.cells #[.int .i64 c, .int .i64 d] 24)
          obtain ⟨PB0, PB1, _, _⟩ := id PB
          have PBl := PB.lt
          obtain ⟨QB0, QB1, _, _⟩ := id QB
          have QBl := QB.lt
          obtain ⟨GB0, GB1, _, _⟩ := id GB
          have GBl := GB.lt
          obtain ⟨XB0, XB1, _, _⟩ := id XB
          have XBl := XB.lt
          obtain ⟨YB0, YB1, _, _⟩ := id YB
          have YBl := YB.lt
          go_region_held3 (fun w' => w'.cell? ⟨w2.heap.size, 0, none⟩ = some (.int .i64 g) ∧ w'.cell? ⟨w2.heap.size, 1, none⟩ = some (.int .i64 z) ∧ w'.cell? ⟨w3.heap.size, 0, none⟩ = some (.int .i64 c) ∧ w'.cell? ⟨w3.heap.size, 1, none⟩ = some (.int .i64 d) ∧ w'.cell? ⟨w4.heap.size, 0, none⟩ = some (.int .i64 c) ∧ w'.cell? ⟨w4.heap.size, 1, none⟩ = some (.int .i64 d)) (first | go_keep | exact ⟨GB.1, GB.2.1, XB.1, XB.2.1, YB.1, YB.2.1⟩)
            (first | (go_at_call 10; refine (iVecOk_any _ _ _).mono ?_; rintro e wq ⟨rfl, bq⟩; have PB := (by first | exact PB.below bq | exact PB.drew.below bq); have QB := (by first | exact QB.below bq | exact QB.drew.below bq); have GB := (by first | exact GB.below bq | exact GB.drew.below bq); have XB := (by first | exact XB.below bq | exact XB.drew.below bq); have YB := (by first | exact YB.below bq | exact YB.drew.below bq); have BL := (by first | exact BL.trans (bq.mono BL.size) | exact BL.drew.trans (bq.mono BL.size))) | (go_at_call 20; refine (sVecOk_any _ _ _).mono ?_; rintro e wq ⟨rfl, bq⟩; have PB := (by first | exact PB.below bq | exact PB.drew.below bq); have QB := (by first | exact QB.below bq | exact QB.drew.below bq); have GB := (by first | exact GB.below bq | exact GB.drew.below bq); have XB := (by first | exact XB.below bq | exact XB.drew.below bq); have YB := (by first | exact YB.below bq | exact YB.drew.below bq); have BL := (by first | exact BL.trans (bq.mono BL.size) | exact BL.drew.trans (bq.mono BL.size))))
          clear PB0 PB1 PBl QB0 QB1 QBl GB0 GB1 GBl XB0 XB1 XBl YB0 YB1 YBl
          obtain ⟨PB0, PB1, _, _⟩ := id PB
          have PBl := PB.lt
          obtain ⟨QB0, QB1, _, _⟩ := id QB
          have QBl := QB.lt
          obtain ⟨GB0, GB1, _, _⟩ := id GB
          have GBl := GB.lt
          obtain ⟨XB0, XB1, _, _⟩ := id XB
          have XBl := XB.lt
          obtain ⟨YB0, YB1, _, _⟩ := id YB
          have YBl := YB.lt
          go_wp2_with fail
          refine (iVecOk_any _ _ _).mono ?_
          rintro e w7 ⟨rfl, b7⟩
          clear PB0 PB1 PBl QB0 QB1 QBl GB0 GB1 GBl XB0 XB1 XBl YB0 YB1 YBl
          replace PB := (by first | exact PB.below b7 | exact PB.drew.below b7)
          replace QB := (by first | exact QB.below b7 | exact QB.drew.below b7)
          replace GB := (by first | exact GB.below b7 | exact GB.drew.below b7)
          replace XB := (by first | exact XB.below b7 | exact XB.drew.below b7)
          replace YB := (by first | exact YB.below b7 | exact YB.drew.below b7)
          replace BL := (by first | exact BL.trans (b7.mono BL.size) | exact BL.drew.trans (b7.mono BL.size))
          clear b7
          obtain ⟨PB0, PB1, _, _⟩ := id PB
          have PBl := PB.lt
          obtain ⟨QB0, QB1, _, _⟩ := id QB
          have QBl := QB.lt
          obtain ⟨GB0, GB1, _, _⟩ := id GB
          have GBl := GB.lt
          obtain ⟨XB0, XB1, _, _⟩ := id XB
          have XBl := XB.lt
          obtain ⟨YB0, YB1, _, _⟩ := id YB
          have YBl := YB.lt
          go_wp2_with fail
          refine (iVecOk_any _ _ _).mono ?_
          rintro e w8 ⟨rfl, b8⟩
          clear PB0 PB1 PBl QB0 QB1 QBl GB0 GB1 GBl XB0 XB1 XBl YB0 YB1 YBl
          replace PB := (PB).below b8
          replace QB := (QB).below b8
          replace GB := (GB).below b8
          replace XB := (XB).below b8
          replace YB := (YB).below b8
          replace BL := BL.trans (b8.mono BL.size)
          clear b8
          obtain ⟨PB0, PB1, _, _⟩ := id PB
          have PBl := PB.lt
          obtain ⟨QB0, QB1, _, _⟩ := id QB
          have QBl := QB.lt
          obtain ⟨GB0, GB1, _, _⟩ := id GB
          have GBl := GB.lt
          obtain ⟨XB0, XB1, _, _⟩ := id XB
          have XBl := XB.lt
          obtain ⟨YB0, YB1, _, _⟩ := id YB
          have YBl := YB.lt
          go_wp2_with fail
          refine (iVecOk_any _ _ _).mono ?_
          rintro e w9 ⟨rfl, b9⟩
          clear PB0 PB1 PBl QB0 QB1 QBl GB0 GB1 GBl XB0 XB1 XBl YB0 YB1 YBl
          replace PB := (PB).below b9
          replace QB := (QB).below b9
          replace GB := (GB).below b9
          replace XB := (XB).below b9
          replace YB := (YB).below b9
          replace BL := BL.trans (b9.mono BL.size)
          clear b9
          obtain ⟨PB0, PB1, _, _⟩ := id PB
          have PBl := PB.lt
          obtain ⟨QB0, QB1, _, _⟩ := id QB
          have QBl := QB.lt
          obtain ⟨GB0, GB1, _, _⟩ := id GB
          have GBl := GB.lt
          obtain ⟨XB0, XB1, _, _⟩ := id XB
          have XBl := XB.lt
          obtain ⟨YB0, YB1, _, _⟩ := id YB
          have YBl := YB.lt
          go_wp2_with fail
          refine (unhide HI2 _).mono ?_
          rintro e w10 ⟨rfl, b10⟩
          clear PB0 PB1 PBl QB0 QB1 QBl GB0 GB1 GBl XB0 XB1 XBl YB0 YB1 YBl
          replace PB := (PB).below b10
          replace QB := (QB).below b10
          replace GB := (GB).below b10
          replace XB := (XB).below b10
          replace YB := (YB).below b10
          replace BL := BL.trans (b10.mono BL.size)
          clear b10
          obtain ⟨PB0, PB1, _, _⟩ := id PB
          have PBl := PB.lt
          obtain ⟨QB0, QB1, _, _⟩ := id QB
          have QBl := QB.lt
          obtain ⟨GB0, GB1, _, _⟩ := id GB
          have GBl := GB.lt
          obtain ⟨XB0, XB1, _, _⟩ := id XB
          have XBl := XB.lt
          obtain ⟨YB0, YB1, _, _⟩ := id YB
          have YBl := YB.lt
          go_wp2_with fail
          refine (unhide HI3 _).mono ?_
          rintro e w11 ⟨rfl, b11⟩
          clear PB0 PB1 PBl QB0 QB1 QBl GB0 GB1 GBl XB0 XB1 XBl YB0 YB1 YBl
          replace PB := (PB.alloc _).below b11
          replace QB := (QB.alloc _).below b11
          replace GB := (GB.alloc _).below b11
          replace XB := (XB.alloc _).below b11
          replace YB := (YB.alloc _).below b11
          have LB := ((Box.new w10 c2 d2 24)).below b11
          replace BL := (BL.alloc (BL.size) (.cells #[.int .i64 c2, .int .i64 d2] 24)).trans (b11.mono (BL.alloc (BL.size) (.cells #[.int .i64 c2, .int .i64 d2] 24)).size)
          clear b11
          obtain ⟨PB0, PB1, _, _⟩ := id PB
          have PBl := PB.lt
          obtain ⟨QB0, QB1, _, _⟩ := id QB
          have QBl := QB.lt
          obtain ⟨GB0, GB1, _, _⟩ := id GB
          have GBl := GB.lt
          obtain ⟨XB0, XB1, _, _⟩ := id XB
          have XBl := XB.lt
          obtain ⟨YB0, YB1, _, _⟩ := id YB
          have YBl := YB.lt
          obtain ⟨LB0, LB1, _, _⟩ := id LB
          have LBl := LB.lt
          go_wp2_with fail
          refine (unhide HI4 _).mono ?_
          rintro e w12 ⟨rfl, b12⟩
          clear PB0 PB1 PBl QB0 QB1 QBl GB0 GB1 GBl XB0 XB1 XBl YB0 YB1 YBl LB0 LB1 LBl
          replace PB := (PB.alloc _).below b12
          replace QB := (QB.alloc _).below b12
          replace GB := (GB.alloc _).below b12
          replace XB := (XB.alloc _).below b12
          replace YB := (YB.alloc _).below b12
          replace LB := (LB.alloc _).below b12
          have MB := ((Box.new w11 c3 d3 24)).below b12
          replace BL := (BL.alloc (BL.size) (.cells #[.int .i64 c3, .int .i64 d3] 24)).trans (b12.mono (BL.alloc (BL.size) (.cells #[.int .i64 c3, .int .i64 d3] 24)).size)
          clear b12
          obtain ⟨PB0, PB1, _, _⟩ := id PB
          have PBl := PB.lt
          obtain ⟨QB0, QB1, _, _⟩ := id QB
          have QBl := QB.lt
          obtain ⟨GB0, GB1, _, _⟩ := id GB
          have GBl := GB.lt
          obtain ⟨XB0, XB1, _, _⟩ := id XB
          have XBl := XB.lt
          obtain ⟨YB0, YB1, _, _⟩ := id YB
          have YBl := YB.lt
          obtain ⟨LB0, LB1, _, _⟩ := id LB
          have LBl := LB.lt
          obtain ⟨MB0, MB1, _, _⟩ := id MB
          have MBl := MB.lt
          clear HI HS HI2 HI3 HI4
          have htt : (t == t) = true := by simp
          rcases hw with ⟨rfl, rfl, rfl, rfl, rfl, hf⟩ | ⟨rfl, rfl, rfl, hf⟩ | ⟨rfl, rfl, rfl, hf⟩
          · go_wp2
            go_ret
            exact ⟨rfl, (BL.alloc (BL.size) (.cells #[.int .i64 c4, .int .i64 d4] 24))⟩
          · go_wp2
            go_ret
            exact ⟨rfl, (BL.alloc (BL.size) (.cells #[.int .i64 c4, .int .i64 d4] 24))⟩
          · go_wp2
            go_ret
            exact ⟨rfl, (BL.alloc (BL.size) (.cells #[.int .i64 c4, .int .i64 d4] 24))⟩
      · obtain ⟨c, d, t, hV⟩ := binV_form 14 a x b y
        obtain ⟨rfl, rfl, rfl⟩ : c = 0 ∧ d = 0 ∧ t = false := by have h := cat_no (a := a) (x := x) (b := b) (y := y) (fun k => hxy ⟨k.1, k.2.1⟩); rw [hV] at h; simpa [and_assoc] using h
        have hs := fun w => sVecBin_any 14 a x b y w
        have hi := fun w => iVecBin_any 14 a x b y w
        simp only [hV] at hs hi
        have HS := hide hs
        have HI := hide hi
        clear hs hi
        clear hV
        go_wp2_with fail
        refine (unhide HI _).mono ?_
        rintro e w3 ⟨rfl, b3⟩
        clear PB0 PB1 PBl QB0 QB1 QBl
        replace PB := (PB.alloc _).below b3
        replace QB := (QB.alloc _).below b3
        have GB := ((Box.new w2 g z 24)).below b3
        replace BL := (BL.alloc (BL.size) (.cells #[.int .i64 g, .int .i64 z] 24)).trans (b3.mono (BL.alloc (BL.size) (.cells #[.int .i64 g, .int .i64 z] 24)).size)
        clear b3
        obtain ⟨PB0, PB1, _, _⟩ := id PB
        have PBl := PB.lt
        obtain ⟨QB0, QB1, _, _⟩ := id QB
        have QBl := QB.lt
        obtain ⟨GB0, GB1, _, _⟩ := id GB
        have GBl := GB.lt
        go_wp2_with fail
        refine (unhide HS _).mono ?_
        rintro e w4 ⟨rfl, b4⟩
        clear PB0 PB1 PBl QB0 QB1 QBl GB0 GB1 GBl
        replace PB := (PB.alloc _).below b4
        replace QB := (QB.alloc _).below b4
        replace GB := (GB.alloc _).below b4
        have XB := ((Box.new w3 0 0 24)).below b4
        replace BL := (BL.alloc (BL.size) (.cells #[.int .i64 0, .int .i64 0] 24)).trans (b4.mono (BL.alloc (BL.size) (.cells #[.int .i64 0, .int .i64 0] 24)).size)
        clear b4
        obtain ⟨PB0, PB1, _, _⟩ := id PB
        have PBl := PB.lt
        obtain ⟨QB0, QB1, _, _⟩ := id QB
        have QBl := QB.lt
        obtain ⟨GB0, GB1, _, _⟩ := id GB
        have GBl := GB.lt
        obtain ⟨XB0, XB1, _, _⟩ := id XB
        have XBl := XB.lt
        have kz : (okB g z != okB g z) = false := by simp
        go_wp2_with fail
        clear PB0 PB1 PBl QB0 QB1 QBl GB0 GB1 GBl XB0 XB1 XBl
        replace PB := PB.alloc (.cells #[.int .i64 0, .int .i64 0] 24)
        replace QB := QB.alloc (.cells #[.int .i64 0, .int .i64 0] 24)
        replace GB := GB.alloc (.cells #[.int .i64 0, .int .i64 0] 24)
        replace XB := XB.alloc (.cells #[.int .i64 0, .int .i64 0] 24)
        have YB := Box.new w4 0 0 24
        replace BL := BL.alloc BL.size (.cells #[.int .i64 0, .int .i64 0] 24)
        obtain ⟨PB0, PB1, _, _⟩ := id PB
        have PBl := PB.lt
        obtain ⟨QB0, QB1, _, _⟩ := id QB
        have QBl := QB.lt
        obtain ⟨GB0, GB1, _, _⟩ := id GB
        have GBl := GB.lt
        obtain ⟨XB0, XB1, _, _⟩ := id XB
        have XBl := XB.lt
        obtain ⟨YB0, YB1, _, _⟩ := id YB
        have YBl := YB.lt
        go_region_held3 (fun w' => w'.cell? ⟨w2.heap.size, 0, none⟩ = some (.int .i64 g) ∧ w'.cell? ⟨w2.heap.size, 1, none⟩ = some (.int .i64 z) ∧ w'.cell? ⟨w3.heap.size, 0, none⟩ = some (.int .i64 0) ∧ w'.cell? ⟨w3.heap.size, 1, none⟩ = some (.int .i64 0) ∧ w'.cell? ⟨w4.heap.size, 0, none⟩ = some (.int .i64 0) ∧ w'.cell? ⟨w4.heap.size, 1, none⟩ = some (.int .i64 0)) (first | go_keep | exact ⟨GB.1, GB.2.1, XB.1, XB.2.1, YB.1, YB.2.1⟩)
          (first | (go_at_call 10; refine (iVecOk_any _ _ _).mono ?_; rintro e wq ⟨rfl, bq⟩; have PB := (by first | exact PB.below bq | exact PB.drew.below bq); have QB := (by first | exact QB.below bq | exact QB.drew.below bq); have GB := (by first | exact GB.below bq | exact GB.drew.below bq); have XB := (by first | exact XB.below bq | exact XB.drew.below bq); have YB := (by first | exact YB.below bq | exact YB.drew.below bq); have BL := (by first | exact BL.trans (bq.mono BL.size) | exact BL.drew.trans (bq.mono BL.size))) | (go_at_call 20; refine (sVecOk_any _ _ _).mono ?_; rintro e wq ⟨rfl, bq⟩; have PB := (by first | exact PB.below bq | exact PB.drew.below bq); have QB := (by first | exact QB.below bq | exact QB.drew.below bq); have GB := (by first | exact GB.below bq | exact GB.drew.below bq); have XB := (by first | exact XB.below bq | exact XB.drew.below bq); have YB := (by first | exact YB.below bq | exact YB.drew.below bq); have BL := (by first | exact BL.trans (bq.mono BL.size) | exact BL.drew.trans (bq.mono BL.size))))
        clear PB0 PB1 PBl QB0 QB1 QBl GB0 GB1 GBl XB0 XB1 XBl YB0 YB1 YBl
        obtain ⟨PB0, PB1, _, _⟩ := id PB
        have PBl := PB.lt
        obtain ⟨QB0, QB1, _, _⟩ := id QB
        have QBl := QB.lt
        obtain ⟨GB0, GB1, _, _⟩ := id GB
        have GBl := GB.lt
        obtain ⟨XB0, XB1, _, _⟩ := id XB
        have XBl := XB.lt
        obtain ⟨YB0, YB1, _, _⟩ := id YB
        have YBl := YB.lt
        go_wp2_with fail
        refine (iVecOk_any _ _ _).mono ?_
        rintro e w7 ⟨rfl, b7⟩
        clear PB0 PB1 PBl QB0 QB1 QBl GB0 GB1 GBl XB0 XB1 XBl YB0 YB1 YBl
        replace PB := (by first | exact PB.below b7 | exact PB.drew.below b7)
        replace QB := (by first | exact QB.below b7 | exact QB.drew.below b7)
        replace GB := (by first | exact GB.below b7 | exact GB.drew.below b7)
        replace XB := (by first | exact XB.below b7 | exact XB.drew.below b7)
        replace YB := (by first | exact YB.below b7 | exact YB.drew.below b7)
        replace BL := (by first | exact BL.trans (b7.mono BL.size) | exact BL.drew.trans (b7.mono BL.size))
        clear b7
        obtain ⟨PB0, PB1, _, _⟩ := id PB
        have PBl := PB.lt
        obtain ⟨QB0, QB1, _, _⟩ := id QB
        have QBl := QB.lt
        obtain ⟨GB0, GB1, _, _⟩ := id GB
        have GBl := GB.lt
        obtain ⟨XB0, XB1, _, _⟩ := id XB
        have XBl := XB.lt
        obtain ⟨YB0, YB1, _, _⟩ := id YB
        have YBl := YB.lt
        cases hx : okB a x
        · go_wp2
          go_ret
          exact ⟨rfl, BL⟩
        · have hy : okB b y = false := by simpa [hx] using hxy
          go_wp2_with fail
          refine (iVecOk_any _ _ _).mono ?_
          rintro e w8 ⟨rfl, b8⟩
          clear PB0 PB1 PBl QB0 QB1 QBl GB0 GB1 GBl XB0 XB1 XBl YB0 YB1 YBl
          replace PB := (PB).below b8
          replace QB := (QB).below b8
          replace GB := (GB).below b8
          replace XB := (XB).below b8
          replace YB := (YB).below b8
          replace BL := BL.trans (b8.mono BL.size)
          clear b8
          obtain ⟨PB0, PB1, _, _⟩ := id PB
          have PBl := PB.lt
          obtain ⟨QB0, QB1, _, _⟩ := id QB
          have QBl := QB.lt
          obtain ⟨GB0, GB1, _, _⟩ := id GB
          have GBl := GB.lt
          obtain ⟨XB0, XB1, _, _⟩ := id XB
          have XBl := XB.lt
          obtain ⟨YB0, YB1, _, _⟩ := id YB
          have YBl := YB.lt
          go_wp2
          go_ret
          exact ⟨rfl, BL⟩

set_option maxRecDepth 100000 in
theorem lifted (os : Os) (started : os.Started) (H : Type) (enc : TypeId × Value → H) :
    ReturnsInHanded {} Try.checked os 5 .any (Rows.fnVecCatSpec.pre6 enc Try.prog Try.f5 Rows.fnVecCatRow.domain false) (Rows.fnVecCatSpec.post enc Try.prog Try.f5 false true false false) := by
  refine returnsInHanded_of_change (C := Try.checked) own started (by kernel_rfl) Try.func5
    (ChangeSpec.witness6 (enc := enc) (C := Try.checked) false ⟨#[], #[.slice none 0 0, .slice none 0 0], []⟩ 8 (by kernel_rfl) (by kernel_rfl) (by kernel_rfl) (by kernel_rfl)) ?_
  intro W base args ds gs before hval0 hW hcnd _
  have hval : ∀ (j : Nat) t v, Try.f5.params[j]? = some t → args[j]? = some v → Value.okWide Try.prog W .any base t v := hval0
  have hW' := hW
  obtain ⟨p, q, hA0, hV, rfl, hfz, hnd⟩ := hW
  have hA : DataW.TrodAll enc Try.prog W 0 (fun _ => true) true Try.f5.params.toList args.toList ds p := hA0
  rw [Try.params5] at hA hval
  obtain ⟨v0, vs0, d0, ds0, p0, q0, hargs, rfl, rfl, h0, r0⟩ := trodAll_cons hA
  obtain ⟨v1, vs1, d1, ds1, p1, q1, rfl, rfl, rfl, h1, r1⟩ := trodAll_cons r0
  obtain ⟨rfl, rfl, rfl⟩ := trodAll_nil r1
  obtain rfl : args = #[v0, v1] := by cases args; simp_all
  obtain ⟨rfl, rfl⟩ := trodVars_none hV
  obtain ⟨code, lencode, capcode, rfl⟩ := okWide_slice Try.underlying22 (hval 0 22 v0 rfl rfl)
  have k0 := h0
  have lt0 : ∀ x ∈ p0, x.block < W.heap.size := by obtain ⟨m, hm⟩ := k0; exact DataW.trod_lt m _ _ _ hm
  obtain ⟨zcode, wcode⟩ : ∃ zs, IsRow .u8 W code lencode capcode zs := by
    obtain ⟨fuel, hf⟩ := h0
    rcases open_ints Try.underlying22 Try.underlying5 (by kernel_rfl) hf with ⟨hcs, _⟩ | ⟨x, l, c, zs, hcs, _, hl, hm, hz, _, hcell, hwz⟩
    · simp [Value.cells] at hcs
      obtain ⟨rfl, rfl, rfl⟩ := hcs
      exact ⟨[], .inl ⟨rfl, rfl, rfl, rfl⟩⟩
    · simp [Value.cells] at hcs
      obtain ⟨rfl, rfl, rfl⟩ := hcs
      exact ⟨zs, .inr ⟨_, rfl, hl, hm, by simpa using hz, hcell, hwz⟩⟩
  obtain ⟨more, lenmore, capmore, rfl⟩ := okWide_slice Try.underlying22 (hval 1 22 v1 rfl rfl)
  have k1 := h1
  have lt1 : ∀ x ∈ p1, x.block < W.heap.size := by obtain ⟨m, hm⟩ := k1; exact DataW.trod_lt m _ _ _ hm
  obtain ⟨zmore, wmore⟩ : ∃ zs, IsRow .u8 W more lenmore capmore zs := by
    obtain ⟨fuel, hf⟩ := h1
    rcases open_ints Try.underlying22 Try.underlying5 (by kernel_rfl) hf with ⟨hcs, _⟩ | ⟨x, l, c, zs, hcs, _, hl, hm, hz, _, hcell, hwz⟩
    · simp [Value.cells] at hcs
      obtain ⟨rfl, rfl, rfl⟩ := hcs
      exact ⟨[], .inl ⟨rfl, rfl, rfl, rfl⟩⟩
    · simp [Value.cells] at hcs
      obtain ⟨rfl, rfl, rfl⟩ := hcs
      exact ⟨zs, .inr ⟨_, rfl, hl, hm, by simpa using hz, hcell, hwz⟩⟩
  clear hA0 hval0
  refine (walk code lencode capcode zcode more lenmore capmore zmore W wcode wmore).mono fun e W' ⟨he, bel⟩ => ?_
  subst he
  exact ⟨_, rfl, _, _, _, [], _, [], hW', trodAll_mk1 (shut_bool Try.underlying4 _), (trodAll_cons_mk (Below.trod laidOut (by kernel_rfl) (of_decide_eq_true (by kernel_rfl)) k0 bel lt0) (trodAll_cons_mk (Below.trod laidOut (by kernel_rfl) (of_decide_eq_true (by kernel_rfl)) k1 bel lt1) trodAll_mk0)), rfl, bel.frame _, fun h => by cases h⟩

theorem over : Rows.fnVecCatRow.holds Try.pinned (OpenSpec.ofChange Rows.fnVecCatSpec) :=
  OpenClaim.holds_of_wide 5 Try.f5 rfl rfl rfl rfl rfl rfl rfl ⟨rfl, rfl, rfl, rfl, rfl⟩ rfl rfl rfl rfl rfl (by kernel_rfl) Try.func5 (by kernel_rfl)
    (of_decide_eq_true (by kernel_rfl)) (by unfold Func.isWrapper; first | (rw [if_pos (by decide +kernel)]; kernel_rfl) | (rw [if_neg (by decide +kernel)]; exact ⟨rfl, rfl⟩))
    (fun os started H enc _ => lifted os started H enc)
end vCat

theorem vCat_holds : Rows.FnVecCatSaid := vCat.over
#print axioms vCat_holds
end Go.Proofs.Ytbfechcncgoopab
