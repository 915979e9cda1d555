/- Cutting and joining bits undo one another: the law FnVecCut returns true for every code of bytes, and leaves it as it was. No condition (the law itself answers true where the code takes more than 1048576 bytes). -/
import Derived.Test.YtbfechcncgoopabVecW
import Derived.Test.YtbfechcncgoopabVecO
import Derived.Test.YtbfechcncgoopabVecT
import Derived.Test.YtbfechcncgoopabDrwK
import Derived.Test.YtbfechcncgoopabRow
namespace Go.Proofs.Ytbfechcncgoopab
open Go.ChangeShapes Go.WideShapes Go.ChangeAt Go.RowKit Go.Joins
open Go.ChangeMaps (open_string shut_string)
set_option linter.unusedVariables false
attribute [local go_sem ↓] Go.wp_at_zero Go.wp_at_succ
theorem cut_tab : tab (fun a n j => !decide (1 ≤ a ∧ n < two a ∧ 1 ≤ j ∧ j < a) || decide (okB (a - j) (n / two j) = true ∧ okB j (n % two j) = true ∧ n / two j % two (a - 1 - j + 1) = n / two j ∧ n / two 0 % two (j - 1 - 0 + 1) = n % two j ∧ n / two j * two j + n % two j = n)) = true := by decide +kernel
theorem cut_all : tab (fun a n _ => !decide (1 ≤ a ∧ n < two a) || decide (n / two 0 % two (a - 1 - 0 + 1) = n)) = true := by decide +kernel
theorem cutV_yes {a n hi lo : Int} (hx : okB a n = true) (h0 : 0 ≤ lo) (h1 : lo ≤ hi) (h2 : hi < a) : cutV a n hi lo = .tuple #[.agg #[.int .i64 (hi - lo + 1), .int .i64 (n / two lo % two (hi - lo + 1))], .bool true] := by
  unfold cutV
  rw [if_pos ⟨hx, h0, h1, h2⟩]
  rfl
theorem cat_yes {a x b y : Int} (hx : okB a x = true) (hy : okB b y = true) (h : a + b ≤ 4) : binV 14 a x b y = .tuple #[.agg #[.int .i64 (a + b), .int .i64 (x * two b + y)], .bool true] := by
  unfold binV
  rw [if_pos ⟨hx, hy⟩, if_pos rfl, if_pos h]
  rfl
/-- What is cut in two parts and joined is what it was. -/
theorem cut_join {a n j : Int} (hx : okB a n = true) (j1 : 1 ≤ j) (j2 : j < a) : ∃ c d : Int,
    cutV a n (a - 1) j = .tuple #[.agg #[.int .i64 (a - j), .int .i64 c], .bool true] ∧ cutV a n (j - 1) 0 = .tuple #[.agg #[.int .i64 j, .int .i64 d], .bool true] ∧ binV 14 (a - j) c j d = .tuple #[.agg #[.int .i64 a, .int .i64 n], .bool true] := by
  obtain ⟨h1, h2, h3, h4, h5⟩ := ok_of hx
  have h := tab_at cut_tab a n j (by omega) h2 h3 h5 (by omega) (by omega)
  rw [Bool.or_eq_true, Bool.not_eq_true', decide_eq_false_iff_not, decide_eq_true_eq] at h
  obtain ⟨p, q, e1, e2, e3⟩ := h.resolve_left (fun k => k ⟨h1, h4, j1, j2⟩)
  refine ⟨n / two j, n % two j, ?_, ?_, ?_⟩
  · rw [cutV_yes hx (by omega) (by omega) (by omega), e1, show a - 1 - j + 1 = a - j by omega]
  · rw [cutV_yes hx (by omega) (by omega) (by omega), e2, show j - 1 - 0 + 1 = j by omega]
  · rw [cat_yes p q (by omega), e3, show a - j + j = a by omega]
theorem cut_whole {a n : Int} (hx : okB a n = true) : cutV a n (a - 1) 0 = .tuple #[.agg #[.int .i64 a, .int .i64 n], .bool true] := by
  obtain ⟨h1, h2, h3, h4, h5⟩ := ok_of hx
  have h := tab_at cut_all a n 0 (by omega) h2 h3 h5 (by omega) (by omega)
  rw [Bool.or_eq_true, Bool.not_eq_true', decide_eq_false_iff_not, decide_eq_true_eq] at h
  have e := h.resolve_left (fun k => k ⟨h1, h4⟩)
  rw [cutV_yes hx (by omega) (by omega) (by omega), e, show a - 1 - 0 + 1 = a by omega]
/-- Nothing, or some bits, which are right. -/
theorem cut_ways (a n hi lo : Int) : cutV a n hi lo = .tuple #[.agg #[.int .i64 0, .int .i64 0], .bool false] ∨ (okB a n = true ∧ 0 ≤ lo ∧ lo ≤ hi ∧ hi < a ∧ ∃ d, okB (hi - lo + 1) d = true ∧ cutV a n hi lo = .tuple #[.agg #[.int .i64 (hi - lo + 1), .int .i64 d], .bool true]) := by
  by_cases h : okB a n = true ∧ 0 ≤ lo ∧ lo ≤ hi ∧ hi < a
  · refine Or.inr ⟨h.1, h.2.1, h.2.2.1, h.2.2.2, _, ?_, cutV_yes h.1 h.2.1 h.2.2.1 h.2.2.2⟩
    obtain ⟨h1, h2, h3, h4, h5⟩ := ok_of h.1
    have := two_bd (hi - lo + 1) (by omega) (by omega)
    exact okB_of (by omega) (by omega) (Int.emod_nonneg _ (by omega)) (Int.emod_lt_of_pos _ (by omega))
  · refine Or.inl ?_
    unfold cutV
    rw [if_neg h]
    rfl

namespace vCut
set_option maxRecDepth 100000 in
set_option maxHeartbeats 4000000 in
theorem walk (code : Option Addr) (lencode capcode : Nat) (zcode : List Int) (w : World) (wcode : IsRow .u8 w code lencode capcode zcode) :
    Calls Try.prog 3 #[.slice code lencode capcode] w fun e w' => e = .returned (.bool true) ∧ Below w.heap.size w w' := by
  obtain ⟨hby, hlc, hcm⟩ := wcode.byts
  by_cases hbig : 1048576 < lencode
  · go_enter Try.func3, Try.ntmps3
    go_wp2
    go_ret
    exact ⟨rfl, Below.refl _ _⟩
  · have t0 : decide (1048576 < (lencode : Int)) = false := by simp; omega
    have HB := hide hby
    have HL := hide hcm
    clear hby wcode hcm
    go_enter Try.func3, Try.ntmps3
    go_wp2_with fail
    refine (drawCut_any _ _ _ _ (by omega) hlc (unhide HL) (unhide HB)).mono ?_
    rintro e w1 ⟨a, n, hi, lo, rfl, ⟨i0, i1, l0, l1⟩, BL⟩
    clear HB
    rcases cut_ways a n hi lo with hV | ⟨hx, q0, q1, q2, d, hd, hV⟩
    · skip
      have hs := fun w => sVecCut_any a n hi lo w
      have hc := fun w => iVecCut_any a n hi lo w
      simp only [hV] at hs hc
      have HS := hide hs
      have HI := hide hc
      clear hs hc hV
      go_wp2_with fail
      refine (unhide HI _).mono ?_
      rintro e w2 ⟨rfl, b2⟩
      have PB := ((Box.new w1 a n 24)).below b2
      replace BL := (BL.alloc (BL.size) (.cells #[.int .i64 a, .int .i64 n] 24)).trans (b2.mono (BL.alloc (BL.size) (.cells #[.int .i64 a, .int .i64 n] 24)).size)
      clear b2
      obtain ⟨PB0, PB1, _, _⟩ := id PB
      have PBl := PB.lt
      go_wp2_with fail
      refine (unhide HS _).mono ?_
      rintro e w3 ⟨rfl, b3⟩
      clear PB0 PB1 PBl
      replace PB := (PB.alloc _).below b3
      have XB := ((Box.new w2 0 0 24)).below b3
      replace BL := (BL.alloc (BL.size) (.cells #[.int .i64 0, .int .i64 0] 24)).trans (b3.mono (BL.alloc (BL.size) (.cells #[.int .i64 0, .int .i64 0] 24)).size)
      clear b3
      obtain ⟨PB0, PB1, _, _⟩ := id PB
      have PBl := PB.lt
      obtain ⟨XB0, XB1, _, _⟩ := id XB
      have XBl := XB.lt
      go_wp2
      go_ret
      exact ⟨rfl, (BL.alloc (BL.size) (.cells #[.int .i64 0, .int .i64 0] 24))⟩
    · skip
      have hs := fun w => sVecCut_any a n hi lo w
      have hc := fun w => iVecCut_any a n hi lo w
      simp only [hV] at hs hc
      have HS := hide hs
      have HI := hide hc
      clear hs hc hV
      obtain ⟨h1, h2, h3, h4, h5⟩ := ok_of hx
      generalize hcc : hi - lo + 1 = c at *
      go_wp2_with fail
      refine (unhide HI _).mono ?_
      rintro e w2 ⟨rfl, b2⟩
      have PB := ((Box.new w1 a n 24)).below b2
      replace BL := (BL.alloc (BL.size) (.cells #[.int .i64 a, .int .i64 n] 24)).trans (b2.mono (BL.alloc (BL.size) (.cells #[.int .i64 a, .int .i64 n] 24)).size)
      clear b2
      obtain ⟨PB0, PB1, _, _⟩ := id PB
      have PBl := PB.lt
      go_wp2_with fail
      refine (unhide HS _).mono ?_
      rintro e w3 ⟨rfl, b3⟩
      clear PB0 PB1 PBl
      replace PB := (PB.alloc _).below b3
      have XB := ((Box.new w2 c d 24)).below b3
      replace BL := (BL.alloc (BL.size) (.cells #[.int .i64 c, .int .i64 d] 24)).trans (b3.mono (BL.alloc (BL.size) (.cells #[.int .i64 c, .int .i64 d] 24)).size)
      clear b3
      obtain ⟨PB0, PB1, _, _⟩ := id PB
      have PBl := PB.lt
      obtain ⟨XB0, XB1, _, _⟩ := id XB
      have XBl := XB.lt
      clear HI HS
      go_wp2
      clear PB0 PB1 PBl XB0 XB1 XBl
      replace PB := PB.alloc (.cells #[.int .i64 c, .int .i64 d] 24)
      replace XB := XB.alloc (.cells #[.int .i64 c, .int .i64 d] 24)
      have YB := Box.new w3 c d 24
      replace BL := BL.alloc BL.size (.cells #[.int .i64 c, .int .i64 d] 24)
      obtain ⟨PB0, PB1, _, _⟩ := id PB
      have PBl := PB.lt
      obtain ⟨XB0, XB1, _, _⟩ := id XB
      have XBl := XB.lt
      obtain ⟨YB0, YB1, _, _⟩ := id YB
      have YBl := YB.lt
      clear YB0 YB1 YBl YB
      go_loopw [10] (fun i wr => ∃ j : Nat, 1 ≤ j ∧ (j : Int) ≤ a ∧ i = .int .i64 (j : Int) ∧ Box wr w1.heap.size a n ∧ Box wr w2.heap.size c d ∧ Below w.heap.size w wr) (fun i _ => (a - intOf i).toNat)
      case atStart => exact ⟨1, by omega, by omega, rfl, PB, XB, BL⟩
      case round =>
        clear PB0 PB1 PBl PB XB0 XB1 XBl XB BL
        obtain ⟨j, j0, j1, rfl, PB, XB, BL⟩ := hrel
        obtain ⟨PB0, PB1, _, _⟩ := id PB
        have PBl := PB.lt
        obtain ⟨XB0, XB1, _, _⟩ := id XB
        have XBl := XB.lt
        by_cases hj : (j : Int) < a
        · skip
          obtain ⟨p, q, hp, hq, hj2⟩ := cut_join hx (show (1 : Int) ≤ (j : Int) by omega) hj
          have cp := fun w => iVecCut_any a n (a - 1) j w
          have cq := fun w => iVecCut_any a n (j - 1) 0 w
          simp only [hp] at cp
          simp only [hq] at cq
          have HP := hide cp
          have HQ := hide cq
          have HJ := hide hj2
          clear cp cq hp hq hj2
          have kaa : (a == a) = true := by simp
          have knn : (n == n) = true := by simp
          go_wp2_with fail
          refine (unhide HP _).mono ?_
          rintro e w4 ⟨rfl, b4⟩
          clear PB0 PB1 PBl XB0 XB1 XBl
          replace PB := (PB).below b4
          replace XB := (XB).below b4
          replace BL := BL.trans (b4.mono BL.size)
          clear b4
          obtain ⟨PB0, PB1, _, _⟩ := id PB
          have PBl := PB.lt
          obtain ⟨XB0, XB1, _, _⟩ := id XB
          have XBl := XB.lt
          go_wp2_with fail
          refine (unhide HQ _).mono ?_
          rintro e w5 ⟨rfl, b5⟩
          clear PB0 PB1 PBl XB0 XB1 XBl
          replace PB := (PB.alloc _).below b5
          replace XB := (XB.alloc _).below b5
          have MB := ((Box.new w4 (a - j) p 24)).below b5
          replace BL := (BL.alloc (BL.size) (.cells #[.int .i64 (a - j), .int .i64 p] 24)).trans (b5.mono (BL.alloc (BL.size) (.cells #[.int .i64 (a - j), .int .i64 p] 24)).size)
          clear b5
          obtain ⟨PB0, PB1, _, _⟩ := id PB
          have PBl := PB.lt
          obtain ⟨XB0, XB1, _, _⟩ := id XB
          have XBl := XB.lt
          obtain ⟨MB0, MB1, _, _⟩ := id MB
          have MBl := MB.lt
          go_wp2
          clear PB0 PB1 PBl XB0 XB1 XBl MB0 MB1 MBl
          replace PB := PB.alloc (.cells #[.int .i64 j, .int .i64 q] 24)
          replace XB := XB.alloc (.cells #[.int .i64 j, .int .i64 q] 24)
          replace MB := MB.alloc (.cells #[.int .i64 j, .int .i64 q] 24)
          have NB := Box.new w5 j q 24
          replace BL := BL.alloc BL.size (.cells #[.int .i64 j, .int .i64 q] 24)
          obtain ⟨PB0, PB1, _, _⟩ := id PB
          have PBl := PB.lt
          obtain ⟨XB0, XB1, _, _⟩ := id XB
          have XBl := XB.lt
          obtain ⟨MB0, MB1, _, _⟩ := id MB
          have MBl := MB.lt
          obtain ⟨NB0, NB1, _, _⟩ := id NB
          have NBl := NB.lt
          go_region_held3 (fun w' => w'.cell? ⟨w1.heap.size, 0, none⟩ = some (.int .i64 a) ∧ w'.cell? ⟨w1.heap.size, 1, none⟩ = some (.int .i64 n) ∧ w'.cell? ⟨w2.heap.size, 0, none⟩ = some (.int .i64 c) ∧ w'.cell? ⟨w2.heap.size, 1, none⟩ = some (.int .i64 d) ∧ w'.cell? ⟨w4.heap.size, 0, none⟩ = some (.int .i64 (a - j)) ∧ w'.cell? ⟨w4.heap.size, 1, none⟩ = some (.int .i64 p) ∧ w'.cell? ⟨w5.heap.size, 0, none⟩ = some (.int .i64 j) ∧ w'.cell? ⟨w5.heap.size, 1, none⟩ = some (.int .i64 q)) (first | go_keep | exact ⟨PB.1, PB.2.1, XB.1, XB.2.1, MB.1, MB.2.1, NB.1, NB.2.1⟩)
            (first | (go_at_call 9; refine (wpBin_of (unhide HJ) _).mono ?_; rintro e wq ⟨rfl, bq⟩; have PB := (by first | exact PB.below bq | exact PB.drew.below bq); have XB := (by first | exact XB.below bq | exact XB.drew.below bq); have MB := (by first | exact MB.below bq | exact MB.drew.below bq); have NB := (by first | exact NB.below bq | exact NB.drew.below bq); have BL := (by first | exact BL.trans (bq.mono BL.size) | exact BL.drew.trans (bq.mono BL.size))))
          all_goals go_wp2
          go_roundw
          case rel => exact ⟨j + 1, by omega, by omega, by go_num, (by first | exact PB | exact PB.drew), (by first | exact XB | exact XB.drew), (by first | exact BL | exact BL.drew)⟩
          case measure => simp [intOf]; omega
        · skip
          have e : (j : Int) = a := by omega
          have cw := fun w => iVecCut_any a n (a - 1) 0 w
          simp only [cut_whole hx] at cw
          have HW := hide cw
          clear cw
          go_wp2_with fail
          refine (unhide HW _).mono ?_
          rintro e w4 ⟨rfl, b4⟩
          clear PB0 PB1 PBl XB0 XB1 XBl
          replace PB := (PB).below b4
          replace XB := (XB).below b4
          replace BL := BL.trans (b4.mono BL.size)
          clear b4
          obtain ⟨PB0, PB1, _, _⟩ := id PB
          have PBl := PB.lt
          obtain ⟨XB0, XB1, _, _⟩ := id XB
          have XBl := XB.lt
          have kcc : (c == hi - lo + 1) = true := by rw [hcc]; simp
          have kaa : (a == a) = true := by simp
          have knn : (n == n) = true := by simp
          go_wp2_with fail
          refine (iVecOk_any _ _ _).mono ?_
          rintro e w5 ⟨rfl, b5⟩
          clear PB0 PB1 PBl XB0 XB1 XBl
          replace PB := (PB.alloc _).below b5
          replace XB := (XB.alloc _).below b5
          have AB := ((Box.new w4 a n 24)).below b5
          replace BL := (BL.alloc (BL.size) (.cells #[.int .i64 a, .int .i64 n] 24)).trans (b5.mono (BL.alloc (BL.size) (.cells #[.int .i64 a, .int .i64 n] 24)).size)
          clear b5
          obtain ⟨PB0, PB1, _, _⟩ := id PB
          have PBl := PB.lt
          obtain ⟨XB0, XB1, _, _⟩ := id XB
          have XBl := XB.lt
          obtain ⟨AB0, AB1, _, _⟩ := id AB
          have ABl := AB.lt
          go_wp2
          go_ret
          exact ⟨rfl, BL⟩

set_option maxRecDepth 100000 in
theorem lifted (os : Os) (started : os.Started) (H : Type) (enc : TypeId × Value → H) :
    ReturnsInHanded {} Try.checked os 3 .any (Rows.fnVecCutSpec.pre6 enc Try.prog Try.f3 Rows.fnVecCutRow.domain false) (Rows.fnVecCutSpec.post enc Try.prog Try.f3 false true false false) := by
  refine returnsInHanded_of_change (C := Try.checked) own started (by kernel_rfl) Try.func3
    (ChangeSpec.witness6 (enc := enc) (C := Try.checked) false ⟨#[], #[.slice none 0 0], []⟩ 8 (by kernel_rfl) (by kernel_rfl) (by kernel_rfl) (by kernel_rfl)) ?_
  intro W base args ds gs before hval0 hW hcnd _
  have hval : ∀ (j : Nat) t v, Try.f3.params[j]? = some t → args[j]? = some v → Value.okWide Try.prog W .any base t v := hval0
  have hW' := hW
  obtain ⟨p, q, hA0, hV, rfl, hfz, hnd⟩ := hW
  have hA : DataW.TrodAll enc Try.prog W 0 (fun _ => true) true Try.f3.params.toList args.toList ds p := hA0
  rw [Try.params3] at hA hval
  obtain ⟨v0, vs0, d0, ds0, p0, q0, hargs, rfl, rfl, h0, r0⟩ := trodAll_cons hA
  obtain ⟨rfl, rfl, rfl⟩ := trodAll_nil r0
  obtain rfl : args = #[v0] := by cases args; simp_all
  obtain ⟨rfl, rfl⟩ := trodVars_none hV
  obtain ⟨code, lencode, capcode, rfl⟩ := okWide_slice Try.underlying22 (hval 0 22 v0 rfl rfl)
  have k0 := h0
  have lt0 : ∀ x ∈ p0, x.block < W.heap.size := by obtain ⟨m, hm⟩ := k0; exact DataW.trod_lt m _ _ _ hm
  obtain ⟨zcode, wcode⟩ : ∃ zs, IsRow .u8 W code lencode capcode zs := by
    obtain ⟨fuel, hf⟩ := h0
    rcases open_ints Try.underlying22 Try.underlying5 (by kernel_rfl) hf with ⟨hcs, _⟩ | ⟨x, l, c, zs, hcs, _, hl, hm, hz, _, hcell, hwz⟩
    · simp [Value.cells] at hcs
      obtain ⟨rfl, rfl, rfl⟩ := hcs
      exact ⟨[], .inl ⟨rfl, rfl, rfl, rfl⟩⟩
    · simp [Value.cells] at hcs
      obtain ⟨rfl, rfl, rfl⟩ := hcs
      exact ⟨zs, .inr ⟨_, rfl, hl, hm, by simpa using hz, hcell, hwz⟩⟩
  clear hA0 hval0
  refine (walk code lencode capcode zcode W wcode).mono fun e W' ⟨he, bel⟩ => ?_
  subst he
  exact ⟨_, rfl, _, _, _, [], _, [], hW', trodAll_mk1 (shut_bool Try.underlying4 _), (trodAll_cons_mk (Below.trod laidOut (by kernel_rfl) (of_decide_eq_true (by kernel_rfl)) k0 bel lt0) trodAll_mk0), rfl, bel.frame _, fun h => by cases h⟩

theorem over : Rows.fnVecCutRow.holds Try.pinned (OpenSpec.ofChange Rows.fnVecCutSpec) :=
  OpenClaim.holds_of_wide 3 Try.f3 rfl rfl rfl rfl rfl rfl rfl ⟨rfl, rfl, rfl, rfl, rfl⟩ rfl rfl rfl rfl rfl (by kernel_rfl) Try.func3 (by kernel_rfl)
    (of_decide_eq_true (by kernel_rfl)) (by unfold Func.isWrapper; first | (rw [if_pos (by decide +kernel)]; kernel_rfl) | (rw [if_neg (by decide +kernel)]; exact ⟨rfl, rfl⟩))
    (fun os started H enc _ => lifted os started H enc)
end vCut

theorem vCut_holds : Rows.FnVecCutSaid := vCut.over
#print axioms vCut_holds
end Go.Proofs.Ytbfechcncgoopab
