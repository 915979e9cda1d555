/- The least model is found by counting: the law FnCnfLeast returns true for every code of bytes, and leaves it as it was. No condition (the law itself answers true where the code is longer than 1048576 bytes). -/
import Derived.Test.YteakllghgcdoaaaCldC
import Derived.Test.YteakllghgcdoaaaMrkA
import Derived.Test.YteakllghgcdoaaaRowC
namespace Go.Proofs.Yteakllghgcdoaaa
open Go.ChangeShapes Go.WideShapes Go.ChangeAt Go.RowKit Go.Joins
open Go.ChangeMaps (open_string shut_string)
set_option linter.unusedVariables false

theorem vls_inj {N t k : Nat} (ht : t < 2 ^ N) (hk : k < 2 ^ N) (h : ∀ i, i < N → vls N t i = vls N k i) : t = k := by
  apply Nat.eq_of_testBit_eq
  intro i
  by_cases hi : i < N
  · have := h (N - 1 - i) (by omega)
    unfold vls at this
    rw [show N - 1 - (N - 1 - i) = i by omega] at this
    exact this
  · have hp : 2 ^ N ≤ 2 ^ i := Nat.pow_le_pow_right (by omega) (by omega)
    rw [Nat.testBit_lt_two_pow (by omega), Nat.testBit_lt_two_pow (by omega)]
/-- Which list it is that lies in a block. -/
noncomputable def tOf (N B : Nat) (w : World) : Nat := @dite _ (∃ t, t < 2 ^ N ∧ Bls w B 0 N (vls N t)) (Classical.propDecidable _) (fun h => Classical.choose h) (fun _ => 0)
theorem tOf_eq {N B t : Nat} {w : World} (h : Bls w B 0 N (vls N t)) (ht : t < 2 ^ N) : tOf N B w = t := by
  have he : ∃ t, t < 2 ^ N ∧ Bls w B 0 N (vls N t) := ⟨t, ht, h⟩
  unfold tOf
  rw [dif_pos he]
  obtain ⟨h1, h2⟩ := Classical.choose_spec he
  refine vls_inj h1 ht (fun i hi => ?_)
  have e1 := h2 i hi
  have e2 := h i hi
  rw [e1] at e2
  simpa using e2
theorem ones_last {t N : Nat} (h : Ones t N) : 2 ^ N ≤ t + 1 := by
  obtain ⟨q, hq⟩ := h
  have := Nat.two_pow_pos N
  have : 0 ≤ 2 ^ N * q := Nat.zero_le _
  omega
theorem next_lt {t N r : Nat} (ht : t < 2 ^ N) (hr : r < N) (hb : t.testBit r = false) : t + 1 < 2 ^ N := by
  by_cases e : t + 1 = 2 ^ N
  · have e' : t = 2 ^ N - 1 := by omega
    rw [e', Nat.testBit_two_pow_sub_one] at hb
    simp at hb
    omega
  · omega
theorem least_len (m : Int) (n : Nat) (L : Nat → Nat) (V : Nat → Nat → Int) : lenO (leastO m n L V) m.toNat ≤ 1048576 := by
  by_cases h : CnfP m n L V ∧ m ≤ 10
  · have := lenO_le (leastO m n L V) m.toNat
    omega
  · rw [leastO_no h]; simp [lenO]
theorem IntsAt.of {w : World} {a : Option Addr} {n : Nat} {V : Nat → Int} (h : IntsAt w a n V) : IntsAt w a n V := h

namespace cLst
set_option maxRecDepth 100000 in
set_option maxHeartbeats 4000000 in
theorem walk (code : Option Addr) (lencode capcode : Nat) (zcode : List Int) (w : World) (wcode : IsRow .u8 w code lencode capcode zcode) :
    Calls Try.prog 5 #[.slice code lencode capcode] w fun e w' => e = .returned (.bool true) ∧ Below w.heap.size w w' := by
  obtain ⟨hby, hlc, hcm⟩ := wcode.byts
  by_cases hl : lencode ≤ 1048576
  · go_enter Try.func5, Try.ntmps5
    go_wp2_with fail
    refine (drawCnfLeast_any _ _ _ _ hl hlc hcm hby).mono ?_
    rintro e w1 ⟨m, v, Ls, R, rfl, hm, hLs, hc, BL⟩
    clear wcode hby
    obtain ⟨a, cp, rfl, hD⟩ := hc.slice
    have Fi := hide (hc.fits (by omega))
    obtain ⟨n, hn⟩ : ∃ n, n = Ls.length := ⟨_, rfl⟩
    obtain ⟨A, hA⟩ : ∃ x, x = cA Ls := ⟨_, rfl⟩
    obtain ⟨L, hL⟩ : ∃ x, x = cL Ls := ⟨_, rfl⟩
    obtain ⟨C, hC⟩ : ∃ x, x = cC Ls := ⟨_, rfl⟩
    obtain ⟨V, hV⟩ : ∃ x, x = cV Ls := ⟨_, rfl⟩
    rw [← hn, ← hA, ← hL, ← hC, ← hV] at hD
    rw [← hn, ← hL, ← hV] at Fi
    rw [← hn]
    have hn40 : n ≤ 40 := by omega
    have D := hide hD
    clear hD hc hn hA hL hC hV hLs
    have hlen := least_len m n L V
    have kb : ((leastO m n L V).isSome != (leastO m n L V).isSome) = false := by simp
    go_wp2_with fail
    obtain ⟨wz, hwz⟩ : ∃ x, x = w1.alloc (.cells #[.int .i64 m, .slice a n cp] 31) := ⟨_, rfl⟩
    have BZ : Below w1.heap.size w1 wz := by rw [hwz]; exact (Below.refl _ _).alloc (Nat.le_refl _) _
    have P : Box wz w1.heap.size m a n cp := by rw [hwz]; exact Box.new _ _ _ _ _ _
    rw [← hwz]
    clear hwz
    replace BL := BL.trans (BZ.mono BL.size)
    replace D := hide ((unhide D).later BZ)
    clear BZ
    refine (iCnfLeast_any _ _ _ _ _ _ _ _ _ (unhide D) (unhide Fi)).mono ?_
    rintro e w2 ⟨hG, b2⟩
    obtain ⟨ag, cg, rfl, G, GO⟩ := hG.out
    clear hG GO
    replace BL := BL.trans (b2.mono BL.size)
    replace D := hide ((unhide D).later b2)
    replace P := P.later b2
    clear b2
    obtain ⟨p0, p1⟩ := id P
    go_wp2_with fail
    refine (sCnfLeast_any _ _ _ _ _ _ _ _ _ (unhide D) (unhide Fi)).mono ?_
    rintro e w3 ⟨hW, b3⟩
    obtain ⟨aw, cw, rfl, W, WO⟩ := hW.out
    clear hW WO p0 p1
    replace BL := BL.trans (b3.mono BL.size)
    replace D := hide ((unhide D).later b3)
    replace P := P.later b3
    replace G := G.later b3
    clear b3
    obtain ⟨p0, p1⟩ := id P
    have kbe := beB_yes (l := lenO (leastO m n L V) m.toNat) (l' := lenO (leastO m n L V) m.toNat) (V := valO (leastO m n L V) m.toNat) (V' := valO (leastO m n L V) m.toNat) ⟨rfl, fun _ _ => rfl⟩
    go_wp2_with fail
    refine (wpBools_any _ _ _ _ _ _ _ _ _ G W hlen hlen).mono ?_
    rintro e w4 ⟨rfl, b4⟩
    rw [kbe]
    clear kbe W p0 p1
    replace BL := BL.trans (b4.mono BL.size)
    replace D := hide ((unhide D).later b4)
    replace P := P.later b4
    replace G := G.later b4
    clear b4
    obtain ⟨p0, p1⟩ := id P
    go_wp2_with fail
    refine (sCnfOk_any _ _ _ _ _ _ _ _ _ (unhide D) (unhide Fi)).mono ?_
    rintro e w5 ⟨rfl, b5⟩
    clear p0 p1
    replace BL := BL.trans (b5.mono BL.size)
    replace D := hide ((unhide D).later b5)
    replace P := P.later b5
    replace G := G.later b5
    clear b5
    obtain ⟨p0, p1⟩ := id P
    by_cases hcp : CnfP m n L V
    · have hv := cnfB_yes hcp
      rw [hv]
      by_cases h10 : m ≤ 10
      · have hO := leastO_yes hcp h10
        obtain ⟨N, hN⟩ := Int.eq_ofNat_of_zero_le hcp.1
        have HA : Hid (∀ B, chB m n L V N B = allB n L V N B) := hide (fun B => by unfold chB; rw [hv]; simp [hN])
        subst hN
        rw [Int.toNat_natCast] at hO G hlen
        have hN10 : N ≤ 10 := by omega
        have hp10 := pow10 hN10
        have hmk := run_make_wide (P := Try.prog) 24 4 _ 1 1 Try.underlying24 infoBool' .i64 .i64 N (by omega) (by omega)
        simp only [Nat.mul_one] at hmk
        clear hcp hv
        rcases firstO_ways (fun k => allB n L V N (vls N k)) (2 ^ N) with ⟨hf, hnone⟩ | ⟨ks, hks, hf, hyes, hbef⟩
        · rw [hf] at hO
          rw [hO, Int.toNat_natCast]
          have HN := hide hnone
          clear hnone hf hO G hlen kb
          have pl := World.block_lt_of_cell? _ _ p0
          simp only at pl
          obtain ⟨w0, hw0⟩ : ∃ x, x = w5 := ⟨_, rfl⟩
          have D0 := D
          have P0 := P
          rw [← hw0] at D0 P0 BL
          go_wp2
          rw [← hw0] at *
          clear D P p0 p1
          go_loopw [9] (fun _ wr => ∃ t : Nat, t < 2 ^ N ∧ (∀ j, j < t → allB n L V N (vls N j) = false) ∧ Bls wr w0.heap.size 0 N (vls N t) ∧ Made wr w0.heap.size N ∧ Below w0.heap.size w0 wr) (fun _ wr => 2 ^ N - tOf N w0.heap.size wr)
          case atStart => exact ⟨0, Nat.two_pow_pos N, fun j hj => by omega, bls_made _ _ _, Made.new _ _ _ _, (Below.refl _ _).alloc (Nat.le_refl _) _⟩
          case round =>
            obtain ⟨t, ht, hno, X, XM, BX⟩ := hrel
            have HX := hide X
            have HXM := hide XM
            have XL := XM.1
            have HT := hide (tOf_eq X ht)
            have HK1 : Hid (∀ j, j < t + 1 → allB n L V N (vls N j) = false) := fun j hj => unhide HN j (by omega)
            clear hno X XM
            obtain ⟨p0, p1⟩ := P0.later BX
            go_wp2_with fail
            refine (iCnfHas_any _ _ _ _ _ _ _ _ _ _ _ _ _ ((unhide D0).later BX) (unhide Fi) ((unhide HX).at XL) (by omega)).mono ?_
            rintro e w6 ⟨rfl, b6⟩
            rw [unhide HA, unhide HN t ht]
            replace HX := hide ((unhide HX).later b6)
            replace HXM := hide ((unhide HXM).later b6)
            replace BX := BX.trans (b6.mono BX.size)
            clear b6 p0 p1
            obtain ⟨p0, p1⟩ := P0.later BX
            go_wp2
            clear p0 p1
            go_loopw [9] (fun i wi => ∃ r : Nat, r ≤ N ∧ i = .int .i64 ((N : Int) - 1 - r) ∧ Ones t r ∧ Mid wi w0.heap.size N r t ∧ Made wi w0.heap.size N ∧ Below w0.heap.size w0 wi) (fun i _ => ((intOf i) + 1).toNat)
            case atStart => exact ⟨0, by omega, by simp, ones_zero t, Mid.start (unhide HX), unhide HXM, BX⟩
            case round =>
              obtain ⟨r, hr, rfl, ho, hmid, hmd, bi⟩ := hrel
              have HO := hide ho
              have HI := hide hmid
              have HM := hide hmd
              clear ho hmid hmd
              by_cases hrlt : r < N
              · obtain ⟨p, hp⟩ : ∃ p, N = p + 1 + r := ⟨N - 1 - r, by omega⟩
                have hpi : (N : Int) - 1 - r = (p : Int) := by omega
                rw [hpi]
                have hpn : (p : Int) < N := by omega
                have f0 := ((unhide HM).2 p (by omega)).2
                have c0 := unhide HI p (by omega)
                have lx := (unhide HM).1
                rw [if_neg (by omega), show vls N t p = t.testBit r from by show t.testBit (N - 1 - p) = _; rw [show N - 1 - p = r by omega]] at c0
                cases hbit : t.testBit r
                · rw [hbit] at c0
                  have HS := hide ((unhide HI).stop hp (unhide HO) hbit c0)
                  have hlt1 := next_lt ht hrlt hbit
                  go_wp2
                  go_roundw
                  case rel => exact ⟨t + 1, hlt1, unhide HK1, unhide HS, (unhide HM).set _ _, bi.setCell (Nat.le_refl _) _⟩
                  case measure => (have e1 := tOf_eq (unhide HS) hlt1; rw [e1, unhide HT]; omega)
                · rw [hbit] at c0
                  have HS := hide ((unhide HI).next hp c0)
                  have HO1 := hide (ones_next (unhide HO) hbit)
                  go_wp2
                  go_roundw
                  case rel => exact ⟨r + 1, by omega, congrArg (Value.int .i64) (by omega), unhide HO1, unhide HS, (unhide HM).set _ _, bi.setCell (Nat.le_refl _) _⟩
                  case measure => simp [intOf]
              · have e : r = N := by omega
                subst e
                have hon := ones_last (unhide HO)
                go_wp2
                go_ret
                exact ⟨rfl, BL.trans (bi.mono BL.size)⟩
        · rw [hf] at hO
          rw [hO] at G hlen
          rw [hO, Int.toNat_natCast]
          replace G : BlsAt w5 ag N (vls N ks) := G
          rw [show lenO (some ks) N = N from rfl]
          have HN := hide hbef
          clear hbef hf hO hlen kb
          go_wp2_with fail
          refine (iCnfHas_any _ _ _ _ _ _ _ _ _ _ _ _ _ (unhide D) (unhide Fi) G (by omega)).mono ?_
          rintro e w6 ⟨rfl, b6⟩
          rw [unhide HA, hyes]
          replace BL := BL.trans (b6.mono BL.size)
          replace D := hide ((unhide D).later b6)
          replace P := P.later b6
          replace G := G.later b6
          clear b6 p0 p1
          obtain ⟨p0, p1⟩ := id P
          have pl := World.block_lt_of_cell? _ _ p0
          simp only at pl
          obtain ⟨w0, hw0⟩ : ∃ x, x = w6 := ⟨_, rfl⟩
          have D0 := D
          have P0 := P
          have G0 := hide G
          rw [← hw0] at D0 P0 BL G0
          go_wp2
          rw [← hw0] at *
          clear D P p0 p1 G
          go_loopw [9] (fun _ wr => ∃ t : Nat, t < 2 ^ N ∧ t ≤ ks ∧ (∀ j, j < t → allB n L V N (vls N j) = false) ∧ Bls wr w0.heap.size 0 N (vls N t) ∧ Made wr w0.heap.size N ∧ Below w0.heap.size w0 wr) (fun _ wr => 2 ^ N - tOf N w0.heap.size wr)
          case atStart => exact ⟨0, Nat.two_pow_pos N, Nat.zero_le _, fun j hj => by omega, bls_made _ _ _, Made.new _ _ _ _, (Below.refl _ _).alloc (Nat.le_refl _) _⟩
          case round =>
            obtain ⟨t, ht, htk, hno, X, XM, BX⟩ := hrel
            have HX := hide X
            have HXM := hide XM
            have XL := XM.1
            have HT := hide (tOf_eq X ht)
            clear hno X XM
            go_wp2_with fail
            refine (wpBools_any _ _ _ _ _ _ _ _ _ ((unhide HX).at XL) ((unhide G0).later BX) (by omega) (by omega)).mono ?_
            rintro e w7 ⟨rfl, b7⟩
            replace HX := hide ((unhide HX).later b7)
            replace HXM := hide ((unhide HXM).later b7)
            replace XL := (unhide HXM).1
            replace BX := BX.trans (b7.mono BX.size)
            clear b7
            by_cases etk : t = ks
            · have HB := hide (beB_yes (l := N) (l' := N) (V := vls N t) (V' := vls N ks) ⟨rfl, fun _ _ => by rw [etk]⟩)
              rw [unhide HB]
              go_wp2
              go_ret
              exact ⟨rfl, BL.trans (BX.mono BL.size)⟩
            · have HB := hide (beB_no (l := N) (l' := N) (V := vls N t) (V' := vls N ks) (fun h => etk (vls_inj ht hks h.2)))
              rw [unhide HB]
              have hlt : t < ks := by omega
              have HK1 : Hid (∀ j, j < t + 1 → allB n L V N (vls N j) = false) := fun j hj => unhide HN j (by omega)
              obtain ⟨p0, p1⟩ := P0.later BX
              go_wp2_with fail
              refine (iCnfHas_any _ _ _ _ _ _ _ _ _ _ _ _ _ ((unhide D0).later BX) (unhide Fi) ((unhide HX).at XL) (by omega)).mono ?_
              rintro e w8 ⟨rfl, b8⟩
              rw [unhide HA, unhide HN t hlt]
              replace HX := hide ((unhide HX).later b8)
              replace HXM := hide ((unhide HXM).later b8)
              replace BX := BX.trans (b8.mono BX.size)
              clear b8 p0 p1
              obtain ⟨p0, p1⟩ := P0.later BX
              go_wp2
              clear p0 p1
              go_loopw [9] (fun i wi => ∃ r : Nat, r ≤ N ∧ i = .int .i64 ((N : Int) - 1 - r) ∧ Ones t r ∧ Mid wi w0.heap.size N r t ∧ Made wi w0.heap.size N ∧ Below w0.heap.size w0 wi) (fun i _ => ((intOf i) + 1).toNat)
              case atStart => exact ⟨0, by omega, by simp, ones_zero t, Mid.start (unhide HX), unhide HXM, BX⟩
              case round =>
                obtain ⟨r, hr, rfl, ho, hmid, hmd, bi⟩ := hrel
                have HO := hide ho
                have HI := hide hmid
                have HM := hide hmd
                clear ho hmid hmd
                by_cases hrlt : r < N
                · obtain ⟨p, hp⟩ : ∃ p, N = p + 1 + r := ⟨N - 1 - r, by omega⟩
                  have hpi : (N : Int) - 1 - r = (p : Int) := by omega
                  rw [hpi]
                  have hpn : (p : Int) < N := by omega
                  have f0 := ((unhide HM).2 p (by omega)).2
                  have c0 := unhide HI p (by omega)
                  have lx := (unhide HM).1
                  rw [if_neg (by omega), show vls N t p = t.testBit r from by show t.testBit (N - 1 - p) = _; rw [show N - 1 - p = r by omega]] at c0
                  cases hbit : t.testBit r
                  · rw [hbit] at c0
                    have HS := hide ((unhide HI).stop hp (unhide HO) hbit c0)
                    have hlt1 := next_lt ht hrlt hbit
                    go_wp2
                    go_roundw
                    case rel => exact ⟨t + 1, hlt1, by omega, unhide HK1, unhide HS, (unhide HM).set _ _, bi.setCell (Nat.le_refl _) _⟩
                    case measure => (have e1 := tOf_eq (unhide HS) hlt1; rw [e1, unhide HT]; omega)
                  · rw [hbit] at c0
                    have HS := hide ((unhide HI).next hp c0)
                    have HO1 := hide (ones_next (unhide HO) hbit)
                    go_wp2
                    go_roundw
                    case rel => exact ⟨r + 1, by omega, congrArg (Value.int .i64) (by omega), unhide HO1, unhide HS, (unhide HM).set _ _, bi.setCell (Nat.le_refl _) _⟩
                    case measure => simp [intOf]
                · have e : r = N := by omega
                  subst e
                  have hon := ones_last (unhide HO)
                  omega
      · have hO := leastO_no (m := m) (n := n) (L := L) (V := V) (fun h => h10 h.2)
        rw [hO] at kb hlen ⊢
        go_wp2
        go_ret
        exact ⟨ret_bool (by simp [lenO]), BL⟩
    · have hv := cnfB_no hcp
      rw [hv]
      have hO := leastO_no (m := m) (n := n) (L := L) (V := V) (fun h => hcp h.1)
      rw [hO] at kb hlen ⊢
      go_wp2
      go_ret
      exact ⟨ret_bool (by simp [lenO]), BL⟩
  · go_enter Try.func5, Try.ntmps5
    go_wp2
    go_ret
    exact ⟨rfl, Below.refl _ _⟩

set_option maxRecDepth 100000 in
theorem lifted (os : Os) (started : os.Started) (H : Type) (enc : TypeId × Value → H) :
    ReturnsInHanded {} Try.checked os 5 .any (Rows.fnCnfLeastSpec.pre6 enc Try.prog Try.f5 Rows.fnCnfLeastRow.domain false) (Rows.fnCnfLeastSpec.post enc Try.prog Try.f5 false true false false) := by
  refine returnsInHanded_of_change (C := Try.checked) own started (by kernel_rfl) Try.func5
    (ChangeSpec.witness6 (enc := enc) (C := Try.checked) false ⟨#[], #[.slice none 0 0], []⟩ 8 (by kernel_rfl) (by kernel_rfl) (by kernel_rfl) (by kernel_rfl)) ?_
  intro W base args ds gs before hval0 hW hcnd _
  have hval : ∀ (j : Nat) t v, Try.f5.params[j]? = some t → args[j]? = some v → Value.okWide Try.prog W .any base t v := hval0
  have hW' := hW
  obtain ⟨p, q, hA0, hV, rfl, hfz, hnd⟩ := hW
  have hA : DataW.TrodAll enc Try.prog W 0 (fun _ => true) true Try.f5.params.toList args.toList ds p := hA0
  rw [Try.params5] at hA hval
  obtain ⟨v0, vs0, d0, ds0, p0, q0, hargs, rfl, rfl, h0, r0⟩ := trodAll_cons hA
  obtain ⟨rfl, rfl, rfl⟩ := trodAll_nil r0
  obtain rfl : args = #[v0] := by cases args; simp_all
  obtain ⟨rfl, rfl⟩ := trodVars_none hV
  obtain ⟨code, lencode, capcode, rfl⟩ := okWide_slice Try.underlying22 (hval 0 22 v0 rfl rfl)
  have k0 := h0
  have lt0 : ∀ x ∈ p0, x.block < W.heap.size := by obtain ⟨m, hm⟩ := k0; exact DataW.trod_lt m _ _ _ hm
  obtain ⟨zcode, wcode⟩ : ∃ zs, IsRow .u8 W code lencode capcode zs := by
    obtain ⟨fuel, hf⟩ := h0
    rcases open_ints Try.underlying22 Try.underlying5 (by kernel_rfl) hf with ⟨hcs, _⟩ | ⟨x, l, c, zs, hcs, _, hl, hm, hz, _, hcell, hwz⟩
    · simp [Value.cells] at hcs
      obtain ⟨rfl, rfl, rfl⟩ := hcs
      exact ⟨[], .inl ⟨rfl, rfl, rfl, rfl⟩⟩
    · simp [Value.cells] at hcs
      obtain ⟨rfl, rfl, rfl⟩ := hcs
      exact ⟨zs, .inr ⟨_, rfl, hl, hm, by simpa using hz, hcell, hwz⟩⟩
  clear hA0 hval0
  refine (walk code lencode capcode zcode W wcode).mono fun e W' ⟨he, bel⟩ => ?_
  subst he
  exact ⟨_, rfl, _, _, _, [], _, [], hW', trodAll_mk1 (shut_bool Try.underlying4 _), (trodAll_cons_mk (Below.trod laidOut (by kernel_rfl) (of_decide_eq_true (by kernel_rfl)) k0 bel lt0) trodAll_mk0), rfl, bel.frame _, fun h => by cases h⟩

theorem over : Rows.fnCnfLeastRow.holds Try.pinned (OpenSpec.ofChange Rows.fnCnfLeastSpec) :=
  OpenClaim.holds_of_wide 5 Try.f5 rfl rfl rfl rfl rfl rfl rfl ⟨rfl, rfl, rfl, rfl, rfl⟩ rfl rfl rfl rfl rfl (by kernel_rfl) Try.func5 (by kernel_rfl)
    (of_decide_eq_true (by kernel_rfl)) (by unfold Func.isWrapper; first | (rw [if_pos (by decide +kernel)]; kernel_rfl) | (rw [if_neg (by decide +kernel)]; exact ⟨rfl, rfl⟩))
    (fun os started H enc _ => lifted os started H enc)
end cLst

theorem cLst_holds : Rows.FnCnfLeastSaid := cLst.over
#print axioms cLst_holds
end Go.Proofs.Yteakllghgcdoaaa
