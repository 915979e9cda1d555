/- Both orders of numbers of a few bits are strict and total, and signs turn the order of those whose highest bits are unlike: the law FnVecCmp returns true for every code of bytes, and leaves it as it was. No condition (the law itself answers true where the code takes more than 1048576 bytes). -/
import Derived.Test.YtbfechcncgoopabVecN
import Derived.Test.YtbfechcncgoopabDrwC
namespace Go.Proofs.Ytbfechcncgoopab
open Go.ChangeShapes Go.WideShapes Go.ChangeAt Go.RowKit Go.Joins
open Go.ChangeMaps (open_string shut_string)
set_option linter.unusedVariables false
attribute [local go_sem ↓] Go.wp_at_zero Go.wp_at_succ
theorem laidOut : laidOutB Try.prog = true := by kernel_rfl
/-- A slice of integers that came in: it is nil, or it leads to a row of cells. -/
def IsRow (k : IntKind) (w : World) (a : Option Addr) (len cap : Nat) (zs : List Int) : Prop :=
  (a = none ∧ len = 0 ∧ cap = 0 ∧ zs = []) ∨
  ∃ x, a = some x ∧ len ≤ cap ∧ cap ≤ maxLen ∧ zs.length = cap ∧ (∀ i, i < zs.length → w.cell? (x.add i) = some (.int k (zs.getD i 0))) ∧ ∀ n ∈ zs, (Lit.int k n).wf = true
theorem IsRow.byts {w : World} {a : Option Addr} {len cap : Nat} {zs : List Int} (h : IsRow .u8 w a len cap zs) : Byts w w.heap.size a len ∧ len ≤ cap ∧ cap ≤ maxLen := by
  rcases h with ⟨rfl, rfl, rfl, _⟩ | ⟨x, rfl, h1, h2, h3, hc, hw⟩
  · exact ⟨Or.inl rfl, Nat.le_refl _, by unfold maxLen; omega⟩
  · refine ⟨?_, h1, h2⟩
    by_cases h0 : len = 0
    · exact Or.inl h0
    · obtain ⟨b, off, rfl, hc'⟩ := ints_at hc (by omega)
      refine Or.inr ⟨b, off, rfl, World.block_lt_of_cell? _ _ (hc' 0 (by omega)), fun i hi => ?_⟩
      have hi' : i < zs.length := by omega
      have hm : zs.getD i 0 ∈ zs := by simp [List.getD, hi']
      have hci := hc' i hi'
      generalize zs.getD i 0 = z at hm hci
      have hz := hw z hm
      simp [Lit.wf, IntKind.min, IntKind.max, IntKind.signed, IntKind.bits] at hz
      exact ⟨z, by omega, by omega, hci⟩
theorem cmpR_of_not (op a m b n : Int) (h : cmpT op a m b n = false) : cmpR op a m b n = false := by
  unfold cmpT at h
  unfold cmpR
  split at h
  · simp at h
  · rename_i k
    rw [if_neg k]
theorem cmpT_pair (op a m b n : Int) (h : cmpT op a m b n = true) : pairB a m b n = true := by
  unfold cmpT at h
  split at h
  · rename_i k
    exact k.1
  · simp at h
theorem ord_tab : tab (fun a m n => !decide (1 ≤ a ∧ m < two a ∧ n < two a) || decide ((m < n ∧ sgn a m < sgn a n ∧ (sgn a m < 0 ↔ sgn a n < 0)) ∨ (m < n ∧ sgn a n < sgn a m ∧ ¬ (sgn a m < 0 ↔ sgn a n < 0)) ∨ (n < m ∧ sgn a n < sgn a m ∧ (sgn a m < 0 ↔ sgn a n < 0)) ∨ (n < m ∧ sgn a m < sgn a n ∧ ¬ (sgn a m < 0 ↔ sgn a n < 0)) ∨ m = n)) = true := by decide +kernel
theorem ord (a m n : Int) (hx : okB a m = true) (hy : okB a n = true) : (m < n ∧ sgn a m < sgn a n ∧ (sgn a m < 0 ↔ sgn a n < 0)) ∨ (m < n ∧ sgn a n < sgn a m ∧ ¬ (sgn a m < 0 ↔ sgn a n < 0)) ∨ (n < m ∧ sgn a n < sgn a m ∧ (sgn a m < 0 ↔ sgn a n < 0)) ∨ (n < m ∧ sgn a m < sgn a n ∧ ¬ (sgn a m < 0 ↔ sgn a n < 0)) ∨ m = n := by
  obtain ⟨h1, h2, h3, h4, h5⟩ := ok_of hx
  obtain ⟨_, _, g3, g4, g5⟩ := ok_of hy
  have h := tab_at ord_tab a m n (by omega) h2 h3 h5 g3 g5
  rw [Bool.or_eq_true, Bool.not_eq_true', decide_eq_false_iff_not, decide_eq_true_eq] at h
  exact h.resolve_left (fun k => k ⟨h1, h4, g4⟩)
/-- What the comparisons answer at two right numbers of as many bits: one of five ways. -/
theorem cmp_ways (a m n : Int) (hx : okB a m = true) (hy : okB a n = true) : ∃ p q s u v t : Bool,
    cmpR 16 a m a n = p ∧ cmpR 16 a n a m = q ∧ cmpR 15 a m a n = s ∧ cmpR 17 a m a n = u ∧ cmpR 17 a n a m = v ∧ decide (sgnV a m < sgnV a n) = u ∧ ((p == u) == (decide (sgnV a m < 0) == decide (sgnV a n < 0))) = true
      ∧ ((p, q, s, u, v) = (true, false, false, true, false) ∨ (p, q, s, u, v) = (true, false, false, false, true) ∨ (p, q, s, u, v) = (false, true, false, false, true) ∨ (p, q, s, u, v) = (false, true, false, true, false) ∨ (p, q, s, u, v) = (false, false, true, false, false)) := by
  have h1 : pairB a m a n = true := by simp [pairB, hx, hy]
  have h2 : pairB a n a m = true := by simp [pairB, hx, hy]
  have s1 : sgnV a m = sgn a m := by simp [sgnV, hx]
  have s2 : sgnV a n = sgn a n := by simp [sgnV, hy]
  refine ⟨_, _, _, _, _, true, rfl, rfl, rfl, rfl, rfl, ?_, ?_, ?_⟩
  · simp [cmpR, cmpB, h1, s1, s2]
  · rw [s1, s2]
    rcases ord a m n hx hy with ⟨c, d, e⟩ | ⟨c, d, e⟩ | ⟨c, d, e⟩ | ⟨c, d, e⟩ | rfl
    · simp [cmpR, cmpB, h1, c, d, e]
    · have d' : ¬ sgn a m < sgn a n := by omega
      simp [cmpR, cmpB, h1, c, d', e]
    · have c' : ¬ m < n := by omega
      have d' : ¬ sgn a m < sgn a n := by omega
      simp [cmpR, cmpB, h1, c', d', e]
    · have c' : ¬ m < n := by omega
      simp [cmpR, cmpB, h1, c', d, e]
    · simp [cmpR, cmpB, h1]
  · rcases ord a m n hx hy with ⟨c, d, e⟩ | ⟨c, d, e⟩ | ⟨c, d, e⟩ | ⟨c, d, e⟩ | rfl
    · left
      have c' : ¬ n < m := by omega
      have c2 : ¬ m = n := by omega
      have d' : ¬ sgn a n < sgn a m := by omega
      simp [cmpR, cmpB, h1, h2, c, d, c', c2, d']
    · right; left
      have c' : ¬ n < m := by omega
      have c2 : ¬ m = n := by omega
      have d' : ¬ sgn a m < sgn a n := by omega
      simp [cmpR, cmpB, h1, h2, c, d, c', c2, d']
    · right; right; left
      have c' : ¬ m < n := by omega
      have c2 : ¬ m = n := by omega
      have d' : ¬ sgn a m < sgn a n := by omega
      simp [cmpR, cmpB, h1, h2, c, d, c', c2, d']
    · right; right; right; left
      have c' : ¬ m < n := by omega
      have c2 : ¬ m = n := by omega
      have d' : ¬ sgn a n < sgn a m := by omega
      simp [cmpR, cmpB, h1, h2, c, d, c', c2, d']
    · right; right; right; right
      simp [cmpR, cmpB, h1]

namespace vCmp
set_option maxRecDepth 100000 in
set_option maxHeartbeats 4000000 in
theorem walk (code : Option Addr) (lencode capcode : Nat) (zcode : List Int) (w : World) (wcode : IsRow .u8 w code lencode capcode zcode) :
    Calls Try.prog 4 #[.slice code lencode capcode] w fun e w' => e = .returned (.bool true) ∧ Below w.heap.size w w' := by
  obtain ⟨hby, hlc, hcm⟩ := wcode.byts
  by_cases hbig : 1048576 < lencode
  · go_enter Try.func4, Try.ntmps4
    go_wp2
    go_ret
    exact ⟨rfl, Below.refl _ _⟩
  · have t0 : decide (1048576 < (lencode : Int)) = false := by simp; omega
    have HB := hide hby
    have HL := hide hcm
    clear hby wcode hcm
    go_enter Try.func4, Try.ntmps4
    go_wp2_with fail
    refine (drawCmp_any _ _ _ _ (by omega) hlc (unhide HL) (unhide HB)).mono ?_
    rintro e w1 ⟨op, a, m, b, n, rfl, b1⟩
    clear HB
    have PB := (Box.new w1 a m 24).alloc (.cells #[.int .i64 b, .int .i64 n] 24)
    have QB := Box.new (w1.alloc (.cells #[.int .i64 a, .int .i64 m] 24)) b n 24
    have BL := (b1.alloc b1.size (.cells #[.int .i64 a, .int .i64 m] 24)).alloc (by have := b1.size; simp; omega) (.cells #[.int .i64 b, .int .i64 n] 24)
    simp only [World.size_alloc] at QB
    clear b1
    go_wp2_with fail
    refine (iVecCmp_any _ _ _ _ _ _).mono ?_
    rintro e w2 ⟨rfl, b2⟩
    replace PB := PB.below b2
    replace QB := QB.below b2
    replace BL := BL.trans (b2.mono BL.size)
    clear b2
    obtain ⟨p0, p1, _, _⟩ := id PB
    obtain ⟨q0, q1, _, _⟩ := id QB
    go_wp2_with fail
    refine (sVecCmp_any _ _ _ _ _ _).mono ?_
    rintro e w3 ⟨rfl, b3⟩
    replace PB := PB.below b3
    replace QB := QB.below b3
    replace BL := BL.trans (b3.mono BL.size)
    clear b3 p0 p1 q0 q1
    obtain ⟨p0, p1, _, _⟩ := id PB
    obtain ⟨q0, q1, _, _⟩ := id QB
    cases hT : cmpT op a m b n
    · have hRf := cmpR_of_not op a m b n hT
      rw [hRf]
      go_wp2
      go_ret
      exact ⟨rfl, BL⟩
    · obtain ⟨hx, hy, rfl⟩ := pair_of (cmpT_pair op a m b n hT)
      obtain ⟨p, q, s, u, v, _, E1, E2, E3, E4, E5, E6, E7, hways⟩ := cmp_ways a m n hx hy
      generalize cmpR op a m a n = r
      have hr : (r != r) = false := by simp
      have HT := hide E7
      clear E7 hT
      rcases hways with h | h | h | h | h
      all_goals
        simp only [Prod.mk.injEq] at h
        obtain ⟨rfl, rfl, rfl, rfl, rfl⟩ := h
        go_wp2
        go_loopw [10] (fun i wr => ∃ j : Nat, j ≤ 2 ∧ i = .int .i64 (16 + (j : Int)) ∧ Box wr w1.heap.size a m ∧ Box wr (w1.heap.size + 1) a n ∧ Below w.heap.size w wr) (fun i _ => (18 - intOf i).toNat)
        case atStart => exact ⟨0, by omega, rfl, PB, QB, BL⟩
        case round =>
          clear PB QB BL p0 p1 q0 q1
          obtain ⟨j, hj, rfl, PB, QB, BL⟩ := hrel
          obtain ⟨p0, p1, _, _⟩ := id PB
          obtain ⟨q0, q1, _, _⟩ := id QB
          have hjj : j = 0 ∨ j = 1 ∨ j = 2 := by omega
          rcases hjj with rfl | rfl | rfl
          · go_wp2_with fail
            refine (iVecCmp_any _ _ _ _ _ _).mono ?_
            rintro e w4 ⟨rfl, b4⟩
            replace PB := PB.below b4
            replace QB := QB.below b4
            replace BL := BL.trans (b4.mono BL.size)
            clear b4 p0 p1 q0 q1
            obtain ⟨p0, p1, _, _⟩ := id PB
            obtain ⟨q0, q1, _, _⟩ := id QB
            go_wp2_with fail
            refine (iVecCmp_any _ _ _ _ _ _).mono ?_
            rintro e w5 ⟨rfl, b5⟩
            replace PB := PB.below b5
            replace QB := QB.below b5
            replace BL := BL.trans (b5.mono BL.size)
            clear b5 p0 p1 q0 q1
            obtain ⟨p0, p1, _, _⟩ := id PB
            obtain ⟨q0, q1, _, _⟩ := id QB
            go_wp2_with fail
            refine (iVecCmp_any _ _ _ _ _ _).mono ?_
            rintro e w6 ⟨rfl, b6⟩
            replace PB := PB.below b6
            replace QB := QB.below b6
            replace BL := BL.trans (b6.mono BL.size)
            clear b6 p0 p1 q0 q1
            obtain ⟨p0, p1, _, _⟩ := id PB
            obtain ⟨q0, q1, _, _⟩ := id QB
            go_wp2
            go_roundw
            case rel => exact ⟨1, by omega, rfl, PB, QB, BL⟩
            case measure => simp [intOf]
          · go_wp2_with fail
            refine (iVecCmp_any _ _ _ _ _ _).mono ?_
            rintro e w4 ⟨rfl, b4⟩
            replace PB := PB.below b4
            replace QB := QB.below b4
            replace BL := BL.trans (b4.mono BL.size)
            clear b4 p0 p1 q0 q1
            obtain ⟨p0, p1, _, _⟩ := id PB
            obtain ⟨q0, q1, _, _⟩ := id QB
            go_wp2_with fail
            refine (iVecCmp_any _ _ _ _ _ _).mono ?_
            rintro e w5 ⟨rfl, b5⟩
            replace PB := PB.below b5
            replace QB := QB.below b5
            replace BL := BL.trans (b5.mono BL.size)
            clear b5 p0 p1 q0 q1
            obtain ⟨p0, p1, _, _⟩ := id PB
            obtain ⟨q0, q1, _, _⟩ := id QB
            go_wp2_with fail
            refine (iVecCmp_any _ _ _ _ _ _).mono ?_
            rintro e w6 ⟨rfl, b6⟩
            replace PB := PB.below b6
            replace QB := QB.below b6
            replace BL := BL.trans (b6.mono BL.size)
            clear b6 p0 p1 q0 q1
            obtain ⟨p0, p1, _, _⟩ := id PB
            obtain ⟨q0, q1, _, _⟩ := id QB
            go_wp2
            go_roundw
            case rel => exact ⟨2, by omega, rfl, PB, QB, BL⟩
            case measure => simp [intOf]
          · go_wp2_with fail
            refine (iVecCmp_any _ _ _ _ _ _).mono ?_
            rintro e w4 ⟨rfl, b4⟩
            replace PB := PB.below b4
            replace QB := QB.below b4
            replace BL := BL.trans (b4.mono BL.size)
            clear b4 p0 p1 q0 q1
            obtain ⟨p0, p1, _, _⟩ := id PB
            obtain ⟨q0, q1, _, _⟩ := id QB
            go_wp2_with fail
            refine (iVecCmp_any _ _ _ _ _ _).mono ?_
            rintro e w5 ⟨rfl, b5⟩
            replace PB := PB.below b5
            replace QB := QB.below b5
            replace BL := BL.trans (b5.mono BL.size)
            clear b5 p0 p1 q0 q1
            obtain ⟨p0, p1, _, _⟩ := id PB
            obtain ⟨q0, q1, _, _⟩ := id QB
            go_wp2_with fail
            refine (iVecSigned_any _ _ _).mono ?_
            rintro e w6 ⟨rfl, b6⟩
            replace PB := PB.below b6
            replace QB := QB.below b6
            replace BL := BL.trans (b6.mono BL.size)
            clear b6 p0 p1 q0 q1
            obtain ⟨p0, p1, _, _⟩ := id PB
            obtain ⟨q0, q1, _, _⟩ := id QB
            go_wp2_with fail
            refine (iVecSigned_any _ _ _).mono ?_
            rintro e w7 ⟨rfl, b7⟩
            replace PB := PB.below b7
            replace QB := QB.below b7
            replace BL := BL.trans (b7.mono BL.size)
            clear b7 p0 p1 q0 q1
            obtain ⟨p0, p1, _, _⟩ := id PB
            obtain ⟨q0, q1, _, _⟩ := id QB
            go_wp2_with fail
            refine (sVecSigned_any _ _ _).mono ?_
            rintro e w8 ⟨rfl, b8⟩
            replace PB := PB.below b8
            replace QB := QB.below b8
            replace BL := BL.trans (b8.mono BL.size)
            clear b8 p0 p1 q0 q1
            obtain ⟨p0, p1, _, _⟩ := id PB
            obtain ⟨q0, q1, _, _⟩ := id QB
            have hs : (sgnV a m == sgnV a m) = true := by simp
            go_wp2
            go_ret
            exact ⟨ret_bool (by have h := unhide HT; simpa using h), BL⟩

set_option maxRecDepth 100000 in
theorem lifted (os : Os) (started : os.Started) (H : Type) (enc : TypeId × Value → H) :
    ReturnsInHanded {} Try.checked os 4 .any (Rows.fnVecCmpSpec.pre6 enc Try.prog Try.f4 Rows.fnVecCmpRow.domain false) (Rows.fnVecCmpSpec.post enc Try.prog Try.f4 false true false false) := by
  refine returnsInHanded_of_change (C := Try.checked) own started (by kernel_rfl) Try.func4
    (ChangeSpec.witness6 (enc := enc) (C := Try.checked) false ⟨#[], #[.slice none 0 0], []⟩ 8 (by kernel_rfl) (by kernel_rfl) (by kernel_rfl) (by kernel_rfl)) ?_
  intro W base args ds gs before hval0 hW hcnd _
  have hval : ∀ (j : Nat) t v, Try.f4.params[j]? = some t → args[j]? = some v → Value.okWide Try.prog W .any base t v := hval0
  have hW' := hW
  obtain ⟨p, q, hA0, hV, rfl, hfz, hnd⟩ := hW
  have hA : DataW.TrodAll enc Try.prog W 0 (fun _ => true) true Try.f4.params.toList args.toList ds p := hA0
  rw [Try.params4] at hA hval
  obtain ⟨v0, vs0, d0, ds0, p0, q0, hargs, rfl, rfl, h0, r0⟩ := trodAll_cons hA
  obtain ⟨rfl, rfl, rfl⟩ := trodAll_nil r0
  obtain rfl : args = #[v0] := by cases args; simp_all
  obtain ⟨rfl, rfl⟩ := trodVars_none hV
  obtain ⟨code, lencode, capcode, rfl⟩ := okWide_slice Try.underlying22 (hval 0 22 v0 rfl rfl)
  have k0 := h0
  have lt0 : ∀ x ∈ p0, x.block < W.heap.size := by obtain ⟨m, hm⟩ := k0; exact DataW.trod_lt m _ _ _ hm
  obtain ⟨zcode, wcode⟩ : ∃ zs, IsRow .u8 W code lencode capcode zs := by
    obtain ⟨fuel, hf⟩ := h0
    rcases open_ints Try.underlying22 Try.underlying5 (by kernel_rfl) hf with ⟨hcs, _⟩ | ⟨x, l, c, zs, hcs, _, hl, hm, hz, _, hcell, hwz⟩
    · simp [Value.cells] at hcs
      obtain ⟨rfl, rfl, rfl⟩ := hcs
      exact ⟨[], .inl ⟨rfl, rfl, rfl, rfl⟩⟩
    · simp [Value.cells] at hcs
      obtain ⟨rfl, rfl, rfl⟩ := hcs
      exact ⟨zs, .inr ⟨_, rfl, hl, hm, by simpa using hz, hcell, hwz⟩⟩
  clear hA0 hval0
  refine (walk code lencode capcode zcode W wcode).mono fun e W' ⟨he, bel⟩ => ?_
  subst he
  exact ⟨_, rfl, _, _, _, [], _, [], hW', trodAll_mk1 (shut_bool Try.underlying4 _), (trodAll_cons_mk (Below.trod laidOut (by kernel_rfl) (of_decide_eq_true (by kernel_rfl)) k0 bel lt0) trodAll_mk0), rfl, bel.frame _, fun h => by cases h⟩

theorem over : Rows.fnVecCmpRow.holds Try.pinned (OpenSpec.ofChange Rows.fnVecCmpSpec) :=
  OpenClaim.holds_of_wide 4 Try.f4 rfl rfl rfl rfl rfl rfl rfl ⟨rfl, rfl, rfl, rfl, rfl⟩ rfl rfl rfl rfl rfl (by kernel_rfl) Try.func4 (by kernel_rfl)
    (of_decide_eq_true (by kernel_rfl)) (by unfold Func.isWrapper; first | (rw [if_pos (by decide +kernel)]; kernel_rfl) | (rw [if_neg (by decide +kernel)]; exact ⟨rfl, rfl⟩))
    (fun os started H enc _ => lifted os started H enc)
end vCmp

theorem vCmp_holds : Rows.FnVecCmpSaid := vCmp.over
#print axioms vCmp_holds
end Go.Proofs.Ytbfechcncgoopab
