/- A clause holds if one literal does: the law FnClauseHas returns true for every code of bytes, and leaves it as it was. No condition (the law itself answers true where the code is longer than 1048576 bytes). -/
import Derived.Test.YteakllghgcdoaaaCdrB
import Derived.Test.YteakllghgcdoaaaRowC
namespace Go.Proofs.Yteakllghgcdoaaa
open Go.ChangeShapes Go.WideShapes Go.ChangeAt Go.RowKit Go.Joins
open Go.ChangeMaps (open_string shut_string)
set_option linter.unusedVariables false

theorem hasB_nil (V : Nat → Int) (n : Nat) (B : Nat → Bool) : hasB 0 V n B = false := hasB_no (fun k hk => by omega)
theorem hasB_step (k : Nat) (V : Nat → Int) (n : Nat) (B : Nat → Bool) : hasB (k + 1) V n B = (hasB k V n B || metB (V k) n B) := by
  cases h1 : hasB k V n B
  · cases h2 : metB (V k) n B
    · rw [hasB_no]; rfl
      intro j hj
      by_cases e : j = k
      · subst e; exact h2
      · cases h3 : metB (V j) n B
        · rfl
        · have := hasB_yes (l := k) (V := V) (n := n) (B := B) ⟨j, by omega, h3⟩
          rw [h1] at this; cases this
    · rw [hasB_yes ⟨k, by omega, h2⟩]; rfl
  · obtain ⟨j, hj, hm⟩ := hasB_iff.1 h1
    rw [hasB_yes ⟨j, by omega, hm⟩]; rfl
theorem hasB_one (v : Int) (V : Nat → Int) (n : Nat) (B : Nat → Bool) (h : V 0 = v) : hasB 1 V n B = metB v n B := by
  rw [hasB_step, hasB_nil, h]; rfl
theorem hasB_zero (l : Nat) (V : Nat → Int) (B : Nat → Bool) : hasB l V 0 B = false := hasB_no (fun k _ => met_out (by omega))
theorem hasB_more {L M : List Int} {n : Nat} {B : Nat → Bool} {l m : Nat} (hl : L.length = l) (h : hasB l (at0 L) n B = true) : hasB (l + m) (at0 (L ++ M)) n B = true := by
  obtain ⟨k, hk, hm⟩ := hasB_iff.1 h
  refine hasB_yes ⟨k, by omega, ?_⟩
  have : at0 (L ++ M) k = at0 L k := by
    unfold at0
    simp [List.getD, List.getElem?_append_left (show k < L.length by omega)]
  rw [this]; exact hm

namespace cHas
set_option maxRecDepth 100000 in
set_option maxHeartbeats 2000000 in
theorem walk (code : Option Addr) (lencode capcode : Nat) (zcode : List Int) (w : World) (wcode : IsRow .u8 w code lencode capcode zcode) :
    Calls Try.prog 3 #[.slice code lencode capcode] w fun e w' => e = .returned (.bool true) ∧ Below w.heap.size w w' := by
  obtain ⟨hby, hlc, hcm⟩ := wcode.byts
  by_cases hl : lencode ≤ 1048576
  · go_enter Try.func3, Try.ntmps3
    go_wp2_with fail
    refine (drawClauseHas_any _ _ _ _ hl hlc hcm hby).mono ?_
    rintro e w1 ⟨g, n, cap, q, N, k, L, rfl, hn, hN, hLen, hW, hI, hV, BL⟩
    have HW : Hid (∀ i, i < n → W64 (at0 L i)) := fun i hi => hW _ (at0_mem (by omega))
    have HLen := hide hLen
    have I := hide hI
    have Y := hide hV
    clear hW hI hV wcode hby hLen
    have kb : (hasB n (at0 L) N (vls N k) != hasB n (at0 L) N (vls N k)) = false := by simp
    have kc : (hasB n (at0 L) N (vls N k) == hasB n (at0 L) N (vls N k)) = true := by simp
    go_wp2_with fail
    refine (iClauseHas_any _ _ _ _ _ _ _ _ _ (unhide I) (by omega) (unhide HW) (unhide Y) (by omega)).mono ?_
    rintro e w2 ⟨rfl, rfl⟩
    go_wp2_with fail
    refine (sClauseHas_any _ _ _ _ _ _ _ _ _ (unhide I) (by omega) (unhide HW) (unhide Y) (by omega)).mono ?_
    rintro e w3 ⟨rfl, rfl⟩
    go_wp2
    go_loopw [7, 6] (fun i o wr => ∃ j : Nat, j ≤ n ∧ i = .int .i64 j ∧ o = .bool (hasB j (at0 L) N (vls N k)) ∧ Below w3.heap.size w3 wr) (fun i _ _ => n - (intOf i).toNat)
    case atStart => exact ⟨0, by omega, rfl, by rw [hasB_nil], Below.refl _ _⟩
    case round =>
      obtain ⟨j, hj, rfl, rfl, hb⟩ := hrel
      by_cases hlt : j < n
      · have HS := hide (hasB_step j (at0 L) N (vls N k))
        cases hp : hasB j (at0 L) N (vls N k)
        · obtain ⟨b, off, eb, hbl, hd⟩ := (unhide I).ok hlt
          have eb' := eb
          simp only [Option.some.injEq, Addr.mk.injEq, and_true] at eb'
          obtain ⟨rfl, rfl⟩ := eb'
          have d0 := (hb.cell (p := ⟨g, 0 + j, none⟩) hbl).trans (hd j hlt)
          rw [Nat.zero_add] at d0
          have hw := unhide HW j hlt
          clear hd eb
          go_wp2_with fail
          obtain ⟨wz, hwz⟩ : ∃ wz, wz = wr.alloc (.cells #[.int .i64 (at0 L j)] 3) := ⟨_, rfl⟩
          have BZ : Below wr.heap.size wr wz := by rw [hwz]; exact (Below.refl _ _).alloc (Nat.le_refl _) _
          have I1 : IntsAt wz (some ⟨wr.heap.size, 0, none⟩) 1 (fun _ => at0 L j) := by
            refine Or.inr ⟨_, _, rfl, by rw [hwz]; simp, fun i hi => ?_⟩
            have : i = 0 := by omega
            subst this
            rw [hwz]; simp [go_sem]
          rw [← hwz]
          clear hwz
          have Y1 := ((unhide Y).later hb).later BZ
          have B1 := hb.trans (BZ.mono hb.size)
          refine (iClauseHas_any _ _ _ _ _ _ _ _ _ I1 (by omega) (fun _ _ => hw) Y1 (by omega)).mono ?_
          rintro e w4 ⟨rfl, rfl⟩
          rw [hasB_one (at0 L j) _ _ _ rfl]
          clear I1 Y1 BZ
          rw [hp] at HS
          go_wp2
          go_roundw
          case rel => exact ⟨j + 1, by omega, by go_num, by rw [unhide HS]; rfl, B1⟩
          case measure => simp [intOf]; omega
        · rw [hp] at HS
          go_wp2
          go_roundw
          case rel => exact ⟨j + 1, by omega, by go_num, by rw [unhide HS]; rfl, hb⟩
          case measure => simp [intOf]; omega
      · have ej : j = n := by omega
        subst ej
        have I1 := hide ((unhide I).later hb)
        have Y1 := hide ((unhide Y).later hb)
        have B1 : Below w.heap.size w wr := BL.trans (hb.mono BL.size)
        obtain ⟨g5, c5, w5, hrun5, ow5, b5⟩ := int_copy wr L g 0 j cap (unhide HLen) (unhide I1) (by omega)
        have gb5 := own_base ow5
        have s5 := b5.size
        obtain ⟨g6, c6, w6, hrun6, ow6, gr6, hg6⟩ := int_one w5 wr.heap.size _ j L 3 ow5 (by omega) (by omega)
        have m46 : Below wr.heap.size wr w6 := b5.trans ((mov_of_grown gr6).below gb5 b5.size)
        have I6 := hide (own_at ow6)
        have Y6 := hide ((unhide Y1).later m46)
        have J6 := hide ((unhide I1).later m46)
        have B6 := B1.trans (m46.mono B1.size)
        have HR5 := hide hrun5
        have HR6 := hide hrun6
        have HW6 : Hid (∀ i, i < j + 1 → W64 (at0 (L ++ [3]) i)) := fun i hi => by
          have hlen : L.length = j := unhide HLen
          have hm : at0 (L ++ [3]) i ∈ (L ++ [3]) := at0_mem (by simp [hlen]; omega)
          rcases List.mem_append.1 hm with h | h
          · obtain ⟨i', hi', he⟩ := List.getElem_of_mem h
            have := unhide HW i' (by omega)
            unfold at0 at this
            rw [List.getD_eq_getElem?_getD, List.getElem?_eq_getElem hi'] at this
            rw [← he]; exact this
          · simp at h
            unfold W64
            rw [h]; omega
        clear hrun5 hrun6 ow5 ow6 gr6 hg6 b5 m46 I1 Y1 B1
        have HT : Hid (hasB j (at0 L) N (vls N k) = true → hasB (j + 1) (at0 (L ++ [3])) N (vls N k) = true) := hide (fun h => by
          exact hasB_more (m := 1) (M := [3]) (unhide HLen) h)
        have hz0 := hasB_nil (fun _ => 0) N (vls N k)
        have hz1 := hasB_zero j (at0 L) (fun _ => false)
        cases hp : hasB j (at0 L) N (vls N k)
        · clear kb
          go_wp2_with (first | (at_builtin; refine wpList_append_run _ rfl (.tmp 41) (.tmp 42) 23 rfl _ _ _ _ rfl rfl (unhide HR5) ?_) | (at_builtin; refine wpList_append_run _ rfl (.tmp 43) (.tmp 44) 23 rfl _ _ _ _ rfl rfl (unhide HR6) ?_))
          refine (iClauseHas_any none 0 0 (fun _ => 0) _ _ _ _ _ (Or.inl rfl) (by omega) (fun i hi => by omega) (unhide Y6) (by omega)).mono ?_
          rintro e w7 ⟨rfl, rfl⟩
          rw [hz0]
          go_wp2_with fail
          refine (iClauseHas_any _ _ _ _ none 0 0 (fun _ => false) _ (unhide J6) (by omega) (unhide HW) (Or.inl rfl) (by omega)).mono ?_
          rintro e w8 ⟨rfl, rfl⟩
          rw [hz1]
          go_wp2
          go_ret
          exact ⟨rfl, B6⟩
        · have ht := unhide HT hp
          clear kb
          go_wp2_with (first | (at_builtin; refine wpList_append_run _ rfl (.tmp 41) (.tmp 42) 23 rfl _ _ _ _ rfl rfl (unhide HR5) ?_) | (at_builtin; refine wpList_append_run _ rfl (.tmp 43) (.tmp 44) 23 rfl _ _ _ _ rfl rfl (unhide HR6) ?_))
          refine (iClauseHas_any _ _ _ _ _ _ _ _ _ (unhide I6) (by omega) (unhide HW6) (unhide Y6) (by omega)).mono ?_
          rintro e w9 ⟨rfl, rfl⟩
          rw [ht]
          go_wp2_with fail
          refine (iClauseHas_any none 0 0 (fun _ => 0) _ _ _ _ _ (Or.inl rfl) (by omega) (fun i hi => by omega) (unhide Y6) (by omega)).mono ?_
          rintro e w7 ⟨rfl, rfl⟩
          rw [hz0]
          go_wp2_with fail
          refine (iClauseHas_any _ _ _ _ none 0 0 (fun _ => false) _ (unhide J6) (by omega) (unhide HW) (Or.inl rfl) (by omega)).mono ?_
          rintro e w8 ⟨rfl, rfl⟩
          rw [hz1]
          go_wp2
          go_ret
          exact ⟨rfl, B6⟩
  · go_enter Try.func3, Try.ntmps3
    go_wp2
    go_ret
    exact ⟨rfl, Below.refl _ _⟩

set_option maxRecDepth 100000 in
theorem lifted (os : Os) (started : os.Started) (H : Type) (enc : TypeId × Value → H) :
    ReturnsInHanded {} Try.checked os 3 .any (Rows.fnClauseHasSpec.pre6 enc Try.prog Try.f3 Rows.fnClauseHasRow.domain false) (Rows.fnClauseHasSpec.post enc Try.prog Try.f3 false true false false) := by
  refine returnsInHanded_of_change (C := Try.checked) own started (by kernel_rfl) Try.func3
    (ChangeSpec.witness6 (enc := enc) (C := Try.checked) false ⟨#[], #[.slice none 0 0], []⟩ 8 (by kernel_rfl) (by kernel_rfl) (by kernel_rfl) (by kernel_rfl)) ?_
  intro W base args ds gs before hval0 hW hcnd _
  have hval : ∀ (j : Nat) t v, Try.f3.params[j]? = some t → args[j]? = some v → Value.okWide Try.prog W .any base t v := hval0
  have hW' := hW
  obtain ⟨p, q, hA0, hV, rfl, hfz, hnd⟩ := hW
  have hA : DataW.TrodAll enc Try.prog W 0 (fun _ => true) true Try.f3.params.toList args.toList ds p := hA0
  rw [Try.params3] at hA hval
  obtain ⟨v0, vs0, d0, ds0, p0, q0, hargs, rfl, rfl, h0, r0⟩ := trodAll_cons hA
  obtain ⟨rfl, rfl, rfl⟩ := trodAll_nil r0
  obtain rfl : args = #[v0] := by cases args; simp_all
  obtain ⟨rfl, rfl⟩ := trodVars_none hV
  obtain ⟨code, lencode, capcode, rfl⟩ := okWide_slice Try.underlying22 (hval 0 22 v0 rfl rfl)
  have k0 := h0
  have lt0 : ∀ x ∈ p0, x.block < W.heap.size := by obtain ⟨m, hm⟩ := k0; exact DataW.trod_lt m _ _ _ hm
  obtain ⟨zcode, wcode⟩ : ∃ zs, IsRow .u8 W code lencode capcode zs := by
    obtain ⟨fuel, hf⟩ := h0
    rcases open_ints Try.underlying22 Try.underlying5 (by kernel_rfl) hf with ⟨hcs, _⟩ | ⟨x, l, c, zs, hcs, _, hl, hm, hz, _, hcell, hwz⟩
    · simp [Value.cells] at hcs
      obtain ⟨rfl, rfl, rfl⟩ := hcs
      exact ⟨[], .inl ⟨rfl, rfl, rfl, rfl⟩⟩
    · simp [Value.cells] at hcs
      obtain ⟨rfl, rfl, rfl⟩ := hcs
      exact ⟨zs, .inr ⟨_, rfl, hl, hm, by simpa using hz, hcell, hwz⟩⟩
  clear hA0 hval0
  refine (walk code lencode capcode zcode W wcode).mono fun e W' ⟨he, bel⟩ => ?_
  subst he
  exact ⟨_, rfl, _, _, _, [], _, [], hW', trodAll_mk1 (shut_bool Try.underlying4 _), (trodAll_cons_mk (Below.trod laidOut (by kernel_rfl) (of_decide_eq_true (by kernel_rfl)) k0 bel lt0) trodAll_mk0), rfl, bel.frame _, fun h => by cases h⟩

theorem over : Rows.fnClauseHasRow.holds Try.pinned (OpenSpec.ofChange Rows.fnClauseHasSpec) :=
  OpenClaim.holds_of_wide 3 Try.f3 rfl rfl rfl rfl rfl rfl rfl ⟨rfl, rfl, rfl, rfl, rfl⟩ rfl rfl rfl rfl rfl (by kernel_rfl) Try.func3 (by kernel_rfl)
    (of_decide_eq_true (by kernel_rfl)) (by unfold Func.isWrapper; first | (rw [if_pos (by decide +kernel)]; kernel_rfl) | (rw [if_neg (by decide +kernel)]; exact ⟨rfl, rfl⟩))
    (fun os started H enc _ => lifted os started H enc)
end cHas

theorem cHas_holds : Rows.FnClauseHasSaid := cHas.over
#print axioms cHas_holds
end Go.Proofs.Yteakllghgcdoaaa
