/- Difference gates are shared and right: the law FnNetXor returns true for every two codes of bytes, and leaves them as they were. No condition (the law itself answers true where one of them is longer than 1048576 bytes). -/
import Derived.Test.YtbfijmijhfbkdaaDnD
import Derived.Test.YtbfijmijhfbkdaaGsX
import Derived.Test.YtbfijmijhfbkdaaNrG
import Derived.Test.YtbfijmijhfbkdaaRowC
namespace Go.Proofs.Ytbfijmijhfbkdaa
open Go.ChangeShapes Go.WideShapes Go.ChangeAt Go.RowKit Go.Joins
open Go.ChangeMaps (open_string shut_string)
set_option linter.unusedVariables false
set_option linter.unusedSimpArgs false

namespace nXor
set_option maxRecDepth 100000 in
set_option maxHeartbeats 4000000 in
theorem walk (code : Option Addr) (lencode capcode : Nat) (zcode : List Int) (more : Option Addr) (lenmore capmore : Nat) (zmore : List Int) (w : World) (wcode : IsRow .u8 w code lencode capcode zcode) (wmore : IsRow .u8 w more lenmore capmore zmore) :
    Calls Try.prog 6 #[.slice code lencode capcode, .slice more lenmore capmore] w fun e w' => e = .returned (.bool true) ∧ Below w.heap.size w w' := by
  obtain ⟨hby, hlc, hcm⟩ := wcode.byts
  by_cases hl0 : lencode ≤ 1048576
  · by_cases hl1 : lenmore ≤ 1048576
    · go_enter Try.func6, Try.ntmps6
      go_wp2_with fail
      refine (drawNetXor_any _ _ _ _ hl0 hlc hcm hby).mono ?_
      rintro e w1 ⟨⟨m, g, n, cap, G, a, b, rfl, ⟨hm0, hm9⟩, hn, Dn, gl, _, wg, wa, wb⟩, BL⟩
      clear wcode hby wmore
      have HWG := hide wg
      obtain ⟨r, hr⟩ : ∃ r, r = netXorR m n G a b := ⟨_, rfl⟩
      have hrn : r.n ≤ 1048576 := by
        by_cases h : r.k = 0
        · rw [hr] at h ⊢; rw [(netXor_zero h).2]; omega
        · rw [hr] at h ⊢; obtain ⟨_, _, _, _, _, _, h6, _⟩ := netXor_facts h; omega
      have HR := hide hr
      clear hr wg
      have nn : n ≤ 1048576 := by omega
      have kr : (r.k != r.k) = false := by simp
      go_wp2_with fail
      obtain ⟨vE, hvE⟩ : ∃ v, v = w1.alloc (.cells #[.int .i64 m, .slice (some ⟨g, 0, none⟩) n cap] 25) := ⟨_, rfl⟩
      have bvE : Below w1.heap.size w1 vE := by rw [hvE]; exact (Below.refl _ _).alloc (Nat.le_refl _) _
      have E : NBox vE w1.heap.size m (some ⟨g, 0, none⟩) n cap := by rw [hvE]; exact NBox.new _ _ _ _ _ _
      rw [← hvE]
      clear hvE
      replace Dn := Dn.later bvE
      replace gl := Nat.lt_of_lt_of_le gl bvE.size
      replace BL := BL.trans (bvE.mono BL.size)
      clear bvE
      refine (iNetXor_any m _ n _ G a b _ Dn (unhide HWG) ⟨_, rfl, rfl⟩ wa wb nn).mono ?_
      rintro e w2 ⟨⟨ax, cx, rfl, K, _, KS⟩, b2⟩
      replace Dn := Dn.later b2
      replace E := E.later b2
      replace gl := Nat.lt_of_lt_of_le gl b2.size
      replace BL := BL.trans (b2.mono BL.size)
      clear b2
      rw [← unhide HR] at K
      rw [← unhide HR] at KS
      (try rw [← unhide HR])
      obtain ⟨E0, E1⟩ := id E
      have El := World.block_lt_of_cell? _ _ E0
      go_wp2_with fail
      clear E0 E1 El
      obtain ⟨vX, hvX⟩ : ∃ v, v = w2.alloc (.cells #[.int .i64 r.m, .slice ax r.n cx] 25) := ⟨_, rfl⟩
      have bvX : Below w2.heap.size w2 vX := by rw [hvX]; exact (Below.refl _ _).alloc (Nat.le_refl _) _
      have X : NBox vX w2.heap.size r.m ax r.n cx := by rw [hvX]; exact NBox.new _ _ _ _ _ _
      rw [← hvX]
      clear hvX
      replace Dn := Dn.later bvX
      replace K := K.later bvX
      replace E := E.later bvX
      replace gl := Nat.lt_of_lt_of_le gl bvX.size
      replace BL := BL.trans (bvX.mono BL.size)
      clear bvX
      refine (sNetXor_any m _ n _ G a b _ Dn (unhide HWG) (fun h => by cases h) (fun p h => by cases h; rfl) (fun p h => by cases h; exact gl) nn).mono ?_
      rintro e w3 ⟨⟨az, cz, rfl, W⟩, b3⟩
      replace Dn := Dn.later b3
      replace K := K.later b3
      replace E := E.later b3
      replace X := X.later b3
      replace gl := Nat.lt_of_lt_of_le gl b3.size
      replace BL := BL.trans (b3.mono BL.size)
      clear b3
      rw [← unhide HR] at W
      (try rw [← unhide HR])
      obtain ⟨E0, E1⟩ := id E
      have El := World.block_lt_of_cell? _ _ E0
      obtain ⟨X0, X1⟩ := id X
      have Xl := World.block_lt_of_cell? _ _ X0
      go_wp2_with fail
      clear E0 E1 El
      clear X0 X1 Xl
      obtain ⟨vZ, hvZ⟩ : ∃ v, v = w3.alloc (.cells #[.int .i64 r.m, .slice az r.n cz] 25) := ⟨_, rfl⟩
      have bvZ : Below w3.heap.size w3 vZ := by rw [hvZ]; exact (Below.refl _ _).alloc (Nat.le_refl _) _
      have Z : NBox vZ w3.heap.size r.m az r.n cz := by rw [hvZ]; exact NBox.new _ _ _ _ _ _
      rw [← hvZ]
      clear hvZ
      replace Dn := Dn.later bvZ
      replace K := K.later bvZ
      replace W := W.later bvZ
      replace E := E.later bvZ
      replace X := X.later bvZ
      replace gl := Nat.lt_of_lt_of_le gl bvZ.size
      replace BL := BL.trans (bvZ.mono BL.size)
      clear bvZ
      refine (iNetSame_any _ _ _ _ _ _ _ _ _ _ _ K W hrn hrn).mono ?_
      rintro e w4 ⟨rfl, b4⟩
      replace Dn := Dn.later b4
      replace K := K.later b4
      replace W := W.later b4
      replace E := E.later b4
      replace X := X.later b4
      replace Z := Z.later b4
      replace gl := Nat.lt_of_lt_of_le gl b4.size
      replace BL := BL.trans (b4.mono BL.size)
      clear b4
      rw [nsB_refl]
      clear Z
      clear W
      by_cases hk : r.k = 0
      · have hz : r.m = 0 ∧ r.n = 0 := by rw [unhide HR] at hk ⊢; exact netXor_zero hk
        have kz : (r.k == 0) = true := by simp [hk]
        have HZ := hide hz
        have K9 := hide K
        clear hz hk
        obtain ⟨X0, X1⟩ := id X
        go_wp2_with fail
        refine (iNetSame_any r.m 0 ax none r.n 0 cx 0 r.G r.G _ (unhide K9) (Or.inl rfl) hrn (by omega)).mono ?_
        rintro e wq ⟨rfl, bq⟩
        have hs : nsB r.m 0 r.n 0 r.G r.G = true := by rw [(unhide HZ).1, (unhide HZ).2]; exact nsB_refl _ _ _
        rw [hs]
        go_wp2
        go_ret
        exact ⟨rfl, BL.trans (bq.mono BL.size)⟩
      · have kz : (r.k == 0) = false := by simp [hk]
        obtain ⟨M, hM, o1, rm, o2, rn0, rn1, hpre, hsay, hkb, ⟨hag, hag2⟩, hab⟩ := netXor_facts (m := m) (n := n) (G := G) (a := a) (b := b) (by rw [← unhide HR]; exact hk)
        rw [← unhide HR] at rm o2 rn0 rn1 hpre hsay hkb hag hag2
        obtain ⟨px, hpx, hsp⟩ := KS hk
        have HKS := hide (show ∃ p, ax = some p ∧ p.spot = none from ⟨px, hpx, hsp⟩)
        have HM := hide hM
        have HO1 := hide o1
        have HRM := hide rm
        have HO2 := hide o2
        have HPRE := hide hpre
        have HSAY := hide hsay
        have HAG := hide hag
        have HAG2 : Hid (netXorR r.m r.n r.G (-a) b = ⟨r.m, r.n, r.G, -r.k⟩) := hag2
        have HWA : Hid (IntKind.i64.wrap (-a) = -a) := by show _ = _; rw [IntKind.wrap_i64]; omega
        have wna : W64 (-a) := by unfold W64; omega
        have kn : (-r.k != -r.k) = false := by simp
        obtain ⟨hkb0, hkb1⟩ := hkb
        obtain ⟨hab0, hab1⟩ := hab
        have HWR := hide (wg_net o2)
        have wk : W64 r.k := by unfold W64; omega
        have HON : Hid (netB r.m r.n r.G = true) := by rw [rm]; exact o2
        have kgt : decide ((r.n : Int) > (n : Int) + 1) = false := by simp; omega
        clear hk hM o1 rm o2 hpre hsay hag hag2 hpx hsp KS
        obtain ⟨E0, E1⟩ := id E
        have El := World.block_lt_of_cell? _ _ E0
        obtain ⟨X0, X1⟩ := id X
        have Xl := World.block_lt_of_cell? _ _ X0
        go_wp2_with fail
        clear E0 E1 El
        clear X0 X1 Xl
        refine (iNetXor_any r.m _ r.n _ r.G b a _ K (unhide HWR) (unhide HKS) wb wa hrn).mono ?_
        rintro e w5 ⟨⟨aa, ca, rfl, KA, _, _⟩, b5⟩
        replace Dn := Dn.later b5
        replace K := K.later b5
        replace E := E.later b5
        replace X := X.later b5
        replace gl := Nat.lt_of_lt_of_le gl b5.size
        replace BL := BL.trans (b5.mono BL.size)
        clear b5
        rw [unhide HAG] at KA
        rw [unhide HAG]
        obtain ⟨E0, E1⟩ := id E
        have El := World.block_lt_of_cell? _ _ E0
        obtain ⟨X0, X1⟩ := id X
        have Xl := World.block_lt_of_cell? _ _ X0
        go_wp2_with fail
        clear E0 E1 El
        clear X0 X1 Xl
        (try rw [unhide HWA])
        obtain ⟨vA, hvA⟩ : ∃ v, v = w5.alloc (.cells #[.int .i64 r.m, .slice aa r.n ca] 25) := ⟨_, rfl⟩
        have bvA : Below w5.heap.size w5 vA := by rw [hvA]; exact (Below.refl _ _).alloc (Nat.le_refl _) _
        have A : NBox vA w5.heap.size r.m aa r.n ca := by rw [hvA]; exact NBox.new _ _ _ _ _ _
        rw [← hvA]
        clear hvA
        replace Dn := Dn.later bvA
        replace K := K.later bvA
        replace KA := KA.later bvA
        replace E := E.later bvA
        replace X := X.later bvA
        replace gl := Nat.lt_of_lt_of_le gl bvA.size
        replace BL := BL.trans (bvA.mono BL.size)
        clear bvA
        refine (iNetXor_any r.m _ r.n _ r.G (-a) b _ K (unhide HWR) (unhide HKS) wna wb hrn).mono ?_
        rintro e w6 ⟨⟨aq, cq, rfl, KQ, _, _⟩, b6⟩
        replace Dn := Dn.later b6
        replace K := K.later b6
        replace KA := KA.later b6
        replace E := E.later b6
        replace X := X.later b6
        replace A := A.later b6
        replace gl := Nat.lt_of_lt_of_le gl b6.size
        replace BL := BL.trans (b6.mono BL.size)
        clear b6
        rw [unhide HAG2] at KQ
        dsimp only at KQ
        rw [unhide HAG2]
        dsimp only
        obtain ⟨E0, E1⟩ := id E
        have El := World.block_lt_of_cell? _ _ E0
        obtain ⟨X0, X1⟩ := id X
        have Xl := World.block_lt_of_cell? _ _ X0
        obtain ⟨A0, A1⟩ := id A
        have Al := World.block_lt_of_cell? _ _ A0
        go_wp2_with fail
        clear E0 E1 El
        clear X0 X1 Xl
        clear A0 A1 Al
        obtain ⟨vQ, hvQ⟩ : ∃ v, v = w6.alloc (.cells #[.int .i64 r.m, .slice aq r.n cq] 25) := ⟨_, rfl⟩
        have bvQ : Below w6.heap.size w6 vQ := by rw [hvQ]; exact (Below.refl _ _).alloc (Nat.le_refl _) _
        have Q : NBox vQ w6.heap.size r.m aq r.n cq := by rw [hvQ]; exact NBox.new _ _ _ _ _ _
        rw [← hvQ]
        clear hvQ
        replace Dn := Dn.later bvQ
        replace K := K.later bvQ
        replace KA := KA.later bvQ
        replace KQ := KQ.later bvQ
        replace E := E.later bvQ
        replace X := X.later bvQ
        replace A := A.later bvQ
        replace gl := Nat.lt_of_lt_of_le gl bvQ.size
        replace BL := BL.trans (bvQ.mono BL.size)
        clear bvQ
        refine (iNetSame_any _ _ _ _ _ _ _ _ _ _ _ KA K hrn hrn).mono ?_
        rintro e w7 ⟨rfl, b7⟩
        replace Dn := Dn.later b7
        replace K := K.later b7
        replace KA := KA.later b7
        replace KQ := KQ.later b7
        replace E := E.later b7
        replace X := X.later b7
        replace A := A.later b7
        replace Q := Q.later b7
        replace gl := Nat.lt_of_lt_of_le gl b7.size
        replace BL := BL.trans (b7.mono BL.size)
        clear b7
        rw [nsB_refl]
        obtain ⟨E0, E1⟩ := id E
        have El := World.block_lt_of_cell? _ _ E0
        obtain ⟨X0, X1⟩ := id X
        have Xl := World.block_lt_of_cell? _ _ X0
        obtain ⟨A0, A1⟩ := id A
        have Al := World.block_lt_of_cell? _ _ A0
        obtain ⟨Q0, Q1⟩ := id Q
        have Ql := World.block_lt_of_cell? _ _ Q0
        go_wp2_with fail
        clear E0 E1 El
        clear X0 X1 Xl
        clear A0 A1 Al
        clear Q0 Q1 Ql
        refine (iNetSame_any _ _ _ _ _ _ _ _ _ _ _ KQ K hrn hrn).mono ?_
        rintro e w8 ⟨rfl, b8⟩
        replace Dn := Dn.later b8
        replace K := K.later b8
        replace KA := KA.later b8
        replace KQ := KQ.later b8
        replace E := E.later b8
        replace X := X.later b8
        replace A := A.later b8
        replace Q := Q.later b8
        replace gl := Nat.lt_of_lt_of_le gl b8.size
        replace BL := BL.trans (b8.mono BL.size)
        clear b8
        rw [nsB_refl]
        obtain ⟨E0, E1⟩ := id E
        have El := World.block_lt_of_cell? _ _ E0
        obtain ⟨X0, X1⟩ := id X
        have Xl := World.block_lt_of_cell? _ _ X0
        obtain ⟨A0, A1⟩ := id A
        have Al := World.block_lt_of_cell? _ _ A0
        obtain ⟨Q0, Q1⟩ := id Q
        have Ql := World.block_lt_of_cell? _ _ Q0
        go_wp2_with fail
        clear E0 E1 El
        clear X0 X1 Xl
        clear A0 A1 Al
        clear Q0 Q1 Ql
        refine (iNetOk_any r.m _ r.n _ r.G _ K (unhide HWR) hrn).mono ?_
        rintro e w9 ⟨rfl, b9⟩
        replace Dn := Dn.later b9
        replace K := K.later b9
        replace KA := KA.later b9
        replace KQ := KQ.later b9
        replace E := E.later b9
        replace X := X.later b9
        replace A := A.later b9
        replace Q := Q.later b9
        replace gl := Nat.lt_of_lt_of_le gl b9.size
        replace BL := BL.trans (b9.mono BL.size)
        clear b9
        rw [unhide HON]
        obtain ⟨E0, E1⟩ := id E
        have El := World.block_lt_of_cell? _ _ E0
        obtain ⟨X0, X1⟩ := id X
        have Xl := World.block_lt_of_cell? _ _ X0
        obtain ⟨A0, A1⟩ := id A
        have Al := World.block_lt_of_cell? _ _ A0
        obtain ⟨Q0, Q1⟩ := id Q
        have Ql := World.block_lt_of_cell? _ _ Q0
        go_wp2_with fail
        clear E0 E1 El
        clear X0 X1 Xl
        clear A0 A1 Al
        clear Q0 Q1 Ql
        have hG := wpGate_any M (some ⟨g, 0, none⟩) n cap G ax r.n cx r.G a b r.k true (lenmore : Int)
        have e1 : m = r.m := by rw [unhide HM, unhide HRM]
        rw [← unhide HRM] at hG
        rw [e1]
        refine (hG _ Dn (unhide HWG) K (unhide HWR) (by rw [unhide HRM]; exact unhide HO1) (by rw [unhide HRM]; exact unhide HO2) rn0 (unhide HPRE) (by rw [unhide HRM]; exact unhide HSAY) wa wb wk (by omega) (by omega)).mono ?_
        rintro e we ⟨rfl, be⟩
        go_wp2
        go_ret
        exact ⟨rfl, BL.trans (be.mono BL.size)⟩
    · go_enter Try.func6, Try.ntmps6
      go_wp2
      go_ret
      exact ⟨rfl, Below.refl _ _⟩
  · go_enter Try.func6, Try.ntmps6
    go_wp2
    go_ret
    exact ⟨rfl, Below.refl _ _⟩

set_option maxRecDepth 100000 in
theorem lifted (os : Os) (started : os.Started) (H : Type) (enc : TypeId × Value → H) :
    ReturnsInHanded {} Try.checked os 6 .any (Rows.fnNetXorSpec.pre6 enc Try.prog Try.f6 Rows.fnNetXorRow.domain false) (Rows.fnNetXorSpec.post enc Try.prog Try.f6 false true false false) := by
  refine returnsInHanded_of_change (C := Try.checked) own started (by kernel_rfl) Try.func6
    (ChangeSpec.witness6 (enc := enc) (C := Try.checked) false ⟨#[], #[.slice none 0 0, .slice none 0 0], []⟩ 8 (by kernel_rfl) (by kernel_rfl) (by kernel_rfl) (by kernel_rfl)) ?_
  intro W base args ds gs before hval0 hW hcnd _
  have hval : ∀ (j : Nat) t v, Try.f6.params[j]? = some t → args[j]? = some v → Value.okWide Try.prog W .any base t v := hval0
  have hW' := hW
  obtain ⟨p, q, hA0, hV, rfl, hfz, hnd⟩ := hW
  have hA : DataW.TrodAll enc Try.prog W 0 (fun _ => true) true Try.f6.params.toList args.toList ds p := hA0
  rw [Try.params6] at hA hval
  obtain ⟨v0, vs0, d0, ds0, p0, q0, hargs, rfl, rfl, h0, r0⟩ := trodAll_cons hA
  obtain ⟨v1, vs1, d1, ds1, p1, q1, rfl, rfl, rfl, h1, r1⟩ := trodAll_cons r0
  obtain ⟨rfl, rfl, rfl⟩ := trodAll_nil r1
  obtain rfl : args = #[v0, v1] := by cases args; simp_all
  obtain ⟨rfl, rfl⟩ := trodVars_none hV
  obtain ⟨code, lencode, capcode, rfl⟩ := okWide_slice Try.underlying22 (hval 0 22 v0 rfl rfl)
  have k0 := h0
  have lt0 : ∀ x ∈ p0, x.block < W.heap.size := by obtain ⟨m, hm⟩ := k0; exact DataW.trod_lt m _ _ _ hm
  obtain ⟨zcode, wcode⟩ : ∃ zs, IsRow .u8 W code lencode capcode zs := by
    obtain ⟨fuel, hf⟩ := h0
    rcases open_ints Try.underlying22 Try.underlying5 (by kernel_rfl) hf with ⟨hcs, _⟩ | ⟨x, l, c, zs, hcs, _, hl, hm, hz, _, hcell, hwz⟩
    · simp [Value.cells] at hcs
      obtain ⟨rfl, rfl, rfl⟩ := hcs
      exact ⟨[], .inl ⟨rfl, rfl, rfl, rfl⟩⟩
    · simp [Value.cells] at hcs
      obtain ⟨rfl, rfl, rfl⟩ := hcs
      exact ⟨zs, .inr ⟨_, rfl, hl, hm, by simpa using hz, hcell, hwz⟩⟩
  obtain ⟨more, lenmore, capmore, rfl⟩ := okWide_slice Try.underlying22 (hval 1 22 v1 rfl rfl)
  have k1 := h1
  have lt1 : ∀ x ∈ p1, x.block < W.heap.size := by obtain ⟨m, hm⟩ := k1; exact DataW.trod_lt m _ _ _ hm
  obtain ⟨zmore, wmore⟩ : ∃ zs, IsRow .u8 W more lenmore capmore zs := by
    obtain ⟨fuel, hf⟩ := h1
    rcases open_ints Try.underlying22 Try.underlying5 (by kernel_rfl) hf with ⟨hcs, _⟩ | ⟨x, l, c, zs, hcs, _, hl, hm, hz, _, hcell, hwz⟩
    · simp [Value.cells] at hcs
      obtain ⟨rfl, rfl, rfl⟩ := hcs
      exact ⟨[], .inl ⟨rfl, rfl, rfl, rfl⟩⟩
    · simp [Value.cells] at hcs
      obtain ⟨rfl, rfl, rfl⟩ := hcs
      exact ⟨zs, .inr ⟨_, rfl, hl, hm, by simpa using hz, hcell, hwz⟩⟩
  clear hA0 hval0
  refine (walk code lencode capcode zcode more lenmore capmore zmore W wcode wmore).mono fun e W' ⟨he, bel⟩ => ?_
  subst he
  exact ⟨_, rfl, _, _, _, [], _, [], hW', trodAll_mk1 (shut_bool Try.underlying4 _), (trodAll_cons_mk (Below.trod laidOut (by kernel_rfl) (of_decide_eq_true (by kernel_rfl)) k0 bel lt0) (trodAll_cons_mk (Below.trod laidOut (by kernel_rfl) (of_decide_eq_true (by kernel_rfl)) k1 bel lt1) trodAll_mk0)), rfl, bel.frame _, fun h => by cases h⟩

theorem over : Rows.fnNetXorRow.holds Try.pinned (OpenSpec.ofChange Rows.fnNetXorSpec) :=
  OpenClaim.holds_of_wide 6 Try.f6 rfl rfl rfl rfl rfl rfl rfl ⟨rfl, rfl, rfl, rfl, rfl⟩ rfl rfl rfl rfl rfl (by kernel_rfl) Try.func6 (by kernel_rfl)
    (of_decide_eq_true (by kernel_rfl)) (by unfold Func.isWrapper; first | (rw [if_pos (by decide +kernel)]; kernel_rfl) | (rw [if_neg (by decide +kernel)]; exact ⟨rfl, rfl⟩))
    (fun os started H enc _ => lifted os started H enc)
end nXor

theorem nXor_holds : Rows.FnNetXorSaid := nXor.over
#print axioms nXor_holds
end Go.Proofs.Ytbfijmijhfbkdaa
