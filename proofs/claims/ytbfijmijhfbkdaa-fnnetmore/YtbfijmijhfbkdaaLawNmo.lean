/- The order of making gates does not change what they say: the law FnNetMore returns true for every two codes of bytes, and leaves them as they were. No condition (the law itself answers true where one of them is longer than 1048576 bytes). -/
import Derived.Test.YtbfijmijhfbkdaaDnD
import Derived.Test.YtbfijmijhfbkdaaGsN
import Derived.Test.YtbfijmijhfbkdaaNrG
import Derived.Test.YtbfijmijhfbkdaaRowC
namespace Go.Proofs.Ytbfijmijhfbkdaa
open Go.ChangeShapes Go.WideShapes Go.ChangeAt Go.RowKit Go.Joins
open Go.ChangeMaps (open_string shut_string)
set_option linter.unusedVariables false
set_option linter.unusedSimpArgs false
theorem wpGate_two (M : Nat) (m1 m2 : Int) (e1 : m1 = (M : Int)) (e2 : m2 = (M : Int)) (a1 : Option Addr) (n1 c1 : Nat) (G1 : Nat → Gt) (a2 : Option Addr) (n2 c2 : Nat) (G2 : Nat → Gt) (a b mk : Int) (x : Bool) (k : Int) (w : World) (h1 : GtsAt w a1 n1 G1) (w1 : WG n1 G1) (h2 : GtsAt w a2 n2 G2) (w2 : WG n2 G2) (o1 : netB M n1 G1 = true) (o2 : netB M n2 G2 = true) (hn : n1 ≤ n2) (he : ∀ i, i < n1 → G2 i = G1 i) (hs : SayP M n2 G2 a b mk x) (wa : W64 a) (wb : W64 b) (wm : W64 mk) (k0 : 0 ≤ k) (k1 : k ≤ 1048576) :
    Calls Try.prog 19 #[.agg #[.int .i64 m1, .slice a1 n1 c1], .agg #[.int .i64 m2, .slice a2 n2 c2], .int .i64 a, .int .i64 b, .int .i64 mk, .bool x, .int .i64 k] w fun e w' => e = .returned (.bool true) ∧ Below w.heap.size w w' := by
  subst e1 e2
  exact wpGate_any M a1 n1 c1 G1 a2 n2 c2 G2 a b mk x k w h1 w1 h2 w2 o1 o2 hn he hs wa wb wm k0 k1

namespace nMore
set_option maxRecDepth 100000 in
set_option maxHeartbeats 4000000 in
theorem walk (code : Option Addr) (lencode capcode : Nat) (zcode : List Int) (more : Option Addr) (lenmore capmore : Nat) (zmore : List Int) (w : World) (wcode : IsRow .u8 w code lencode capcode zcode) (wmore : IsRow .u8 w more lenmore capmore zmore) :
    Calls Try.prog 4 #[.slice code lencode capcode, .slice more lenmore capmore] w fun e w' => e = .returned (.bool true) ∧ Below w.heap.size w w' := by
  obtain ⟨hby, hlc, hcm⟩ := wcode.byts
  by_cases hl0 : lencode ≤ 1048576
  · by_cases hl1 : lenmore ≤ 1048576
    · go_enter Try.func4, Try.ntmps4
      go_wp2_with fail
      refine (drawNetAnd_any _ _ _ _ hl0 hlc hcm hby).mono ?_
      rintro e w1 ⟨⟨m, g, n, cap, G, a, b, rfl, ⟨hm0, hm9⟩, hn, Dn, gl, _, wg, wa, wb⟩, BL⟩
      clear wcode hby wmore
      have HWG := hide wg
      obtain ⟨x, hx⟩ : ∃ r, r = netAndR m n G a b := ⟨_, rfl⟩
      obtain ⟨y, hy⟩ : ∃ r, r = netXorR m n G a b := ⟨_, rfl⟩
      have hxn : x.n ≤ 100 := by
        by_cases h : x.k = 0
        · rw [hx] at h ⊢; rw [(netAnd_zero h).2]; omega
        · rw [hx] at h ⊢; obtain ⟨_, _, _, _, _, _, h6, _⟩ := netAnd_facts h; omega
      have hyn : y.n ≤ 100 := by
        by_cases h : y.k = 0
        · rw [hy] at h ⊢; rw [(netXor_zero h).2]; omega
        · rw [hy] at h ⊢; obtain ⟨_, _, _, _, _, _, h6, _⟩ := netXor_facts h; omega
      have HX := hide hx
      have HY := hide hy
      clear hx hy wg
      have nn : n ≤ 1048576 := by omega
      have kx : (x.k != x.k) = false := by simp
      have kxx : (x.k == x.k) = true := by simp
      go_wp2_with fail
      obtain ⟨vE, hvE⟩ : ∃ v, v = w1.alloc (.cells #[.int .i64 m, .slice (some ⟨g, 0, none⟩) n cap] 25) := ⟨_, rfl⟩
      have bvE : Below w1.heap.size w1 vE := by rw [hvE]; exact (Below.refl _ _).alloc (Nat.le_refl _) _
      have E : NBox vE w1.heap.size m (some ⟨g, 0, none⟩) n cap := by rw [hvE]; exact NBox.new _ _ _ _ _ _
      rw [← hvE]
      clear hvE
      replace Dn := Dn.later bvE
      replace gl := Nat.lt_of_lt_of_le gl bvE.size
      replace BL := BL.trans (bvE.mono BL.size)
      clear bvE
      refine (iNetAnd_any m _ n _ G a b _ Dn (unhide HWG) ⟨_, rfl, rfl⟩ wa wb nn).mono ?_
      rintro e w2 ⟨⟨ax, cx, rfl, K, _, KS⟩, b2⟩
      replace Dn := Dn.later b2
      replace E := E.later b2
      replace gl := Nat.lt_of_lt_of_le gl b2.size
      replace BL := BL.trans (b2.mono BL.size)
      clear b2
      rw [← unhide HX] at K
      rw [← unhide HX] at KS
      (try rw [← unhide HX])
      obtain ⟨E0, E1⟩ := id E
      have El := World.block_lt_of_cell? _ _ E0
      go_wp2_with fail
      clear E0 E1 El
      obtain ⟨vX, hvX⟩ : ∃ v, v = w2.alloc (.cells #[.int .i64 x.m, .slice ax x.n cx] 25) := ⟨_, rfl⟩
      have bvX : Below w2.heap.size w2 vX := by rw [hvX]; exact (Below.refl _ _).alloc (Nat.le_refl _) _
      have X : NBox vX w2.heap.size x.m ax x.n cx := by rw [hvX]; exact NBox.new _ _ _ _ _ _
      rw [← hvX]
      clear hvX
      replace Dn := Dn.later bvX
      replace K := K.later bvX
      replace E := E.later bvX
      replace gl := Nat.lt_of_lt_of_le gl bvX.size
      replace BL := BL.trans (bvX.mono BL.size)
      clear bvX
      refine (sNetAnd_any m _ n _ G a b _ Dn (unhide HWG) (fun h => by cases h) (fun p h => by cases h; rfl) (fun p h => by cases h; exact gl) nn).mono ?_
      rintro e w3 ⟨⟨az, cz, rfl, W⟩, b3⟩
      replace Dn := Dn.later b3
      replace K := K.later b3
      replace E := E.later b3
      replace X := X.later b3
      replace gl := Nat.lt_of_lt_of_le gl b3.size
      replace BL := BL.trans (b3.mono BL.size)
      clear b3
      rw [← unhide HX] at W
      (try rw [← unhide HX])
      clear W
      obtain ⟨E0, E1⟩ := id E
      have El := World.block_lt_of_cell? _ _ E0
      obtain ⟨X0, X1⟩ := id X
      have Xl := World.block_lt_of_cell? _ _ X0
      go_wp2_with fail
      clear E0 E1 El
      clear X0 X1 Xl
      obtain ⟨vZ, hvZ⟩ : ∃ v, v = w3.alloc (.cells #[.int .i64 x.m, .slice az x.n cz] 25) := ⟨_, rfl⟩
      have bvZ : Below w3.heap.size w3 vZ := by rw [hvZ]; exact (Below.refl _ _).alloc (Nat.le_refl _) _
      have Z : NBox vZ w3.heap.size x.m az x.n cz := by rw [hvZ]; exact NBox.new _ _ _ _ _ _
      rw [← hvZ]
      clear hvZ
      replace Dn := Dn.later bvZ
      replace K := K.later bvZ
      replace E := E.later bvZ
      replace X := X.later bvZ
      replace gl := Nat.lt_of_lt_of_le gl bvZ.size
      replace BL := BL.trans (bvZ.mono BL.size)
      clear bvZ
      refine (iNetXor_any m _ n _ G a b _ Dn (unhide HWG) ⟨_, rfl, rfl⟩ wa wb nn).mono ?_
      rintro e w4 ⟨⟨ay, cy, rfl, KY, _, KYS⟩, b4⟩
      replace Dn := Dn.later b4
      replace K := K.later b4
      replace E := E.later b4
      replace X := X.later b4
      replace Z := Z.later b4
      replace gl := Nat.lt_of_lt_of_le gl b4.size
      replace BL := BL.trans (b4.mono BL.size)
      clear b4
      clear Z
      rw [← unhide HY] at KY
      rw [← unhide HY] at KYS
      (try rw [← unhide HY])
      by_cases hkx : x.k = 0
      · have kz : (x.k == 0) = true := by simp [hkx]
        clear hkx
        go_wp2
        go_ret
        exact ⟨rfl, (by repeat (first | exact Below.refl _ _ | assumption | refine below_drewN ?_ _ | refine Below.drew ?_ | refine Below.alloc ?_ (by first | exact Nat.le_refl _ | exact Below.size (by assumption) | (simp; done) | (simp; omega)) _ | refine Below.setCell ?_ (by first | exact Nat.le_refl _ | exact Below.size (by assumption) | (simp; done) | (simp; omega)) _ | refine Below.trans ?_ (by assumption)))⟩
      · have kz : (x.k == 0) = false := by simp [hkx]
        by_cases hky : y.k = 0
        · have kw : (y.k == 0) = true := by simp [hky]
          clear hky hkx
          go_wp2
          go_ret
          exact ⟨rfl, (by repeat (first | exact Below.refl _ _ | assumption | refine below_drewN ?_ _ | refine Below.drew ?_ | refine Below.alloc ?_ (by first | exact Nat.le_refl _ | exact Below.size (by assumption) | (simp; done) | (simp; omega)) _ | refine Below.setCell ?_ (by first | exact Nat.le_refl _ | exact Below.size (by assumption) | (simp; done) | (simp; omega)) _ | refine Below.trans ?_ (by assumption)))⟩
        · have kw : (y.k == 0) = false := by simp [hky]
          obtain ⟨p, hp⟩ : ∃ r, r = netXorR x.m x.n x.G a b := ⟨_, rfl⟩
          obtain ⟨q, hq⟩ : ∃ r, r = netAndR y.m y.n y.G a b := ⟨_, rfl⟩
          have HWX : Hid (WG x.n x.G) := by
            have f := netAnd_facts (m := m) (n := n) (G := G) (a := a) (b := b) (by rw [← unhide HX]; exact hkx)
            rw [← unhide HX] at f
            obtain ⟨_, _, _, _, h5, _⟩ := f
            exact wg_net h5
          have HWY : Hid (WG y.n y.G) := by
            have f := netXor_facts (m := m) (n := n) (G := G) (a := a) (b := b) (by rw [← unhide HY]; exact hky)
            rw [← unhide HY] at f
            obtain ⟨_, _, _, _, h5, _⟩ := f
            exact wg_net h5
          have HPX := hide (KS hkx)
          have HPY := hide (KYS hky)
          have HP := hide hp
          have HQ := hide hq
          have HKX := hide hkx
          have HKY := hide hky
          clear hp hq hkx hky KS KYS
          obtain ⟨E0, E1⟩ := id E
          have El := World.block_lt_of_cell? _ _ E0
          obtain ⟨X0, X1⟩ := id X
          have Xl := World.block_lt_of_cell? _ _ X0
          go_wp2_with fail
          clear E0 E1 El
          clear X0 X1 Xl
          obtain ⟨vY, hvY⟩ : ∃ v, v = w4.alloc (.cells #[.int .i64 y.m, .slice ay y.n cy] 25) := ⟨_, rfl⟩
          have bvY : Below w4.heap.size w4 vY := by rw [hvY]; exact (Below.refl _ _).alloc (Nat.le_refl _) _
          have Y : NBox vY w4.heap.size y.m ay y.n cy := by rw [hvY]; exact NBox.new _ _ _ _ _ _
          rw [← hvY]
          clear hvY
          replace Dn := Dn.later bvY
          replace K := K.later bvY
          replace KY := KY.later bvY
          replace E := E.later bvY
          replace X := X.later bvY
          replace gl := Nat.lt_of_lt_of_le gl bvY.size
          replace BL := BL.trans (bvY.mono BL.size)
          clear bvY
          refine (iNetXor_any x.m _ x.n _ x.G a b _ K (unhide HWX) (unhide HPX) wa wb (by omega)).mono ?_
          rintro e w5 ⟨⟨ap, cp, rfl, KP, _, _⟩, b5⟩
          replace Dn := Dn.later b5
          replace K := K.later b5
          replace KY := KY.later b5
          replace E := E.later b5
          replace X := X.later b5
          replace Y := Y.later b5
          replace gl := Nat.lt_of_lt_of_le gl b5.size
          replace BL := BL.trans (b5.mono BL.size)
          clear b5
          rw [← unhide HP] at KP
          (try rw [← unhide HP])
          obtain ⟨E0, E1⟩ := id E
          have El := World.block_lt_of_cell? _ _ E0
          obtain ⟨X0, X1⟩ := id X
          have Xl := World.block_lt_of_cell? _ _ X0
          obtain ⟨Y0, Y1⟩ := id Y
          have Yl := World.block_lt_of_cell? _ _ Y0
          go_wp2_with fail
          clear E0 E1 El
          clear X0 X1 Xl
          clear Y0 Y1 Yl
          obtain ⟨vP, hvP⟩ : ∃ v, v = w5.alloc (.cells #[.int .i64 p.m, .slice ap p.n cp] 25) := ⟨_, rfl⟩
          have bvP : Below w5.heap.size w5 vP := by rw [hvP]; exact (Below.refl _ _).alloc (Nat.le_refl _) _
          have P : NBox vP w5.heap.size p.m ap p.n cp := by rw [hvP]; exact NBox.new _ _ _ _ _ _
          rw [← hvP]
          clear hvP
          replace Dn := Dn.later bvP
          replace K := K.later bvP
          replace KY := KY.later bvP
          replace KP := KP.later bvP
          replace E := E.later bvP
          replace X := X.later bvP
          replace Y := Y.later bvP
          replace gl := Nat.lt_of_lt_of_le gl bvP.size
          replace BL := BL.trans (bvP.mono BL.size)
          clear bvP
          refine (iNetAnd_any y.m _ y.n _ y.G a b _ KY (unhide HWY) (unhide HPY) wa wb (by omega)).mono ?_
          rintro e w6 ⟨⟨aq, cq, rfl, KQ, _, _⟩, b6⟩
          replace Dn := Dn.later b6
          replace K := K.later b6
          replace KY := KY.later b6
          replace KP := KP.later b6
          replace E := E.later b6
          replace X := X.later b6
          replace Y := Y.later b6
          replace P := P.later b6
          replace gl := Nat.lt_of_lt_of_le gl b6.size
          replace BL := BL.trans (b6.mono BL.size)
          clear b6
          rw [← unhide HQ] at KQ
          (try rw [← unhide HQ])
          by_cases hkp : p.k = 0
          · have kp : (p.k == 0) = true := by simp [hkp]
            clear hkp
            go_wp2
            go_ret
            exact ⟨rfl, (by repeat (first | exact Below.refl _ _ | assumption | refine below_drewN ?_ _ | refine Below.drew ?_ | refine Below.alloc ?_ (by first | exact Nat.le_refl _ | exact Below.size (by assumption) | (simp; done) | (simp; omega)) _ | refine Below.setCell ?_ (by first | exact Nat.le_refl _ | exact Below.size (by assumption) | (simp; done) | (simp; omega)) _ | refine Below.trans ?_ (by assumption)))⟩
          · have kp : (p.k == 0) = false := by simp [hkp]
            by_cases hkq : q.k = 0
            · have kq : (q.k == 0) = true := by simp [hkq]
              clear hkq hkp
              go_wp2
              go_ret
              exact ⟨rfl, (by repeat (first | exact Below.refl _ _ | assumption | refine below_drewN ?_ _ | refine Below.drew ?_ | refine Below.alloc ?_ (by first | exact Nat.le_refl _ | exact Below.size (by assumption) | (simp; done) | (simp; omega)) _ | refine Below.setCell ?_ (by first | exact Nat.le_refl _ | exact Below.size (by assumption) | (simp; done) | (simp; omega)) _ | refine Below.trans ?_ (by assumption)))⟩
            · have kq : (q.k == 0) = false := by simp [hkq]
              obtain ⟨M, hM, o1, pm, qm, po, qo, pn, qn, pe, qe, ps, qs, xs, ys, hpq, wp, wq, wx, wy⟩ := both_ways (unhide HX) (unhide HY) (unhide HP) (unhide HQ) (unhide HKX) (unhide HKY) hkp hkq
              have kpq : ((p.n : Int) == (q.n : Int)) = true := by simp [hpq]
              have HM := hide hM
              have O1 := hide o1
              have PM := hide pm
              have QM := hide qm
              have PO := hide po
              have QO := hide qo
              have PE := hide pe
              have QE := hide qe
              have PS := hide ps
              have QS := hide qs
              have XS := hide xs
              have YS := hide ys
              have HWP := hide (wg_net po)
              have HWQ := hide (wg_net qo)
              clear hM o1 pm qm po qo pe qe ps qs xs ys hpq hkp hkq
              obtain ⟨E0, E1⟩ := id E
              have El := World.block_lt_of_cell? _ _ E0
              obtain ⟨X0, X1⟩ := id X
              have Xl := World.block_lt_of_cell? _ _ X0
              obtain ⟨Y0, Y1⟩ := id Y
              have Yl := World.block_lt_of_cell? _ _ Y0
              obtain ⟨P0, P1⟩ := id P
              have Pl := World.block_lt_of_cell? _ _ P0
              go_wp2_with fail
              clear E0 E1 El
              clear X0 X1 Xl
              clear Y0 Y1 Yl
              clear P0 P1 Pl
              obtain ⟨vQ, hvQ⟩ : ∃ v, v = w6.alloc (.cells #[.int .i64 q.m, .slice aq q.n cq] 25) := ⟨_, rfl⟩
              have bvQ : Below w6.heap.size w6 vQ := by rw [hvQ]; exact (Below.refl _ _).alloc (Nat.le_refl _) _
              have Q : NBox vQ w6.heap.size q.m aq q.n cq := by rw [hvQ]; exact NBox.new _ _ _ _ _ _
              rw [← hvQ]
              clear hvQ
              replace Dn := Dn.later bvQ
              replace K := K.later bvQ
              replace KY := KY.later bvQ
              replace KP := KP.later bvQ
              replace KQ := KQ.later bvQ
              replace E := E.later bvQ
              replace X := X.later bvQ
              replace Y := Y.later bvQ
              replace P := P.later bvQ
              replace gl := Nat.lt_of_lt_of_le gl bvQ.size
              replace BL := BL.trans (bvQ.mono BL.size)
              clear bvQ
              obtain ⟨E0, E1⟩ := id E
              have El := World.block_lt_of_cell? _ _ E0
              obtain ⟨X0, X1⟩ := id X
              have Xl := World.block_lt_of_cell? _ _ X0
              obtain ⟨Y0, Y1⟩ := id Y
              have Yl := World.block_lt_of_cell? _ _ Y0
              obtain ⟨P0, P1⟩ := id P
              have Pl := World.block_lt_of_cell? _ _ P0
              obtain ⟨Q0, Q1⟩ := id Q
              have Ql := World.block_lt_of_cell? _ _ Q0
              go_wp2_with fail
              clear E0 E1 El
              clear X0 X1 Xl
              clear Y0 Y1 Yl
              clear P0 P1 Pl
              clear Q0 Q1 Ql
              refine (wpGate_two M m p.m (unhide HM) (unhide PM) _ n _ G _ p.n _ p.G a b p.k true _ _ Dn (unhide HWG) KP (unhide HWP) (unhide O1) (unhide PO) pn (unhide PE) (unhide PS) wa wb wp (by omega) (by omega)).mono ?_
              rintro e w7 ⟨rfl, b7⟩
              replace Dn := Dn.later b7
              replace K := K.later b7
              replace KY := KY.later b7
              replace KP := KP.later b7
              replace KQ := KQ.later b7
              replace E := E.later b7
              replace X := X.later b7
              replace Y := Y.later b7
              replace P := P.later b7
              replace Q := Q.later b7
              replace gl := Nat.lt_of_lt_of_le gl b7.size
              replace BL := BL.trans (b7.mono BL.size)
              clear b7
              obtain ⟨E0, E1⟩ := id E
              have El := World.block_lt_of_cell? _ _ E0
              obtain ⟨X0, X1⟩ := id X
              have Xl := World.block_lt_of_cell? _ _ X0
              obtain ⟨Y0, Y1⟩ := id Y
              have Yl := World.block_lt_of_cell? _ _ Y0
              obtain ⟨P0, P1⟩ := id P
              have Pl := World.block_lt_of_cell? _ _ P0
              obtain ⟨Q0, Q1⟩ := id Q
              have Ql := World.block_lt_of_cell? _ _ Q0
              go_wp2_with fail
              clear E0 E1 El
              clear X0 X1 Xl
              clear Y0 Y1 Yl
              clear P0 P1 Pl
              clear Q0 Q1 Ql
              refine (wpGate_two M m q.m (unhide HM) (unhide QM) _ n _ G _ q.n _ q.G a b q.k false _ _ Dn (unhide HWG) KQ (unhide HWQ) (unhide O1) (unhide QO) qn (unhide QE) (unhide QS) wa wb wq (by omega) (by omega)).mono ?_
              rintro e w8 ⟨rfl, b8⟩
              replace Dn := Dn.later b8
              replace K := K.later b8
              replace KY := KY.later b8
              replace KP := KP.later b8
              replace KQ := KQ.later b8
              replace E := E.later b8
              replace X := X.later b8
              replace Y := Y.later b8
              replace P := P.later b8
              replace Q := Q.later b8
              replace gl := Nat.lt_of_lt_of_le gl b8.size
              replace BL := BL.trans (b8.mono BL.size)
              clear b8
              obtain ⟨E0, E1⟩ := id E
              have El := World.block_lt_of_cell? _ _ E0
              obtain ⟨X0, X1⟩ := id X
              have Xl := World.block_lt_of_cell? _ _ X0
              obtain ⟨Y0, Y1⟩ := id Y
              have Yl := World.block_lt_of_cell? _ _ Y0
              obtain ⟨P0, P1⟩ := id P
              have Pl := World.block_lt_of_cell? _ _ P0
              obtain ⟨Q0, Q1⟩ := id Q
              have Ql := World.block_lt_of_cell? _ _ Q0
              go_wp2_with fail
              clear E0 E1 El
              clear X0 X1 Xl
              clear Y0 Y1 Yl
              clear P0 P1 Pl
              clear Q0 Q1 Ql
              refine (wpGate_two M m p.m (unhide HM) (unhide PM) _ n _ G _ p.n _ p.G a b x.k false _ _ Dn (unhide HWG) KP (unhide HWP) (unhide O1) (unhide PO) pn (unhide PE) (unhide XS) wa wb wx (by omega) (by omega)).mono ?_
              rintro e w9 ⟨rfl, b9⟩
              replace Dn := Dn.later b9
              replace K := K.later b9
              replace KY := KY.later b9
              replace KP := KP.later b9
              replace KQ := KQ.later b9
              replace E := E.later b9
              replace X := X.later b9
              replace Y := Y.later b9
              replace P := P.later b9
              replace Q := Q.later b9
              replace gl := Nat.lt_of_lt_of_le gl b9.size
              replace BL := BL.trans (b9.mono BL.size)
              clear b9
              obtain ⟨E0, E1⟩ := id E
              have El := World.block_lt_of_cell? _ _ E0
              obtain ⟨X0, X1⟩ := id X
              have Xl := World.block_lt_of_cell? _ _ X0
              obtain ⟨Y0, Y1⟩ := id Y
              have Yl := World.block_lt_of_cell? _ _ Y0
              obtain ⟨P0, P1⟩ := id P
              have Pl := World.block_lt_of_cell? _ _ P0
              obtain ⟨Q0, Q1⟩ := id Q
              have Ql := World.block_lt_of_cell? _ _ Q0
              go_wp2_with fail
              clear E0 E1 El
              clear X0 X1 Xl
              clear Y0 Y1 Yl
              clear P0 P1 Pl
              clear Q0 Q1 Ql
              refine (wpGate_two M m q.m (unhide HM) (unhide QM) _ n _ G _ q.n _ q.G a b y.k true _ _ Dn (unhide HWG) KQ (unhide HWQ) (unhide O1) (unhide QO) qn (unhide QE) (unhide YS) wa wb wy (by omega) (by omega)).mono ?_
              rintro e w10 ⟨rfl, b10⟩
              replace Dn := Dn.later b10
              replace K := K.later b10
              replace KY := KY.later b10
              replace KP := KP.later b10
              replace KQ := KQ.later b10
              replace E := E.later b10
              replace X := X.later b10
              replace Y := Y.later b10
              replace P := P.later b10
              replace Q := Q.later b10
              replace gl := Nat.lt_of_lt_of_le gl b10.size
              replace BL := BL.trans (b10.mono BL.size)
              clear b10
              go_wp2
              go_ret
              exact ⟨rfl, BL⟩
    · go_enter Try.func4, Try.ntmps4
      go_wp2
      go_ret
      exact ⟨rfl, Below.refl _ _⟩
  · go_enter Try.func4, Try.ntmps4
    go_wp2
    go_ret
    exact ⟨rfl, Below.refl _ _⟩

set_option maxRecDepth 100000 in
theorem lifted (os : Os) (started : os.Started) (H : Type) (enc : TypeId × Value → H) :
    ReturnsInHanded {} Try.checked os 4 .any (Rows.fnNetMoreSpec.pre6 enc Try.prog Try.f4 Rows.fnNetMoreRow.domain false) (Rows.fnNetMoreSpec.post enc Try.prog Try.f4 false true false false) := by
  refine returnsInHanded_of_change (C := Try.checked) own started (by kernel_rfl) Try.func4
    (ChangeSpec.witness6 (enc := enc) (C := Try.checked) false ⟨#[], #[.slice none 0 0, .slice none 0 0], []⟩ 8 (by kernel_rfl) (by kernel_rfl) (by kernel_rfl) (by kernel_rfl)) ?_
  intro W base args ds gs before hval0 hW hcnd _
  have hval : ∀ (j : Nat) t v, Try.f4.params[j]? = some t → args[j]? = some v → Value.okWide Try.prog W .any base t v := hval0
  have hW' := hW
  obtain ⟨p, q, hA0, hV, rfl, hfz, hnd⟩ := hW
  have hA : DataW.TrodAll enc Try.prog W 0 (fun _ => true) true Try.f4.params.toList args.toList ds p := hA0
  rw [Try.params4] at hA hval
  obtain ⟨v0, vs0, d0, ds0, p0, q0, hargs, rfl, rfl, h0, r0⟩ := trodAll_cons hA
  obtain ⟨v1, vs1, d1, ds1, p1, q1, rfl, rfl, rfl, h1, r1⟩ := trodAll_cons r0
  obtain ⟨rfl, rfl, rfl⟩ := trodAll_nil r1
  obtain rfl : args = #[v0, v1] := by cases args; simp_all
  obtain ⟨rfl, rfl⟩ := trodVars_none hV
  obtain ⟨code, lencode, capcode, rfl⟩ := okWide_slice Try.underlying22 (hval 0 22 v0 rfl rfl)
  have k0 := h0
  have lt0 : ∀ x ∈ p0, x.block < W.heap.size := by obtain ⟨m, hm⟩ := k0; exact DataW.trod_lt m _ _ _ hm
  obtain ⟨zcode, wcode⟩ : ∃ zs, IsRow .u8 W code lencode capcode zs := by
    obtain ⟨fuel, hf⟩ := h0
    rcases open_ints Try.underlying22 Try.underlying5 (by kernel_rfl) hf with ⟨hcs, _⟩ | ⟨x, l, c, zs, hcs, _, hl, hm, hz, _, hcell, hwz⟩
    · simp [Value.cells] at hcs
      obtain ⟨rfl, rfl, rfl⟩ := hcs
      exact ⟨[], .inl ⟨rfl, rfl, rfl, rfl⟩⟩
    · simp [Value.cells] at hcs
      obtain ⟨rfl, rfl, rfl⟩ := hcs
      exact ⟨zs, .inr ⟨_, rfl, hl, hm, by simpa using hz, hcell, hwz⟩⟩
  obtain ⟨more, lenmore, capmore, rfl⟩ := okWide_slice Try.underlying22 (hval 1 22 v1 rfl rfl)
  have k1 := h1
  have lt1 : ∀ x ∈ p1, x.block < W.heap.size := by obtain ⟨m, hm⟩ := k1; exact DataW.trod_lt m _ _ _ hm
  obtain ⟨zmore, wmore⟩ : ∃ zs, IsRow .u8 W more lenmore capmore zs := by
    obtain ⟨fuel, hf⟩ := h1
    rcases open_ints Try.underlying22 Try.underlying5 (by kernel_rfl) hf with ⟨hcs, _⟩ | ⟨x, l, c, zs, hcs, _, hl, hm, hz, _, hcell, hwz⟩
    · simp [Value.cells] at hcs
      obtain ⟨rfl, rfl, rfl⟩ := hcs
      exact ⟨[], .inl ⟨rfl, rfl, rfl, rfl⟩⟩
    · simp [Value.cells] at hcs
      obtain ⟨rfl, rfl, rfl⟩ := hcs
      exact ⟨zs, .inr ⟨_, rfl, hl, hm, by simpa using hz, hcell, hwz⟩⟩
  clear hA0 hval0
  refine (walk code lencode capcode zcode more lenmore capmore zmore W wcode wmore).mono fun e W' ⟨he, bel⟩ => ?_
  subst he
  exact ⟨_, rfl, _, _, _, [], _, [], hW', trodAll_mk1 (shut_bool Try.underlying4 _), (trodAll_cons_mk (Below.trod laidOut (by kernel_rfl) (of_decide_eq_true (by kernel_rfl)) k0 bel lt0) (trodAll_cons_mk (Below.trod laidOut (by kernel_rfl) (of_decide_eq_true (by kernel_rfl)) k1 bel lt1) trodAll_mk0)), rfl, bel.frame _, fun h => by cases h⟩

theorem over : Rows.fnNetMoreRow.holds Try.pinned (OpenSpec.ofChange Rows.fnNetMoreSpec) :=
  OpenClaim.holds_of_wide 4 Try.f4 rfl rfl rfl rfl rfl rfl rfl ⟨rfl, rfl, rfl, rfl, rfl⟩ rfl rfl rfl rfl rfl (by kernel_rfl) Try.func4 (by kernel_rfl)
    (of_decide_eq_true (by kernel_rfl)) (by unfold Func.isWrapper; first | (rw [if_pos (by decide +kernel)]; kernel_rfl) | (rw [if_neg (by decide +kernel)]; exact ⟨rfl, rfl⟩))
    (fun os started H enc _ => lifted os started H enc)
end nMore

theorem nMore_holds : Rows.FnNetMoreSaid := nMore.over
#print axioms nMore_holds
end Go.Proofs.Ytbfijmijhfbkdaa
