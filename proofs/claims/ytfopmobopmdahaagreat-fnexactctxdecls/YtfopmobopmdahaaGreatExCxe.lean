/- At every argument the program's CtxDecls answers as the model's, writes into no argument, keeps nothing of one, and its answer owns its memory: CxD FrmG ExCxd written as one. -/
import Derived.Test.YtfopmobopmdahaaGreatSkQ
import Derived.Test.YtfopmobopmdahaaGreatFrQ
import Derived.Test.YtfopmobopmdahaaGreatLyQ
namespace Go.Proofs.YtfopmobopmdahaaGreat
open Go.ChangeShapes Go.WideShapes Go.ChangeAt Go.RowKit Go.Joins
open Go.ChangeMaps (open_string shut_string)
set_option linter.unusedVariables false
set_option linter.unusedSimpArgs false
/-- All names, of layers that are right; else none. -/
noncomputable def ctxD (n : Nat) (Q : Nat → Lyr) : List (ByteArray × Int) := if ctxB n Q = true then alN Q n else []
theorem ctxD_yes {n : Nat} {Q : Nat → Lyr} (h : ctxB n Q = true) : ctxD n Q = alN Q n := if_pos h
theorem ctxD_no {n : Nat} {Q : Nat → Lyr} (h : ctxB n Q = false) : ctxD n Q = [] := if_neg (by simp [h])
set_option maxRecDepth 100000 in
set_option maxHeartbeats 2000000 in
theorem sCtxDecls_any (hi : Nat) (a : Option Addr) (n cap : Nat) (Q : Nat → Lyr) (w : World) (hd : LaysIn w 0 hi a n Q) (hf : ∀ i, i < n → (Q i).Low) (hs : sumN (fun i => (Q i).c) n ≤ 1048576) (hn : n ≤ 1048576) (hnc : n ≤ cap) (hcm : cap ≤ maxLen) (hhi : hi ≤ w.heap.size) :
    Calls Tryz.prog 14 #[.slice a n cap] w fun e w' => (∃ v cp, e = .returned (.slice v (ctxD n Q).length cp) ∧ DecsAt w' v (ctxD n Q).length (sL (ctxD n Q)) (vL (ctxD n Q))) ∧ Below w.heap.size w w' := by
  have hbd := alN_bd Q n
  have HD := hide hd
  have HC := hide (sCtxOk_any hi a n cap Q w hd hf hs hn hnc hcm hhi)
  clear hd hf
  cases hv : ctxB n Q
  · rw [ctxD_no hv]
    rw [hv] at HC
    go_enter Tryz.func14, Tryz.ntmps14
    go_wp2_with fail
    refine (unhide HC).mono ?_
    rintro e w1 ⟨rfl, b1⟩
    go_wp2
    go_ret
    exact ⟨⟨_, _, rfl, Or.inl rfl⟩, (by repeat (first | exact Below.refl _ _ | assumption | refine below_drewN ?_ _ | refine Below.drew ?_ | refine Below.alloc ?_ (by first | exact Nat.le_refl _ | exact Below.size (by assumption) | (simp; done) | (simp; omega)) _ | refine Below.setCell ?_ (by first | exact Nat.le_refl _ | exact Below.size (by assumption) | (simp; done) | (simp; omega)) _ | refine Below.trans ?_ (by assumption)))⟩
  · rw [ctxD_yes hv]
    rw [hv] at HC
    clear hv
    go_enter Tryz.func14, Tryz.ntmps14
    go_wp2_with fail
    refine (unhide HC).mono ?_
    rintro e w1 ⟨rfl, b1⟩
    go_wp2_with fail
    refine (l10Decls_any hi a n cap Q w1 ((unhide HD).later (b1.mono hhi)) (by omega) hn (Nat.le_trans hhi b1.size)).mono ?_
    rintro e w2 ⟨⟨g, cp, rfl, own⟩, b2⟩
    have DN := hide (own_decl own rfl)
    have gl := (own_cap own).2
    clear own
    go_wp2
    go_ret
    exact ⟨⟨_, _, rfl, Or.inr ⟨g, 0, rfl, gl, unhide DN⟩⟩, b1.trans (b2.mono b1.size)⟩
set_option maxRecDepth 100000 in
set_option maxHeartbeats 2000000 in
theorem iCtxDecls_any (hi : Nat) (a : Option Addr) (n cap : Nat) (Q : Nat → Lyr) (w : World) (hd : LaysIn w 0 hi a n Q) (hf : ∀ i, i < n → (Q i).Low) (hs : sumN (fun i => (Q i).c) n ≤ 1048576) (hn : n ≤ 1048576) (hhi : hi ≤ w.heap.size) :
    Calls Tryz.prog 15 #[.slice a n cap] w fun e w' => (∃ v cp, e = .returned (.slice v (ctxD n Q).length cp) ∧ ((ctxD n Q).length = 0 ∨ ∃ B, v = some ⟨B, 0, none⟩ ∧ w.heap.size ≤ B ∧ Made w' B ((ctxD n Q).length * 2) ∧ Decs w' B 0 (ctxD n Q).length (sL (ctxD n Q)) (vL (ctxD n Q)))) ∧ Below w.heap.size w w' := by
  have hbd := alN_bd Q n
  have HSm : Hid (SmL 1048576 (alN Q n)) := SmL.alN n (fun k hk i hi => (hf k (by omega)).1.2.1 i hi)
  have HC := hide (stackOf_any hi a n cap Q w hd hf hs hn hhi)
  clear hd hf
  cases hv : ctxB n Q
  · rw [ctxD_no hv]
    rw [hv] at HC
    go_enter Tryz.func15, Tryz.ntmps15
    go_wp2_with fail
    refine (unhide HC).mono ?_
    rintro e w1 ⟨⟨v, rfl, hk⟩, b1⟩
    clear hk
    go_wp2
    go_ret
    exact ⟨⟨_, _, rfl, by first | exact Or.inl rfl | exact Or.inl trivial⟩, b1⟩
  · rw [ctxD_yes hv]
    rw [hv] at HC
    go_enter Tryz.func15, Tryz.ntmps15
    go_wp2_with fail
    refine (unhide HC).mono ?_
    rintro e w1 ⟨⟨v, rfl, hk⟩, b1⟩
    obtain ⟨K, T, M, rfl, hst, _, _⟩ := hk (ctxB_iff.1 hv)
    obtain ⟨da, dc, bd, hdv, d1, d2, d3, d4⟩ := hst.names
    have c0 := hst.c0
    rw [hdv] at c0
    have hlen : (alN Q n).length ≤ 1048576 := by omega
    have HDA : Hid (DecsAt w1 da (alN Q n).length (sL (alN Q n)) (vL (alN Q n))) := by
      by_cases h0 : 0 < (alN Q n).length
      · exact Or.inr ⟨bd, 0, d2 h0, d3, d4⟩
      · exact Or.inl (by omega)
    clear hk hst hdv d1 d2 d3 d4 hv HC
    go_wp2_with fail
    refine (declsCopy_any da (alN Q n).length dc (sL (alN Q n)) (vL (alN Q n)) w1 (unhide HDA) hlen (fun i hi' => Nat.le_trans ((unhide HSm) i hi') (by omega))).mono ?_
    rintro e w2 ⟨rfl, D2, M2, b2⟩
    have HD2 := hide D2
    have HM2 := hide M2
    have hb1 := b1.size
    clear D2 M2
    go_wp2
    go_ret
    exact ⟨⟨_, _, rfl, Or.inr ⟨_, rfl, hb1, unhide HM2, unhide HD2⟩⟩, b1.trans (b2.mono b1.size)⟩
theorem DecsAt.decsIn {w : World} {a : Option Addr} {n : Nat} {S : Nat → ByteArray} {V : Nat → Int} (h : DecsAt w a n S V) : DecsIn w 0 w.heap.size a n S V := by
  rcases h with h | ⟨b, off, h1, h2, h3⟩
  · exact Or.inl h
  · exact Or.inr ⟨b, off, h1, Nat.zero_le _, h2, h3⟩
theorem DecsIn.low {w w' : World} {lo hi : Nat} {a : Option Addr} {n : Nat} {S : Nat → ByteArray} {V : Nat → Int} (h : DecsIn w lo hi a n S V) (hb : Below hi w w') : DecsIn w' lo hi a n S V := h.keep (fun b o _ h3 => hb.cell (p := ⟨b, o, none⟩) h3)
/-- Names in a block of one's own, from a place on. -/
def OwnD (w : World) (base : Nat) (v : Option Addr) (n : Nat) (S : Nat → ByteArray) (V : Nat → Int) : Prop := n = 0 ∨ ∃ B, v = some ⟨B, 0, none⟩ ∧ base ≤ B ∧ Made w B (n * 2) ∧ Decs w B 0 n S V
theorem OwnD.decsIn {w : World} {base : Nat} {v : Option Addr} {n : Nat} {S : Nat → ByteArray} {V : Nat → Int} (h : OwnD w base v n S V) : DecsIn w 0 w.heap.size v n S V := by
  rcases h with h | ⟨B, h1, h2, h3, h4⟩
  · exact Or.inl h
  · exact Or.inr ⟨B, 0, h1, Nat.zero_le _, h3.1, h4⟩
theorem OwnD.later {w w' : World} {base : Nat} {v : Option Addr} {n : Nat} {S : Nat → ByteArray} {V : Nat → Int} (h : OwnD w base v n S V) (hb : Below w.heap.size w w') : OwnD w' base v n S V := by
  rcases h with h | ⟨B, h1, h2, h3, h4⟩
  · exact Or.inl h
  · exact Or.inr ⟨B, h1, h2, h3.later hb, h4.later hb⟩
theorem OwnD.rng {w w' : World} {base lo hi : Nat} {v : Option Addr} {n : Nat} {S : Nat → ByteArray} {V : Nat → Int} (h : OwnD w base v n S V) (hr : Rng lo hi w w') (hh : hi ≤ base) : OwnD w' base v n S V := by
  rcases h with h | ⟨B, h1, h2, h3, h4⟩
  · exact Or.inl h
  · exact Or.inr ⟨B, h1, h2, h3.rng hr (Or.inr (by omega)), fun i hi' => ⟨hr.cell (h4 i hi').1 (Or.inr (by simp only; omega)), hr.cell (h4 i hi').2 (Or.inr (by simp only; omega))⟩⟩
theorem markDeclS_own (base : Nat) (v : Option Addr) (n cap : Nat) (S : Nat → ByteArray) (V : Nat → Int) (w : World) (h : OwnD w base v n S V) (hn : n ≤ 1048576) (hb : base ≤ w.heap.size) :
    Calls Tryz.prog 18 #[.slice v n cap, .int .i64 1] w fun e w' => e = .returned (.int .i64 ((1 + 2 * n : Nat) : Int)) ∧ OwnD w' base v n (MkD 1) (MkV 1) ∧ Below base w w' := by
  rcases h with rfl | ⟨B, rfl, h2, h3, h4⟩
  · exact (markDeclS_rng base base 1 v 0 cap w (by omega) (by omega) hn (Or.inl rfl)).mono fun e w' h => ⟨h.1, Or.inl rfl, h.2.below (Nat.le_refl _) hb⟩
  · exact (markDeclS_is 1 B n cap w (by omega) (by omega) h3 hn).mono fun e w' h => ⟨h.1, Or.inr ⟨B, rfl, h2, h.2.2.1, h.2.1⟩, h.2.2.2.below h2 hb⟩
set_option maxRecDepth 100000 in
set_option maxHeartbeats 1000000 in
theorem heldDeclS_own (base : Nat) (v : Option Addr) (n cap : Nat) (w : World) (h : OwnD w base v n (MkD 1) (MkV 1)) (hn : n ≤ 1048576) :
    Calls Tryz.prog 19 #[.slice v n cap, .int .i64 1] w fun e w' => e = .returned (.int .i64 ((1 + 2 * n : Nat) : Int)) ∧ Below w.heap.size w w' := by
  rcases h with rfl | ⟨B, rfl, h2, h3, h4⟩
  · go_enter Tryz.func19, Tryz.ntmps19
    go_wp2
    go_loopw [5, 1] (fun i s wr => i = .int .i64 0 ∧ s = .int .i64 1 ∧ Below w.heap.size w wr) (fun _ _ _ => 0)
    case atStart => exact ⟨rfl, rfl, Below.refl _ _⟩
    case round =>
      obtain ⟨rfl, rfl, hr⟩ := hrel
      go_wp2
      go_ret
      exact ⟨by simp, hr⟩
  · exact heldDeclS_is 1 B n cap w (by omega) (by omega) h4 h3.1 hn
namespace exCxd
set_option maxRecDepth 100000 in
set_option maxHeartbeats 4000000 in
theorem walk (x : Option Addr) (lenx capx : Nat) (Qx : Nat → Lyr) (w : World) (hdx : LaysIn w 0 w.heap.size x lenx Qx) (lcx : lenx ≤ capx) (lnx : lenx ≤ maxLen) (hfx : ∀ i, i < lenx → (Qx i).Fit maxLen) :
    Calls Tryz.prog 4 #[.slice x lenx capx] w fun e w' => e = .returned (.bool true) ∧ Below w.heap.size w w' := by
  have I := hide hdx
  have HFX := hide hfx
  have BL : Below w.heap.size w w := Below.refl _ _
  have kz : w.heap.size ≤ w.heap.size := Nat.le_refl _
  clear hdx hfx
  go_enter Tryz.func4, Tryz.ntmps4
  go_wp2_with fail
  refine (szLayerSD_any w.heap.size x lenx capx Qx 1048576 w (unhide I) (unhide HFX) (by omega) (by omega) lnx kz).mono ?_
  rintro e w1 ⟨⟨z1, rfl, hz1⟩, b1⟩
  replace I := hide ((unhide I).later (b1.mono kz))
  replace BL := BL.trans (b1.mono kz); replace kz := BL.size
  clear b1
  by_cases g1 : 0 ≤ z1
  · obtain ⟨_, hz2, hz4⟩ := hz1.resolve_left (by omega)
    have LX := hide hz4
    have FX : Hid (∀ i, i < lenx → (Qx i).Fit 1048576) := fun i hi => (unhide LX i hi).1
    have FN : Hid (∀ i, i < lenx → (Qx i).nd ≤ 1048576) := fun i hi => (unhide LX i hi).1.1
    have nx : lenx ≤ 1048576 := by omega
    have hsc := sum_c Qx lenx
    have hsw := sum_W Qx lenx
    have sx : sumN (fun i => (Qx i).c) lenx ≤ 1048576 := by omega
    have sw : 1 + sumN (fun i => (Qx i).W) lenx ≤ 99999996 := by omega
    have nm : lenx ≤ maxLen := by unfold maxLen; omega
    have hbd := alN_bd Qx lenx
    have nL : (ctxD lenx Qx).length ≤ 1048576 := by
      cases hv : ctxB lenx Qx
      · rw [ctxD_no hv]; simp
      · rw [ctxD_yes hv]; omega
    obtain ⟨N, hN⟩ : ∃ y, y = (ctxD lenx Qx).length := ⟨_, rfl⟩
    have HN := hide hN
    rw [← hN] at nL
    have kn : ((1 + 2 * N : Nat) : Int) < 0 ↔ False := by simp; omega
    clear hz1 hz4 hz2 hsc hsw hbd hN
    go_wp2_with fail
    refine (toLayerS_any w.heap.size x lenx capx Qx w1 (unhide I) (unhide FX) nx kz).mono ?_
    rintro e w2 ⟨rfl, X0, pl2, b2⟩
    replace I := hide ((unhide I).later (b2.mono kz))
    replace BL := BL.trans (b2.mono kz); replace kz := BL.size
    clear b2
    have X := hide X0
    have Xh : w2.heap.size ≤ w2.heap.size := Nat.le_refl _
    clear X0 pl2
    go_wp2_with fail
    refine (sCtxDecls_any w2.heap.size _ lenx lenx Qx w2 ((unhide X).wide (Nat.zero_le _) Xh) (unhide LX) sx nx (Nat.le_refl _) nm (Nat.le_refl _)).mono ?_
    rintro e w3 ⟨⟨v0, cp0, rfl, W0⟩, b3⟩
    replace I := hide ((unhide I).later (b3.mono kz))
    replace BL := BL.trans (b3.mono kz); replace kz := BL.size
    clear b3
    rw [← unhide HN] at W0
    rw [← unhide HN]
    have K3 := kz
    have W := hide W0.decsIn
    have Wh : w3.heap.size ≤ w3.heap.size := Nat.le_refl _
    clear X Xh W0
    go_wp2_with fail
    refine (toLayerSF_any w.heap.size x lenx capx Qx w3 (unhide I) (unhide FX) nx kz).mono ?_
    rintro e w4 ⟨rfl, X0, F0, pl4, b4⟩
    have s34 := b4.size
    replace I := hide ((unhide I).later (b4.mono kz))
    replace W := hide ((unhide W).low (b4.mono Wh)); replace Wh := Nat.le_trans Wh b4.size
    replace BL := BL.trans (b4.mono kz); replace kz := BL.size
    clear b4
    have X := hide X0
    have Xh : w4.heap.size ≤ w4.heap.size := Nat.le_refl _
    have L := hide (LaysFr.of F0)
    have Lh : w4.heap.size ≤ w4.heap.size := Nat.le_refl _
    clear X0 F0 pl4
    go_wp2_with fail
    refine (iCtxDecls_any w4.heap.size _ lenx lenx Qx w4 ((unhide X).wide (Nat.zero_le _) Xh) (unhide LX) sx nx (Nat.le_refl _)).mono ?_
    rintro e w5 ⟨⟨v1, cp1, rfl, G0⟩, b5⟩
    have Gh := b5.size
    replace I := hide ((unhide I).later (b5.mono kz))
    replace W := hide ((unhide W).low (b5.mono Wh)); replace Wh := Nat.le_trans Wh b5.size
    replace X := hide ((unhide X).later (b5.mono Xh)); replace Xh := Nat.le_trans Xh b5.size
    replace L := hide ((unhide L).later (b5.mono Lh)); replace Lh := Nat.le_trans Lh b5.size
    replace BL := BL.trans (b5.mono kz); replace kz := BL.size
    clear b5
    rw [← unhide HN] at G0
    rw [← unhide HN]
    have G : Hid (OwnD w5 w4.heap.size v1 N (sL (ctxD lenx Qx)) (vL (ctxD lenx Qx))) := G0
    clear G0
    go_wp2_with fail
    refine (eqDeclS_at w5.heap.size _ _ N _ _ (sL (ctxD lenx Qx)) (vL (ctxD lenx Qx)) w5 (unhide G).decsIn ((unhide W).wide (Nat.le_refl _) Wh) nL (Nat.le_refl _)).mono ?_
    rintro e w6 ⟨rfl, b6⟩
    replace I := hide ((unhide I).later (b6.mono kz))
    replace W := hide ((unhide W).low (b6.mono Wh)); replace Wh := Nat.le_trans Wh b6.size
    replace X := hide ((unhide X).later (b6.mono Xh)); replace Xh := Nat.le_trans Xh b6.size
    replace L := hide ((unhide L).later (b6.mono Lh)); replace Lh := Nat.le_trans Lh b6.size
    replace G := hide ((unhide G).later b6); replace Gh := Nat.le_trans Gh b6.size
    replace BL := BL.trans (b6.mono kz); replace kz := BL.size
    clear b6
    go_wp2_with fail
    refine (toLayerS_any w.heap.size x lenx capx Qx w6 (unhide I) (unhide FX) nx kz).mono ?_
    rintro e w7 ⟨rfl, Z0, pl7, b7⟩
    replace I := hide ((unhide I).later (b7.mono kz))
    replace W := hide ((unhide W).low (b7.mono Wh)); replace Wh := Nat.le_trans Wh b7.size
    replace X := hide ((unhide X).later (b7.mono Xh)); replace Xh := Nat.le_trans Xh b7.size
    replace L := hide ((unhide L).later (b7.mono Lh)); replace Lh := Nat.le_trans Lh b7.size
    replace G := hide ((unhide G).later b7); replace Gh := Nat.le_trans Gh b7.size
    replace BL := BL.trans (b7.mono kz); replace kz := BL.size
    clear b7
    have Z := hide Z0
    have Zh : w7.heap.size ≤ w7.heap.size := Nat.le_refl _
    clear Z0 pl7
    go_wp2_with fail
    refine (eqLayerS_same w7.heap.size _ _ lenx lenx lenx Qx w7 ((unhide X).wide (Nat.zero_le _) Xh) ((unhide Z).wide (Nat.zero_le _) Zh) (unhide FX) nx (Nat.le_refl _)).mono ?_
    rintro e w8 ⟨rfl, b8⟩
    replace I := hide ((unhide I).later (b8.mono kz))
    replace W := hide ((unhide W).low (b8.mono Wh)); replace Wh := Nat.le_trans Wh b8.size
    replace X := hide ((unhide X).later (b8.mono Xh)); replace Xh := Nat.le_trans Xh b8.size
    replace L := hide ((unhide L).later (b8.mono Lh)); replace Lh := Nat.le_trans Lh b8.size
    replace G := hide ((unhide G).later b8); replace Gh := Nat.le_trans Gh b8.size
    replace Z := hide ((unhide Z).later (b8.mono Zh)); replace Zh := Nat.le_trans Zh b8.size
    replace BL := BL.trans (b8.mono kz); replace kz := BL.size
    clear b8
    clear X Xh Z Zh
    go_wp2_with fail
    refine (markLayerS_any Qx w3.heap.size lenx w4.heap.size lenx 1 w8 (unhide L) Lh nx (unhide FN) (by omega) sw).mono ?_
    rintro e w9 ⟨rfl, r9⟩
    have b9 : Below w3.heap.size w8 w9 := r9.below (Nat.le_succ _) (Nat.le_trans s34 Lh)
    have k3 : w.heap.size ≤ w3.heap.size := by first | exact Nat.le_trans (Nat.le_of_eq rfl) K3 | omega
    replace G := hide ((unhide G).rng r9 (Nat.le_refl _)); replace Gh := Nat.le_trans Gh r9.size
    replace W := hide ((unhide W).low b9); replace Wh := Nat.le_trans Wh r9.size
    replace I := hide ((unhide I).later (b9.mono k3))
    replace BL := BL.trans (b9.mono k3); replace kz := BL.size
    clear r9 b9 L Lh
    obtain ⟨mm, hmm⟩ : ∃ y, y = 1 + sumN (fun i => (Qx i).W) lenx := ⟨_, rfl⟩
    rw [← hmm]
    have kd : decide ((mm : Int) < 0) = false := by simp
    obtain ⟨qq, hqq⟩ : ∃ y, y = 1 + 2 * N := ⟨_, rfl⟩
    have HQ := hide hqq
    have kq : decide ((qq : Int) < 0) = false := by simp
    have ke : ((qq : Int) != (qq : Int)) = false := by simp
    clear hqq hmm sw
    go_wp2_with fail
    refine (eqDeclS_at w9.heap.size _ _ N _ _ (sL (ctxD lenx Qx)) (vL (ctxD lenx Qx)) w9 (unhide G).decsIn ((unhide W).wide (Nat.le_refl _) Wh) nL (Nat.le_refl _)).mono ?_
    rintro e w10 ⟨rfl, b10⟩
    replace I := hide ((unhide I).later (b10.mono kz))
    replace W := hide ((unhide W).low (b10.mono Wh)); replace Wh := Nat.le_trans Wh b10.size
    replace G := hide ((unhide G).later b10); replace Gh := Nat.le_trans Gh b10.size
    replace BL := BL.trans (b10.mono kz); replace kz := BL.size
    clear b10
    go_wp2_with fail
    refine (markDeclS_own w4.heap.size v1 N _ _ _ w10 (unhide G) nL Gh).mono ?_
    rintro e w11 ⟨rfl, G0, b11⟩
    rw [← unhide HQ]
    replace G := hide G0; replace Gh := Nat.le_trans Gh b11.size
    replace W := hide ((unhide W).low (b11.mono s34)); replace Wh := Nat.le_trans Wh b11.size
    replace I := hide ((unhide I).later (b11.mono (Nat.le_trans k3 s34)))
    replace BL := BL.trans (b11.mono (Nat.le_trans k3 s34)); replace kz := BL.size
    clear G0 b11
    go_wp2_with fail
    refine (heldDeclS_own w4.heap.size v1 N _ w11 (unhide G) nL).mono ?_
    rintro e w12 ⟨rfl, b12⟩
    replace I := hide ((unhide I).later (b12.mono kz))
    replace W := hide ((unhide W).low (b12.mono Wh)); replace Wh := Nat.le_trans Wh b12.size
    replace G := hide ((unhide G).later b12); replace Gh := Nat.le_trans Gh b12.size
    replace BL := BL.trans (b12.mono kz); replace kz := BL.size
    clear b12
    rw [← unhide HQ]
    go_wp2_with fail
    refine (toLayerS_any w.heap.size x lenx capx Qx w12 (unhide I) (unhide FX) nx kz).mono ?_
    rintro e w13 ⟨rfl, X0, pl13, b13⟩
    replace I := hide ((unhide I).later (b13.mono kz))
    replace W := hide ((unhide W).low (b13.mono Wh)); replace Wh := Nat.le_trans Wh b13.size
    replace G := hide ((unhide G).later b13); replace Gh := Nat.le_trans Gh b13.size
    replace BL := BL.trans (b13.mono kz); replace kz := BL.size
    clear b13
    have X := hide X0
    have Xh : w13.heap.size ≤ w13.heap.size := Nat.le_refl _
    clear X0 pl13
    go_wp2_with fail
    refine (iCtxDecls_any w13.heap.size _ lenx lenx Qx w13 ((unhide X).wide (Nat.zero_le _) Xh) (unhide LX) sx nx (Nat.le_refl _)).mono ?_
    rintro e w14 ⟨⟨v2, cp2, rfl, H0⟩, b14⟩
    have Jh := b14.size
    replace I := hide ((unhide I).later (b14.mono kz))
    replace W := hide ((unhide W).low (b14.mono Wh)); replace Wh := Nat.le_trans Wh b14.size
    replace G := hide ((unhide G).later b14); replace Gh := Nat.le_trans Gh b14.size
    replace X := hide ((unhide X).later (b14.mono Xh)); replace Xh := Nat.le_trans Xh b14.size
    replace BL := BL.trans (b14.mono kz); replace kz := BL.size
    clear b14
    rw [← unhide HN] at H0
    rw [← unhide HN]
    have J : Hid (OwnD w14 w13.heap.size v2 N (sL (ctxD lenx Qx)) (vL (ctxD lenx Qx))) := H0
    clear H0 X Xh
    go_wp2_with fail
    refine (eqDeclS_at w14.heap.size _ _ N _ _ (sL (ctxD lenx Qx)) (vL (ctxD lenx Qx)) w14 (unhide J).decsIn ((unhide W).wide (Nat.le_refl _) Wh) nL (Nat.le_refl _)).mono ?_
    rintro e w15 ⟨rfl, b15⟩
    replace I := hide ((unhide I).later (b15.mono kz))
    replace W := hide ((unhide W).low (b15.mono Wh)); replace Wh := Nat.le_trans Wh b15.size
    replace G := hide ((unhide G).later b15); replace Gh := Nat.le_trans Gh b15.size
    replace J := hide ((unhide J).later b15); replace Jh := Nat.le_trans Jh b15.size
    replace BL := BL.trans (b15.mono kz); replace kz := BL.size
    clear b15
    clear J Jh
    go_wp2_with fail
    refine (heldDeclS_own w4.heap.size v1 N _ w15 (unhide G) nL).mono ?_
    rintro e w16 ⟨rfl, b16⟩
    replace I := hide ((unhide I).later (b16.mono kz))
    replace W := hide ((unhide W).low (b16.mono Wh)); replace Wh := Nat.le_trans Wh b16.size
    replace G := hide ((unhide G).later b16); replace Gh := Nat.le_trans Gh b16.size
    replace BL := BL.trans (b16.mono kz); replace kz := BL.size
    clear b16
    rw [← unhide HQ]
    go_wp2
    go_ret
    exact ⟨rfl, BL⟩
  · go_wp2
    go_ret
    exact ⟨rfl, BL⟩

set_option maxRecDepth 100000 in
theorem lifted (os : Os) (started : os.Started) (H : Type) (enc : TypeId × Value → H) :
    ReturnsInHanded {} Tryz.checked os 4 .any (Rows.fnExactCtxDeclsSpec.pre6 enc Tryz.prog Tryz.f4 Rows.fnExactCtxDeclsRow.domain false) (Rows.fnExactCtxDeclsSpec.post enc Tryz.prog Tryz.f4 false true false false) := by
  refine returnsInHanded_of_change (C := Tryz.checked) own started (by kernel_rfl) Tryz.func4
    (ChangeSpec.witness6 (enc := enc) (C := Tryz.checked) false ⟨#[], #[.slice none 0 0], []⟩ 8 (by kernel_rfl) (by kernel_rfl) (by kernel_rfl) (by kernel_rfl)) ?_
  intro W base args ds gs before hval0 hW hcnd _
  have hval : ∀ (j : Nat) t v, Tryz.f4.params[j]? = some t → args[j]? = some v → Value.okWide Tryz.prog W .any base t v := hval0
  have hW' := hW
  obtain ⟨p, q, hA0, hV, rfl, hfz, hnd⟩ := hW
  have hA : DataW.TrodAll enc Tryz.prog W 0 (fun _ => true) true Tryz.f4.params.toList args.toList ds p := hA0
  rw [Tryz.params4] at hA hval
  obtain ⟨v0, vs0, d0, ds0, p0, q0, hargs, rfl, rfl, h0, r0⟩ := trodAll_cons hA
  obtain ⟨rfl, rfl, rfl⟩ := trodAll_nil r0
  obtain rfl : args = #[v0] := by cases args; simp_all
  obtain ⟨rfl, rfl⟩ := trodVars_none hV
  obtain ⟨x, lenx, capx, rfl⟩ := okWide_slice Tryz.underlying22 (hval 0 22 v0 rfl rfl)
  have k0 := h0
  have lt0 : ∀ x ∈ p0, x.block < W.heap.size := by obtain ⟨m, hm⟩ := k0; exact DataW.trod_lt m _ _ _ hm
  obtain ⟨lcx, lnx, Qx, hdx, hfx⟩ := layers_in h0
  clear hA0 hval0
  refine (walk x lenx capx Qx W hdx lcx lnx hfx).mono fun e W' ⟨he, bel⟩ => ?_
  subst he
  exact ⟨_, rfl, _, _, _, [], _, [], hW', trodAll_mk1 (shut_bool Tryz.underlying4 _), (trodAll_cons_mk (Below.trod laidOut (by kernel_rfl) (of_decide_eq_true (by kernel_rfl)) k0 bel lt0) trodAll_mk0), rfl, bel.frame _, fun h => by cases h⟩

theorem over : Rows.fnExactCtxDeclsRow.holds Tryz.pinned (OpenSpec.ofChange Rows.fnExactCtxDeclsSpec) :=
  OpenClaim.holds_of_wide 4 Tryz.f4 rfl rfl rfl rfl rfl rfl rfl ⟨rfl, rfl, rfl, rfl, rfl⟩ rfl rfl rfl rfl rfl (by kernel_rfl) Tryz.func4 (by kernel_rfl)
    (of_decide_eq_true (by kernel_rfl)) (by unfold Func.isWrapper; first | (rw [if_pos (by decide +kernel)]; kernel_rfl) | (rw [if_neg (by decide +kernel)]; exact ⟨rfl, rfl⟩))
    (fun os started H enc _ => lifted os started H enc)
end exCxd

theorem exCxd_holds : Rows.FnExactCtxDeclsSaid := exCxd.over
#print axioms exCxd_holds
end Go.Proofs.YtfopmobopmdahaaGreat
