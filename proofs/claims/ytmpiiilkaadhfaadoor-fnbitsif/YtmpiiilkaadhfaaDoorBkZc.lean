/- BitsIf of the program, with the room of what it hands back. -/
import Derived.Test.YtmpiiilkaadhfaaDoorBkY
import Derived.Test.YtmpiiilkaadhfaaDoorRngA
namespace Go.Proofs.YtmpiiilkaadhfaaDoor
open Go.ChangeShapes Go.WideShapes Go.ChangeAt Go.RowKit Go.Joins
set_option linter.unusedVariables false
set_option maxRecDepth 100000
set_option linter.unusedSimpArgs false

theorem ifsK_rl (c : Int) (s : KS) (L M : List Int) (i : Nat) : RlL (ifsK 0 c s L M i) (ifsK 1 c s L M i) :=
  mapK_rl (Rl.refl s) (fun _ => rfl) (fun _ => rfl) (fun t a b h => oneK_ok h) (fun u v a b a' b' h _ ha hb => oneK_rl h (fun _ => rfl) ha hb) i
/-- What the program hands back, in memory of its own. -/
def ICapPost (r : BR) (base : Nat) (e : Ending) (w' : World) : Prop := ∃ a cap g cp, e = .returned (.tuple #[.agg #[.int .i64 r.m, .slice a r.n cap], .slice g r.L.length cp]) ∧ (GtsAt w' a r.n r.G ∧ OwnG w' base a r.n) ∧ (IntsAt w' g r.L.length (at0 r.L) ∧ OwnB w' base g r.L.length) ∧ (r.n = 0 ∨ r.L.length = 0 ∨ ∀ x y, a = some x → g = some y → x.block ≠ y.block) ∧ r.n ≤ cap ∧ (r.L.length ≠ 0 → ∃ b, a = some ⟨b, 0, none⟩)
theorem nil_ICap (base : Nat) (w' : World) : ICapPost nilB base (.returned (.tuple #[.agg #[.int .i64 0, .slice none 0 0], .slice none 0 0])) w' := ⟨none, 0, none, 0, rfl, ⟨Or.inl rfl, Or.inl rfl⟩, ⟨Or.inl rfl, Or.inl rfl⟩, Or.inl rfl, Nat.le_refl _, fun h => absurd rfl h⟩
set_option maxRecDepth 100000 in
set_option maxHeartbeats 2000000 in
theorem iBitsIf_cap (m : Int) (ad : Option Addr) (n cap : Nat) (G : Nat → Gt) (c : Int) (la : Option Addr) (nl cl : Nat) (L : List Int) (lb : Option Addr) (nm cm : Nat) (M : List Int) (base : Nat) (aF aR : Addr) (w : World) (hd : GtsAt w ad n G) (hw : WG n G) (hsp : ∃ p, ad = some p ∧ p.spot = none) (hn : n ≤ 1048576)
    (hc : W64 c) (hdL : IntsAt w la nl (at0 L)) (hdM : IntsAt w lb nm (at0 M)) (hL : L.length = nl) (hM : M.length = nm) (hl : nl ≤ 1048576) (hm : nm ≤ 1048576) (hWL : ∀ i, i < nl → W64 (at0 L i)) (hWM : ∀ i, i < nm → W64 (at0 M i)) (hs : Sent w base aF aR) (hbase : base ≤ w.heap.size) :
    Calls Tryd.prog 18 #[.agg #[.int .i64 m, .slice ad n cap], .int .i64 c, .slice la nl cl, .slice lb nm cm] w fun e w' => ICapPost (ifBR m n G c L M) w.heap.size e w' ∧ Below w.heap.size w w' := by
  obtain ⟨wz, hwz⟩ : ∃ wz, wz = (w.alloc (.cells #[.int .i64 m, .slice ad n cap] 25)).alloc (.cells #[.int .i64 0, .slice none 0 0] 25) := ⟨_, rfl⟩
  have BL : Below w.heap.size w wz := by rw [hwz]; exact ((Below.refl _ _).alloc (Nat.le_refl _) _).alloc (by simp) _
  have p0 : wz.cell? ⟨w.heap.size, 0, none⟩ = some (.int .i64 m) := by rw [hwz]; simp [go_sem]
  have p1 : wz.cell? ⟨w.heap.size, 1, none⟩ = some (.slice ad n cap) := by rw [hwz]; simp [go_sem]
  have s0 : wz.cell? ⟨w.heap.size + 1, 0, none⟩ = some (.int .i64 0) := by rw [hwz]; simp [go_sem]
  have s1 : wz.cell? ⟨w.heap.size + 1, 1, none⟩ = some (.slice none 0 0) := by rw [hwz]; simp [go_sem]
  have f0 : wz.frozen? ⟨w.heap.size + 1, 0, none⟩ = false := by rw [hwz]; simp [go_sem]
  have f1 : wz.frozen? ⟨w.heap.size + 1, 1, none⟩ = false := by rw [hwz]; simp [go_sem]
  have lz : wz.heap.size = w.heap.size + 2 := by rw [hwz]; simp
  have hsz : Sent wz wz.heap.size aF aR := by have h := hs.below BL hbase; exact ⟨h.f, h.r, by have := h.b; omega⟩
  have HNB := hide (newB_any m ad n cap G wz.heap.size aF aR wz (hd.later BL) hw hsp hn hsz (Nat.le_refl _))
  have HDL := hide hdL
  have HDM := hide hdM
  have HL := hide hL
  have HM := hide hM
  have HWL := hide hWL
  have HWM := hide hWM
  have f := hsz.f
  have HSZ := hide hsz
  have HZ := hide hwz
  clear hd hwz hw hsp hdL hdM hL hM hWL hWM hs hsz
  go_enter Tryd.func18, Tryd.ntmps18
  go_wp2_with fail
  rw [← unhide HZ]
  refine (unhide HNB).mono ?_
  rintro e w1 ⟨⟨bb, rfl, lbb, lbb', ⟨hP, gb, B, g, hB⟩ | ⟨hP, v, q1⟩⟩, b1⟩
  · have HB := hide hB
    have HS1 := hide ((unhide HSZ).below b1 (Nat.le_refl _))
    replace f0 := (b1.frozen (p := ⟨w.heap.size + 1, 0, none⟩) (World.block_lt_of_cell? _ _ s0)).trans f0
    replace f1 := (b1.frozen (p := ⟨w.heap.size + 1, 1, none⟩) (World.block_lt_of_cell? _ _ s1)).trans f1
    replace s0 := cell_later b1 s0
    replace s1 := cell_later b1 s1
    replace f := cell_later b1 f
    replace BL := BL.trans (b1.mono BL.size)
    clear hB b1 p0 p1
    obtain ⟨vc, hvc⟩ : ∃ v, v = w1.alloc (.cells #[.int .i64 c] 3) := ⟨_, rfl⟩
    have bvc : Below w1.heap.size w1 vc := by rw [hvc]; exact (Below.refl _ _).alloc (Nat.le_refl _) _
    have ic : Ints vc w1.heap.size 0 1 (at0 [c]) := fun i hi => (by obtain rfl : i = 0 := (by omega); rw [hvc]; simp [go_sem, at0])
    have lic : w1.heap.size < vc.heap.size := by rw [hvc]; simp
    have HBv := hide ((unhide HB).later bvc)
    have HSv := hide ((unhide HS1).below bvc (by omega))
    replace f0 := (bvc.frozen (p := ⟨w.heap.size + 1, 0, none⟩) (World.block_lt_of_cell? _ _ s0)).trans f0
    replace f1 := (bvc.frozen (p := ⟨w.heap.size + 1, 1, none⟩) (World.block_lt_of_cell? _ _ s1)).trans f1
    replace s0 := cell_later bvc s0
    replace s1 := cell_later bvc s1
    replace f := cell_later bvc f
    replace BL := BL.trans (bvc.mono BL.size)
    have HTC := hide (takeG_any wz.heap.size bb gb B g aF aR m n G (some ⟨w1.heap.size, 0, none⟩) 1 1 [c] vc (unhide HBv) (unhide HSv) (by have := bvc.size; omega) hP (Or.inr ⟨_, _, rfl, lic, ic⟩) rfl (by omega) (fun i hi => (by obtain rfl : i = 0 := (by omega); exact hc)))
    have HVC := hide hvc
    have lvc := bvc.size
    clear hvc bvc ic lic
    go_wp2_with fail
    rw [← unhide HVC]
    refine (unhide HTC).mono ?_
    rintro e w2 (⟨hRc, rfl, lrc, irc, b2⟩ | ⟨hRc, rfl, ⟨v, q1⟩, o2⟩)
    · have qc := irc 0 (by omega)
      have hmc : mkP m n c = true := hRc.1 0 (by simp)
      have HB2 := hide ((unhide HBv).later b2)
      have HS2 := hide ((unhide HSv).below b2 (by omega))
      have l2 := b2.size
      replace f0 := (b2.frozen (p := ⟨w.heap.size + 1, 0, none⟩) (World.block_lt_of_cell? _ _ s0)).trans f0
      replace f1 := (b2.frozen (p := ⟨w.heap.size + 1, 1, none⟩) (World.block_lt_of_cell? _ _ s1)).trans f1
      replace s0 := cell_later b2 s0
      replace s1 := cell_later b2 s1
      replace f := cell_later b2 f
      replace BL := BL.trans (b2.mono BL.size)
      have HTA := hide (takeG_any wz.heap.size bb gb B g aF aR m n G la nl cl L w2 (unhide HB2) (unhide HS2) (by omega) hP ((unhide HDL).later BL) (unhide HL) hl (unhide HWL))
      clear b2 irc
      go_wp2_with fail
      refine (unhide HTA).mono ?_
      rintro e w3 (⟨hRa, rfl, lra, ira, b3⟩ | ⟨hRa, rfl, ⟨v, q1⟩, o3⟩)
      · have HB3 := hide ((unhide HB2).later b3)
        have HS3 := hide ((unhide HS2).below b3 (by omega))
        have l3 := b3.size
        replace qc := cell_later b3 qc
        replace f0 := (b3.frozen (p := ⟨w.heap.size + 1, 0, none⟩) (World.block_lt_of_cell? _ _ s0)).trans f0
        replace f1 := (b3.frozen (p := ⟨w.heap.size + 1, 1, none⟩) (World.block_lt_of_cell? _ _ s1)).trans f1
        replace s0 := cell_later b3 s0
        replace s1 := cell_later b3 s1
        replace f := cell_later b3 f
        replace BL := BL.trans (b3.mono BL.size)
        have HTB := hide (takeG_any wz.heap.size bb gb B g aF aR m n G lb nm cm M w3 (unhide HB3) (unhide HS3) (by omega) hP ((unhide HDM).later BL) (unhide HM) hm (unhide HWM))
        have HIA := hide ira
        clear b3 ira
        go_wp2_with fail
        refine (unhide HTB).mono ?_
        rintro e w4 (⟨hRb, rfl, lrb, irb, b4⟩ | ⟨hRb, rfl, ⟨v, q1⟩, o4⟩)
        · have HB4 := hide ((unhide HB3).later b4)
          have HS4 := hide ((unhide HS3).below b4 (by omega))
          have l4 := b4.size
          replace qc := cell_later b4 qc
          replace HIA := hide ((unhide HIA).later b4)
          replace f0 := (b4.frozen (p := ⟨w.heap.size + 1, 0, none⟩) (World.block_lt_of_cell? _ _ s0)).trans f0
          replace f1 := (b4.frozen (p := ⟨w.heap.size + 1, 1, none⟩) (World.block_lt_of_cell? _ _ s1)).trans f1
          replace s0 := cell_later b4 s0
          replace s1 := cell_later b4 s1
          replace f := cell_later b4 f
          replace BL := BL.trans (b4.mono BL.size)
          have h4a : nl ≤ 4 := by rw [← unhide HL]; exact hRa.2.2
          have h4b : nm ≤ 4 := by rw [← unhide HM]; exact hRb.2.2
          have lgs := (unhide HB).lg
          have lbs := (unhide HB).lt
          have ns : ∀ k, w1.heap.size ≤ k → ¬ S4 bb gb B g k := fun k h1 h2 => by rcases h2 with e | e | e | e <;> omega
          have HTC := hide (choiceG_any wz.heap.size bb gb B g aF aR (kS m n G) rfl c vc.heap.size w2.heap.size nl nl w3.heap.size nm nm L M w4 (unhide HB4) (unhide HS4) (by omega) (kS_ok hP) (kS_mk hP hmc) (unhide HL) (unhide HM) (by omega) (by omega) qc (unhide HIA) irb ⟨ns _ (by omega), by omega⟩ ⟨ns _ (by omega), by omega⟩ (hRa.mk hP) (hRb.mk hP))
          clear b4 irb qc ns
          go_wp2_with fail
          refine (unhide HTC).mono ?_
          rintro e w5 (⟨hE, rfl, g', hRP⟩ | ⟨hE, rfl, ⟨v, q1⟩, o5⟩)
          · subst hE
            have HN := hide (ifBR_yes (m := m) (n := n) (G := G) (c := c) (L := L) (M := M) ⟨hP, hRa, hRb, by rw [unhide HL, unhide HM], hmc⟩)
            have hq : brK (ifsK 1 c (kS m n G) L M L.length) = brK (ifsK 0 c (kS m n G) L M nl) := by rw [unhide HL]; exact (brK_rl (ifsK_rl c (kS m n G) L M nl)).symm
            rw [hq] at HN
            have hlen : (ifsK 0 c (kS m n G) L M nl).2.length = nl := mapK_len _ _ _ _ _
            obtain ⟨q, hqq⟩ : ∃ q, q = ifsK 0 c (kS m n G) L M nl := ⟨_, rfl⟩
            rw [← hqq] at HN hRP hlen
            have HLEN := hide hlen
            clear hq hlen hqq
            have HRP := hide hRP
            have hR' := hRP
            have o5 := hRP.o
            have ns : ∀ k, k < wz.heap.size → ¬ S4 bb gb B g k := fun k h1 h2 => by have := (unhide HB).low k h2; omega
            have sl := World.block_lt_of_cell? _ _ s0
            have zl := World.block_lt_of_cell? _ _ f
            replace f0 := (o5.frozen (p := ⟨w.heap.size + 1, 0, none⟩) sl (ns _ (by simp only; omega))).trans f0
            replace f1 := (o5.frozen (p := ⟨w.heap.size + 1, 1, none⟩) sl (ns _ (by simp only; omega))).trans f1
            replace s0 := o5.cell s0 (ns _ (by simp only; omega))
            replace s1 := o5.cell s1 (ns _ (by simp only; omega))
            replace f := o5.cell f (ns _ (by simp only; omega))
            replace BL := BL.trans (o5.lower (base := w.heap.size) (fun k hk => by have := (unhide HB).low k hk; omega) BL.size)
            clear sl zl
            have lw5 := o5.size
            have HO5 := hide o5
            clear o5 ns hRP
            cases hok : q.1.ok
            · have HN' : Hid (ifBR m n G c L M = nilB) := (unhide HN).trans (brK_no hok)
              clear HN
              have HN := HN'
              have q1 := hR'.b.f0 hok
              clear hR'
              go_wp2_with fail
              refine (toldB_any bb aR _ _ _ _ q1).mono ?_
              rintro e wl ⟨rfl, bl⟩
              replace f0 := (bl.frozen (p := ⟨w.heap.size + 1, 0, none⟩) (World.block_lt_of_cell? _ _ s0)).trans f0
              replace f1 := (bl.frozen (p := ⟨w.heap.size + 1, 1, none⟩) (World.block_lt_of_cell? _ _ s1)).trans f1
              replace s0 := cell_later bl s0
              replace s1 := cell_later bl s1
              replace BL := BL.trans (bl.mono BL.size)
              clear bl
              have sl := World.block_lt_of_cell? _ _ s0
              go_wp2
              refine bodyPost_ret (v := .tuple #[.agg #[.int .i64 0, .slice none 0 0], .slice none 0 0]) (by simp [results, Tryd.results18, go_sem, s0, s1]) rfl ?_
              rw [unhide HN]
              exact ⟨nil_ICap _ _, BL.trans ((mov2c wl (w.heap.size + 1) _ _).below (by omega) BL.size)⟩
            · have HN' : Hid (ifBR m n G c L M = ⟨q.1.m, q.1.n, q.1.G, q.2⟩) := (unhide HN).trans (brK_yes hok)
              have HC := hide (toldG_any wz.heap.size bb gb B g' aR q.1 (w4.heap.size + 2) nl nl q.2 w5 hR'.b hok hR'.i hR'.m.1 (by omega) (by omega))
              clear hR'
              go_wp2_with fail
              refine (unhide HC).mono ?_
              rintro e w6 ⟨c6, rfl, hG6, hI6, hM6, b6⟩
              replace f0 := (b6.frozen (p := ⟨w.heap.size + 1, 0, none⟩) (World.block_lt_of_cell? _ _ s0)).trans f0
              replace f1 := (b6.frozen (p := ⟨w.heap.size + 1, 1, none⟩) (World.block_lt_of_cell? _ _ s1)).trans f1
              replace s0 := cell_later b6 s0
              replace s1 := cell_later b6 s1
              replace BL := BL.trans (b6.mono BL.size)
              have sl := World.block_lt_of_cell? _ _ s0
              have HG6 := hide hG6
              have HI6 := hide hI6
              have HM6 := hide hM6
              have lo6 := own_base hG6.2.1
              have lg6 := (own_cap hG6.2.1).2
              have hgl : g' < w5.heap.size := (unhide HRP).b.lg.1
              clear hG6 hI6 hM6 b6
              go_wp2
              refine bodyPost_ret (v := .tuple #[.agg #[.int .i64 q.1.m, .slice (some ⟨g', 0, none⟩) q.1.n c6], .slice (some ⟨w5.heap.size + 1, 0, none⟩) nl nl]) (by simp [results, Tryd.results18, go_sem, s0, s1]) rfl ?_
              rw [unhide HN']
              have mv : Mov (w.heap.size + 1) w6 ((w6.setCell ⟨w.heap.size + 1, 0, none⟩ (.int .i64 q.1.m)).setCell ⟨w.heap.size + 1, 1, none⟩ (.slice (some ⟨g', 0, none⟩) q.1.n c6)) := mov2c _ _ _ _
              refine ⟨⟨some ⟨g', 0, none⟩, c6, some ⟨w5.heap.size + 1, 0, none⟩, nl, by simp only [unhide HLEN], ⟨(own_gtsAt (unhide HG6).2.1).mov2 (by omega) mv, Or.inr ⟨g', rfl, by omega, (own_made (unhide HG6).2.1).mov mv (by omega)⟩⟩, ?_, Or.inr (Or.inr (fun x y e1 e2 => by cases e1; cases e2; simp only; omega)), (own_cap (unhide HG6).2.1).1, fun _ => ⟨g', rfl⟩⟩, BL.trans (mv.below (by omega) BL.size)⟩
              simp only [unhide HLEN]
              exact ⟨Or.inr ⟨_, _, rfl, Nat.lt_of_lt_of_le (unhide HM6).1 mv.size, fun i hi => mv.cell (unhide HI6 i hi) (by simp only; omega)⟩, Or.inr ⟨_, rfl, by omega, (unhide HM6).mov mv (by omega)⟩⟩
          · have ns : ∀ k, k < wz.heap.size → ¬ S4 bb gb B g k := fun k h1 h2 => by have := (unhide HB).low k h2; omega
            have sl := World.block_lt_of_cell? _ _ s0
            have zl := World.block_lt_of_cell? _ _ f
            replace f0 := (o5.frozen (p := ⟨w.heap.size + 1, 0, none⟩) sl (ns _ (by simp only; omega))).trans f0
            replace f1 := (o5.frozen (p := ⟨w.heap.size + 1, 1, none⟩) sl (ns _ (by simp only; omega))).trans f1
            replace s0 := o5.cell s0 (ns _ (by simp only; omega))
            replace s1 := o5.cell s1 (ns _ (by simp only; omega))
            replace f := o5.cell f (ns _ (by simp only; omega))
            replace BL := BL.trans (o5.lower (base := w.heap.size) (fun k hk => by have := (unhide HB).low k hk; omega) BL.size)
            clear sl zl
            clear o5 ns
            have HN := hide (ifBR_no (m := m) (n := n) (G := G) (c := c) (L := L) (M := M) (fun h => hE (by have := h.2.2.2.1; rw [unhide HL, unhide HM] at this; exact this)))
            go_wp2_with fail
            refine (toldB_any bb v _ _ _ _ q1).mono ?_
            rintro e wl ⟨rfl, bl⟩
            replace f0 := (bl.frozen (p := ⟨w.heap.size + 1, 0, none⟩) (World.block_lt_of_cell? _ _ s0)).trans f0
            replace f1 := (bl.frozen (p := ⟨w.heap.size + 1, 1, none⟩) (World.block_lt_of_cell? _ _ s1)).trans f1
            replace s0 := cell_later bl s0
            replace s1 := cell_later bl s1
            replace BL := BL.trans (bl.mono BL.size)
            clear bl
            have sl := World.block_lt_of_cell? _ _ s0
            go_wp2
            refine bodyPost_ret (v := .tuple #[.agg #[.int .i64 0, .slice none 0 0], .slice none 0 0]) (by simp [results, Tryd.results18, go_sem, s0, s1]) rfl ?_
            rw [unhide HN]
            exact ⟨nil_ICap _ _, BL.trans ((mov2c wl (w.heap.size + 1) _ _).below (by omega) BL.size)⟩
        · have ns : ∀ k, k < wz.heap.size → ¬ S4 bb gb B g k := fun k h1 h2 => by have := (unhide HB).low k h2; omega
          have sl := World.block_lt_of_cell? _ _ s0
          have zl := World.block_lt_of_cell? _ _ f
          replace f0 := (o4.frozen (p := ⟨w.heap.size + 1, 0, none⟩) sl (ns _ (by simp only; omega))).trans f0
          replace f1 := (o4.frozen (p := ⟨w.heap.size + 1, 1, none⟩) sl (ns _ (by simp only; omega))).trans f1
          replace s0 := o4.cell s0 (ns _ (by simp only; omega))
          replace s1 := o4.cell s1 (ns _ (by simp only; omega))
          replace f := o4.cell f (ns _ (by simp only; omega))
          replace BL := BL.trans (o4.lower (base := w.heap.size) (fun k hk => by have := (unhide HB).low k hk; omega) BL.size)
          clear sl zl
          clear o4 ns
          have HN := hide (ifBR_no (m := m) (n := n) (G := G) (c := c) (L := L) (M := M) (fun h => hRb h.2.2.1))
          go_wp2_with fail
          refine (choiceB_any bb v aF _ _ _ _ _ _ _ _ _ _ q1 f (by omega) (by omega) (by omega)).mono ?_
          rintro e w4 ⟨rfl, rfl⟩
          go_wp2_with fail
          refine (toldB_any bb v _ _ _ _ q1).mono ?_
          rintro e wl ⟨rfl, bl⟩
          replace f0 := (bl.frozen (p := ⟨w.heap.size + 1, 0, none⟩) (World.block_lt_of_cell? _ _ s0)).trans f0
          replace f1 := (bl.frozen (p := ⟨w.heap.size + 1, 1, none⟩) (World.block_lt_of_cell? _ _ s1)).trans f1
          replace s0 := cell_later bl s0
          replace s1 := cell_later bl s1
          replace BL := BL.trans (bl.mono BL.size)
          clear bl
          have sl := World.block_lt_of_cell? _ _ s0
          go_wp2
          refine bodyPost_ret (v := .tuple #[.agg #[.int .i64 0, .slice none 0 0], .slice none 0 0]) (by simp [results, Tryd.results18, go_sem, s0, s1]) rfl ?_
          rw [unhide HN]
          exact ⟨nil_ICap _ _, BL.trans ((mov2c wl (w.heap.size + 1) _ _).below (by omega) BL.size)⟩
      · have ns : ∀ k, k < wz.heap.size → ¬ S4 bb gb B g k := fun k h1 h2 => by have := (unhide HB).low k h2; omega
        have sl := World.block_lt_of_cell? _ _ s0
        have zl := World.block_lt_of_cell? _ _ f
        replace f0 := (o3.frozen (p := ⟨w.heap.size + 1, 0, none⟩) sl (ns _ (by simp only; omega))).trans f0
        replace f1 := (o3.frozen (p := ⟨w.heap.size + 1, 1, none⟩) sl (ns _ (by simp only; omega))).trans f1
        replace s0 := o3.cell s0 (ns _ (by simp only; omega))
        replace s1 := o3.cell s1 (ns _ (by simp only; omega))
        replace f := o3.cell f (ns _ (by simp only; omega))
        replace BL := BL.trans (o3.lower (base := w.heap.size) (fun k hk => by have := (unhide HB).low k hk; omega) BL.size)
        clear sl zl
        clear o3 ns
        have HN := hide (ifBR_no (m := m) (n := n) (G := G) (c := c) (L := L) (M := M) (fun h => hRa h.2.1))
        go_wp2_with fail
        refine (takeB_any bb v aF _ nm _ _ q1 f hm).mono ?_
        rintro e w3 ⟨rfl, rfl⟩
        go_wp2_with fail
        refine (choiceB_any bb v aF _ _ _ _ _ _ _ _ _ _ q1 f (by omega) (by omega) (by omega)).mono ?_
        rintro e w3 ⟨rfl, rfl⟩
        go_wp2_with fail
        refine (toldB_any bb v _ _ _ _ q1).mono ?_
        rintro e wl ⟨rfl, bl⟩
        replace f0 := (bl.frozen (p := ⟨w.heap.size + 1, 0, none⟩) (World.block_lt_of_cell? _ _ s0)).trans f0
        replace f1 := (bl.frozen (p := ⟨w.heap.size + 1, 1, none⟩) (World.block_lt_of_cell? _ _ s1)).trans f1
        replace s0 := cell_later bl s0
        replace s1 := cell_later bl s1
        replace BL := BL.trans (bl.mono BL.size)
        clear bl
        have sl := World.block_lt_of_cell? _ _ s0
        go_wp2
        refine bodyPost_ret (v := .tuple #[.agg #[.int .i64 0, .slice none 0 0], .slice none 0 0]) (by simp [results, Tryd.results18, go_sem, s0, s1]) rfl ?_
        rw [unhide HN]
        exact ⟨nil_ICap _ _, BL.trans ((mov2c wl (w.heap.size + 1) _ _).below (by omega) BL.size)⟩
    · have ns : ∀ k, k < wz.heap.size → ¬ S4 bb gb B g k := fun k h1 h2 => by have := (unhide HB).low k h2; omega
      have sl := World.block_lt_of_cell? _ _ s0
      have zl := World.block_lt_of_cell? _ _ f
      replace f0 := (o2.frozen (p := ⟨w.heap.size + 1, 0, none⟩) sl (ns _ (by simp only; omega))).trans f0
      replace f1 := (o2.frozen (p := ⟨w.heap.size + 1, 1, none⟩) sl (ns _ (by simp only; omega))).trans f1
      replace s0 := o2.cell s0 (ns _ (by simp only; omega))
      replace s1 := o2.cell s1 (ns _ (by simp only; omega))
      replace f := o2.cell f (ns _ (by simp only; omega))
      replace BL := BL.trans (o2.lower (base := w.heap.size) (fun k hk => by have := (unhide HB).low k hk; omega) BL.size)
      clear sl zl
      clear o2 ns
      have HN := hide (ifBR_no (m := m) (n := n) (G := G) (c := c) (L := L) (M := M) (fun h => hRc ⟨fun i hi => (by obtain rfl : i = 0 := (by simpa using hi); exact h.2.2.2.2), by simp, by simp⟩))
      go_wp2_with fail
      refine (takeB_any bb v aF _ nl _ _ q1 f hl).mono ?_
      rintro e w2 ⟨rfl, rfl⟩
      go_wp2_with fail
      refine (takeB_any bb v aF _ nm _ _ q1 f hm).mono ?_
      rintro e w2 ⟨rfl, rfl⟩
      go_wp2_with fail
      refine (choiceB_any bb v aF _ _ _ _ _ _ _ _ _ _ q1 f (by omega) (by omega) (by omega)).mono ?_
      rintro e w2 ⟨rfl, rfl⟩
      go_wp2_with fail
      refine (toldB_any bb v _ _ _ _ q1).mono ?_
      rintro e wl ⟨rfl, bl⟩
      replace f0 := (bl.frozen (p := ⟨w.heap.size + 1, 0, none⟩) (World.block_lt_of_cell? _ _ s0)).trans f0
      replace f1 := (bl.frozen (p := ⟨w.heap.size + 1, 1, none⟩) (World.block_lt_of_cell? _ _ s1)).trans f1
      replace s0 := cell_later bl s0
      replace s1 := cell_later bl s1
      replace BL := BL.trans (bl.mono BL.size)
      clear bl
      have sl := World.block_lt_of_cell? _ _ s0
      go_wp2
      refine bodyPost_ret (v := .tuple #[.agg #[.int .i64 0, .slice none 0 0], .slice none 0 0]) (by simp [results, Tryd.results18, go_sem, s0, s1]) rfl ?_
      rw [unhide HN]
      exact ⟨nil_ICap _ _, BL.trans ((mov2c wl (w.heap.size + 1) _ _).below (by omega) BL.size)⟩
  · replace f0 := (b1.frozen (p := ⟨w.heap.size + 1, 0, none⟩) (World.block_lt_of_cell? _ _ s0)).trans f0
    replace f1 := (b1.frozen (p := ⟨w.heap.size + 1, 1, none⟩) (World.block_lt_of_cell? _ _ s1)).trans f1
    replace s0 := cell_later b1 s0
    replace s1 := cell_later b1 s1
    replace f := cell_later b1 f
    replace BL := BL.trans (b1.mono BL.size)
    clear b1 p0 p1
    have HN := hide (ifBR_no (m := m) (n := n) (G := G) (c := c) (L := L) (M := M) (fun h => by have := h.1; rw [hP] at this; cases this))
    obtain ⟨vc, hvc⟩ : ∃ v, v = w1.alloc (.cells #[.int .i64 c] 3) := ⟨_, rfl⟩
    have bvc : Below w1.heap.size w1 vc := by rw [hvc]; exact (Below.refl _ _).alloc (Nat.le_refl _) _
    have ic : Ints vc w1.heap.size 0 1 (at0 [c]) := fun i hi => (by obtain rfl : i = 0 := (by omega); rw [hvc]; simp [go_sem, at0])
    have lic : w1.heap.size < vc.heap.size := by rw [hvc]; simp
    replace f0 := (bvc.frozen (p := ⟨w.heap.size + 1, 0, none⟩) (World.block_lt_of_cell? _ _ s0)).trans f0
    replace f1 := (bvc.frozen (p := ⟨w.heap.size + 1, 1, none⟩) (World.block_lt_of_cell? _ _ s1)).trans f1
    replace s0 := cell_later bvc s0
    replace s1 := cell_later bvc s1
    replace q1 := cell_later bvc q1
    replace f := cell_later bvc f
    replace BL := BL.trans (bvc.mono BL.size)
    have HVC := hide hvc
    clear hvc bvc ic lic
    go_wp2_with fail
    rw [← unhide HVC]
    refine (takeB_any bb v aF _ 1 1 _ q1 f (by omega)).mono ?_
    rintro e vc ⟨rfl, rfl⟩
    go_wp2_with fail
    refine (takeB_any bb v aF _ nl _ _ q1 f hl).mono ?_
    rintro e vc ⟨rfl, rfl⟩
    go_wp2_with fail
    refine (takeB_any bb v aF _ nm _ _ q1 f hm).mono ?_
    rintro e vc ⟨rfl, rfl⟩
    go_wp2_with fail
    refine (choiceB_any bb v aF _ _ _ _ _ _ _ _ _ _ q1 f (by omega) (by omega) (by omega)).mono ?_
    rintro e vc ⟨rfl, rfl⟩
    go_wp2_with fail
    refine (toldB_any bb v _ _ _ _ q1).mono ?_
    rintro e wl ⟨rfl, bl⟩
    replace f0 := (bl.frozen (p := ⟨w.heap.size + 1, 0, none⟩) (World.block_lt_of_cell? _ _ s0)).trans f0
    replace f1 := (bl.frozen (p := ⟨w.heap.size + 1, 1, none⟩) (World.block_lt_of_cell? _ _ s1)).trans f1
    replace s0 := cell_later bl s0
    replace s1 := cell_later bl s1
    replace BL := BL.trans (bl.mono BL.size)
    clear bl
    have sl := World.block_lt_of_cell? _ _ s0
    go_wp2
    refine bodyPost_ret (v := .tuple #[.agg #[.int .i64 0, .slice none 0 0], .slice none 0 0]) (by simp [results, Tryd.results18, go_sem, s0, s1]) rfl ?_
    rw [unhide HN]
    exact ⟨nil_ICap _ _, BL.trans ((mov2c wl (w.heap.size + 1) _ _).below (by omega) BL.size)⟩
end Go.Proofs.YtmpiiilkaadhfaaDoor
