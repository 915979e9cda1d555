/- Marks that are right; what is told; BitsIf of the model. -/
import Derived.Test.YtmpiiilkaadhfaaDoorBkU
namespace Go.Proofs.YtmpiiilkaadhfaaDoor
open Go.ChangeShapes Go.WideShapes Go.ChangeAt Go.RowKit Go.Joins
set_option linter.unusedVariables false
set_option maxRecDepth 100000
set_option linter.unusedSimpArgs false

/-- A row of marks of a net, of one bit at least and four at most. -/
def RgtP (m : Int) (n : Nat) (L : List Int) : Prop := (∀ i, i < L.length → mkP m n (at0 L i) = true) ∧ 1 ≤ L.length ∧ L.length ≤ 4
noncomputable def rgtB (m : Int) (n : Nat) (L : List Int) : Bool := @decide (RgtP m n L) (Classical.propDecidable _)
theorem rgtB_yes {m : Int} {n : Nat} {L : List Int} (h : RgtP m n L) : rgtB m n L = true := by simpa [rgtB] using h
theorem rgtB_no {m : Int} {n : Nat} {L : List Int} (h : ¬ RgtP m n L) : rgtB m n L = false := by simpa [rgtB] using h
theorem rgtB_iff {m : Int} {n : Nat} {L : List Int} : rgtB m n L = true ↔ RgtP m n L := by simp [rgtB]
/-- A net in the making at its beginning. -/
def kS (m : Int) (n : Nat) (G : Nat → Gt) : KS := ⟨m, n, G, true⟩
theorem kS_ok {m : Int} {n : Nat} {G : Nat → Gt} (h : netB m n G = true) : KOk (kS m n G) := by
  obtain ⟨h1, h2, h3, _⟩ := netB_iff.1 h
  exact ⟨h1, h2, h3, fun _ => h⟩
theorem kS_mk {m : Int} {n : Nat} {G : Nat → Gt} {k : Int} (h : netB m n G = true) (hk : mkP m n k = true) : Mk (kS m n G) k := by
  obtain ⟨h1, h2, h3, _⟩ := netB_iff.1 h
  have h' := mkP_iff.1 hk
  exact ⟨by omega, by omega, fun _ => hk⟩
theorem RgtP.mk {m : Int} {n : Nat} {G : Nat → Gt} {L : List Int} (h : netB m n G = true) (hL : RgtP m n L) : MkL (kS m n G) L := fun i hi => kS_mk h (hL.1 i hi)
/-- A net and marks, as they are handed back. -/
def Lo (a : Option Addr) (n base : Nat) : Prop := n = 0 ∨ ∀ b off, a = some ⟨b, off, none⟩ → base ≤ b
theorem Lo.ne {a : Option Addr} {n base B : Nat} (h : Lo a n base) (hB : B < base) : n = 0 ∨ ∀ b off, a = some ⟨b, off, none⟩ → b ≠ B := h.imp id (fun h b off e => by have := h b off e; omega)
theorem Lo.mono {a : Option Addr} {n base base' : Nat} (h : Lo a n base) (hB : base' ≤ base) : Lo a n base' := h.imp id (fun h b off e => Nat.le_trans hB (h b off e))
def BPost (r : BR) (base : Nat) (e : Ending) (w' : World) : Prop := ∃ a cap g cp, e = .returned (.tuple #[.agg #[.int .i64 r.m, .slice a r.n cap], .slice g r.L.length cp]) ∧ (GtsAt w' a r.n r.G ∧ Lo a r.n base) ∧ IntsAt w' g r.L.length (at0 r.L) ∧ Lo g r.L.length base
theorem IntsAt.mov {w w' : World} {a : Option Addr} {n B : Nat} {V : Nat → Int} (h : IntsAt w a n V) (hB : n = 0 ∨ ∀ b off, a = some ⟨b, off, none⟩ → b ≠ B) (hm : Mov B w w') : IntsAt w' a n V := by
  rcases h with h | ⟨b, off, rfl, h2, h3⟩
  · exact Or.inl h
  · rcases hB with hB | hB
    · exact Or.inl hB
    · exact Or.inr ⟨b, off, rfl, Nat.lt_of_lt_of_le h2 hm.size, fun i hi => hm.cell (h3 i hi) (by simp only; exact hB b off rfl)⟩
theorem mov2c (w : World) (B : Nat) (u v : Value) : Mov B w ((w.setCell ⟨B, 0, none⟩ u).setCell ⟨B, 1, none⟩ v) := (Mov.set _ _ _).trans (Mov.set _ _ _)
set_option maxRecDepth 100000 in
set_option maxHeartbeats 1000000 in
theorem l7Right_any (m : Int) (ad : Option Addr) (n cap : Nat) (la : Option Addr) (nl cl : Nat) (L : List Int) (w : World) (hm0 : 0 ≤ m) (hm1 : m ≤ 8) (hn : n ≤ 600) (hd : IntsAt w la nl (at0 L)) (hL : L.length = nl) (hl : nl ≤ 1048576) :
    Calls Tryd.prog 37 #[.agg #[.int .i64 m, .slice ad n cap], .slice la nl cl] w fun e w' => e = .returned (.bool (rgtB m n L)) ∧ Below w.heap.size w w' := by
  have HD := hide hd
  have HL := hide hL
  clear hd hL
  have BZ : Below w.heap.size w (w.alloc (.cells #[.int .i64 m, .slice ad n cap] 25)) := (Below.refl _ _).alloc (Nat.le_refl _) _
  go_enter Tryd.func37, Tryd.ntmps37
  go_wp2
  go_loopw [5] (fun i wr => ∃ j : Nat, j ≤ nl ∧ i = .int .i64 j ∧ (∀ i, i < j → mkP m n (at0 L i) = true) ∧ NBox wr w.heap.size m ad n cap ∧ Below w.heap.size w wr) (fun i _ => nl - (intOf i).toNat)
  case atStart => exact ⟨0, by omega, rfl, fun i hi => by omega, NBox.new _ _ _ _ _ _, BZ⟩
  case round =>
    obtain ⟨j, hj, rfl, hok, ⟨p0, p1⟩, hbel⟩ := hrel
    have HK := hide hok
    clear hok
    by_cases hlt : j < nl
    · obtain ⟨bL, oL, rfl, lL, dL⟩ := at0_in (unhide HD) hlt
      replace dL := (hbel.cell (p := ⟨bL, oL + j, none⟩) lL).trans dL
      have HX : Hid (at0 L j = at0 L j) := rfl
      obtain ⟨x, hx⟩ : ∃ x, x = at0 L j := ⟨_, rfl⟩
      rw [← hx] at dL
      have HE := hide hx
      clear hx HX
      cases hv : mkP m n x
      all_goals
        go_wp2
        go_region_held3 (fun w' => w'.cell? ⟨w.heap.size, 0, none⟩ = some (.int .i64 m) ∧ w'.cell? ⟨w.heap.size, 1, none⟩ = some (.slice ad n cap) ∧ w'.cell? ⟨bL, oL + j, none⟩ = some (.int .i64 x)) (first | exact ⟨p0, p1, dL⟩ | go_keep)
          (first | (go_at_call 54; refine (l6Mark_any _ _ _ _ _ _ hm0 hm1 (by omega)).mono ?_; rintro e wq ⟨rfl, bq⟩; rw [hv]; have p0 := cell_later bq (by exact p0); have p1 := cell_later bq (by exact p1); have dL := cell_later bq (by exact dL); have hbel := (by first | exact hbel.trans (bq.mono hbel.size) | exact hbel.drew.trans (bq.mono hbel.size))))
        all_goals go_wp2
      · go_ret
        refine ⟨?_, hbel⟩
        rw [rgtB_no (fun h => by have := h.1 j (by rw [unhide HL]; exact hlt); rw [← unhide HE, hv] at this; cases this)]
        rfl
      · go_roundw
        case rel => exact ⟨j + 1, by omega, by go_num, fun i hi => (by by_cases e : i = j; (· subst e; rw [← unhide HE]; exact hv); (· exact unhide HK i (by omega))), ⟨p0, p1⟩, hbel⟩
        case measure => simp [intOf]; omega
    · have ej : j = nl := by omega
      subst ej
      by_cases h1 : 1 ≤ j
      · by_cases h4 : j ≤ 4
        · have HB := hide (rgtB_yes (m := m) (n := n) (L := L) ⟨fun i hi => unhide HK i (by rw [← unhide HL]; exact hi), by rw [unhide HL]; exact h1, by rw [unhide HL]; exact h4⟩)
          go_wp2
          go_ret
          rw [unhide HB]
          exact ⟨ret_bool (by simp; omega), hbel⟩
        · have HB := hide (rgtB_no (m := m) (n := n) (L := L) (fun h => h4 (by have := h.2.2; rw [unhide HL] at this; exact this)))
          go_wp2
          go_ret
          rw [unhide HB]
          exact ⟨ret_bool (by simp; omega), hbel⟩
      · have HB := hide (rgtB_no (m := m) (n := n) (L := L) (fun h => h1 (by have := h.2.1; rw [unhide HL] at this; exact this)))
        have h0 : j = 0 := by omega
        subst h0
        go_wp2
        go_ret
        rw [unhide HB]
        exact ⟨ret_bool (by simp), hbel⟩
set_option maxRecDepth 100000 in
set_option maxHeartbeats 1500000 in
theorem l7Told_any (s : KS) (ad : Option Addr) (cap : Nat) (g : Nat) (nl cl : Nat) (R : List Int) (w : World) (hn : s.n ≤ 600) (hi : KIn w s ad cap) (hg : g < w.heap.size) (hd : Ints w g 0 nl (at0 R)) (hR : R.length = nl) (hl : nl ≤ 100) (h1 : 1 ≤ nl) :
    Calls Tryd.prog 55 #[.agg #[.int .i64 s.m, .slice ad s.n cap, .bool s.ok], .slice (some ⟨g, 0, none⟩) nl cl] w fun e w' => BPost (brK (s, R)) w.heap.size e w' ∧ Below w.heap.size w w' := by
  obtain ⟨m, n, G, ok⟩ := s
  have HI := hide hi
  have HD := hide hd
  have HL := hide hR
  simp only at hn
  clear hi hd hR
  cases ok
  · have HB := hide (brK_no (p := ((⟨m, n, G, false⟩ : KS), R)) rfl)
    go_enter Tryd.func55, Tryd.ntmps55
    go_wp2
    refine bodyPost_ret (v := .tuple #[.agg #[.int .i64 0, .slice none 0 0], .slice (some ⟨w.heap.size + 2, 0, none⟩) 0 0]) (by simp [results, Tryd.results55, go_sem]) rfl ?_
    rw [unhide HB]
    exact ⟨⟨none, 0, some ⟨w.heap.size + 2, 0, none⟩, 0, by simp [nilB], ⟨Or.inl rfl, Or.inl rfl⟩, Or.inl rfl, Or.inl rfl⟩, (by repeat (first | exact Below.refl _ _ | assumption | refine below_drewN ?_ _ | refine Below.drew ?_ | refine Below.alloc ?_ (by first | exact Nat.le_refl _ | exact Below.size (by assumption) | (simp; done) | (simp; omega)) _ | refine Below.setCell ?_ (by first | exact Nat.le_refl _ | exact Below.size (by assumption) | (simp; done) | (simp; omega)) _ | refine Below.trans ?_ (by assumption)))⟩
  · have HB := hide (brK_yes (p := ((⟨m, n, G, true⟩ : KS), R)) rfl)
    obtain ⟨wz, hwz⟩ : ∃ wz, wz = (w.alloc (.cells #[.int .i64 m, .slice ad n cap, .bool true] 70)).alloc (.cells #[.int .i64 0, .slice none 0 0] 25) := ⟨_, rfl⟩
    have BZ : Below w.heap.size w wz := by rw [hwz]; exact ((Below.refl _ _).alloc (Nat.le_refl _) _).alloc (by simp) _
    have p0 : wz.cell? ⟨w.heap.size, 0, none⟩ = some (.int .i64 m) := by rw [hwz]; simp [go_sem]
    have p1 : wz.cell? ⟨w.heap.size, 1, none⟩ = some (.slice ad n cap) := by rw [hwz]; simp [go_sem]
    have p2 : wz.cell? ⟨w.heap.size, 2, none⟩ = some (.bool true) := by rw [hwz]; simp [go_sem]
    have s0 : wz.cell? ⟨w.heap.size + 1, 0, none⟩ = some (.int .i64 0) := by rw [hwz]; simp [go_sem]
    have s1 : wz.cell? ⟨w.heap.size + 1, 1, none⟩ = some (.slice none 0 0) := by rw [hwz]; simp [go_sem]
    have f0 : wz.frozen? ⟨w.heap.size + 1, 0, none⟩ = false := by rw [hwz]; simp [go_sem]
    have f1 : wz.frozen? ⟨w.heap.size + 1, 1, none⟩ = false := by rw [hwz]; simp [go_sem]
    have lz : wz.heap.size = w.heap.size + 2 := by rw [hwz]; simp
    have HIz := hide ((unhide HI).later BZ)
    have HDz := hide ((unhide HD).later BZ)
    have HZ := hide hwz
    clear hwz
    go_enter Tryd.func55, Tryd.ntmps55
    go_wp2_with fail
    rw [← unhide HZ]
    refine (l6Fresh_any m ad n cap G _ (unhide HIz).1 (unhide HIz).2.1 (unhide HIz).2.2.1 (by omega)).mono ?_
    rintro e w1 ⟨g1, c1, rfl, hg1, gl1, b1⟩
    have l1 := b1.size
    replace s0 := cell_later b1 s0
    replace s1 := cell_later b1 s1
    replace f0 := (b1.frozen (p := ⟨w.heap.size + 1, 0, none⟩) (by simp only; omega)).trans f0
    replace f1 := (b1.frozen (p := ⟨w.heap.size + 1, 1, none⟩) (by simp only; omega)).trans f1
    have HD1 := (unhide HDz).later b1
    have BL := BZ.trans (b1.mono BZ.size)
    obtain ⟨g2, c2, w2, hrun, ow2, gr2, at2⟩ := int_more (w1.alloc (.cells #[] 3)) w1.heap.size (.slice (some ⟨w1.heap.size, 0, none⟩) 0 0) 0 [] R g 0 nl cl (own_new w1 _ 1) (unhide HL) (HD1.later ((Below.refl _ _).alloc (Nat.le_refl _) _)) (by omega) (by omega) (by simp)
    simp only [Nat.zero_add, List.nil_append] at hrun ow2
    have HRUN := hide hrun
    have b2 : Below w1.heap.size w1 w2 := ((Below.refl _ _).alloc (Nat.le_refl _) _).trans ((mov_of_grown (g := w1.heap.size) (by simpa [Value.ownBlock] using gr2)).below (Nat.le_refl _) (by simp))
    have HO := hide ow2
    have lg2 : w1.heap.size ≤ g2 := own_base ow2
    have HG := hide (hg1.later b2)
    replace s0 := (b2.cell (p := ⟨w.heap.size + 1, 0, none⟩) (by simp only; omega)).trans s0
    replace s1 := (b2.cell (p := ⟨w.heap.size + 1, 1, none⟩) (by simp only; omega)).trans s1
    replace f0 := (b2.frozen (p := ⟨w.heap.size + 1, 0, none⟩) (by simp only; omega)).trans f0
    replace f1 := (b2.frozen (p := ⟨w.heap.size + 1, 1, none⟩) (by simp only; omega)).trans f1
    replace BL := BL.trans (b2.mono (by omega))
    have l2 := b2.size
    clear hrun ow2 gr2 at2 b1 b2 hg1 HD1 BZ p0 p1 p2
    go_wp2_with (first | (at_builtin; refine wpList_append_run _ rfl (.tmp 14) (.tmp 15) 26 rfl _ _ _ _ rfl rfl (unhide HRUN) ?_))
    refine bodyPost_ret (v := .tuple #[.agg #[.int .i64 m, .slice (some ⟨g1, 0, none⟩) n c1], .slice (some ⟨g2, 0, none⟩) nl c2]) (by simp [results, Tryd.results55, go_sem, s0, s1]) rfl ?_
    rw [unhide HB]
    have mv : Mov (w.heap.size + 1) w2 ((w2.setCell ⟨w.heap.size + 1, 0, none⟩ (.int .i64 m)).setCell ⟨w.heap.size + 1, 1, none⟩ (.slice (some ⟨g1, 0, none⟩) n c1)) := (Mov.set _ _ _).trans (Mov.set _ _ _)
    have hin := own_at (unhide HO)
    refine ⟨⟨some ⟨g1, 0, none⟩, c1, some ⟨g2, 0, none⟩, c2, by simp [unhide HL], ⟨(unhide HG).mov2 (by omega) mv, Or.inr (fun b off e => by cases e; omega)⟩, ?_⟩, BL.trans (mv.below (by omega) BL.size)⟩
    simp only [unhide HL]
    exact ⟨hin.mov (Or.inr (fun b off e => by cases e; omega)) mv, Or.inr (fun b off e => by cases e; omega)⟩
/-- What BitsIf is given is right. -/
def IfP (m : Int) (n : Nat) (G : Nat → Gt) (c : Int) (L M : List Int) : Prop := netB m n G = true ∧ RgtP m n L ∧ RgtP m n M ∧ L.length = M.length ∧ mkP m n c = true
/-- What BitsIf hands back. -/
noncomputable def ifBR (m : Int) (n : Nat) (G : Nat → Gt) (c : Int) (L M : List Int) : BR := @ite _ (IfP m n G c L M) (Classical.propDecidable _) (brK (ifsK 1 c (kS m n G) L M L.length)) nilB
theorem ifBR_no {m : Int} {n : Nat} {G : Nat → Gt} {c : Int} {L M : List Int} (h : ¬ IfP m n G c L M) : ifBR m n G c L M = nilB := if_neg h
theorem ifBR_yes {m : Int} {n : Nat} {G : Nat → Gt} {c : Int} {L M : List Int} (h : IfP m n G c L M) : ifBR m n G c L M = brK (ifsK 1 c (kS m n G) L M L.length) := if_pos h
set_option maxRecDepth 100000 in
set_option maxHeartbeats 2000000 in
theorem sBitsIf_any (m : Int) (ad : Option Addr) (n cap : Nat) (G : Nat → Gt) (c : Int) (la : Option Addr) (nl cl : Nat) (L : List Int) (lb : Option Addr) (nm cm : Nat) (M : List Int) (w : World) (hd : GtsAt w ad n G) (hw : WG n G) (hnn : ad = none → n = 0 ∧ cap = 0) (hspot : ∀ p, ad = some p → p.spot = none) (hlow : ∀ p, ad = some p → p.block < w.heap.size) (hn : n ≤ 1048576)
    (hdL : IntsAt w la nl (at0 L)) (hdM : IntsAt w lb nm (at0 M)) (hL : L.length = nl) (hM : M.length = nm) (hl : nl ≤ 1048576) (hm : nm ≤ 1048576) :
    Calls Tryd.prog 19 #[.agg #[.int .i64 m, .slice ad n cap], .int .i64 c, .slice la nl cl, .slice lb nm cm] w fun e w' => BPost (ifBR m n G c L M) w.heap.size e w' ∧ Below w.heap.size w w' := by
  obtain ⟨wz, hwz⟩ : ∃ wz, wz = (w.alloc (.cells #[.int .i64 m, .slice ad n cap] 25)).alloc (.cells #[.int .i64 0, .slice none 0 0] 25) := ⟨_, rfl⟩
  have BL : Below w.heap.size w wz := by rw [hwz]; exact ((Below.refl _ _).alloc (Nat.le_refl _) _).alloc (by simp) _
  have p0 : wz.cell? ⟨w.heap.size, 0, none⟩ = some (.int .i64 m) := by rw [hwz]; simp [go_sem]
  have p1 : wz.cell? ⟨w.heap.size, 1, none⟩ = some (.slice ad n cap) := by rw [hwz]; simp [go_sem]
  have s0 : wz.cell? ⟨w.heap.size + 1, 0, none⟩ = some (.int .i64 0) := by rw [hwz]; simp [go_sem]
  have s1 : wz.cell? ⟨w.heap.size + 1, 1, none⟩ = some (.slice none 0 0) := by rw [hwz]; simp [go_sem]
  have f0 : wz.frozen? ⟨w.heap.size + 1, 0, none⟩ = false := by rw [hwz]; simp [go_sem]
  have f1 : wz.frozen? ⟨w.heap.size + 1, 1, none⟩ = false := by rw [hwz]; simp [go_sem]
  have lo : w.heap.size + 2 ≤ wz.heap.size := by rw [hwz]; simp
  have HI0 : Hid (KIn w (kS m n G) ad cap) := ⟨hd, hnn, hspot, hlow⟩
  have HW := hide hw
  have HDL := hide hdL
  have HDM := hide hdM
  have HL := hide hL
  have HM := hide hM
  have HZ := hide hwz
  clear hd hwz hw hnn hspot hlow hdL hdM hL hM
  go_enter Tryd.func19, Tryd.ntmps19
  go_wp2_with fail
  rw [← unhide HZ]
  refine (sNetOk_any m ad n cap G _ ((unhide HI0).1.later BL) (unhide HW) hn).mono ?_
  rintro e w1 ⟨rfl, b1⟩
  replace p0 := cell_later b1 p0
  replace p1 := cell_later b1 p1
  replace s0 := cell_later b1 s0
  replace s1 := cell_later b1 s1
  replace f0 := (b1.frozen (p := ⟨w.heap.size + 1, 0, none⟩) (by have := BL.size; simp only; omega)).trans f0
  replace f1 := (b1.frozen (p := ⟨w.heap.size + 1, 1, none⟩) (by have := BL.size; simp only; omega)).trans f1
  replace lo := Nat.le_trans lo b1.size
  replace BL := BL.trans (b1.mono BL.size)
  clear b1
  cases hP : netB m n G
  · have HN := hide (ifBR_no (m := m) (n := n) (G := G) (c := c) (L := L) (M := M) (fun h => by have := h.1; rw [hP] at this; cases this))
    have e1 : w.heap.size + 1 < w1.heap.size := by omega
    go_wp2
    refine bodyPost_ret (v := .tuple #[.agg #[.int .i64 0, .slice none 0 0], .slice (some ⟨w1.heap.size, 0, none⟩) 0 0]) (by simp [results, Tryd.results19, go_sem, s0, s1, e1]) rfl ?_
    rw [unhide HN]
    exact ⟨⟨none, 0, some ⟨w1.heap.size, 0, none⟩, 0, by simp [nilB], ⟨Or.inl rfl, Or.inl rfl⟩, Or.inl rfl, Or.inl rfl⟩, (by repeat (first | exact Below.refl _ _ | assumption | refine below_drewN ?_ _ | refine Below.drew ?_ | refine Below.alloc ?_ (by first | exact Nat.le_refl _ | exact Below.size (by assumption) | (simp; done) | (simp; omega)) _ | refine Below.setCell ?_ (by first | exact Nat.le_refl _ | exact Below.size (by assumption) | (simp; done) | (simp; omega)) _ | refine Below.trans ?_ (by assumption)))⟩
  · obtain ⟨hm0, hm1, hn6, _⟩ := netB_iff.1 hP
    go_wp2_with fail
    refine (l7Right_any m ad n cap la nl cl L _ hm0 hm1 hn6 ((unhide HDL).later BL) (unhide HL) hl).mono ?_
    rintro e w2 ⟨rfl, b2⟩
    replace p0 := cell_later b2 p0
    replace p1 := cell_later b2 p1
    replace s0 := cell_later b2 s0
    replace s1 := cell_later b2 s1
    replace f0 := (b2.frozen (p := ⟨w.heap.size + 1, 0, none⟩) (by have := BL.size; simp only; omega)).trans f0
    replace f1 := (b2.frozen (p := ⟨w.heap.size + 1, 1, none⟩) (by have := BL.size; simp only; omega)).trans f1
    replace lo := Nat.le_trans lo b2.size
    replace BL := BL.trans (b2.mono BL.size)
    clear b2
    cases hA : rgtB m n L
    · have HN := hide (ifBR_no (m := m) (n := n) (G := G) (c := c) (L := L) (M := M) (fun h => by have := rgtB_yes h.2.1; rw [hA] at this; cases this))
      have e1 : w.heap.size + 1 < w2.heap.size := by omega
      go_wp2
      refine bodyPost_ret (v := .tuple #[.agg #[.int .i64 0, .slice none 0 0], .slice (some ⟨w2.heap.size, 0, none⟩) 0 0]) (by simp [results, Tryd.results19, go_sem, s0, s1, e1]) rfl ?_
      rw [unhide HN]
      exact ⟨⟨none, 0, some ⟨w2.heap.size, 0, none⟩, 0, by simp [nilB], ⟨Or.inl rfl, Or.inl rfl⟩, Or.inl rfl, Or.inl rfl⟩, (by repeat (first | exact Below.refl _ _ | assumption | refine below_drewN ?_ _ | refine Below.drew ?_ | refine Below.alloc ?_ (by first | exact Nat.le_refl _ | exact Below.size (by assumption) | (simp; done) | (simp; omega)) _ | refine Below.setCell ?_ (by first | exact Nat.le_refl _ | exact Below.size (by assumption) | (simp; done) | (simp; omega)) _ | refine Below.trans ?_ (by assumption)))⟩
    · have hA' := rgtB_iff.1 hA
      go_wp2_with fail
      refine (l7Right_any m ad n cap lb nm cm M _ hm0 hm1 hn6 ((unhide HDM).later BL) (unhide HM) hm).mono ?_
      rintro e w3 ⟨rfl, b3⟩
      replace p0 := cell_later b3 p0
      replace p1 := cell_later b3 p1
      replace s0 := cell_later b3 s0
      replace s1 := cell_later b3 s1
      replace f0 := (b3.frozen (p := ⟨w.heap.size + 1, 0, none⟩) (by have := BL.size; simp only; omega)).trans f0
      replace f1 := (b3.frozen (p := ⟨w.heap.size + 1, 1, none⟩) (by have := BL.size; simp only; omega)).trans f1
      replace lo := Nat.le_trans lo b3.size
      replace BL := BL.trans (b3.mono BL.size)
      clear b3
      cases hB : rgtB m n M
      · have HN := hide (ifBR_no (m := m) (n := n) (G := G) (c := c) (L := L) (M := M) (fun h => by have := rgtB_yes h.2.2.1; rw [hB] at this; cases this))
        have e1 : w.heap.size + 1 < w3.heap.size := by omega
        go_wp2
        refine bodyPost_ret (v := .tuple #[.agg #[.int .i64 0, .slice none 0 0], .slice (some ⟨w3.heap.size, 0, none⟩) 0 0]) (by simp [results, Tryd.results19, go_sem, s0, s1, e1]) rfl ?_
        rw [unhide HN]
        exact ⟨⟨none, 0, some ⟨w3.heap.size, 0, none⟩, 0, by simp [nilB], ⟨Or.inl rfl, Or.inl rfl⟩, Or.inl rfl, Or.inl rfl⟩, (by repeat (first | exact Below.refl _ _ | assumption | refine below_drewN ?_ _ | refine Below.drew ?_ | refine Below.alloc ?_ (by first | exact Nat.le_refl _ | exact Below.size (by assumption) | (simp; done) | (simp; omega)) _ | refine Below.setCell ?_ (by first | exact Nat.le_refl _ | exact Below.size (by assumption) | (simp; done) | (simp; omega)) _ | refine Below.trans ?_ (by assumption)))⟩
      · have hB' := rgtB_iff.1 hB
        by_cases hlm : nl = nm
        · subst hlm
          have kb : ((nl : Int) != (nl : Int)) = false := by simp
          go_wp2_with fail
          refine (l6Mark_any _ _ _ _ _ _ hm0 hm1 (by omega)).mono ?_
          rintro e w4 ⟨rfl, b4⟩
          replace p0 := cell_later b4 p0
          replace p1 := cell_later b4 p1
          replace s0 := cell_later b4 s0
          replace s1 := cell_later b4 s1
          replace f0 := (b4.frozen (p := ⟨w.heap.size + 1, 0, none⟩) (by have := BL.size; simp only; omega)).trans f0
          replace f1 := (b4.frozen (p := ⟨w.heap.size + 1, 1, none⟩) (by have := BL.size; simp only; omega)).trans f1
          replace lo := Nat.le_trans lo b4.size
          replace BL := BL.trans (b4.mono BL.size)
          clear b4
          cases hC : mkP m n c
          · have HN := hide (ifBR_no (m := m) (n := n) (G := G) (c := c) (L := L) (M := M) (fun h => by have := h.2.2.2.2; rw [hC] at this; cases this))
            have e1 : w.heap.size + 1 < w4.heap.size := by omega
            go_wp2
            refine bodyPost_ret (v := .tuple #[.agg #[.int .i64 0, .slice none 0 0], .slice (some ⟨w4.heap.size, 0, none⟩) 0 0]) (by simp [results, Tryd.results19, go_sem, s0, s1, e1]) rfl ?_
            rw [unhide HN]
            exact ⟨⟨none, 0, some ⟨w4.heap.size, 0, none⟩, 0, by simp [nilB], ⟨Or.inl rfl, Or.inl rfl⟩, Or.inl rfl, Or.inl rfl⟩, (by repeat (first | exact Below.refl _ _ | assumption | refine below_drewN ?_ _ | refine Below.drew ?_ | refine Below.alloc ?_ (by first | exact Nat.le_refl _ | exact Below.size (by assumption) | (simp; done) | (simp; omega)) _ | refine Below.setCell ?_ (by first | exact Nat.le_refl _ | exact Below.size (by assumption) | (simp; done) | (simp; omega)) _ | refine Below.trans ?_ (by assumption)))⟩
          · have HN := hide (ifBR_yes (m := m) (n := n) (G := G) (c := c) (L := L) (M := M) ⟨hP, hA', hB', by rw [unhide HL, unhide HM], hC⟩)
            have h1 : 1 ≤ nl := by rw [← unhide HL]; exact hA'.2.1
            have h4 : nl ≤ 4 := by rw [← unhide HL]; exact hA'.2.2
            have hc := (l7Ifs_any (kS m n G) ad cap c la nl cl L lb cm M w4 (kS_ok hP) ((unhide HI0).later BL) (kS_mk hP hC) ((unhide HDL).later BL) ((unhide HDM).later BL) (unhide HL) (unhide HM) (by omega) (hA'.mk hP) (hB'.mk hP))
            have HKQ := hide (mapK_good (f := fun t a b => oneK 1 t c a b) (kS_ok hP) (hA'.mk (G := G) hP) (hB'.mk (G := G) hP) (fun t a b h1 h2 h3 h4 => oneK_good (z := 1) (by omega) h1 ((kS_mk hP hC).le h2) h3 h4) nl (by rw [unhide HL]; omega) (by rw [unhide HM]; omega)).1.2.2.1
            have hlen : (ifsK 1 c (kS m n G) L M nl).2.length = nl := mapK_len _ _ _ _ _
            have hq : ifsK 1 c (kS m n G) L M L.length = ifsK 1 c (kS m n G) L M nl := by rw [unhide HL]
            rw [hq] at HN
            have HKQ' : Hid ((ifsK 1 c (kS m n G) L M nl).1.n ≤ 600) := unhide HKQ
            have HC := hide hc
            clear hc hA hB hC hA' hB' hP HKQ hq
            generalize ifsK 1 c (kS m n G) L M nl = q at *
            have HLEN := hide hlen
            clear hlen
            go_wp2_with fail
            refine (unhide HC).mono ?_
            rintro e w5 ⟨⟨a5, c5, g5, cp5, rfl, hi5, pl5, ow5, ap5⟩, b5⟩
            replace p0 := cell_later b5 p0
            replace p1 := cell_later b5 p1
            replace s0 := cell_later b5 s0
            replace s1 := cell_later b5 s1
            replace f0 := (b5.frozen (p := ⟨w.heap.size + 1, 0, none⟩) (by have := BL.size; simp only; omega)).trans f0
            replace f1 := (b5.frozen (p := ⟨w.heap.size + 1, 1, none⟩) (by have := BL.size; simp only; omega)).trans f1
            replace lo := Nat.le_trans lo b5.size
            replace BL := BL.trans (b5.mono BL.size)
            clear b5
            rw [unhide HLEN] at ow5
            rw [unhide HLEN]
            have HI5 := hide hi5
            have HO5 := hide ow5
            have lg5 := (own_cap ow5).2
            clear hi5 pl5 ow5 ap5
            go_wp2_with fail
            refine (l7Told_any q.1 a5 c5 g5 nl cp5 q.2 _ (unhide HKQ') (unhide HI5) lg5 (own_ints (unhide HO5) (unhide HLEN)) (unhide HLEN) (by omega) h1).mono ?_
            rintro e w6 ⟨⟨a6, c6, g6, cp6, rfl, ⟨hg6, la6⟩, hi6, li6⟩, b6⟩
            have e5 : w.heap.size + 2 ≤ w5.heap.size := lo
            replace p0 := cell_later b6 p0
            replace p1 := cell_later b6 p1
            replace s0 := cell_later b6 s0
            replace s1 := cell_later b6 s1
            replace f0 := (b6.frozen (p := ⟨w.heap.size + 1, 0, none⟩) (by have := BL.size; simp only; omega)).trans f0
            replace f1 := (b6.frozen (p := ⟨w.heap.size + 1, 1, none⟩) (by have := BL.size; simp only; omega)).trans f1
            replace lo := Nat.le_trans lo b6.size
            replace BL := BL.trans (b6.mono BL.size)
            clear b6
            have HG6 := hide (hg6.apart (la6.ne (B := w.heap.size + 1) (by omega)) (mov2c w6 (w.heap.size + 1) (.int .i64 (brK (q.1, q.2)).m) (.slice a6 (brK (q.1, q.2)).n c6)))
            have HI6 := hide (hi6.mov (li6.ne (B := w.heap.size + 1) (by omega)) (mov2c w6 (w.heap.size + 1) (.int .i64 (brK (q.1, q.2)).m) (.slice a6 (brK (q.1, q.2)).n c6)))
            have LA6 := hide (la6.mono (show w.heap.size ≤ w5.heap.size by omega))
            have LI6 := hide (li6.mono (show w.heap.size ≤ w5.heap.size by omega))
            have HN' : Hid (ifBR m n G c L M = brK (q.1, q.2)) := unhide HN
            clear hg6 hi6 la6 li6 HN
            generalize brK (q.1, q.2) = r at *
            go_wp2
            refine bodyPost_ret (v := .tuple #[.agg #[.int .i64 r.m, .slice a6 r.n c6], .slice g6 r.L.length cp6]) (by simp [results, Tryd.results19, go_sem, s0, s1]) rfl ?_
            rw [unhide HN']
            exact ⟨⟨a6, c6, g6, cp6, rfl, ⟨unhide HG6, unhide LA6⟩, unhide HI6, unhide LI6⟩, BL.trans ((mov2c w6 (w.heap.size + 1) _ _).below (by omega) BL.size)⟩
        · have kb : ((nl : Int) != (nm : Int)) = true := by simp; omega
          have HN := hide (ifBR_no (m := m) (n := n) (G := G) (c := c) (L := L) (M := M) (fun h => hlm (by have := h.2.2.2.1; rw [unhide HL, unhide HM] at this; exact this)))
          have e1 : w.heap.size + 1 < w3.heap.size := by omega
          go_wp2
          refine bodyPost_ret (v := .tuple #[.agg #[.int .i64 0, .slice none 0 0], .slice (some ⟨w3.heap.size, 0, none⟩) 0 0]) (by simp [results, Tryd.results19, go_sem, s0, s1, e1]) rfl ?_
          rw [unhide HN]
          exact ⟨⟨none, 0, some ⟨w3.heap.size, 0, none⟩, 0, by simp [nilB], ⟨Or.inl rfl, Or.inl rfl⟩, Or.inl rfl, Or.inl rfl⟩, (by repeat (first | exact Below.refl _ _ | assumption | refine below_drewN ?_ _ | refine Below.drew ?_ | refine Below.alloc ?_ (by first | exact Nat.le_refl _ | exact Below.size (by assumption) | (simp; done) | (simp; omega)) _ | refine Below.setCell ?_ (by first | exact Nat.le_refl _ | exact Below.size (by assumption) | (simp; done) | (simp; omega)) _ | refine Below.trans ?_ (by assumption)))⟩
end Go.Proofs.YtmpiiilkaadhfaaDoor
