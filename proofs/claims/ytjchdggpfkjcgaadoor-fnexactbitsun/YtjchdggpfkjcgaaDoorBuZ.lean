/- BitsUn of the model. -/
import Derived.Test.YtjchdggpfkjcgaaDoorBuT
namespace Go.Proofs.YtjchdggpfkjcgaaDoor
open Go.ChangeShapes Go.WideShapes Go.ChangeAt Go.RowKit Go.Joins
set_option linter.unusedVariables false
set_option maxRecDepth 100000
set_option linter.unusedSimpArgs false

set_option maxRecDepth 100000 in
set_option maxHeartbeats 2000000 in
theorem l7Un_any (s : KS) (ad : Option Addr) (cap : Nat) (op : Int) (la : Option Addr) (nl cl : Nat) (L : List Int) (w : World) (hk : KOk s) (hi : KIn w s ad cap) (hop : op = 1 ∨ op = 2) (hdL : IntsAt w la nl (at0 L)) (hL : L.length = nl) (hl : nl ≤ 100) (mL : MkL s L) :
    Calls Tryd.prog 25 #[.agg #[.int .i64 s.m, .slice ad s.n cap, .bool s.ok], .int .i64 op, .slice la nl cl] w fun e w' => LPost (unK 1 op s L) ad w.heap.size e w' ∧ Below w.heap.size w w' := by
  have hbd : ∀ i, i < nl → -700 ≤ at0 L i ∧ at0 L i ≤ 700 := fun i hi => ⟨(mL i (by rw [hL]; exact hi)).1, (mL i (by rw [hL]; exact hi)).2.1⟩
  obtain ⟨wz, hwz⟩ : ∃ wz, wz = (w.alloc (.cells #[.int .i64 s.m, .slice ad s.n cap, .bool s.ok] 48)).alloc (.cells #[.int .i64 0, .slice none 0 0, .bool false] 48) := ⟨_, rfl⟩
  have BL : Below w.heap.size w wz := by rw [hwz]; exact ((Below.refl _ _).alloc (Nat.le_refl _) _).alloc (by simp) _
  have kp0 : wz.cell? ⟨w.heap.size, 0, none⟩ = some (.int .i64 s.m) := by rw [hwz]; simp [go_sem]
  have kp1 : wz.cell? ⟨w.heap.size, 1, none⟩ = some (.slice ad s.n cap) := by rw [hwz]; simp [go_sem]
  have kp2 : wz.cell? ⟨w.heap.size, 2, none⟩ = some (.bool s.ok) := by rw [hwz]; simp [go_sem]
  have s0 : wz.cell? ⟨w.heap.size + 1, 0, none⟩ = some (.int .i64 0) := by rw [hwz]; simp [go_sem]
  have s1 : wz.cell? ⟨w.heap.size + 1, 1, none⟩ = some (.slice none 0 0) := by rw [hwz]; simp [go_sem]
  have s2 : wz.cell? ⟨w.heap.size + 1, 2, none⟩ = some (.bool false) := by rw [hwz]; simp [go_sem]
  have f0 : wz.frozen? ⟨w.heap.size + 1, 0, none⟩ = false := by rw [hwz]; simp [go_sem]
  have f1 : wz.frozen? ⟨w.heap.size + 1, 1, none⟩ = false := by rw [hwz]; simp [go_sem]
  have f2 : wz.frozen? ⟨w.heap.size + 1, 2, none⟩ = false := by rw [hwz]; simp [go_sem]
  have lo : w.heap.size + 2 ≤ wz.heap.size := by rw [hwz]; simp
  have LZ : Hid (w.heap.size + 2 ≤ wz.heap.size) := lo
  have HX := hide (hi.later BL)
  have HD := hide (hdL.later BL)
  have HAL := hide hi.2.2.2
  have HK := hide hk
  have HML := hide mL
  have HZ := hide hwz
  clear hwz hi hdL hk mL
  by_cases o1 : op = 1
  · subst o1
    have HU : Hid (unK 1 1 s L = (s, ngL L)) := rfl
    clear hop
    go_enter Tryd.func25, Tryd.ntmps25
    go_wp2
    rw [← unhide HZ]
    go_region_held3 (fun w' => w'.cell? ⟨w.heap.size, 0, none⟩ = some (.int .i64 s.m) ∧ w'.cell? ⟨w.heap.size, 1, none⟩ = some (.slice ad s.n cap) ∧ w'.cell? ⟨w.heap.size, 2, none⟩ = some (.bool s.ok)) (first | exact ⟨kp0, kp1, kp2⟩ | go_keep)
      (first | (go_at_call 41; refine (l7Turn_any la nl cl L _ (by exact unhide HD) hL hl hbd).mono ?_; rintro e wq ⟨g1, cp1, rfl, n1⟩; have gb1 := Nat.le_trans lo (by exact own_base n1.1); have la1 := (by exact Nat.le_trans (Nat.le_add_right _ 2) lo : w.heap.size ≤ _); have kp0 := cell_later n1.2 (by exact kp0); have kp1 := cell_later n1.2 (by exact kp1); have kp2 := cell_later n1.2 (by exact kp2); have f0 := (n1.2.frozen (p := ⟨w.heap.size + 1, 0, none⟩) (World.block_lt_of_cell? _ _ (by exact s0))).trans (by exact f0); have f1 := (n1.2.frozen (p := ⟨w.heap.size + 1, 1, none⟩) (World.block_lt_of_cell? _ _ (by exact s1))).trans (by exact f1); have f2 := (n1.2.frozen (p := ⟨w.heap.size + 1, 2, none⟩) (World.block_lt_of_cell? _ _ (by exact s2))).trans (by exact f2); have s0 := cell_later n1.2 (by exact s0); have s1 := cell_later n1.2 (by exact s1); have s2 := cell_later n1.2 (by exact s2); have HX := hide (KIn.later (by exact unhide HX) n1.2); have HD := hide (IntsAt.later (by exact unhide HD) n1.2); have lo := Nat.le_trans (by exact lo) n1.2.size; have BL := (by first | exact BL.trans (n1.2.mono BL.size) | exact BL.drew.trans (n1.2.mono BL.size) | exact BL.drew.drew.trans (n1.2.mono BL.size) : Below w.heap.size w _); have N1 := hide n1; have I1 := hide (own_at n1.1); try have I2 := hide (IntsAt.later (by exact unhide I2) n1.2)))
    all_goals go_wp2
    all_goals
      refine bodyPost_ret (v := .tuple #[.agg #[.int .i64 s.m, .slice ad s.n cap, .bool s.ok], .slice (some ⟨g1, 0, none⟩) nl cp1]) (by simp [results, Tryd.results25, go_sem, s0, s1, s2]) rfl ?_
      rw [unhide HU]
      have mv := mov3 wq (w.heap.size + 1) (.int .i64 s.m) (.slice ad s.n cap) (.bool s.ok)
      have hln : (ngL L).length = nl := (ngL_len L).trans hL
      refine ⟨⟨ad, cap, g1, cp1, by rw [hln], (unhide HX).mov (fun p hp => by have := unhide HAL p hp; omega) mv, Pl.refl _ _, ?_, fun p hp => by have := unhide HAL p hp; omega⟩, bel3 BL (by omega) _ _ _⟩
      rw [hln]
      exact own_mono ((unhide N1).1.kept (grown_mov mv) (Or.inr (by simp [Value.ownBlock]; omega))) (Nat.le_trans (Nat.le_add_right _ 2) (unhide LZ))
  · have o2 : op = 2 := hop.resolve_left o1
    subst o2
    have HU : Hid (unK 1 2 s L = ((addS 1 (flL (-1) nl) (ngL L) s 1 nl).1.1, (addS 1 (flL (-1) nl) (ngL L) s 1 nl).2)) := by show _ = _; rw [← hL]; rfl
    clear hop o1
    go_enter Tryd.func25, Tryd.ntmps25
    go_wp2
    rw [← unhide HZ]
    go_region_held3 (fun w' => w'.cell? ⟨w.heap.size, 0, none⟩ = some (.int .i64 s.m) ∧ w'.cell? ⟨w.heap.size, 1, none⟩ = some (.slice ad s.n cap) ∧ w'.cell? ⟨w.heap.size, 2, none⟩ = some (.bool s.ok)) (first | exact ⟨kp0, kp1, kp2⟩ | go_keep)
      (first | (go_at_call 43; refine (l7Fill_any _ nl _ hl).mono ?_; rintro e wq ⟨g2, cp2, rfl, n2⟩; have kp0 := cell_later n2.2 (by exact kp0); have kp1 := cell_later n2.2 (by exact kp1); have kp2 := cell_later n2.2 (by exact kp2); have f0 := (n2.2.frozen (p := ⟨w.heap.size + 1, 0, none⟩) (World.block_lt_of_cell? _ _ (by exact s0))).trans (by exact f0); have f1 := (n2.2.frozen (p := ⟨w.heap.size + 1, 1, none⟩) (World.block_lt_of_cell? _ _ (by exact s1))).trans (by exact f1); have f2 := (n2.2.frozen (p := ⟨w.heap.size + 1, 2, none⟩) (World.block_lt_of_cell? _ _ (by exact s2))).trans (by exact f2); have s0 := cell_later n2.2 (by exact s0); have s1 := cell_later n2.2 (by exact s1); have s2 := cell_later n2.2 (by exact s2); have HX := hide (KIn.later (by exact unhide HX) n2.2); have HD := hide (IntsAt.later (by exact unhide HD) n2.2); have lo := Nat.le_trans (by exact lo) n2.2.size; have BL := (by first | exact BL.trans (n2.2.mono BL.size) | exact BL.drew.trans (n2.2.mono BL.size) | exact BL.drew.drew.trans (n2.2.mono BL.size) : Below w.heap.size w _); have I2 := hide (own_at n2.1); try have I1 := hide (IntsAt.later (by exact unhide I1) n2.2)) | (go_at_call 41; refine (l7Turn_any la nl cl L _ (by exact unhide HD) hL hl hbd).mono ?_; rintro e wq ⟨g1, cp1, rfl, n1⟩; have gb1 := Nat.le_trans lo (by exact own_base n1.1); have la1 := (by exact Nat.le_trans (Nat.le_add_right _ 2) lo : w.heap.size ≤ _); have kp0 := cell_later n1.2 (by exact kp0); have kp1 := cell_later n1.2 (by exact kp1); have kp2 := cell_later n1.2 (by exact kp2); have f0 := (n1.2.frozen (p := ⟨w.heap.size + 1, 0, none⟩) (World.block_lt_of_cell? _ _ (by exact s0))).trans (by exact f0); have f1 := (n1.2.frozen (p := ⟨w.heap.size + 1, 1, none⟩) (World.block_lt_of_cell? _ _ (by exact s1))).trans (by exact f1); have f2 := (n1.2.frozen (p := ⟨w.heap.size + 1, 2, none⟩) (World.block_lt_of_cell? _ _ (by exact s2))).trans (by exact f2); have s0 := cell_later n1.2 (by exact s0); have s1 := cell_later n1.2 (by exact s1); have s2 := cell_later n1.2 (by exact s2); have HX := hide (KIn.later (by exact unhide HX) n1.2); have HD := hide (IntsAt.later (by exact unhide HD) n1.2); have lo := Nat.le_trans (by exact lo) n1.2.size; have BL := (by first | exact BL.trans (n1.2.mono BL.size) | exact BL.drew.trans (n1.2.mono BL.size) | exact BL.drew.drew.trans (n1.2.mono BL.size) : Below w.heap.size w _); have N1 := hide n1; have I1 := hide (own_at n1.1); try have I2 := hide (IntsAt.later (by exact unhide I2) n1.2)) | (go_at_call 42; refine (l7Add_any s ad cap _ nl _ (flL (-1) nl) _ _ (ngL L) 1 _ HK.out (by exact unhide HX) (Mk.one HK.out) (by exact unhide I2) (by exact unhide I1) (flL_len _ _) ((ngL_len L).trans hL) hl (MkL.fl (Mk.not HK.out)) HML.out.ng).mono ?_; rintro e wq ⟨⟨a3, c3, g3, cp3, rfl, hx3, pl3, ow3, ap3⟩, b3⟩; have lo3 := lo; have gb3 := Nat.le_trans lo (by exact own_base ow3); have kp0 := cell_later b3 (by exact kp0); have kp1 := cell_later b3 (by exact kp1); have kp2 := cell_later b3 (by exact kp2); have f0 := (b3.frozen (p := ⟨w.heap.size + 1, 0, none⟩) (World.block_lt_of_cell? _ _ (by exact s0))).trans (by exact f0); have f1 := (b3.frozen (p := ⟨w.heap.size + 1, 1, none⟩) (World.block_lt_of_cell? _ _ (by exact s1))).trans (by exact f1); have f2 := (b3.frozen (p := ⟨w.heap.size + 1, 2, none⟩) (World.block_lt_of_cell? _ _ (by exact s2))).trans (by exact f2); have s0 := cell_later b3 (by exact s0); have s1 := cell_later b3 (by exact s1); have s2 := cell_later b3 (by exact s2); have HX := hide (KIn.later (by exact unhide HX) b3); have HD := hide (IntsAt.later (by exact unhide HD) b3); have lo := Nat.le_trans (by exact lo) b3.size; have BL := (by first | exact BL.trans (b3.mono BL.size) | exact BL.drew.trans (b3.mono BL.size) | exact BL.drew.drew.trans (b3.mono BL.size) : Below w.heap.size w _); have HX3 := hide hx3; have PL3 := hide pl3; have OW3 := hide ow3; have AP3 := hide ap3))
    all_goals go_wp2
    all_goals
      have HLEN : Hid ((addS 1 (flL (-1) nl) (ngL L) s 1 nl).2.length = nl) := addS_len _ _ _ _ _ _
      generalize (addS 1 (flL (-1) nl) (ngL L) s 1 nl).1.1 = q at *
      generalize (addS 1 (flL (-1) nl) (ngL L) s 1 nl).2 = R at *
      rw [unhide HU]
      refine bodyPost_ret (v := .tuple #[.agg #[.int .i64 q.m, .slice a3 q.n c3, .bool q.ok], .slice (some ⟨g3, 0, none⟩) R.length cp3]) (by simp [results, Tryd.results25, go_sem, s0, s1, s2]) rfl ?_
      have mv := mov3 wq (w.heap.size + 1) (.int .i64 q.m) (.slice a3 q.n c3) (.bool q.ok)
      exact ⟨⟨a3, c3, g3, cp3, rfl, (unhide HX3).mov ((unhide PL3).apart (unhide HAL) (by omega) (by omega)) mv, (unhide PL3).mono (by omega), own_mono ((unhide OW3).kept (grown_mov mv) (Or.inr (by simp [Value.ownBlock]; omega))) (by omega), unhide AP3⟩, bel3 BL (by omega) _ _ _⟩

set_option maxRecDepth 100000 in
set_option maxHeartbeats 2000000 in
theorem sBitsUn_any (m : Int) (ad : Option Addr) (n cap : Nat) (G : Nat → Gt) (op : Int) (la : Option Addr) (nl cl : Nat) (L : List Int) (w : World) (hd : GtsAt w ad n G) (hw : WG n G) (hnn : ad = none → n = 0 ∧ cap = 0) (hspot : ∀ p, ad = some p → p.spot = none) (hlow : ∀ p, ad = some p → p.block < w.heap.size) (hn : n ≤ 1048576)
    (hdL : IntsAt w la nl (at0 L)) (hL : L.length = nl) (hl : nl ≤ 1048576) :
    Calls Tryd.prog 7 #[.agg #[.int .i64 m, .slice ad n cap], .int .i64 op, .slice la nl cl] w fun e w' => BPost (unBR m n G op L) w.heap.size e w' ∧ Below w.heap.size w w' := by
  obtain ⟨wz, hwz⟩ : ∃ wz, wz = (w.alloc (.cells #[.int .i64 m, .slice ad n cap] 29)).alloc (.cells #[.int .i64 0, .slice none 0 0] 29) := ⟨_, rfl⟩
  have BL : Below w.heap.size w wz := by rw [hwz]; exact ((Below.refl _ _).alloc (Nat.le_refl _) _).alloc (by simp) _
  have p0 : wz.cell? ⟨w.heap.size, 0, none⟩ = some (.int .i64 m) := by rw [hwz]; simp [go_sem]
  have p1 : wz.cell? ⟨w.heap.size, 1, none⟩ = some (.slice ad n cap) := by rw [hwz]; simp [go_sem]
  have s0 : wz.cell? ⟨w.heap.size + 1, 0, none⟩ = some (.int .i64 0) := by rw [hwz]; simp [go_sem]
  have s1 : wz.cell? ⟨w.heap.size + 1, 1, none⟩ = some (.slice none 0 0) := by rw [hwz]; simp [go_sem]
  have f0 : wz.frozen? ⟨w.heap.size + 1, 0, none⟩ = false := by rw [hwz]; simp [go_sem]
  have f1 : wz.frozen? ⟨w.heap.size + 1, 1, none⟩ = false := by rw [hwz]; simp [go_sem]
  have lo : w.heap.size + 2 ≤ wz.heap.size := by rw [hwz]; simp
  have HI0 : Hid (KIn w (kS m n G) ad cap) := ⟨hd, hnn, hspot, hlow⟩
  have HW := hide hw
  have HDL := hide hdL
  have HL := hide hL
  have HZ := hide hwz
  clear hd hwz hw hnn hspot hlow hdL hL
  go_enter Tryd.func7, Tryd.ntmps7
  go_wp2_with fail
  rw [← unhide HZ]
  refine (sNetOk_any m ad n cap G _ ((unhide HI0).1.later BL) (unhide HW) hn).mono ?_
  rintro e w1 ⟨rfl, b1⟩
  replace p0 := cell_later b1 p0
  replace p1 := cell_later b1 p1
  replace s0 := cell_later b1 s0
  replace s1 := cell_later b1 s1
  replace f0 := (b1.frozen (p := ⟨w.heap.size + 1, 0, none⟩) (by have := BL.size; simp only; omega)).trans f0
  replace f1 := (b1.frozen (p := ⟨w.heap.size + 1, 1, none⟩) (by have := BL.size; simp only; omega)).trans f1
  replace lo := Nat.le_trans lo b1.size
  replace BL := BL.trans (b1.mono BL.size)
  clear b1
  cases hP : netB m n G
  · have HN := hide (unBR_no (m := m) (n := n) (G := G) (op := op) (L := L) (fun h => by have := h.1; rw [hP] at this; cases this))
    have e1 : w.heap.size + 1 < w1.heap.size := by omega
    go_wp2
    refine bodyPost_ret (v := .tuple #[.agg #[.int .i64 0, .slice none 0 0], .slice (some ⟨w1.heap.size, 0, none⟩) 0 0]) (by simp [results, Tryd.results7, go_sem, s0, s1, e1]) rfl ?_
    rw [unhide HN]
    exact ⟨⟨none, 0, some ⟨w1.heap.size, 0, none⟩, 0, by simp [nilB], ⟨Or.inl rfl, Or.inl rfl⟩, Or.inl rfl, Or.inl rfl⟩, (by repeat (first | exact Below.refl _ _ | assumption | refine below_drewN ?_ _ | refine Below.drew ?_ | refine Below.alloc ?_ (by first | exact Nat.le_refl _ | exact Below.size (by assumption) | (simp; done) | (simp; omega)) _ | refine Below.setCell ?_ (by first | exact Nat.le_refl _ | exact Below.size (by assumption) | (simp; done) | (simp; omega)) _ | refine Below.trans ?_ (by assumption)))⟩
  · obtain ⟨hm0, hm1, hn6, _⟩ := netB_iff.1 hP
    go_wp2_with fail
    refine (l7Right_any m ad n cap la nl cl L _ hm0 hm1 hn6 ((unhide HDL).later BL) (unhide HL) hl).mono ?_
    rintro e w2 ⟨rfl, b2⟩
    replace p0 := cell_later b2 p0
    replace p1 := cell_later b2 p1
    replace s0 := cell_later b2 s0
    replace s1 := cell_later b2 s1
    replace f0 := (b2.frozen (p := ⟨w.heap.size + 1, 0, none⟩) (by have := BL.size; simp only; omega)).trans f0
    replace f1 := (b2.frozen (p := ⟨w.heap.size + 1, 1, none⟩) (by have := BL.size; simp only; omega)).trans f1
    replace lo := Nat.le_trans lo b2.size
    replace BL := BL.trans (b2.mono BL.size)
    clear b2
    cases hA : rgtB m n L
    · have HN := hide (unBR_no (m := m) (n := n) (G := G) (op := op) (L := L) (fun h => by have := rgtB_yes h.2.1; rw [hA] at this; cases this))
      have e1 : w.heap.size + 1 < w2.heap.size := by omega
      go_wp2
      refine bodyPost_ret (v := .tuple #[.agg #[.int .i64 0, .slice none 0 0], .slice (some ⟨w2.heap.size, 0, none⟩) 0 0]) (by simp [results, Tryd.results7, go_sem, s0, s1, e1]) rfl ?_
      rw [unhide HN]
      exact ⟨⟨none, 0, some ⟨w2.heap.size, 0, none⟩, 0, by simp [nilB], ⟨Or.inl rfl, Or.inl rfl⟩, Or.inl rfl, Or.inl rfl⟩, (by repeat (first | exact Below.refl _ _ | assumption | refine below_drewN ?_ _ | refine Below.drew ?_ | refine Below.alloc ?_ (by first | exact Nat.le_refl _ | exact Below.size (by assumption) | (simp; done) | (simp; omega)) _ | refine Below.setCell ?_ (by first | exact Nat.le_refl _ | exact Below.size (by assumption) | (simp; done) | (simp; omega)) _ | refine Below.trans ?_ (by assumption)))⟩
    · have hA' := rgtB_iff.1 hA
      have h1 : 1 ≤ nl := by rw [← unhide HL]; exact hA'.2.1
      have h4 : nl ≤ 4 := by rw [← unhide HL]; exact hA'.2.2
      by_cases o1 : op = 1
      · subst o1
        have HN := hide (unBR_yes (m := m) (n := n) (G := G) (op := 1) (L := L) ⟨hP, hA', Or.inl rfl⟩)
        have hc := l7Un_any (kS m n G) ad cap 1 la nl cl L w2 (kS_ok hP) ((unhide HI0).later BL) (Or.inl rfl) ((unhide HDL).later BL) (unhide HL) (by omega) (hA'.mk hP)
        have HKQ' : Hid ((unK 1 1 (kS m n G) L).1.n ≤ 600) := (unK_good (by omega) (kS_ok hP) (hA'.mk hP)).2.2.1
        have hlen : (unK 1 1 (kS m n G) L).2.length = nl := (unK_len _ _ _ _).trans (unhide HL)
        have HC := hide hc
        clear hc hA' hP
        generalize unK 1 1 (kS m n G) L = q at *
        have HLEN := hide hlen
        clear hlen
        go_wp2_with fail
        refine (unhide HC).mono ?_
        rintro e w5 ⟨⟨a5, c5, g5, cp5, rfl, hi5, pl5, ow5, ap5⟩, b5⟩
        replace p0 := cell_later b5 p0
        replace p1 := cell_later b5 p1
        replace s0 := cell_later b5 s0
        replace s1 := cell_later b5 s1
        replace f0 := (b5.frozen (p := ⟨w.heap.size + 1, 0, none⟩) (by have := BL.size; simp only; omega)).trans f0
        replace f1 := (b5.frozen (p := ⟨w.heap.size + 1, 1, none⟩) (by have := BL.size; simp only; omega)).trans f1
        replace lo := Nat.le_trans lo b5.size
        replace BL := BL.trans (b5.mono BL.size)
        clear b5
        rw [unhide HLEN] at ow5
        rw [unhide HLEN]
        have HI5 := hide hi5
        have HO5 := hide ow5
        have lg5 := (own_cap ow5).2
        clear hi5 pl5 ow5 ap5
        go_wp2_with fail
        refine (l7Told_any q.1 a5 c5 g5 nl cp5 q.2 _ (unhide HKQ') (unhide HI5) lg5 (own_ints (unhide HO5) (unhide HLEN)) (unhide HLEN) (by omega) h1).mono ?_
        rintro e w6 ⟨⟨a6, c6, g6, cp6, rfl, ⟨hg6, la6⟩, hi6, li6⟩, b6⟩
        have e5 : w.heap.size + 2 ≤ w5.heap.size := lo
        replace p0 := cell_later b6 p0
        replace p1 := cell_later b6 p1
        replace s0 := cell_later b6 s0
        replace s1 := cell_later b6 s1
        replace f0 := (b6.frozen (p := ⟨w.heap.size + 1, 0, none⟩) (by have := BL.size; simp only; omega)).trans f0
        replace f1 := (b6.frozen (p := ⟨w.heap.size + 1, 1, none⟩) (by have := BL.size; simp only; omega)).trans f1
        replace lo := Nat.le_trans lo b6.size
        replace BL := BL.trans (b6.mono BL.size)
        clear b6
        have HG6 := hide (hg6.apart (la6.ne (B := w.heap.size + 1) (by omega)) (mov2c w6 (w.heap.size + 1) (.int .i64 (brK (q.1, q.2)).m) (.slice a6 (brK (q.1, q.2)).n c6)))
        have HI6 := hide (hi6.mov (li6.ne (B := w.heap.size + 1) (by omega)) (mov2c w6 (w.heap.size + 1) (.int .i64 (brK (q.1, q.2)).m) (.slice a6 (brK (q.1, q.2)).n c6)))
        have LA6 := hide (la6.mono (show w.heap.size ≤ w5.heap.size by omega))
        have LI6 := hide (li6.mono (show w.heap.size ≤ w5.heap.size by omega))
        have HN' : Hid (unBR m n G 1 L = brK (q.1, q.2)) := unhide HN
        clear hg6 hi6 la6 li6 HN
        generalize brK (q.1, q.2) = r at *
        go_wp2
        refine bodyPost_ret (v := .tuple #[.agg #[.int .i64 r.m, .slice a6 r.n c6], .slice g6 r.L.length cp6]) (by simp [results, Tryd.results7, go_sem, s0, s1]) rfl ?_
        rw [unhide HN']
        exact ⟨⟨a6, c6, g6, cp6, rfl, ⟨unhide HG6, unhide LA6⟩, unhide HI6, unhide LI6⟩, BL.trans ((mov2c w6 (w.heap.size + 1) _ _).below (by omega) BL.size)⟩
      · by_cases o2 : op = 2
        · subst o2
          have HN := hide (unBR_yes (m := m) (n := n) (G := G) (op := 2) (L := L) ⟨hP, hA', Or.inr rfl⟩)
          have hc := l7Un_any (kS m n G) ad cap 2 la nl cl L w2 (kS_ok hP) ((unhide HI0).later BL) (Or.inr rfl) ((unhide HDL).later BL) (unhide HL) (by omega) (hA'.mk hP)
          have HKQ' : Hid ((unK 1 2 (kS m n G) L).1.n ≤ 600) := (unK_good (by omega) (kS_ok hP) (hA'.mk hP)).2.2.1
          have hlen : (unK 1 2 (kS m n G) L).2.length = nl := (unK_len _ _ _ _).trans (unhide HL)
          have HC := hide hc
          clear hc hA' hP
          generalize unK 1 2 (kS m n G) L = q at *
          have HLEN := hide hlen
          clear hlen
          go_wp2_with fail
          refine (unhide HC).mono ?_
          rintro e w5 ⟨⟨a5, c5, g5, cp5, rfl, hi5, pl5, ow5, ap5⟩, b5⟩
          replace p0 := cell_later b5 p0
          replace p1 := cell_later b5 p1
          replace s0 := cell_later b5 s0
          replace s1 := cell_later b5 s1
          replace f0 := (b5.frozen (p := ⟨w.heap.size + 1, 0, none⟩) (by have := BL.size; simp only; omega)).trans f0
          replace f1 := (b5.frozen (p := ⟨w.heap.size + 1, 1, none⟩) (by have := BL.size; simp only; omega)).trans f1
          replace lo := Nat.le_trans lo b5.size
          replace BL := BL.trans (b5.mono BL.size)
          clear b5
          rw [unhide HLEN] at ow5
          rw [unhide HLEN]
          have HI5 := hide hi5
          have HO5 := hide ow5
          have lg5 := (own_cap ow5).2
          clear hi5 pl5 ow5 ap5
          go_wp2_with fail
          refine (l7Told_any q.1 a5 c5 g5 nl cp5 q.2 _ (unhide HKQ') (unhide HI5) lg5 (own_ints (unhide HO5) (unhide HLEN)) (unhide HLEN) (by omega) h1).mono ?_
          rintro e w6 ⟨⟨a6, c6, g6, cp6, rfl, ⟨hg6, la6⟩, hi6, li6⟩, b6⟩
          have e5 : w.heap.size + 2 ≤ w5.heap.size := lo
          replace p0 := cell_later b6 p0
          replace p1 := cell_later b6 p1
          replace s0 := cell_later b6 s0
          replace s1 := cell_later b6 s1
          replace f0 := (b6.frozen (p := ⟨w.heap.size + 1, 0, none⟩) (by have := BL.size; simp only; omega)).trans f0
          replace f1 := (b6.frozen (p := ⟨w.heap.size + 1, 1, none⟩) (by have := BL.size; simp only; omega)).trans f1
          replace lo := Nat.le_trans lo b6.size
          replace BL := BL.trans (b6.mono BL.size)
          clear b6
          have HG6 := hide (hg6.apart (la6.ne (B := w.heap.size + 1) (by omega)) (mov2c w6 (w.heap.size + 1) (.int .i64 (brK (q.1, q.2)).m) (.slice a6 (brK (q.1, q.2)).n c6)))
          have HI6 := hide (hi6.mov (li6.ne (B := w.heap.size + 1) (by omega)) (mov2c w6 (w.heap.size + 1) (.int .i64 (brK (q.1, q.2)).m) (.slice a6 (brK (q.1, q.2)).n c6)))
          have LA6 := hide (la6.mono (show w.heap.size ≤ w5.heap.size by omega))
          have LI6 := hide (li6.mono (show w.heap.size ≤ w5.heap.size by omega))
          have HN' : Hid (unBR m n G 2 L = brK (q.1, q.2)) := unhide HN
          clear hg6 hi6 la6 li6 HN
          generalize brK (q.1, q.2) = r at *
          go_wp2
          refine bodyPost_ret (v := .tuple #[.agg #[.int .i64 r.m, .slice a6 r.n c6], .slice g6 r.L.length cp6]) (by simp [results, Tryd.results7, go_sem, s0, s1]) rfl ?_
          rw [unhide HN']
          exact ⟨⟨a6, c6, g6, cp6, rfl, ⟨unhide HG6, unhide LA6⟩, unhide HI6, unhide LI6⟩, BL.trans ((mov2c w6 (w.heap.size + 1) _ _).below (by omega) BL.size)⟩
        · have k1 : (op != 1) = true := by simp [o1]
          have k2 : (op != 2) = true := by simp [o2]
          have HO : Hid (¬ (op = 1 ∨ op = 2)) := fun h => by rcases h with e | e; exact o1 e; exact o2 e
          clear o1 o2
          have HN := hide (unBR_no (m := m) (n := n) (G := G) (op := op) (L := L) (fun h => unhide HO h.2.2))
          have e1 : w.heap.size + 1 < w2.heap.size := by omega
          go_wp2
          refine bodyPost_ret (v := .tuple #[.agg #[.int .i64 0, .slice none 0 0], .slice (some ⟨w2.heap.size, 0, none⟩) 0 0]) (by simp [results, Tryd.results7, go_sem, s0, s1, e1]) rfl ?_
          rw [unhide HN]
          exact ⟨⟨none, 0, some ⟨w2.heap.size, 0, none⟩, 0, by simp [nilB], ⟨Or.inl rfl, Or.inl rfl⟩, Or.inl rfl, Or.inl rfl⟩, (by repeat (first | exact Below.refl _ _ | assumption | refine below_drewN ?_ _ | refine Below.drew ?_ | refine Below.alloc ?_ (by first | exact Nat.le_refl _ | exact Below.size (by assumption) | (simp; done) | (simp; omega)) _ | refine Below.setCell ?_ (by first | exact Nat.le_refl _ | exact Below.size (by assumption) | (simp; done) | (simp; omega)) _ | refine Below.trans ?_ (by assumption)))⟩
end Go.Proofs.YtjchdggpfkjcgaaDoor
