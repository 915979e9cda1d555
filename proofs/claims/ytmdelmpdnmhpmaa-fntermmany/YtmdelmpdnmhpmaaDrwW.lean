/- What the model's bending of a term returns: some term; the reader moves on, nothing else that was there turns. -/
import Derived.Test.YtmdelmpdnmhpmaaDrwV
import Derived.Deep.DeepCutAuto
namespace Go.Proofs.Ytmdelmpdnmhpmaa
open Go.ChangeShapes Go.WideShapes Go.ChangeAt Go.RowKit Go.Joins
set_option linter.unusedVariables false
set_option linter.unusedSimpArgs false
attribute [local go_sem ↓] Go.wp_at_zero Go.wp_at_succ

theorem movPut5n {R B : Nat} {w w' : World} (h : Mov R w w') (hB : w.heap.size ≤ B) (v0 v1 v2 v3 v4 : Value) : Mov R w (put5v w' B v0 v1 v2 v3 v4) := by
  unfold Go.Proofs.Ytmdelmpdnmhpmaa.put5v
  exact ((((h.setNew hB _ _).setNew hB _ _).setNew hB _ _).setNew hB _ _).setNew hB _ _
theorem put5v_cell {w : World} {B b o : Nat} {v : Value} (hb : b ≠ B) (h : w.cell? ⟨b, o, none⟩ = some v) (v0 v1 v2 v3 v4 : Value) : (put5v w B v0 v1 v2 v3 v4).cell? ⟨b, o, none⟩ = some v := by
  unfold put5v
  rw [World.cell?_setCell_other _ _ _ _ (by simp <;> omega), World.cell?_setCell_other _ _ _ _ (by simp <;> omega), World.cell?_setCell_other _ _ _ _ (by simp <;> omega), World.cell?_setCell_other _ _ _ _ (by simp <;> omega), World.cell?_setCell_other _ _ _ _ (by simp <;> omega)]
  exact h
/-- What a bending gives. -/
def DrewB (lo : Nat) (w' : World) (e : Ending) : Prop := ∃ (T : TT) (ad : Option Addr) (cp : Nat), e = .returned (.agg #[.int .i64 T.op, .int .i64 T.a, .int .i64 T.b, .string T.s, .slice ad T.n cp]) ∧ T.In w' lo w'.heap.size ad ∧ T.n ≤ cp ∧ T.Fit 1048576
/-- Blocks that the bending does not write. -/
def QB (lo B3 B4 : Nat) (b : Nat) : Prop := lo ≤ b ∧ b ≠ B3 ∧ b ≠ B4
theorem drewB {lo B3 B4 : Nat} {w : World} {t : TT} {ad : Option Addr} {cp : Nat} (h : t.InS w (QB lo B3 B4) ad) (hc : t.n ≤ cp) (hf : t.Fit 1048576) (v0 v1 v2 v3 v4 : Value) :
    DrewB lo (put5v w B4 v0 v1 v2 v3 v4) (.returned (.agg #[.int .i64 t.op, .int .i64 t.a, .int .i64 t.b, .string t.s, .slice ad t.n cp])) :=
  ⟨t, ad, cp, rfl, InS.to (fun b hb => hb.1) t ad (InS.keep (fun b o v hb hv => put5v_cell hb.2.2 hv _ _ _ _ _) t ad h), hc, hf⟩
theorem InS.set {lo B3 B4 o : Nat} {w : World} {t : TT} {ad : Option Addr} (h : t.InS w (QB lo B3 B4) ad) (v : Value) : t.InS (w.setCell ⟨B3, o, none⟩ v) (QB lo B3 B4) ad :=
  InS.keep (fun b o v hb hv => by rw [World.cell?_setCell_other _ _ _ _ (by simp; exact fun e => absurd e.symm hb.2.1)]; exact hv) t ad h
theorem InS.mov {lo B3 B4 R : Nat} {w w' : World} {t : TT} {ad : Option Addr} (h : t.InS w (QB lo B3 B4) ad) (hm : Mov R w w') (hR : R < lo) : t.InS w' (QB lo B3 B4) ad :=
  InS.keep (fun b o v hb hv => hm.cell hv (by show b ≠ R; have := hb.1; omega)) t ad h
/-- Blocks that were there ahead of the bending. -/
def QL (lo B3 : Nat) (b : Nat) : Prop := lo ≤ b ∧ b < B3
theorem InS.mono {w : World} {Q Q' : Nat → Prop} (hQ : ∀ b, Q b → Q' b) : ∀ (t : TT) (ad : Option Addr), t.InS w Q ad → t.InS w Q' ad
  | .nil, _, h => h.elim
  | .node _ _ _ _ n kid, ad, h => by
    rcases h with h | ⟨bl, off, h1, h2, AD, CP, h4⟩
    · exact Or.inl h
    · exact Or.inr ⟨bl, off, h1, hQ bl h2, AD, CP, fun i hi => ⟨(h4 i hi).1, (h4 i hi).2.1, InS.mono hQ (kid i) (AD i) (h4 i hi).2.2⟩⟩
theorem InS.movL {lo B3 R : Nat} {w w' : World} {t : TT} {ad : Option Addr} (h : t.InS w (QL lo B3) ad) (hm : Mov R w w') (hR : R < lo ∨ B3 ≤ R) : t.InS w' (QL lo B3) ad :=
  InS.keep (fun b o v hb hv => hm.cell hv (by show b ≠ R; have h1 := hb.1; have h2 := hb.2; omega)) t ad h
def tt24 : TT := .node 24 0 0 ⟨#[]⟩ 0 (fun _ => .nil)
theorem kc_congr {kid kid' : Nat → TT} {AD AD' : Nat → Option Addr} {CP CP' : Nat → Nat} : ∀ n, (∀ i, i < n → kid i = kid' i ∧ AD i = AD' i ∧ CP i = CP' i) → kc kid AD CP n = kc kid' AD' CP' n
  | 0, _ => rfl
  | n + 1, h => by
    obtain ⟨a, b, c⟩ := h n (by omega)
    rw [kc, kc, kc_congr n (fun i hi => h i (by omega)), a, b, c]
theorem kc_snoc (kid : Nat → TT) (AD : Nat → Option Addr) (CP : Nat → Nat) (n : Nat) : kc kid AD CP n ++ [.int .i64 24, .int .i64 0, .int .i64 0, .string ⟨#[]⟩, .slice none 0 0] = kc (fun i => if i = n then tt24 else kid i) (fun i => if i = n then none else AD i) (fun i => if i = n then 0 else CP i) (n + 1) := by
  rw [kc, kc_congr (kid := fun i => if i = n then tt24 else kid i) (AD := fun i => if i = n then none else AD i) (CP := fun i => if i = n then 0 else CP i) (kid' := kid) (AD' := AD) (CP' := CP) n (fun i hi => by simp [show ¬ i = n by omega])]
  simp only [if_true]
  rfl
/-- A term wrapped. -/
theorem wrap_in {lo B3 B4 : Nat} {w : World} {t : TT} {ad : Option Addr} {cp : Nat} (h : t.InS w (QB lo B3 B4) ad) (hc : t.n ≤ cp) (hlo : lo ≤ w.heap.size) (h3 : B3 < w.heap.size) (h4 : B4 < w.heap.size) (v0 v1 v2 v3 v4 : Value) (ty : TypeId) :
    (TT.node 25 0 0 ⟨#[]⟩ 1 (fun _ => t)).InS ((put5v w B3 v0 v1 v2 v3 v4).alloc (.cells #[.int .i64 t.op, .int .i64 t.a, .int .i64 t.b, .string t.s, .slice ad t.n cp] ty)) (QB lo B3 B4) (some ⟨w.heap.size, 0, none⟩) := by
  have hs := put5v_size w B3 v0 v1 v2 v3 v4
  refine Or.inr ⟨w.heap.size, 0, rfl, ⟨hlo, by omega, by omega⟩, fun _ => ad, fun _ => cp, fun i hi => ?_⟩
  obtain rfl : i = 0 := by omega
  refine ⟨?_, hc, InS.keep (fun b o v hb hv => cell_later ((Below.refl _ _).alloc (Nat.le_refl _) _) (put5v_cell hb.2.1 hv v0 v1 v2 v3 v4)) t ad h⟩
  rw [← hs]
  exact ⟨by simp [go_sem], by simp [go_sem], by simp [go_sem], by simp [go_sem], by simp [go_sem]⟩
theorem fit_kidV {t : TT} (h : t.Fit 1048576) {i : Nat} (hi : i < t.n) : (t.kid i).Fit 1048576 := by
  cases t with
  | nil => simp [TT.n] at hi
  | node op a b s n kid => exact h.2.2 i hi
theorem wrap_fit {t : TT} (h : t.Fit 1048576) : (TT.node 25 0 0 ⟨#[]⟩ 1 (fun _ => t)).Fit 1048576 := ⟨by omega, by decide, fun i hi => h⟩
theorem Made.put5v {w : World} {B m C : Nat} (h : Made w B m) (v0 v1 v2 v3 v4 : Value) : Made (put5v w C v0 v1 v2 v3 v4) B m := by
  unfold Go.Proofs.Ytmdelmpdnmhpmaa.put5v
  exact ((((h.set _ _).set _ _).set _ _).set _ _).set _ _
theorem InS.below {lo B3 B4 : Nat} {w w' : World} {t : TT} {ad : Option Addr} (h : t.InS w (QB lo B3 B4) ad) (hb : Below w.heap.size w w') : t.InS w' (QB lo B3 B4) ad :=
  InS.keep (fun b o v _ hv => cell_later hb hv) t ad h
set_option maxHeartbeats 16000000 in
theorem bent_any (R N lo hi : Nat) (T : TT) (ad : Option Addr) (cp : Nat) (w : World) (hR : Rd w R N) (hN : N ≤ 900000) (hlo : R < lo) (hlw : lo ≤ w.heap.size) (hin : T.In w lo hi ad) (hhi : hi ≤ w.heap.size) (hcp : T.n ≤ cp) (hft : T.Fit 1048576) (hn9 : T.n ≤ 1000) :
    Calls Try.prog 15 #[.pointer (some ⟨R, 0, none⟩), .agg #[.int .i64 T.op, .int .i64 T.a, .int .i64 T.b, .string T.s, .slice ad T.n cp]] w fun e w' => DrewB lo w' e ∧ Rd w' R (N + 10) ∧ Mov R w w' := by
  have hlt := hR.lt
  obtain ⟨w3, hw3⟩ : ∃ v, v = ((w.alloc (.cells #[.int .i64 T.op, .int .i64 T.a, .int .i64 T.b, .string T.s, .slice ad T.n cp] 25)).alloc (.cells #[.int .i64 0, .int .i64 0, .int .i64 0, .string ⟨#[]⟩, .slice none 0 0] 25)).alloc (.cells #[] 25) := ⟨_, rfl⟩
  have b3 : Below w.heap.size w w3 := by rw [hw3]; exact (((Below.refl _ _).alloc (Nat.le_refl _) _).alloc (by simp) _).alloc (by simp <;> omega) _
  have z3 : w3.heap.size = w.heap.size + 3 := by rw [hw3]; simp
  have F : Five w3 w.heap.size 0 T ad cp := by rw [hw3]; exact ⟨by simp [go_sem], by simp [go_sem], by simp [go_sem], by simp [go_sem], by simp [go_sem]⟩
  have BX3 : Made w3 w.heap.size 5 := by
    refine ⟨by omega, fun j hj => ?_⟩
    rw [hw3]
    have : j = 0 ∨ j = 1 ∨ j = 2 ∨ j = 3 ∨ j = 4 := by omega
    rcases this with rfl | rfl | rfl | rfl | rfl
    all_goals exact ⟨⟨_, by simp [go_sem]; rfl⟩, by simp [go_sem]⟩
  have BX4 : Made w3 (w.heap.size + 1) 5 := by
    refine ⟨by omega, fun j hj => ?_⟩
    rw [hw3]
    have : j = 0 ∨ j = 1 ∨ j = 2 ∨ j = 3 ∨ j = 4 := by omega
    rcases this with rfl | rfl | rfl | rfl | rfl
    all_goals exact ⟨⟨_, by simp [go_sem]; rfl⟩, by simp [go_sem]⟩
  have hg3 : w3.heap[w.heap.size + 2]? = some (.cells #[] 25 (0, 0)) := by
    rw [hw3]
    have := heap_alloc_new ((w.alloc (.cells #[.int .i64 T.op, .int .i64 T.a, .int .i64 T.b, .string T.s, .slice ad T.n cp] 25)).alloc (.cells #[.int .i64 0, .int .i64 0, .int .i64 0, .string ⟨#[]⟩, .slice none 0 0] 25)) (.cells #[] 25)
    simpa using this
  have I3 : T.InS w3 (QL lo w.heap.size) ad := InS.of (fun b h1 h2 => ⟨h1, by omega⟩) T ad (hin.later (b3.mono hhi))
  have R3 := hR.below b3
  have M3 : Mov R w w3 := Mov.of b3
  obtain ⟨g, cap, w4, kid, AD, CP, hrun, own, gr, hg, hkk⟩ := kids_append w3 (w.heap.size + 2) _ T ad cp hg3 I3 (fit_nn hft) (by omega)
  have mg := mov_of_grown gr
  have kp : ∀ (t : TT) (a : Option Addr), t.InS w3 (QL lo w.heap.size) a → t.InS w4 (QL lo w.heap.size) a := fun t a h => InS.movL h mg (Or.inr (by omega))
  have I : Hid (T.InS w4 (QB lo w.heap.size (w.heap.size + 1)) ad) := InS.mono (fun b hb => ⟨hb.1, by have := hb.2; omega, by have := hb.2; omega⟩) T ad (kp _ _ I3)
  have KK : Hid (∀ i, i < T.n → kid i = T.kid i ∧ (kid i).n ≤ CP i ∧ (kid i).InS w4 (QL lo w.heap.size) (AD i)) := fun i hi => ⟨(hkk i hi).1, (hkk i hi).2.1, kp _ _ (hkk i hi).2.2⟩
  have F4 := F.mov mg (by omega)
  have BA := BX3.mov mg (by omega)
  have BB := BX4.mov mg (by omega)
  replace hR : Rd w4 R N := R3.other mg (by omega)
  have MV : Mov R w w4 := M3.grown gr (fun j h => by
    have e : w.heap.size + 2 = j := by simpa using h
    omega)
  have OW := hide own
  have z4 : w.heap.size + 3 ≤ w4.heap.size := by have := gr.size; omega
  have hgl : w.heap.size + 2 ≤ g := by omega
  rw [hw3] at hrun
  have HR := hide hrun
  clear hrun own gr mg kp hkk I3 R3 M3 F BX3 BX4 hg3 b3 z3 hw3 hin hg w3
  go_enter Try.func15, Try.ntmps15
  go_wp2_with (first | (at_builtin; refine wpList_append_run _ rfl (.tmp 7) (.tmp 9) 23 rfl _ _ _ _ rfl rfl (unhide HR) ?_))
  refine (pick_any R _ _ _ hR (by omega) (by omega) (by omega)).mono ?_
  rintro e w5 ⟨p, rfl, p0, p1, hRn, hm⟩
  replace hR := hRn
  replace I := hide (InS.mov (unhide I) hm hlo)
  replace KK : Hid (∀ i, i < T.n → kid i = T.kid i ∧ (kid i).n ≤ CP i ∧ (kid i).InS w5 (QL lo w.heap.size) (AD i)) := fun i hi => ⟨(unhide KK i hi).1, (unhide KK i hi).2.1, InS.movL (unhide KK i hi).2.2 hm (Or.inl hlo)⟩
  replace F4 := F4.mov hm (by omega)
  replace BA := BA.mov hm (by omega)
  replace BB := BB.mov hm (by omega)
  replace MV := MV.trans hm
  replace OW := hide (World.ownsRow.kept (unhide OW) (grown_mov hm) (Or.inr (by simp [Value.ownBlock]; omega)))
  replace z4 := Nat.le_trans z4 hm.size
  have gl5 : g < w5.heap.size := ((World.ownsRow.lt (unhide OW)) g rfl).2
  clear hRn hm HR
  obtain ⟨B3, hB3⟩ : ∃ x, x = w.heap.size := ⟨_, rfl⟩
  obtain ⟨B4, hB4⟩ : ∃ x, x = w.heap.size + 1 := ⟨_, rfl⟩
  have kB3 : w.heap.size ≤ B3 := by omega
  have kB4 : w.heap.size ≤ B4 := by omega
  have nB : B3 ≠ B4 := by omega
  have nB' : B4 ≠ B3 := by omega
  have hR3 : R < B3 := by omega
  have hR4 : R < B4 := by omega
  have hlt3 : B3 < B4 := by omega
  have hgl' : B4 < g := by omega
  have z5 : B4 + 2 ≤ w5.heap.size := by omega
  rw [← hB4, ← hB3] at I
  rw [← hB3] at KK
  have OB : w.heap.size + 2 = B4 + 1 := by omega
  rw [OB] at OW
  clear OB
  rw [← hB3] at F4 BA
  rw [← hB4] at BB
  rw [← hB4, ← hB3]
  clear hB3 hB4 hgl z4
  by_cases e0 : p = 0
  · subst e0
    clear OW KK gl5
    go_wp2_with fail
    obtain ⟨wn, hwn⟩ : ∃ v, v = w5.alloc (.cells #[.int .i64 0, .int .i64 18, .int .i64 28, .int .i64 3, .int .i64 16, .int .i64 25] 3) := ⟨_, rfl⟩
    have bn : Below w5.heap.size w5 wn := by rw [hwn]; exact (Below.refl _ _).alloc (Nat.le_refl _) _
    have hnums : ∀ i, i < 6 → wn.cell? ⟨w5.heap.size, i, none⟩ = some (.int .i64 (([0, 18, 28, 3, 16, 25] : List Int).getD i 0)) := by
      intro i hi
      rw [hwn]
      have : i = 0 ∨ i = 1 ∨ i = 2 ∨ i = 3 ∨ i = 4 ∨ i = 5 := by omega
      rcases this with rfl | rfl | rfl | rfl | rfl | rfl <;> simp [go_sem]
    rw [← hwn]
    have hm : Mov R w5 wn := Mov.of bn
    replace hR := hR.below bn
    have hOR : w5.heap.size ≠ R := by omega
    clear hwn bn
    replace I := hide (InS.mov (unhide I) hm hlo)
    replace F4 := F4.mov hm (by omega)
    replace BA := BA.mov hm (by omega)
    replace BB := BB.mov hm (by omega)
    replace MV := MV.trans hm
    replace z5 := Nat.le_trans z5 hm.size
    clear hm
    refine (num_any R _ w5.heap.size 6 [0, 18, 28, 3, 16, 25] _ rfl hR (by omega) hOR (by omega) (by omega) hnums).mono ?_
    rintro e w6 ⟨jn, hjn, rfl, hRn, hm⟩
    replace hR := hRn
    clear hRn hnums
    replace I := hide (InS.mov (unhide I) hm hlo)
    replace F4 := F4.mov hm (by omega)
    replace BA := BA.mov hm (by omega)
    replace BB := BB.mov hm (by omega)
    replace MV := MV.trans hm
    replace z5 := Nat.le_trans z5 hm.size
    clear hm
    generalize ([0, 18, 28, 3, 16, 25] : List Int).getD jn 0 = opv
    have DB := hide (drewB (B3 := B3) (B4 := B4) (w := (w6.setCell ⟨B3, 0, none⟩ (.int .i64 opv))) (t := TT.node opv T.a T.b T.s T.n T.kid) (InS.set (InS.head (unhide I) _ _ _ _) _) (hcp) (fit_head hft _ _ _ _ (fit_s hft)) (.int .i64 opv) (.int .i64 T.a) (.int .i64 T.b) (.string T.s) (.slice ad T.n cp))
    have ER := hide (Rd.put5v (w := (w6.setCell ⟨B3, 0, none⟩ (.int .i64 opv))) (B := B4) (hR.set hR3 _ _) hR4 (.int .i64 opv) (.int .i64 T.a) (.int .i64 T.b) (.string T.s) (.slice ad T.n cp))
    have EM := hide (movPut5n (w' := (w6.setCell ⟨B3, 0, none⟩ (.int .i64 opv))) (MV.setNew kB3 _ _) kB4 (.int .i64 opv) (.int .i64 T.a) (.int .i64 T.b) (.string T.s) (.slice ad T.n cp))
    obtain ⟨c0, c1, c2, c3, c4⟩ := id F4
    obtain ⟨_, g0⟩ := BA.2 0 (by omega)
    obtain ⟨_, g1⟩ := BA.2 1 (by omega)
    obtain ⟨_, g2⟩ := BA.2 2 (by omega)
    obtain ⟨_, g3⟩ := BA.2 3 (by omega)
    obtain ⟨_, g4⟩ := BA.2 4 (by omega)
    obtain ⟨⟨u0, q0⟩, f0⟩ := BB.2 0 (by omega)
    obtain ⟨⟨u1, q1⟩, f1⟩ := BB.2 1 (by omega)
    obtain ⟨⟨u2, q2⟩, f2⟩ := BB.2 2 (by omega)
    obtain ⟨⟨u3, q3⟩, f3⟩ := BB.2 3 (by omega)
    obtain ⟨⟨u4, q4⟩, f4⟩ := BB.2 4 (by omega)
    have l3 := BA.1
    have l4 := BB.1
    go_wp2
    exact bodyPost_ret (v := .agg #[.int .i64 opv, .int .i64 T.a, .int .i64 T.b, .string T.s, .slice ad T.n cp]) (by simp [results, Try.results15, go_sem, q0, q1, q2, q3, q4]) rfl ⟨unhide DB, (unhide ER).mono (by omega), unhide EM⟩
  · by_cases e1 : p = 1
    · have d0 : (p == 0) = false := by simp <;> omega
      subst e1
      clear OW KK gl5
      obtain ⟨c0, c1, c2, c3, c4⟩ := id F4
      obtain ⟨_, g1⟩ := BA.2 1 (by omega)
      have l3 := BA.1
      have l4 := BB.1
      go_wp2
      have hnums : ∀ i, i < 2 → (w5.alloc (.cells #[.int .i64 1, .int .i64 (-1)] 3)).cell? ⟨w5.heap.size, i, none⟩ = some (.int .i64 (([1, -1] : List Int).getD i 0)) := by
        intro i hi
        have : i = 0 ∨ i = 1 := by omega
        rcases this with rfl | rfl <;> simp [go_sem]
      have HNU := hide hnums
      clear hnums
      have hOR : w5.heap.size ≠ R := by omega
      have al := (Below.refl w5.heap.size w5).alloc (Nat.le_refl _) (.cells #[.int .i64 1, .int .i64 (-1)] 3)
      have RA := hide (hR.below al)
      have MA := hide (MV.from al)
      have IA := hide (InS.below (unhide I) al)
      have FA := hide (F4.later al)
      have BAA := hide (BA.later al)
      have BBA := hide (BB.later al)
      clear al
      go_region_with (go_at_call 28; refine (num_any R _ w5.heap.size 2 [1, -1] _ rfl (by exact unhide RA) (by omega) hOR (by omega) (by omega) (by exact unhide HNU)).mono ?_; rintro e w6 ⟨jn, hjn, rfl, hRn, hm⟩; generalize ([1, -1] : List Int).getD jn 0 = opv; have R6 := hide hRn; have M6 := hide ((unhide MA).trans hm); have I6 := hide (InS.mov (unhide IA) hm hlo); have F6 := hide ((unhide FA).mov hm (by omega)); have BA6 := hide ((unhide BAA).mov hm (by omega)); have BB6 := hide ((unhide BBA).mov hm (by omega)); obtain ⟨c0', c1', c2', c3', c4'⟩ := id (unhide F6); obtain ⟨_, g1'⟩ := (unhide BA6).2 1 (by omega); have l3' := (unhide BA6).1)
      all_goals have q0 := (unhide BB6).2 0 (by omega)
      all_goals have q1 := (unhide BB6).2 1 (by omega)
      all_goals have q2 := (unhide BB6).2 2 (by omega)
      all_goals have q3 := (unhide BB6).2 3 (by omega)
      all_goals have q4 := (unhide BB6).2 4 (by omega)
      all_goals obtain ⟨⟨u0, q0⟩, f0⟩ := q0
      all_goals obtain ⟨⟨u1, q1⟩, f1⟩ := q1
      all_goals obtain ⟨⟨u2, q2⟩, f2⟩ := q2
      all_goals obtain ⟨⟨u3, q3⟩, f3⟩ := q3
      all_goals obtain ⟨⟨u4, q4⟩, f4⟩ := q4
      all_goals have l4' := (unhide BB6).1
      all_goals go_wp2
      all_goals exact bodyPost_ret (v := .agg #[.int .i64 T.op, .int .i64 (wrap64 (T.a + opv)), .int .i64 T.b, .string T.s, .slice ad T.n cp]) (by simp [results, Try.results15, go_sem, q0, q1, q2, q3, q4]) rfl ⟨drewB (B3 := B3) (B4 := B4) (w := (w6.setCell ⟨B3, 1, none⟩ (.int .i64 (wrap64 (T.a + opv))))) (t := (TT.node T.op (wrap64 (T.a + opv)) T.b T.s T.n T.kid)) (InS.set (InS.head (unhide I6) _ _ _ _) _) hcp (fit_head hft _ _ _ _ (fit_s hft)) _ _ _ _ _, (Rd.put5v (w := (w6.setCell ⟨B3, 1, none⟩ (.int .i64 (wrap64 (T.a + opv))))) (B := B4) ((unhide R6).set hR3 _ _) hR4 _ _ _ _ _).mono (by omega), movPut5n (w' := (w6.setCell ⟨B3, 1, none⟩ (.int .i64 (wrap64 (T.a + opv))))) ((unhide M6).setNew kB3 _ _) kB4 _ _ _ _ _⟩
    · by_cases e2 : p = 2
      · have d0 : (p == 0) = false := by simp <;> omega
        have d1 : (p == 1) = false := by simp <;> omega
        subst e2
        clear OW KK gl5
        obtain ⟨c0, c1, c2, c3, c4⟩ := id F4
        obtain ⟨_, g2⟩ := BA.2 2 (by omega)
        have l3 := BA.1
        have l4 := BB.1
        go_wp2
        have hnums : ∀ i, i < 3 → (w5.alloc (.cells #[.int .i64 1, .int .i64 (-1), .int .i64 16] 3)).cell? ⟨w5.heap.size, i, none⟩ = some (.int .i64 (([1, -1, 16] : List Int).getD i 0)) := by
          intro i hi
          have : i = 0 ∨ i = 1 ∨ i = 2 := by omega
          rcases this with rfl | rfl | rfl <;> simp [go_sem]
        have HNU := hide hnums
        clear hnums
        have hOR : w5.heap.size ≠ R := by omega
        have al := (Below.refl w5.heap.size w5).alloc (Nat.le_refl _) (.cells #[.int .i64 1, .int .i64 (-1), .int .i64 16] 3)
        have RA := hide (hR.below al)
        have MA := hide (MV.from al)
        have IA := hide (InS.below (unhide I) al)
        have FA := hide (F4.later al)
        have BAA := hide (BA.later al)
        have BBA := hide (BB.later al)
        clear al
        go_region_with (go_at_call 28; refine (num_any R _ w5.heap.size 3 [1, -1, 16] _ rfl (by exact unhide RA) (by omega) hOR (by omega) (by omega) (by exact unhide HNU)).mono ?_; rintro e w6 ⟨jn, hjn, rfl, hRn, hm⟩; generalize ([1, -1, 16] : List Int).getD jn 0 = opv; have R6 := hide hRn; have M6 := hide ((unhide MA).trans hm); have I6 := hide (InS.mov (unhide IA) hm hlo); have F6 := hide ((unhide FA).mov hm (by omega)); have BA6 := hide ((unhide BAA).mov hm (by omega)); have BB6 := hide ((unhide BBA).mov hm (by omega)); obtain ⟨c0', c1', c2', c3', c4'⟩ := id (unhide F6); obtain ⟨_, g2'⟩ := (unhide BA6).2 2 (by omega); have l3' := (unhide BA6).1)
        all_goals have q0 := (unhide BB6).2 0 (by omega)
        all_goals have q1 := (unhide BB6).2 1 (by omega)
        all_goals have q2 := (unhide BB6).2 2 (by omega)
        all_goals have q3 := (unhide BB6).2 3 (by omega)
        all_goals have q4 := (unhide BB6).2 4 (by omega)
        all_goals obtain ⟨⟨u0, q0⟩, f0⟩ := q0
        all_goals obtain ⟨⟨u1, q1⟩, f1⟩ := q1
        all_goals obtain ⟨⟨u2, q2⟩, f2⟩ := q2
        all_goals obtain ⟨⟨u3, q3⟩, f3⟩ := q3
        all_goals obtain ⟨⟨u4, q4⟩, f4⟩ := q4
        all_goals have l4' := (unhide BB6).1
        all_goals go_wp2
        all_goals exact bodyPost_ret (v := .agg #[.int .i64 T.op, .int .i64 T.a, .int .i64 (wrap64 (T.b + opv)), .string T.s, .slice ad T.n cp]) (by simp [results, Try.results15, go_sem, q0, q1, q2, q3, q4]) rfl ⟨drewB (B3 := B3) (B4 := B4) (w := (w6.setCell ⟨B3, 2, none⟩ (.int .i64 (wrap64 (T.b + opv))))) (t := (TT.node T.op T.a (wrap64 (T.b + opv)) T.s T.n T.kid)) (InS.set (InS.head (unhide I6) _ _ _ _) _) hcp (fit_head hft _ _ _ _ (fit_s hft)) _ _ _ _ _, (Rd.put5v (w := (w6.setCell ⟨B3, 2, none⟩ (.int .i64 (wrap64 (T.b + opv))))) (B := B4) ((unhide R6).set hR3 _ _) hR4 _ _ _ _ _).mono (by omega), movPut5n (w' := (w6.setCell ⟨B3, 2, none⟩ (.int .i64 (wrap64 (T.b + opv))))) ((unhide M6).setNew kB3 _ _) kB4 _ _ _ _ _⟩
      · by_cases e3 : p = 3
        · have d0 : (p == 0) = false := by simp <;> omega
          have d1 : (p == 1) = false := by simp <;> omega
          have d2 : (p == 2) = false := by simp <;> omega
          subst e3
          clear OW KK gl5
          have DB := hide (drewB (B3 := B3) (B4 := B4) (w := (w5.setCell ⟨B3, 3, none⟩ (.string ⟨#[113]⟩))) (t := TT.node T.op T.a T.b ⟨#[113]⟩ T.n T.kid) (InS.set (InS.head (unhide I) _ _ _ _) _) (hcp) (fit_head hft _ _ _ _ (by decide)) (.int .i64 T.op) (.int .i64 T.a) (.int .i64 T.b) (.string ⟨#[113]⟩) (.slice ad T.n cp))
          have ER := hide (Rd.put5v (w := (w5.setCell ⟨B3, 3, none⟩ (.string ⟨#[113]⟩))) (B := B4) (hR.set hR3 _ _) hR4 (.int .i64 T.op) (.int .i64 T.a) (.int .i64 T.b) (.string ⟨#[113]⟩) (.slice ad T.n cp))
          have EM := hide (movPut5n (w' := (w5.setCell ⟨B3, 3, none⟩ (.string ⟨#[113]⟩))) (MV.setNew kB3 _ _) kB4 (.int .i64 T.op) (.int .i64 T.a) (.int .i64 T.b) (.string ⟨#[113]⟩) (.slice ad T.n cp))
          obtain ⟨c0, c1, c2, c3, c4⟩ := id F4
          obtain ⟨_, g0⟩ := BA.2 0 (by omega)
          obtain ⟨_, g1⟩ := BA.2 1 (by omega)
          obtain ⟨_, g2⟩ := BA.2 2 (by omega)
          obtain ⟨_, g3⟩ := BA.2 3 (by omega)
          obtain ⟨_, g4⟩ := BA.2 4 (by omega)
          obtain ⟨⟨u0, q0⟩, f0⟩ := BB.2 0 (by omega)
          obtain ⟨⟨u1, q1⟩, f1⟩ := BB.2 1 (by omega)
          obtain ⟨⟨u2, q2⟩, f2⟩ := BB.2 2 (by omega)
          obtain ⟨⟨u3, q3⟩, f3⟩ := BB.2 3 (by omega)
          obtain ⟨⟨u4, q4⟩, f4⟩ := BB.2 4 (by omega)
          have l3 := BA.1
          have l4 := BB.1
          go_wp2
          exact bodyPost_ret (v := .agg #[.int .i64 T.op, .int .i64 T.a, .int .i64 T.b, .string ⟨#[113]⟩, .slice ad T.n cp]) (by simp [results, Try.results15, go_sem, q0, q1, q2, q3, q4]) rfl ⟨unhide DB, (unhide ER).mono (by omega), unhide EM⟩
        · by_cases e4 : p = 4
          · have d0 : (p == 0) = false := by simp <;> omega
            have d1 : (p == 1) = false := by simp <;> omega
            have d2 : (p == 2) = false := by simp <;> omega
            have d3 : (p == 3) = false := by simp <;> omega
            subst e4
            have hn20 := fit_nn hft
            have hn1k : T.n + 1 ≤ 1048576 := by omega
            obtain ⟨w6, hw6⟩ : ∃ v, v = w5.alloc (.cells #[.int .i64 24, .int .i64 0, .int .i64 0, .string ⟨#[]⟩, .slice none 0 0] 25) := ⟨_, rfl⟩
            have b6 : Below w5.heap.size w5 w6 := by rw [hw6]; exact (Below.refl _ _).alloc (Nat.le_refl _) _
            have t0 : w6.cell? ⟨w5.heap.size, 0, none⟩ = some (.int .i64 24) := by rw [hw6]; simp [go_sem]
            have t1 : w6.cell? ⟨w5.heap.size, 1, none⟩ = some (.int .i64 0) := by rw [hw6]; simp [go_sem]
            have t2 : w6.cell? ⟨w5.heap.size, 2, none⟩ = some (.int .i64 0) := by rw [hw6]; simp [go_sem]
            have t3 : w6.cell? ⟨w5.heap.size, 3, none⟩ = some (.string ⟨#[]⟩) := by rw [hw6]; simp [go_sem]
            have t4 : w6.cell? ⟨w5.heap.size, 4, none⟩ = some (.slice none 0 0) := by rw [hw6]; simp [go_sem]
            have s6 := b6.size
            obtain ⟨i0, hi0, hzz⟩ := Option.map_eq_some_iff.1 infoTermV
            simp only [Prod.mk.injEq] at hzz
            obtain ⟨hz0, hz1, hz2⟩ := hzz
            obtain ⟨gq, cap2, w7, hrun, ow7, gr7, hg2⟩ := append_where (P := Try.prog) w6 (B4 + 1) 23 23 25 i0 _ 5 64 Try.underlying23 hi0 hz0 hz1 hz2 rfl (by omega) g T.n cap (kc kid AD CP T.n) (World.ownsRow.kept (unhide OW) (⟨b6.os, b6.tape, b6.output, b6.size, fun k hk _ => b6.block k hk⟩ : w5.grownBy w6 none) (Or.inr (by simp [Value.ownBlock]))) ⟨w5.heap.size, 0, none⟩ 1 1 [.int .i64 24, .int .i64 0, .int .i64 0, .string ⟨#[]⟩, .slice none 0 0] rfl (by
              intro j u hj
              rw [Go.WideShapes.add_plain, Nat.zero_add]
              match j, hj with
              | 0, hj => simp at hj; rw [← hj]; exact t0
              | 1, hj => simp at hj; rw [← hj]; exact t1
              | 2, hj => simp at hj; rw [← hj]; exact t2
              | 3, hj => simp at hj; rw [← hj]; exact t3
              | 4, hj => simp at hj; rw [← hj]; exact t4
              | j + 5, hj => simp at hj) (by intro u hu; simp at hu; rcases hu with rfl | rfl | rfl | rfl <;> rfl) (by unfold maxLen; omega) (by omega) (by omega)
            have m7 := mov_of_grown gr7
            have s7 := gr7.size
            have kcx := kc_snoc kid AD CP T.n
            rw [kcx] at ow7
            have five7 := own_five ow7
            have IN7 : (TT.node T.op T.a T.b T.s (T.n + 1) (fun i => if i = T.n then tt24 else kid i)).InS w7 (QB lo B3 B4) (some ⟨gq, 0, none⟩) := by
              refine Or.inr ⟨gq, 0, rfl, ⟨by omega, by omega, by omega⟩, fun i => if i = T.n then none else AD i, fun i => if i = T.n then 0 else CP i, fun i hi => ⟨five7 i hi, ?_⟩⟩
              by_cases e : i = T.n
              · simp only [e, if_true]
                exact ⟨Nat.le_refl _, Or.inl rfl⟩
              · simp only [if_neg e]
                obtain ⟨_, k2, k3⟩ := unhide KK i (by omega)
                refine ⟨k2, InS.mono (fun b hb => ⟨hb.1, by have := hb.2; omega, by have := hb.2; omega⟩) _ _ (InS.movL (InS.keep (fun b o v _ hv => cell_later b6 hv) _ _ k3) m7 (Or.inr (by omega)))⟩
            have FT7 : (TT.node T.op T.a T.b T.s (T.n + 1) (fun i => if i = T.n then tt24 else kid i)).Fit 1048576 := by
              refine ⟨hn1k, fit_s hft, fun i hi => ?_⟩
              by_cases e : i = T.n
              · simp only [e, if_true]
                exact ⟨by omega, by decide, fun j hj => by omega⟩
              · simp only [if_neg e]
                rw [(unhide KK i (by omega)).1]
                exact fit_kidV hft (by omega)
            have hcap2 : T.n + 1 ≤ cap2 := by
              rcases ow7.2 with ⟨h, _⟩ | ⟨g', cap', cur, h, _, _, h', _⟩
              · cases h
              · simp at h; omega
            replace F4 := (F4.later b6).mov m7 (by omega)
            replace BA := (BA.later b6).mov m7 (by omega)
            replace BB := (BB.later b6).mov m7 (by omega)
            have R7 := (hR.below b6).other m7 (by omega)
            have M7 : Mov R w w7 := (MV.from b6).grown gr7 (fun j h => by
              have e : g = j := by simpa using h
              omega)
            have DB := hide (drewB (B3 := B3) (B4 := B4) (w := (w7.setCell ⟨B3, 4, none⟩ (.slice (some ⟨gq, 0, none⟩) (T.n + 1) cap2))) (t := (TT.node T.op T.a T.b T.s (T.n + 1) (fun i => if i = T.n then tt24 else kid i))) (InS.set IN7 _) hcap2 FT7 (.int .i64 T.op) (.int .i64 T.a) (.int .i64 T.b) (.string T.s) (.slice (some ⟨gq, 0, none⟩) (T.n + 1) cap2))
            have ER := hide (Rd.put5v (w := (w7.setCell ⟨B3, 4, none⟩ (.slice (some ⟨gq, 0, none⟩) (T.n + 1) cap2))) (B := B4) (R7.set hR3 _ _) hR4 (.int .i64 T.op) (.int .i64 T.a) (.int .i64 T.b) (.string T.s) (.slice (some ⟨gq, 0, none⟩) (T.n + 1) cap2))
            have EM := hide (movPut5n (w' := (w7.setCell ⟨B3, 4, none⟩ (.slice (some ⟨gq, 0, none⟩) (T.n + 1) cap2))) (M7.setNew kB3 _ _) kB4 (.int .i64 T.op) (.int .i64 T.a) (.int .i64 T.b) (.string T.s) (.slice (some ⟨gq, 0, none⟩) (T.n + 1) cap2))
            rw [hw6] at hrun
            have HRN := hide hrun
            clear hrun ow7 gr7 m7 kcx five7 IN7 FT7 t0 t1 t2 t3 t4 hz0 hz1 hz2 hi0 OW KK hw6 b6
            obtain ⟨c0, c1, c2, c3, c4⟩ := id F4
            obtain ⟨_, g0⟩ := BA.2 0 (by omega)
            obtain ⟨_, g1⟩ := BA.2 1 (by omega)
            obtain ⟨_, g2⟩ := BA.2 2 (by omega)
            obtain ⟨_, g3⟩ := BA.2 3 (by omega)
            obtain ⟨_, g4⟩ := BA.2 4 (by omega)
            obtain ⟨⟨u0, q0⟩, f0⟩ := BB.2 0 (by omega)
            obtain ⟨⟨u1, q1⟩, f1⟩ := BB.2 1 (by omega)
            obtain ⟨⟨u2, q2⟩, f2⟩ := BB.2 2 (by omega)
            obtain ⟨⟨u3, q3⟩, f3⟩ := BB.2 3 (by omega)
            obtain ⟨⟨u4, q4⟩, f4⟩ := BB.2 4 (by omega)
            have l3 := BA.1
            have l4 := BB.1
            go_wp2_with (first | (at_builtin; refine wpList_append_run _ rfl (.tmp 42) (.tmp 44) 23 rfl _ _ _ _ rfl rfl (unhide HRN) ?_))
            exact bodyPost_ret (v := .agg #[.int .i64 T.op, .int .i64 T.a, .int .i64 T.b, .string T.s, .slice (some ⟨gq, 0, none⟩) (T.n + 1) cap2]) (by simp [results, Try.results15, go_sem, q0, q1, q2, q3, q4]) rfl ⟨unhide DB, (unhide ER).mono (by omega), unhide EM⟩
          · by_cases e5 : p = 5
            · have d0 : (p == 0) = false := by simp <;> omega
              have d1 : (p == 1) = false := by simp <;> omega
              have d2 : (p == 2) = false := by simp <;> omega
              have d3 : (p == 3) = false := by simp <;> omega
              have d4 : (p == 4) = false := by simp <;> omega
              subst e5
              clear OW KK gl5
              have HFT := hide hft
              clear hft
              go_wp2
              go_loopw [6] (fun i wx => ∃ (k : Nat) (T1 : TT) (ad1 : Option Addr) (cp1 : Nat), k ≤ 7 ∧ i = .int .i64 k ∧ Five wx B3 0 T1 ad1 cp1 ∧ Made wx B3 5 ∧ Made wx B4 5 ∧ T1.InS wx (QB lo B3 B4) ad1 ∧ T1.n ≤ cp1 ∧ T1.Fit 1048576 ∧ Rd wx R (N + 1) ∧ Mov R w wx ∧ B4 + 2 ≤ wx.heap.size) (fun i _ => 7 - (intOf i).toNat)
              case atStart => exact ⟨0, T, ad, cp, by omega, rfl, F4, BA, BB, unhide I, hcp, unhide HFT, hR, MV, z5⟩
              case round =>
                clear F4 BA BB I hR MV z5
                obtain ⟨k, T1, ad1, cp1, hk, rfl, F4, BA, BB, hI, hcp1, hft1, hR, MV, z5⟩ := hrel
                have I := hide hI
                have HFT1 := hide hft1
                clear hI hft1
                by_cases hlt7 : k < 7
                · have l3 := BA.1
                  have l4 := BB.1
                  have WI := hide (wrap_in (unhide I) hcp1 (by omega) l3 l4 (.int .i64 25) (.int .i64 0) (.int .i64 0) (.string ⟨#[]⟩) (.slice (some ⟨wr.heap.size, 0, none⟩) 1 1) 25)
                  have PR := put_read BA (.int .i64 25) (.int .i64 0) (.int .i64 0) (.string ⟨#[]⟩) (.slice (some ⟨wr.heap.size, 0, none⟩) 1 1) (.cells #[.int .i64 T1.op, .int .i64 T1.a, .int .i64 T1.b, .string T1.s, .slice ad1 T1.n cp1] 25)
                  have F5 : Hid (Five ((put5v wr B3 (.int .i64 25) (.int .i64 0) (.int .i64 0) (.string ⟨#[]⟩) (.slice (some ⟨wr.heap.size, 0, none⟩) 1 1)).alloc (.cells #[.int .i64 T1.op, .int .i64 T1.a, .int .i64 T1.b, .string T1.s, .slice ad1 T1.n cp1] 25)) B3 0 (TT.node 25 0 0 ⟨#[]⟩ 1 (fun _ => T1)) (some ⟨wr.heap.size, 0, none⟩) 1) := ⟨PR.1, PR.2.1, PR.2.2.1, PR.2.2.2.1, PR.2.2.2.2⟩
                  have al := (Below.refl (put5v wr B3 (.int .i64 25) (.int .i64 0) (.int .i64 0) (.string ⟨#[]⟩) (.slice (some ⟨wr.heap.size, 0, none⟩) 1 1)).heap.size (put5v wr B3 (.int .i64 25) (.int .i64 0) (.int .i64 0) (.string ⟨#[]⟩) (.slice (some ⟨wr.heap.size, 0, none⟩) 1 1))).alloc (Nat.le_refl _) (.cells #[.int .i64 T1.op, .int .i64 T1.a, .int .i64 T1.b, .string T1.s, .slice ad1 T1.n cp1] 25)
                  have BA5 := hide ((BA.put5v (C := B3) (.int .i64 25) (.int .i64 0) (.int .i64 0) (.string ⟨#[]⟩) (.slice (some ⟨wr.heap.size, 0, none⟩) 1 1)).later al)
                  have BB5 := hide ((BB.put5v (C := B3) (.int .i64 25) (.int .i64 0) (.int .i64 0) (.string ⟨#[]⟩) (.slice (some ⟨wr.heap.size, 0, none⟩) 1 1)).later al)
                  have R5 := hide ((hR.put5v hR3 (.int .i64 25) (.int .i64 0) (.int .i64 0) (.string ⟨#[]⟩) (.slice (some ⟨wr.heap.size, 0, none⟩) 1 1)).below al)
                  have M5 := hide ((movPut5n MV kB3 (.int .i64 25) (.int .i64 0) (.int .i64 0) (.string ⟨#[]⟩) (.slice (some ⟨wr.heap.size, 0, none⟩) 1 1)).from al)
                  have Z5 : Hid (B4 + 2 ≤ ((put5v wr B3 (.int .i64 25) (.int .i64 0) (.int .i64 0) (.string ⟨#[]⟩) (.slice (some ⟨wr.heap.size, 0, none⟩) 1 1)).alloc (.cells #[.int .i64 T1.op, .int .i64 T1.a, .int .i64 T1.b, .string T1.s, .slice ad1 T1.n cp1] 25)).heap.size) := by show _ ≤ _; rw [World.size_alloc, put5v_size]; omega
                  clear PR al
                  obtain ⟨c0, c1, c2, c3, c4⟩ := id F4
                  obtain ⟨_, g0⟩ := BA.2 0 (by omega)
                  obtain ⟨_, g1⟩ := BA.2 1 (by omega)
                  obtain ⟨_, g2⟩ := BA.2 2 (by omega)
                  obtain ⟨_, g3⟩ := BA.2 3 (by omega)
                  obtain ⟨_, g4⟩ := BA.2 4 (by omega)
                  have d7 : decide ((k : Int) < 7) = true := by simp; omega
                  have HL7 := hide hlt7
                  have kk1 : (k : Int) < 100 := by omega
                  have n3 : B3 ≠ wr.heap.size := by omega
                  have n4 : wr.heap.size ≠ B3 := by omega
                  clear hlt7 hk F4 BA BB hR MV z5 I HFT hcp hcp1 kB3 kB4 hhi hlw hN hlt hR3 hR4 hgl'
                  go_wp2
                  go_roundw
                  case rel => exact ⟨k + 1, _, _, 1, by have h7 : k < 7 := unhide HL7; omega, by go_num, unhide F5, unhide BA5, unhide BB5, unhide WI, Nat.le_refl _, wrap_fit (unhide HFT1), unhide R5, unhide M5, unhide Z5⟩
                  case measure => have h7 : k < 7 := unhide HL7; simp [intOf]; omega
                · have e7 : k = 7 := by omega
                  subst e7
                  have DB := hide (drewB (B3 := B3) (B4 := B4) (w := wr) (t := T1) (unhide I) (hcp1) (unhide HFT1) (.int .i64 T1.op) (.int .i64 T1.a) (.int .i64 T1.b) (.string T1.s) (.slice ad1 T1.n cp1))
                  have ER := hide (Rd.put5v (w := wr) (B := B4) (hR) hR4 (.int .i64 T1.op) (.int .i64 T1.a) (.int .i64 T1.b) (.string T1.s) (.slice ad1 T1.n cp1))
                  have EM := hide (movPut5n (w' := wr) (MV) kB4 (.int .i64 T1.op) (.int .i64 T1.a) (.int .i64 T1.b) (.string T1.s) (.slice ad1 T1.n cp1))
                  obtain ⟨c0, c1, c2, c3, c4⟩ := id F4
                  obtain ⟨_, g0⟩ := BA.2 0 (by omega)
                  obtain ⟨_, g1⟩ := BA.2 1 (by omega)
                  obtain ⟨_, g2⟩ := BA.2 2 (by omega)
                  obtain ⟨_, g3⟩ := BA.2 3 (by omega)
                  obtain ⟨_, g4⟩ := BA.2 4 (by omega)
                  obtain ⟨⟨u0, q0⟩, f0⟩ := BB.2 0 (by omega)
                  obtain ⟨⟨u1, q1⟩, f1⟩ := BB.2 1 (by omega)
                  obtain ⟨⟨u2, q2⟩, f2⟩ := BB.2 2 (by omega)
                  obtain ⟨⟨u3, q3⟩, f3⟩ := BB.2 3 (by omega)
                  obtain ⟨⟨u4, q4⟩, f4⟩ := BB.2 4 (by omega)
                  have l3 := BA.1
                  have l4 := BB.1
                  go_wp2
                  exact bodyPost_ret (v := .agg #[.int .i64 T1.op, .int .i64 T1.a, .int .i64 T1.b, .string T1.s, .slice ad1 T1.n cp1]) (by simp [results, Try.results15, go_sem, q0, q1, q2, q3, q4]) rfl ⟨unhide DB, (unhide ER).mono (by omega), unhide EM⟩
            · have d0 : (p == 0) = false := by simp <;> omega
              have d1 : (p == 1) = false := by simp <;> omega
              have d2 : (p == 2) = false := by simp <;> omega
              have d3 : (p == 3) = false := by simp <;> omega
              have d4 : (p == 4) = false := by simp <;> omega
              have d5 : (p == 5) = false := by simp <;> omega
              clear OW KK gl5
              have DB := hide (drewB (B3 := B3) (B4 := B4) (w := w5) (t := T) (unhide I) (hcp) (hft) (.int .i64 T.op) (.int .i64 T.a) (.int .i64 T.b) (.string T.s) (.slice ad T.n cp))
              have ER := hide (Rd.put5v (w := w5) (B := B4) (hR) hR4 (.int .i64 T.op) (.int .i64 T.a) (.int .i64 T.b) (.string T.s) (.slice ad T.n cp))
              have EM := hide (movPut5n (w' := w5) (MV) kB4 (.int .i64 T.op) (.int .i64 T.a) (.int .i64 T.b) (.string T.s) (.slice ad T.n cp))
              obtain ⟨c0, c1, c2, c3, c4⟩ := id F4
              obtain ⟨_, g0⟩ := BA.2 0 (by omega)
              obtain ⟨_, g1⟩ := BA.2 1 (by omega)
              obtain ⟨_, g2⟩ := BA.2 2 (by omega)
              obtain ⟨_, g3⟩ := BA.2 3 (by omega)
              obtain ⟨_, g4⟩ := BA.2 4 (by omega)
              obtain ⟨⟨u0, q0⟩, f0⟩ := BB.2 0 (by omega)
              obtain ⟨⟨u1, q1⟩, f1⟩ := BB.2 1 (by omega)
              obtain ⟨⟨u2, q2⟩, f2⟩ := BB.2 2 (by omega)
              obtain ⟨⟨u3, q3⟩, f3⟩ := BB.2 3 (by omega)
              obtain ⟨⟨u4, q4⟩, f4⟩ := BB.2 4 (by omega)
              have l3 := BA.1
              have l4 := BB.1
              go_wp2
              exact bodyPost_ret (v := .agg #[.int .i64 T.op, .int .i64 T.a, .int .i64 T.b, .string T.s, .slice ad T.n cp]) (by simp [results, Try.results15, go_sem, q0, q1, q2, q3, q4]) rfl ⟨unhide DB, (unhide ER).mono (by omega), unhide EM⟩
end Go.Proofs.Ytmdelmpdnmhpmaa
