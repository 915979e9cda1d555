/- What the model's draw of clauses and of what is so returns. -/
import Derived.Test.YtihihjchkniifaaCldC
import Derived.Test.YtihihjchkniifaaLeaB
namespace Go.Proofs.Ytihihjchkniifaa
open Go.ChangeShapes Go.WideShapes Go.ChangeAt Go.RowKit Go.Joins
set_option linter.unusedVariables false
set_option linter.unusedSimpArgs false

theorem rws_len {w : World} {R n c : Nat} {a : Option Addr} {Ls : List Clz} (h : ClzAt w R (.slice a n c) Ls) : RwsAt w a Ls.length (cA Ls) (cL Ls) (cC Ls) (cV Ls) := by
  obtain ⟨a', c', e, h'⟩ := h.slice
  cases e; exact h'
/-- Clauses and what is so, that a law has drawn. -/
def LawH (w w' : World) (e : Ending) : Prop := ∃ (m : Int) (v : Value) (Ls : List Clz) (R : Nat) (b : Option Addr) (l cb : Nat) (B : Nat → Bool), e = .returned (.tuple #[.agg #[.int .i64 m, v], .slice b l cb]) ∧ W64 m ∧ Ls.length ≤ 40 ∧ ClzAt w' R v Ls ∧ BlsAt w' b l B ∧ l ≤ 20 ∧ Below w.heap.size w w'
theorem BlsAt.movR {w w' : World} {R : Nat} {a : Option Addr} {l : Nat} {V : Nat → Bool} (h : BlsAt w a l V) (hm : Mov R w w') (hn : l = 0 ∨ ∀ b off, a = some ⟨b, off, none⟩ → b ≠ R) : BlsAt w' a l V := by
  rcases h with h | ⟨b, off, rfl, h2, h3⟩
  · exact Or.inl h
  · rcases hn with h | h
    · exact Or.inl h
    · exact Or.inr ⟨b, off, rfl, Nat.lt_of_lt_of_le h2 hm.size, fun i hi => hm.cell (h3 i hi) (h b off rfl)⟩
/-- Behind all draws but that of what is so: the box, the reader. -/
structure HB (w wr : World) (R N Bx : Nat) (m : Int) (va : Option Addr) (vc : Nat) (Ls : List Clz) (vb : Option Addr) (l : Nat) (B : Nat → Bool) : Prop where
  p : Box wr Bx m va Ls.length vc
  s : Made wr w.heap.size 2
  c : ClzAt wr R (.slice va Ls.length vc) Ls
  rd : Rd wr R N
  be : Below w.heap.size w wr
  bl : BlsAt wr vb l B
  bn : l = 0 ∨ ∀ b off, vb = some ⟨b, off, none⟩ → b ≠ R ∧ b ≠ w.heap.size
  ne : Bx ≠ R ∧ w.heap.size < R ∧ w.heap.size < Bx
theorem HB.mov {w wr w' : World} {R N N' Bx : Nat} {m : Int} {va : Option Addr} {vc : Nat} {Ls : List Clz} {vb : Option Addr} {l : Nat} {B : Nat → Bool} (h : HB w wr R N Bx m va vc Ls vb l B) (hm : Mov R wr w') (hR : Rd w' R N') : HB w w' R N' Bx m va vc Ls vb l B :=
  ⟨⟨hm.cell h.p.1 h.ne.1, hm.cell h.p.2 h.ne.1⟩, h.s.mov hm (by have := h.ne.2.1; omega), h.c.mov hm, hR, h.be.trans (hm.below (by have := h.ne.2.1; omega) h.be.size), h.bl.movR hm (h.bn.imp id (fun k b off e => (k b off e).1)), h.bn, h.ne⟩
theorem HB.later {w wr w' : World} {R N Bx : Nat} {m : Int} {va : Option Addr} {vc : Nat} {Ls : List Clz} {vb : Option Addr} {l : Nat} {B : Nat → Bool} (h : HB w wr R N Bx m va vc Ls vb l B) (hb : Below wr.heap.size wr w') : HB w w' R N Bx m va vc Ls vb l B := h.mov (Mov.of hb) (h.rd.below hb)
set_option maxRecDepth 100000 in
set_option maxHeartbeats 2000000 in
theorem drawCnfHas_any (a : Option Addr) (l c : Nat) (w : World) (hl : l ≤ 1048576) (hc : l ≤ c) (hcm : c ≤ maxLen) (hby : Byts w w.heap.size a l) :
    Calls Try.prog 5 #[.slice a l c] w fun e w' => LawH w w' e := by
  obtain ⟨w1, hw1⟩ : ∃ x, x = w.alloc (.cells #[.int .i64 0, .slice none 0 0] 25) := ⟨_, rfl⟩
  have b1 : Below w.heap.size w w1 := by rw [hw1]; exact (Below.refl _ _).alloc (Nat.le_refl _) _
  have rm1 : Made w1 w.heap.size 2 := by rw [hw1]; exact made_two
  have s1 : w1.heap.size = w.heap.size + 1 := by rw [hw1]; simp
  have hby1 := byts_later (R' := w1.heap.size) hby b1 (by omega)
  go_enter Try.func5, Try.ntmps5
  go_wp2_with fail
  rw [← hw1]
  clear hw1 hby
  refine (open_any _ _ _ _ hl hc hcm hby1).mono ?_
  rintro e w2 ⟨rfl, R2, b2⟩
  obtain ⟨R, hRe⟩ : ∃ x, x = w1.heap.size := ⟨_, rfl⟩
  rw [← hRe] at R2
  rw [← hRe]
  have rl := R2.lt
  have rm2 := rm1.later b2
  have BL : Below w.heap.size w w2 := b1.trans (b2.mono b1.size)
  have hlt : w.heap.size < R := by omega
  clear hRe b1 b2 rm1 hby1 s1
  go_wp2_with fail
  refine (l4Cnf_any R _ _ R2 (by omega)).mono ?_
  rintro e w3 ⟨⟨m3, v3, L3, rfl, m31, m37, l3, c3⟩, R3, mv3⟩
  have rm3 := rm2.mov mv3 (by omega)
  have BL3 := BL.trans (mv3.below (by omega) BL.size)
  have hs3 := R3.lt
  clear BL rm2 mv3 R2
  obtain ⟨va, vc, rfl, _⟩ := c3.slice
  obtain ⟨w5, hw5⟩ : ∃ x, x = w3.alloc (.cells #[.int .i64 m3, .slice va L3.length vc] 25) := ⟨_, rfl⟩
  have b5 : Below w3.heap.size w3 w5 := by rw [hw5]; exact (Below.refl _ _).alloc (Nat.le_refl _) _
  have p5 : Box w5 w3.heap.size m3 va L3.length vc := by rw [hw5]; exact Box.new _ _ _ _ _ _
  obtain ⟨Bx, hBx⟩ : ∃ x, x = w3.heap.size := ⟨_, rfl⟩
  have h5 : HB w w5 R 1000 Bx m3 va vc L3 none 0 (fun _ => false) := by
    rw [hBx]
    exact ⟨p5, rm3.later b5, c3.later b5, R3.below b5, BL3.trans (b5.mono BL3.size), Or.inl rfl, Or.inl rfl, by omega, hlt, by have := BL3.size; omega⟩
  have HV5 := hide hw5
  have H5 := hide h5
  have lB := World.block_lt_of_cell? _ _ p5.1
  clear hw5 b5 p5 rm3 c3 R3 BL3 h5
  have d5 := (unhide H5).p
  obtain ⟨d50, d51⟩ := id d5
  clear d5
  go_wp2_with fail
  rw [← unhide HV5]
  rw [← hBx]
  clear hBx
  refine (sCnfLeast_any (m3 : Int) va L3.length vc (cA L3) (cL L3) (cC L3) (cV L3) w5 (rws_len (unhide H5).c) ((unhide H5).c.fits (by omega))).mono ?_
  rintro e w6 ⟨hX, b6⟩
  have H6 := hide ((unhide H5).later b6)
  have l56 := (unhide H5).rd.lt
  have l57 := (unhide H5).be.size
  clear b6 d50 d51
  rw [Int.toNat_natCast] at hX
  rcases hX with ⟨k, B, _, hk, hB, rfl, hb, hm⟩ | ⟨_, a6, c6, rfl⟩
  · have H : Hid (HB w w6 R 1000 Bx m3 va vc L3 (some ⟨B, 0, none⟩) m3 (vls m3 k)) := ⟨(unhide H6).p, (unhide H6).s, (unhide H6).c, (unhide H6).rd, (unhide H6).be, Or.inr ⟨B, 0, rfl, hm.1, hb⟩, Or.inr (fun b off e => by cases e; omega), (unhide H6).ne⟩
    clear H5 H6 hb hm hB hk l56 l57
    go_wp2_with fail
    refine (pick_any R _ 3 _ (unhide H).rd (by omega) (by omega) (by omega)).mono ?_
    rintro e w7 ⟨x, rfl, x0, x1, R7, m7⟩
    have H := hide ((unhide H).mov m7 R7)
    clear m7 R7
    by_cases hx : x = 0
    · subst hx
      have kp0 := (unhide H).p.1
      go_wp2
      refine wp_region_held_drew (S := fun w' => w'.cell? ⟨Bx, 0, none⟩ = some (.int .i64 (m3 : Int))) (by kernel_rfl) ?_ (fun hHeld => ?_)
      · exact kp0
      obtain ⟨wd, hwd⟩ : ∃ x, x = w7.drew := ⟨_, rfl⟩
      have H := hide ((unhide H).later (Below.refl _ _).drew)
      rw [← hwd] at H ⊢
      (try rw [← hwd] at hHeld)
      clear hwd kp0
      have kp0 := (unhide H).p.1
      refine wpAnyH_take (i := 0) (v := ?_) rfl (by kernel_rfl) (by kernel_rfl) (by kernel_rfl) (fun _ _ _ h => h) (Or.inl ⟨by rfl, ?_⟩) (by assumption) ?_
      rotate_left
      · (intro w hSw; (try dsimp only at hSw); first | (go_simp; done) | (go_simp; with_reducible rfl))
      try simp only [List.getElem_toArray, List.getElem_cons_succ, List.getElem_cons_zero, Act.put, List.setIfInBounds_toArray, List.set_cons_zero, List.set_cons_succ]
      refine wpAnyH_take (i := 1) (v := ?_) rfl (by kernel_rfl) (by kernel_rfl) (by kernel_rfl) (fun _ _ _ h => h) (Or.inl ⟨by rfl, ?_⟩) (by assumption) ?_
      rotate_left
      · (intro w hSw; (try dsimp only at hSw); first | (go_simp; done) | (go_simp; with_reducible rfl))
      try simp only [List.getElem_toArray, List.getElem_cons_succ, List.getElem_cons_zero, Act.put, List.setIfInBounds_toArray, List.set_cons_zero, List.set_cons_succ]
      refine wpAnyH_take (i := 2) (v := ?_) rfl (by kernel_rfl) (by kernel_rfl) (by kernel_rfl) (fun _ _ _ h => h) (Or.inl ⟨by rfl, ?_⟩) (by assumption) ?_
      rotate_left
      · (intro w hSw; (try dsimp only at hSw); first | (go_simp; done) | (go_simp; with_reducible rfl))
      try simp only [List.getElem_toArray, List.getElem_cons_succ, List.getElem_cons_zero, Act.put, List.setIfInBounds_toArray, List.set_cons_zero, List.set_cons_succ]
      refine wpAnyH_ready (rs := [3]) (by kernel_rfl) (by simp) ?_
      refine AllReadyH.cons rfl (fun K hK => ?_) AllReadyH.nil
      go_simp
      refine (pick_any R _ 128 _ (by exact (unhide H).rd) (by omega) (by omega) (by omega)).mono ?_
      rintro e wp ⟨y, rfl, y0, y1, Rp, mp⟩
      have H := hide ((unhide H).mov (by exact mp) Rp)
      have kp0 := (unhide H).p.1
      obtain ⟨y, rfl⟩ := Int.eq_ofNat_of_zero_le y0
      clear mp Rp
      go_wp2_with fail
      refine hK.out _ _ ?_ (fun hHeld => ?_)
      · exact kp0
      clear hK K
      try simp only [List.getElem_toArray, List.getElem_cons_succ, List.getElem_cons_zero, Act.put, List.setIfInBounds_toArray, List.set_cons_zero, List.set_cons_succ]
      refine wpAnyH_ready (rs := [4]) (by kernel_rfl) (by simp) ?_
      refine AllReadyH.cons rfl (fun K hK => ?_) AllReadyH.nil
      go_simp
      refine (l4Vals_any m3 y _ (by omega) (by omega)).mono ?_
      rintro e wv ⟨rfl, hbv, hmv, bv⟩
      have hsz := (unhide H).rd.lt
      have hbe := (unhide H).be.size
      have H : Hid (HB w wv R ((1000 + 1 + 1)) Bx m3 va vc L3 (some ⟨wp.heap.size, 0, none⟩) m3 (vls m3 y)) := ⟨((unhide H).later bv).p, ((unhide H).later bv).s, ((unhide H).later bv).c, ((unhide H).later bv).rd, ((unhide H).later bv).be, Or.inr ⟨_, _, rfl, hmv.1, hbv⟩, Or.inr (fun b off e => by cases e; omega), (unhide H).ne⟩
      have kp0 := (unhide H).p.1
      obtain ⟨YB, hYB⟩ : ∃ z, z = wp.heap.size := ⟨_, rfl⟩
      rw [← hYB] at H ⊢
      clear hbv hmv bv hsz hbe hYB
      go_wp2_with fail
      refine hK.out _ _ ?_ (fun hHeld => ?_)
      · exact kp0
      clear hK K
      try simp only [List.getElem_toArray, List.getElem_cons_succ, List.getElem_cons_zero, Act.put, List.setIfInBounds_toArray, List.set_cons_zero, List.set_cons_succ]
      refine wpAnyH_ready (rs := [5]) (by kernel_rfl) (by simp) ?_
      refine AllReadyH.cons rfl (fun K hK => ?_) AllReadyH.nil
      go_simp
      refine hK.out _ _ ?_ (fun hHeld => ?_)
      · exact kp0
      clear hK K
      try simp only [List.getElem_toArray, List.getElem_cons_succ, List.getElem_cons_zero, Act.put, List.setIfInBounds_toArray, List.set_cons_zero, List.set_cons_succ]
      refine wpAnyH_done (by kernel_rfl) ?_ _
      clear kp0
      have kp0 := (unhide H).p.1
      have kp1 := (unhide H).p.2
      go_wp2_with fail
      refine (l4Bent_any R _ 30 (m3 : Int) (.slice va L3.length vc) L3 _ (unhide H).rd (by omega) (by unfold W64; omega) (unhide H).c l3 (by omega)).mono ?_
      rintro e w9 ⟨⟨m9, v9, L9, rfl, hm9, l9, c9⟩, R9, mv9⟩
      have H9 := hide ((unhide H).mov mv9 R9)
      have lwr := (unhide H9).ne
      have CQ : ∀ q, q ∈ L9 → q.g ≠ w.heap.size := fun q hq => by have := (c9.1 q hq).1; omega
      have CV : ∀ k, v9.ownBlock = some k → k ≠ w.heap.size := by
        intro k hk
        rcases c9.2 with ⟨e, _⟩ | ⟨b, cap, e, _, h2, h3, _⟩
        · rw [e] at hk; simp [Value.ownBlock] at hk
        · rw [e] at hk; simp [Value.ownBlock] at hk; omega
      obtain ⟨v9a, v9c, e9, _⟩ := c9.slice
      subst e9
      have CL9 := hide c9
      have CV9 := hide CV
      have CQ9 := hide CQ
      clear c9 mv9 R9 H kp0 kp1 CV CQ
      have f0 := ((unhide H9).s.2 0 (by omega)).2
      have f1 := ((unhide H9).s.2 1 (by omega)).2
      obtain ⟨q0, e0⟩ := ((unhide H9).s.2 0 (by omega)).1
      obtain ⟨q1, e1⟩ := ((unhide H9).s.2 1 (by omega)).1
      go_wp2
      refine bodyPost_ret (v := .tuple #[.agg #[.int .i64 m9, .slice v9a L9.length v9c], .slice (some ⟨YB, 0, none⟩) m3 m3]) (by simp [results, Try.results5, go_sem, e0, e1]) rfl ?_
      have ms : Mov w.heap.size w9 ((w9.setCell ⟨w.heap.size, 0, none⟩ (.int .i64 m9)).setCell ⟨w.heap.size, 1, none⟩ (.slice v9a L9.length v9c)) := (Mov.set _ _ _).trans (Mov.set _ _ _)
      exact ⟨m9, _, L9, R, (some ⟨YB, 0, none⟩), m3, m3, (vls m3 y), rfl, hm9, by omega, (((unhide CL9).set (b := w.heap.size) (o := 0) (x := .int .i64 m9) (unhide CQ9) (fun e => unhide CV9 _ e rfl)).set (b := w.heap.size) (o := 1) (x := .slice v9a L9.length v9c) (unhide CQ9) (fun e => unhide CV9 _ e rfl)), (unhide H9).bl.movR ms ((unhide H9).bn.imp id (fun k b off e => (k b off e).2)), by omega, ((unhide H9).be.setCell (by simp) _).setCell (by simp) _⟩
    · have xb : (x == 0) = false := by simp [hx]
      have kp0 := (unhide H).p.1
      have kp1 := (unhide H).p.2
      go_wp2_with fail
      refine (l4Bent_any R _ 30 (m3 : Int) (.slice va L3.length vc) L3 _ (unhide H).rd (by omega) (by unfold W64; omega) (unhide H).c l3 (by omega)).mono ?_
      rintro e w9 ⟨⟨m9, v9, L9, rfl, hm9, l9, c9⟩, R9, mv9⟩
      have H9 := hide ((unhide H).mov mv9 R9)
      have lwr := (unhide H9).ne
      have CQ : ∀ q, q ∈ L9 → q.g ≠ w.heap.size := fun q hq => by have := (c9.1 q hq).1; omega
      have CV : ∀ k, v9.ownBlock = some k → k ≠ w.heap.size := by
        intro k hk
        rcases c9.2 with ⟨e, _⟩ | ⟨b, cap, e, _, h2, h3, _⟩
        · rw [e] at hk; simp [Value.ownBlock] at hk
        · rw [e] at hk; simp [Value.ownBlock] at hk; omega
      obtain ⟨v9a, v9c, e9, _⟩ := c9.slice
      subst e9
      have CL9 := hide c9
      have CV9 := hide CV
      have CQ9 := hide CQ
      clear c9 mv9 R9 H kp0 kp1 CV CQ
      have f0 := ((unhide H9).s.2 0 (by omega)).2
      have f1 := ((unhide H9).s.2 1 (by omega)).2
      obtain ⟨q0, e0⟩ := ((unhide H9).s.2 0 (by omega)).1
      obtain ⟨q1, e1⟩ := ((unhide H9).s.2 1 (by omega)).1
      go_wp2
      refine bodyPost_ret (v := .tuple #[.agg #[.int .i64 m9, .slice v9a L9.length v9c], .slice (some ⟨B, 0, none⟩) m3 m3]) (by simp [results, Try.results5, go_sem, e0, e1]) rfl ?_
      have ms : Mov w.heap.size w9 ((w9.setCell ⟨w.heap.size, 0, none⟩ (.int .i64 m9)).setCell ⟨w.heap.size, 1, none⟩ (.slice v9a L9.length v9c)) := (Mov.set _ _ _).trans (Mov.set _ _ _)
      exact ⟨m9, _, L9, R, (some ⟨B, 0, none⟩), m3, m3, (vls m3 k), rfl, hm9, by omega, (((unhide CL9).set (b := w.heap.size) (o := 0) (x := .int .i64 m9) (unhide CQ9) (fun e => unhide CV9 _ e rfl)).set (b := w.heap.size) (o := 1) (x := .slice v9a L9.length v9c) (unhide CQ9) (fun e => unhide CV9 _ e rfl)), (unhide H9).bl.movR ms ((unhide H9).bn.imp id (fun k b off e => (k b off e).2)), by omega, ((unhide H9).be.setCell (by simp) _).setCell (by simp) _⟩
  · have H := H6
    clear H5 H6 l56 l57
    have kp0 := (unhide H).p.1
    go_wp2
    refine wp_region_held_drew (S := fun w' => w'.cell? ⟨Bx, 0, none⟩ = some (.int .i64 (m3 : Int))) (by kernel_rfl) ?_ (fun hHeld => ?_)
    · exact kp0
    obtain ⟨wd, hwd⟩ : ∃ x, x = w6.drew := ⟨_, rfl⟩
    have H := hide ((unhide H).later (Below.refl _ _).drew)
    rw [← hwd] at H ⊢
    (try rw [← hwd] at hHeld)
    clear hwd kp0
    have kp0 := (unhide H).p.1
    refine wpAnyH_take (i := 0) (v := ?_) rfl (by kernel_rfl) (by kernel_rfl) (by kernel_rfl) (fun _ _ _ h => h) (Or.inl ⟨by rfl, ?_⟩) (by assumption) ?_
    rotate_left
    · (intro w hSw; (try dsimp only at hSw); first | (go_simp; done) | (go_simp; with_reducible rfl))
    try simp only [List.getElem_toArray, List.getElem_cons_succ, List.getElem_cons_zero, Act.put, List.setIfInBounds_toArray, List.set_cons_zero, List.set_cons_succ]
    refine wpAnyH_take (i := 1) (v := ?_) rfl (by kernel_rfl) (by kernel_rfl) (by kernel_rfl) (fun _ _ _ h => h) (Or.inl ⟨by rfl, ?_⟩) (by assumption) ?_
    rotate_left
    · (intro w hSw; (try dsimp only at hSw); first | (go_simp; done) | (go_simp; with_reducible rfl))
    try simp only [List.getElem_toArray, List.getElem_cons_succ, List.getElem_cons_zero, Act.put, List.setIfInBounds_toArray, List.set_cons_zero, List.set_cons_succ]
    refine wpAnyH_take (i := 2) (v := ?_) rfl (by kernel_rfl) (by kernel_rfl) (by kernel_rfl) (fun _ _ _ h => h) (Or.inl ⟨by rfl, ?_⟩) (by assumption) ?_
    rotate_left
    · (intro w hSw; (try dsimp only at hSw); first | (go_simp; done) | (go_simp; with_reducible rfl))
    try simp only [List.getElem_toArray, List.getElem_cons_succ, List.getElem_cons_zero, Act.put, List.setIfInBounds_toArray, List.set_cons_zero, List.set_cons_succ]
    refine wpAnyH_ready (rs := [3]) (by kernel_rfl) (by simp) ?_
    refine AllReadyH.cons rfl (fun K hK => ?_) AllReadyH.nil
    go_simp
    refine (pick_any R _ 128 _ (by exact (unhide H).rd) (by omega) (by omega) (by omega)).mono ?_
    rintro e wp ⟨y, rfl, y0, y1, Rp, mp⟩
    have H := hide ((unhide H).mov (by exact mp) Rp)
    have kp0 := (unhide H).p.1
    obtain ⟨y, rfl⟩ := Int.eq_ofNat_of_zero_le y0
    clear mp Rp
    go_wp2_with fail
    refine hK.out _ _ ?_ (fun hHeld => ?_)
    · exact kp0
    clear hK K
    try simp only [List.getElem_toArray, List.getElem_cons_succ, List.getElem_cons_zero, Act.put, List.setIfInBounds_toArray, List.set_cons_zero, List.set_cons_succ]
    refine wpAnyH_ready (rs := [4]) (by kernel_rfl) (by simp) ?_
    refine AllReadyH.cons rfl (fun K hK => ?_) AllReadyH.nil
    go_simp
    refine (l4Vals_any m3 y _ (by omega) (by omega)).mono ?_
    rintro e wv ⟨rfl, hbv, hmv, bv⟩
    have hsz := (unhide H).rd.lt
    have hbe := (unhide H).be.size
    have H : Hid (HB w wv R ((1000 + 1)) Bx m3 va vc L3 (some ⟨wp.heap.size, 0, none⟩) m3 (vls m3 y)) := ⟨((unhide H).later bv).p, ((unhide H).later bv).s, ((unhide H).later bv).c, ((unhide H).later bv).rd, ((unhide H).later bv).be, Or.inr ⟨_, _, rfl, hmv.1, hbv⟩, Or.inr (fun b off e => by cases e; omega), (unhide H).ne⟩
    have kp0 := (unhide H).p.1
    obtain ⟨YB, hYB⟩ : ∃ z, z = wp.heap.size := ⟨_, rfl⟩
    rw [← hYB] at H ⊢
    clear hbv hmv bv hsz hbe hYB
    go_wp2_with fail
    refine hK.out _ _ ?_ (fun hHeld => ?_)
    · exact kp0
    clear hK K
    try simp only [List.getElem_toArray, List.getElem_cons_succ, List.getElem_cons_zero, Act.put, List.setIfInBounds_toArray, List.set_cons_zero, List.set_cons_succ]
    refine wpAnyH_ready (rs := [5]) (by kernel_rfl) (by simp) ?_
    refine AllReadyH.cons rfl (fun K hK => ?_) AllReadyH.nil
    go_simp
    refine hK.out _ _ ?_ (fun hHeld => ?_)
    · exact kp0
    clear hK K
    try simp only [List.getElem_toArray, List.getElem_cons_succ, List.getElem_cons_zero, Act.put, List.setIfInBounds_toArray, List.set_cons_zero, List.set_cons_succ]
    refine wpAnyH_done (by kernel_rfl) ?_ _
    clear kp0
    have kp0 := (unhide H).p.1
    have kp1 := (unhide H).p.2
    go_wp2_with fail
    refine (l4Bent_any R _ 30 (m3 : Int) (.slice va L3.length vc) L3 _ (unhide H).rd (by omega) (by unfold W64; omega) (unhide H).c l3 (by omega)).mono ?_
    rintro e w9 ⟨⟨m9, v9, L9, rfl, hm9, l9, c9⟩, R9, mv9⟩
    have H9 := hide ((unhide H).mov mv9 R9)
    have lwr := (unhide H9).ne
    have CQ : ∀ q, q ∈ L9 → q.g ≠ w.heap.size := fun q hq => by have := (c9.1 q hq).1; omega
    have CV : ∀ k, v9.ownBlock = some k → k ≠ w.heap.size := by
      intro k hk
      rcases c9.2 with ⟨e, _⟩ | ⟨b, cap, e, _, h2, h3, _⟩
      · rw [e] at hk; simp [Value.ownBlock] at hk
      · rw [e] at hk; simp [Value.ownBlock] at hk; omega
    obtain ⟨v9a, v9c, e9, _⟩ := c9.slice
    subst e9
    have CL9 := hide c9
    have CV9 := hide CV
    have CQ9 := hide CQ
    clear c9 mv9 R9 H kp0 kp1 CV CQ
    have f0 := ((unhide H9).s.2 0 (by omega)).2
    have f1 := ((unhide H9).s.2 1 (by omega)).2
    obtain ⟨q0, e0⟩ := ((unhide H9).s.2 0 (by omega)).1
    obtain ⟨q1, e1⟩ := ((unhide H9).s.2 1 (by omega)).1
    go_wp2
    refine bodyPost_ret (v := .tuple #[.agg #[.int .i64 m9, .slice v9a L9.length v9c], .slice (some ⟨YB, 0, none⟩) m3 m3]) (by simp [results, Try.results5, go_sem, e0, e1]) rfl ?_
    have ms : Mov w.heap.size w9 ((w9.setCell ⟨w.heap.size, 0, none⟩ (.int .i64 m9)).setCell ⟨w.heap.size, 1, none⟩ (.slice v9a L9.length v9c)) := (Mov.set _ _ _).trans (Mov.set _ _ _)
    exact ⟨m9, _, L9, R, (some ⟨YB, 0, none⟩), m3, m3, (vls m3 y), rfl, hm9, by omega, (((unhide CL9).set (b := w.heap.size) (o := 0) (x := .int .i64 m9) (unhide CQ9) (fun e => unhide CV9 _ e rfl)).set (b := w.heap.size) (o := 1) (x := .slice v9a L9.length v9c) (unhide CQ9) (fun e => unhide CV9 _ e rfl)), (unhide H9).bl.movR ms ((unhide H9).bn.imp id (fun k b off e => (k b off e).2)), by omega, ((unhide H9).be.setCell (by simp) _).setCell (by simp) _⟩
end Go.Proofs.Ytihihjchkniifaa
