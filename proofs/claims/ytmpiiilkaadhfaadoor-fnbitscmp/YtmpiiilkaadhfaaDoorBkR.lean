/- The builder of the program: one number's marks or the other's, bit by bit. -/
import Derived.Test.YtmpiiilkaadhfaaDoorBkQ
namespace Go.Proofs.YtmpiiilkaadhfaaDoor
open Go.ChangeShapes Go.WideShapes Go.ChangeAt Go.RowKit Go.Joins
set_option linter.unusedVariables false
set_option maxRecDepth 100000
set_option linter.unusedSimpArgs false

theorem Grow.mov {w w' : World} {base gb : Nat} {m : Int} {g n c B R : Nat} {G : Nat → Gt} (h : Grow w base gb m g n c B G) (hm : Mov R w w') (h1 : R ≠ gb) (h2 : R ≠ B) (h3 : R ≠ g) : Grow w' base gb m g n c B G := by
  obtain ⟨⟨p0, p1, p2, pf⟩, ho, ht, hr⟩ := h
  have lt := World.block_lt_of_cell? _ _ p0
  refine ⟨⟨hm.cell p0 (by simp only; omega), hm.cell p1 (by simp only; omega), hm.cell p2 (by simp only; omega), fun o => (World.frozen?_of_block (hm.2.2.2.2 gb lt (by omega))).trans (pf o)⟩, ho.kept (grown_mov hm) (Or.inr (by simp [Value.ownBlock]; omega)), ht.keep (hm.2.2.2.2 B ht.lt (by omega)), hr⟩
theorem Bld.mov {w w' : World} {base bb gb B g R : Nat} {aR : Addr} {s : KS} (h : Bld w base bb gb B g aR s) (hm : Mov R w w') (hn : ¬ S4 bb gb B g R) : Bld w' base bb gb B g aR s := by
  have e1 : R ≠ bb := fun e => hn (Or.inl e)
  have e2 : R ≠ gb := fun e => hn (Or.inr (Or.inl e))
  have e3 : R ≠ B := fun e => hn (Or.inr (Or.inr (Or.inl e)))
  have e4 : R ≠ g := fun e => hn (Or.inr (Or.inr (Or.inr e)))
  have hz := hm.size
  exact ⟨hm.cell h.p (by simp only; omega), fun k => hm.cell (h.f1 k) (by simp only; omega), fun k => hm.cell (h.f0 k) (by simp only; omega), fun o => (World.frozen?_of_block (hm.2.2.2.2 bb h.lt (by omega))).trans (h.z o), fun k => by obtain ⟨c, hc⟩ := h.gr k; exact ⟨c, hc.mov hm e2 e3 e4⟩, h.n1, h.n2, h.n3, h.bs, by have := h.lg; omega⟩
/-- A row that is being made, and the builder. -/
structure RowP (w wr : World) (base bb gb B g g' : Nat) (aF aR : Addr) (s : KS) (R : List Int) (n j row : Nat) : Prop where
  b : Bld wr base bb gb B g' aR s
  s : Sent wr base aF aR
  gs : GS g g' w.heap.size
  ne : ¬ S4 bb gb B g' row
  o : OutS (S4 bb gb B g) w wr
  i : Ints wr row 0 j (at0 R)
  m : Made wr row n
theorem RowP.drew {w wr : World} {base bb gb B g g' : Nat} {aF aR : Addr} {s : KS} {R : List Int} {n j row : Nat} (h : RowP w wr base bb gb B g g' aF aR s R n j row) : RowP w wr.drew base bb gb B g g' aF aR s R n j row :=
  ⟨h.b.later (Below.refl _ _).drew, h.s.drew, h.gs, h.ne, h.o.drew, h.i, h.m⟩
theorem RowP.call {w wr w1 : World} {base bb gb B g g' : Nat} {aF aR : Addr} {s t : KS} {R : List Int} {n j row : Nat} (h : RowP w wr base bb gb B g g' aF aR s R n j row) (k : BStep wr w1 base bb gb B g' aR t) : ∃ g'', RowP w w1 base bb gb B g g'' aF aR t R n j row ∧ OutS (S4 bb gb B g') wr w1 := by
  obtain ⟨g2, k1, k2, k3⟩ := k
  refine ⟨g2, ⟨k1, h.s.out h.b k3, gates_step h.gs k2 h.o.size, fun e => ?_, outS_step h.gs h.o k3, fun i hi => k3.cell (h.i i hi) h.ne, Nat.lt_of_lt_of_le h.m.1 k3.size, fun i hi => ?_⟩, k3⟩
  · rcases e with e | e | e | e
    · exact h.ne (Or.inl e)
    · exact h.ne (Or.inr (Or.inl e))
    · exact h.ne (Or.inr (Or.inr (Or.inl e)))
    · rcases k2 with e' | e'
      · exact h.ne (Or.inr (Or.inr (Or.inr (by omega))))
      · have := h.m.1; omega
  · obtain ⟨⟨v, hv⟩, hf⟩ := h.m.2 i hi
    exact ⟨⟨v, k3.cell hv h.ne⟩, (k3.frozen (p := ⟨row, i, none⟩) h.m.1 h.ne).trans hf⟩
theorem RowP.put {w wr : World} {base bb gb B g g' : Nat} {aF aR : Addr} {s : KS} {R : List Int} {n j row : Nat} {x : Int} (h : RowP w wr base bb gb B g g' aF aR s R n j row) (hj : j < n) (hR : R.length = j) (hrow : w.heap.size ≤ row) (hbase : base ≤ w.heap.size) : RowP w (wr.setCell ⟨row, j, none⟩ (.int .i64 x)) base bb gb B g g' aF aR s (R ++ [x]) n (j + 1) row := by
  have mv : Mov row wr (wr.setCell ⟨row, j, none⟩ (.int .i64 x)) := Mov.set _ _ _
  obtain ⟨⟨u, hu⟩, hf⟩ := h.m.2 j hj
  have hb := h.s.b
  have hbs := h.b.bs
  have he : at0 (R ++ [x]) j = x := by rw [← hR]; exact at0_last R x
  have hi : Ints wr row 0 j (at0 (R ++ [x])) := fun i hi => by rw [at0_fore (by omega)]; exact h.i i hi
  have hp := hi.put hu
  rw [he] at hp
  refine ⟨h.b.mov mv h.ne, ⟨mv.cell h.s.f (by simp only; omega), mv.cell h.s.r ?_, hb⟩, h.gs, h.ne, h.o.mov mv (fun e => by omega), hp, h.m.set _ _⟩
  simp only; omega
theorem infoMark : (Tryd.prog.info? 81).map (fun i => (i.zero, i.size, i.bytes)) = some (some (.int .i64 0), 1, 8) := by kernel_rfl
set_option maxRecDepth 100000 in
set_option maxHeartbeats 800000 in
theorem chooseF_any (base bb gb B g : Nat) (aF aR : Addr) (s : KS) (c a b : Int) (w : World) (hb : Bld w base bb gb B g aR s) (hs : Sent w base aF aR) (hbase : base ≤ w.heap.size) (hk : KOk s) (hc : Mk s c) (ha : Mk s a) (hb' : Mk s b) (b1 b2 : Nat) (q1 : w.cell? ⟨b1, 0, none⟩ = some (.pointer (some ⟨bb, 0, none⟩))) (q2 : w.cell? ⟨b2, 0, none⟩ = some (.int .i64 c)) :
    Calls Tryd.prog 100 #[.int .i64 a, .int .i64 b, .pointer (some ⟨b1, 0, none⟩), .pointer (some ⟨b2, 0, none⟩)] w fun e w' => e = .returned (.int .i64 (oneK 0 s c a b).2) ∧ BStep w w' base bb gb B g aR (oneK 0 s c a b).1 := by
  have HC := hide (bone_any base bb gb B g aF aR s c a b w hb hs hbase hk hc ha hb')
  clear hb hs hbase hk hc ha hb'
  obtain ⟨u, hu⟩ : ∃ u, u = oneK 0 s c a b := ⟨_, rfl⟩
  rw [← hu] at HC
  rw [← hu]
  clear hu
  go_enter Tryd.func100, Tryd.ntmps100
  go_wp2_with fail
  refine (unhide HC).mono ?_
  rintro e w1 ⟨rfl, h1⟩
  have H1 := hide h1
  clear h1
  go_wp2
  go_ret
  exact ⟨rfl, unhide H1⟩
set_option maxRecDepth 100000 in
set_option maxHeartbeats 1500000 in
theorem eachIf_any (base bb gb B g : Nat) (aF aR : Addr) (s : KS) (c : Int) (rx ox cx ry oy cy n b1 b2 : Nat) (L M : List Int) (w : World) (hb : Bld w base bb gb B g aR s) (hs : Sent w base aF aR) (hbase : base ≤ w.heap.size) (hk : KOk s) (hc : Mk s c) (hL : L.length = n) (hM : M.length = n) (hn : n ≤ 100) (dx : Ints w rx ox n (at0 L)) (dy : Ints w ry oy n (at0 M)) (nx : ¬ S4 bb gb B g rx ∧ rx < w.heap.size) (ny : ¬ S4 bb gb B g ry ∧ ry < w.heap.size) (mL : MkL s L) (mM : MkL s M)
    (q1 : w.cell? ⟨b1, 0, none⟩ = some (.pointer (some ⟨bb, 0, none⟩))) (q2 : w.cell? ⟨b2, 0, none⟩ = some (.int .i64 c)) (n1 : ¬ S4 bb gb B g b1) (n2 : ¬ S4 bb gb B g b2) :
    Calls Tryd.prog 99 #[.func (.func 100) #[] #[.pointer (some ⟨b1, 0, none⟩), .pointer (some ⟨b2, 0, none⟩)], .slice (some ⟨rx, ox, none⟩) n cx, .slice (some ⟨ry, oy, none⟩) n cy] w fun e w' => e = .returned (.slice (some ⟨w.heap.size, 0, none⟩) n n) ∧ ∃ g', RowP w w' base bb gb B g g' aF aR (ifsK 0 c s L M n).1 (ifsK 0 c s L M n).2 n n w.heap.size := by
  have hmk := run_make_wide (P := Tryd.prog) 64 81 _ 1 8 Tryd.underlying64 infoMark .i64 .i64 n (by omega) (by omega)
  simp only [Nat.mul_one] at hmk
  have HGD : Hid (∀ i, i ≤ n → KOk (ifsK 0 c s L M i).1 ∧ MkL (ifsK 0 c s L M i).1 (ifsK 0 c s L M i).2 ∧ Le s (ifsK 0 c s L M i).1) := fun i hi => mapK_good hk mL mM (fun t a b h1 h2 h3 h4 => oneK_good (by omega) h1 (hc.le h2) h3 h4) i (by omega) (by omega)
  have b0 : Below w.heap.size w (w.alloc (.cells (madeCells #[.int .i64 0] n) 81)) := (Below.refl _ _).alloc (Nat.le_refl _) _
  have hlg := hb.lg
  have hlt := hb.lt
  have H0 : Hid (RowP w (w.alloc (.cells (madeCells #[.int .i64 0] n) 81)) base bb gb B g g aF aR s [] n 0 w.heap.size) :=
    ⟨hb.later b0, hs.below b0 (by omega), Or.inl rfl, fun e => by rcases e with e | e | e | e <;> omega, OutS.of b0, fun i hi => by omega, Made.new _ _ _ _⟩
  have lb1 : b1 < w.heap.size := World.block_lt_of_cell? _ _ q1
  have lb2 : b2 < w.heap.size := World.block_lt_of_cell? _ _ q2
  have HC := hide hc
  have HX := hide dx
  have HY := hide dy
  have HNX := hide nx
  have HNY := hide ny
  have HmL := hide mL
  have HmM := hide mM
  have HeL := hide hL
  have HeM := hide hM
  have HQ1 := hide q1
  have HQ2 := hide q2
  have HN1 := hide n1
  have HN2 := hide n2
  clear hb hs hk hc hL hM dx dy nx ny mL mM q1 q2 n1 n2 b0 hlg hlt
  go_enter Tryd.func99, Tryd.ntmps99
  go_wp2
  go_loopw [14] (fun i wr => ∃ j : Nat, j ≤ n ∧ i = .int .i64 j ∧ ∃ g', RowP w wr base bb gb B g g' aF aR (ifsK 0 c s L M j).1 (ifsK 0 c s L M j).2 n j w.heap.size) (fun i _ => n - (intOf i).toNat)
  case atStart => exact ⟨0, by omega, rfl, g, unhide H0⟩
  case round =>
    obtain ⟨j, hj, rfl, g', hI⟩ := hrel
    have HR := hide hI
    have HGj := hide (unhide HGD j hj)
    have sep : ∀ k, k < w.heap.size → ¬ S4 bb gb B g k → ¬ S4 bb gb B g' k := fun k h1 h2 e => by
      rcases e with e | e | e | e
      · exact h2 (Or.inl e)
      · exact h2 (Or.inr (Or.inl e))
      · exact h2 (Or.inr (Or.inr (Or.inl e)))
      · rcases hI.gs with e' | e'
        · exact h2 (Or.inr (Or.inr (Or.inr (by omega))))
        · omega
    by_cases hlt : j < n
    · have dL := hI.o.cell (unhide HX j hlt) (unhide HNX).1
      have dM := hI.o.cell (unhide HY j hlt) (unhide HNY).1
      have q1 := hI.o.cell (unhide HQ1) (unhide HN1)
      have q2 := hI.o.cell (unhide HQ2) (unhide HN2)
      have N1 := hide (sep b1 lb1 (unhide HN1))
      have N2 := hide (sep b2 lb2 (unhide HN2))
      have NL := hide (sep rx (unhide HNX).2 (unhide HNX).1)
      have NM := hide (sep ry (unhide HNY).2 (unhide HNY).1)
      have lrx := (unhide HNX).2
      have lry := (unhide HNY).2
      have hbw := hI.o.size
      have mx := ((unhide HmL) j (by rw [unhide HeL]; exact hlt)).le (unhide HGj).2.2
      have my := ((unhide HmM) j (by rw [unhide HeM]; exact hlt)).le (unhide HGj).2.2
      have mc := (unhide HC).le (unhide HGj).2.2
      have HN : Hid (ifsK 0 c s L M (j + 1) = ((oneK 0 (ifsK 0 c s L M j).1 c (at0 L j) (at0 M j)).1, (ifsK 0 c s L M j).2 ++ [(oneK 0 (ifsK 0 c s L M j).1 c (at0 L j) (at0 M j)).2])) := rfl
      have hcall : ∀ w', RowP w w' base bb gb B g g' aF aR (ifsK 0 c s L M j).1 (ifsK 0 c s L M j).2 n j w.heap.size → w'.cell? ⟨b1, 0, none⟩ = some (.pointer (some ⟨bb, 0, none⟩)) → w'.cell? ⟨b2, 0, none⟩ = some (.int .i64 c) → Calls Tryd.prog 100 #[.int .i64 (at0 L j), .int .i64 (at0 M j), .pointer (some ⟨b1, 0, none⟩), .pointer (some ⟨b2, 0, none⟩)] w' _ := fun w' hw' h1 h2 => chooseF_any base bb gb B g' aF aR (ifsK 0 c s L M j).1 c (at0 L j) (at0 M j) w' hw'.b hw'.s (Nat.le_trans hbase hw'.o.size) (unhide HGj).1 mc mx my b1 b2 h1 h2
      obtain ⟨u, hu⟩ : ∃ u, u = oneK 0 (ifsK 0 c s L M j).1 c (at0 L j) (at0 M j) := ⟨_, rfl⟩
      rw [← hu] at hcall HN
      have HCALL := hide hcall
      have HLEN : Hid ((ifsK 0 c s L M j).2.length = j) := mapK_len _ _ _ _ _
      obtain ⟨⟨uz, mz⟩, mfz⟩ := hI.m.2 j hlt
      clear hcall hu mx my mc sep hI
      generalize at0 L j = x at *
      generalize at0 M j = y at *
      generalize (ifsK 0 c s L M j).1 = S at *
      generalize (ifsK 0 c s L M j).2 = R at *
      go_wp2
      refine wp_region_held_drew (S := fun w' => w'.cell? ⟨rx, ox + j, none⟩ = some (.int .i64 x) ∧ w'.cell? ⟨ry, oy + j, none⟩ = some (.int .i64 y)) (by kernel_rfl) ?_ (fun hHeld => ?_)
      · exact ⟨dL, dM⟩
      refine wpAnyH_take (i := 0) (v := ?_) rfl (by kernel_rfl) (by kernel_rfl) (by kernel_rfl) (fun _ _ _ h => h) (Or.inl ⟨by rfl, ?_⟩) (by assumption) ?_
      rotate_left
      · (intro w hSw; (try dsimp only at hSw); first | (go_simp; done) | (go_simp; with_reducible rfl))
      try simp only [List.getElem_toArray, List.getElem_cons_succ, List.getElem_cons_zero, Act.put, List.setIfInBounds_toArray, List.set_cons_zero, List.set_cons_succ]
      refine wpAnyH_take (i := 1) (v := ?_) rfl (by kernel_rfl) (by kernel_rfl) (by kernel_rfl) (fun _ _ _ h => h) (Or.inl ⟨by rfl, ?_⟩) (by assumption) ?_
      rotate_left
      · (intro w hSw; (try dsimp only at hSw); first | (go_simp; done) | (go_simp; with_reducible rfl))
      try simp only [List.getElem_toArray, List.getElem_cons_succ, List.getElem_cons_zero, Act.put, List.setIfInBounds_toArray, List.set_cons_zero, List.set_cons_succ]
      refine wpAnyH_take (i := 2) (v := ?_) rfl (by kernel_rfl) (by kernel_rfl) (by kernel_rfl) (fun _ _ _ h => h) (Or.inl ⟨by rfl, ?_⟩) (by assumption) ?_
      rotate_left
      · (intro w hSw; (try dsimp only at hSw); first | (go_simp; done) | (go_simp; with_reducible rfl))
      try simp only [List.getElem_toArray, List.getElem_cons_succ, List.getElem_cons_zero, Act.put, List.setIfInBounds_toArray, List.set_cons_zero, List.set_cons_succ]
      refine wpAnyH_take (i := 3) (v := ?_) rfl (by kernel_rfl) (by kernel_rfl) (by kernel_rfl) (fun _ _ _ h => h) (Or.inl ⟨by rfl, ?_⟩) (by assumption) ?_
      rotate_left
      · (intro w hSw; (try dsimp only at hSw); first | (go_simp; done) | (go_simp; with_reducible rfl))
      try simp only [List.getElem_toArray, List.getElem_cons_succ, List.getElem_cons_zero, Act.put, List.setIfInBounds_toArray, List.set_cons_zero, List.set_cons_succ]
      refine wpAnyH_take (i := 4) (v := ?_) rfl (by kernel_rfl) (by kernel_rfl) (by kernel_rfl) (fun _ _ _ h => h) (Or.inl ⟨by rfl, ?_⟩) (by assumption) ?_
      rotate_left
      · (intro w hSw; (try dsimp only at hSw); first | (go_simp; done) | (go_simp; with_reducible rfl))
      try simp only [List.getElem_toArray, List.getElem_cons_succ, List.getElem_cons_zero, Act.put, List.setIfInBounds_toArray, List.set_cons_zero, List.set_cons_succ]
      refine wpAnyH_take (i := 5) (v := ?_) rfl (by kernel_rfl) (by kernel_rfl) (by kernel_rfl) (fun _ _ _ h => h) (Or.inl ⟨by rfl, ?_⟩) (by assumption) ?_
      rotate_left
      · (intro w hSw; (try dsimp only at hSw); first | (go_simp; done) | (go_simp; with_reducible rfl))
      try simp only [List.getElem_toArray, List.getElem_cons_succ, List.getElem_cons_zero, Act.put, List.setIfInBounds_toArray, List.set_cons_zero, List.set_cons_succ]
      refine wpAnyH_take (i := 6) (v := ?_) rfl (by kernel_rfl) (by kernel_rfl) (by kernel_rfl) (fun _ _ _ h => h) (Or.inl ⟨by rfl, ?_⟩) (by assumption) ?_
      rotate_left
      · (intro w hSw; (try dsimp only at hSw); first | (go_simp; done) | (go_simp; with_reducible rfl))
      try simp only [List.getElem_toArray, List.getElem_cons_succ, List.getElem_cons_zero, Act.put, List.setIfInBounds_toArray, List.set_cons_zero, List.set_cons_succ]
      refine wpAnyH_take (i := 7) (v := ?_) rfl (by kernel_rfl) (by kernel_rfl) (by kernel_rfl) (fun _ _ _ h => h) (Or.inl ⟨by rfl, ?_⟩) (by assumption) ?_
      rotate_left
      · (intro w hSw; (try dsimp only at hSw); first | (go_simp; done) | (go_simp; with_reducible rfl))
      try simp only [List.getElem_toArray, List.getElem_cons_succ, List.getElem_cons_zero, Act.put, List.setIfInBounds_toArray, List.set_cons_zero, List.set_cons_succ]
      refine wpAnyH_take (i := 8) (v := ?_) rfl (by kernel_rfl) (by kernel_rfl) (by kernel_rfl) (fun _ _ _ h => h) (Or.inl ⟨by rfl, ?_⟩) (by assumption) ?_
      rotate_left
      · (intro w hSw; (try dsimp only at hSw); first | (go_simp; done) | (go_simp; with_reducible rfl))
      try simp only [List.getElem_toArray, List.getElem_cons_succ, List.getElem_cons_zero, Act.put, List.setIfInBounds_toArray, List.set_cons_zero, List.set_cons_succ]
      refine wpAnyH_take (i := 9) (v := ?_) rfl (by kernel_rfl) (by kernel_rfl) (by kernel_rfl) (fun _ _ _ h => h) (Or.inl ⟨by rfl, ?_⟩) (by assumption) ?_
      rotate_left
      · (intro w hSw; (try dsimp only at hSw); first | (go_simp; done) | (go_simp; with_reducible rfl))
      try simp only [List.getElem_toArray, List.getElem_cons_succ, List.getElem_cons_zero, Act.put, List.setIfInBounds_toArray, List.set_cons_zero, List.set_cons_succ]
      refine wpAnyH_take (i := 10) (v := ?_) rfl (by kernel_rfl) (by kernel_rfl) (by kernel_rfl) (fun _ _ _ h => h) (Or.inl ⟨by rfl, ?_⟩) (by assumption) ?_
      rotate_left
      · (intro w hSw; (try dsimp only at hSw); first | (go_simp; done) | (go_simp; with_reducible rfl))
      try simp only [List.getElem_toArray, List.getElem_cons_succ, List.getElem_cons_zero, Act.put, List.setIfInBounds_toArray, List.set_cons_zero, List.set_cons_succ]
      refine wpAnyH_ready (rs := [11]) (by kernel_rfl) (by simp) ?_
      refine AllReadyH.cons rfl (fun K hK => ?_) AllReadyH.nil
      go_simp
      refine (unhide HCALL _ (by first | exact unhide HR | exact (unhide HR).drew) (by first | exact q1 | exact q1) (by first | exact q2 | exact q2)).mono ?_
      rintro e w1 ⟨rfl, st⟩
      obtain ⟨g2, hr2, o2⟩ := RowP.call (by first | exact unhide HR | exact (unhide HR).drew) st
      replace q1 := o2.cell (by exact q1) (unhide N1)
      replace q2 := o2.cell (by exact q2) (unhide N2)
      replace dL := o2.cell (by exact dL) (unhide NL)
      replace dM := o2.cell (by exact dM) (unhide NM)
      have HR2 := hide hr2
      obtain ⟨⟨u0, m0⟩, mf⟩ := hr2.m.2 j hlt
      clear hr2 o2 st
      go_wp2_with fail
      refine hK.out _ _ ?_ (fun hHeld => ?_)
      · exact ⟨dL, dM⟩
      clear hK K
      try simp only [List.getElem_toArray, List.getElem_cons_succ, List.getElem_cons_zero, Act.put, List.setIfInBounds_toArray, List.set_cons_zero, List.set_cons_succ]
      refine wpAnyH_take (i := 12) (v := ?_) rfl (by kernel_rfl) (by kernel_rfl) (by kernel_rfl) (fun _ _ _ h => h) (Or.inl ⟨by rfl, ?_⟩) (by assumption) ?_
      rotate_left
      · (intro w hSw; (try dsimp only at hSw); first | (go_simp; done) | (go_simp; with_reducible rfl))
      try simp only [List.getElem_toArray, List.getElem_cons_succ, List.getElem_cons_zero, Act.put, List.setIfInBounds_toArray, List.set_cons_zero, List.set_cons_succ]
      refine wpAnyH_ready (rs := [13]) (by kernel_rfl) (by simp) ?_
      refine AllReadyH.cons rfl (fun K hK => ?_) AllReadyH.nil
      go_simp
      refine hK.out _ _ ?_ (fun hHeld => ?_)
      · exact ⟨by rw [World.cell?_setCell_other _ _ _ _ (by simp <;> omega)]; exact dL, by rw [World.cell?_setCell_other _ _ _ _ (by simp <;> omega)]; exact dM⟩
      clear hK K
      try simp only [List.getElem_toArray, List.getElem_cons_succ, List.getElem_cons_zero, Act.put, List.setIfInBounds_toArray, List.set_cons_zero, List.set_cons_succ]
      refine wpAnyH_done (by kernel_rfl) ?_ _
      have HR3 := hide ((unhide HR2).put (x := u.2) hlt (unhide HLEN) (Nat.le_refl _) hbase)
      go_wp2
      go_roundw
      case rel => exact ⟨j + 1, by omega, by go_num, g2, by rw [unhide HN]; exact unhide HR3⟩
      case measure => simp [intOf]; omega
    · have ej : j = n := by omega
      subst ej
      clear hI sep
      go_wp2
      go_ret
      exact ⟨rfl, g', unhide HR⟩
set_option maxRecDepth 100000 in
set_option maxHeartbeats 800000 in
theorem bchoose_any (base bb gb B g : Nat) (aF aR : Addr) (s : KS) (c : Int) (rx ox cx ry oy cy n : Nat) (L M : List Int) (w : World) (hb : Bld w base bb gb B g aR s) (hs : Sent w base aF aR) (hbase : base ≤ w.heap.size) (hk : KOk s) (hc : Mk s c) (hL : L.length = n) (hM : M.length = n) (hn : n ≤ 100) (dx : Ints w rx ox n (at0 L)) (dy : Ints w ry oy n (at0 M)) (nx : ¬ S4 bb gb B g rx ∧ rx < w.heap.size) (ny : ¬ S4 bb gb B g ry ∧ ry < w.heap.size) (mL : MkL s L) (mM : MkL s M) :
    Calls Tryd.prog 83 #[.pointer (some ⟨bb, 0, none⟩), .int .i64 c, .slice (some ⟨rx, ox, none⟩) n cx, .slice (some ⟨ry, oy, none⟩) n cy] w fun e w' => e = .returned (.slice (some ⟨w.heap.size + 2, 0, none⟩) n n) ∧ ∃ g', RowP w w' base bb gb B g g' aF aR (ifsK 0 c s L M n).1 (ifsK 0 c s L M n).2 n n (w.heap.size + 2) := by
  obtain ⟨wz, hwz⟩ : ∃ wz, wz = (w.alloc (.cells #[.pointer (some ⟨bb, 0, none⟩)] 60)).alloc (.cells #[.int .i64 c] 81) := ⟨_, rfl⟩
  have bz : Below w.heap.size w wz := by rw [hwz]; exact ((Below.refl _ _).alloc (Nat.le_refl _) _).alloc (by simp) _
  have q1 : wz.cell? ⟨w.heap.size, 0, none⟩ = some (.pointer (some ⟨bb, 0, none⟩)) := by rw [hwz]; simp [go_sem]
  have q2 : wz.cell? ⟨w.heap.size + 1, 0, none⟩ = some (.int .i64 c) := by rw [hwz]; simp [go_sem]
  have lz : wz.heap.size = w.heap.size + 2 := by rw [hwz]; simp
  have hlg := hb.lg
  have hlt := hb.lt
  have hc' := eachIf_any base bb gb B g aF aR s c rx ox cx ry oy cy n w.heap.size (w.heap.size + 1) L M wz (hb.later bz) (hs.below bz hbase) (by omega) hk hc hL hM hn (dx.later bz) (dy.later bz) ⟨nx.1, by omega⟩ ⟨ny.1, by omega⟩ mL mM q1 q2 (fun e => by rcases e with e | e | e | e <;> omega) (fun e => by rcases e with e | e | e | e <;> omega)
  rw [lz] at hc'
  have HC := hide hc'
  have HBZ := hide bz
  have HZ := hide hwz
  clear hc' hb hs hk hc hL hM dx dy nx ny mL mM q1 q2 bz hwz
  go_enter Tryd.func83, Tryd.ntmps83
  go_wp2_with fail
  rw [← unhide HZ]
  refine (unhide HC).mono ?_
  rintro e w1 ⟨rfl, g', h1⟩
  have H1 := hide h1
  clear h1
  go_wp2
  go_ret
  refine ⟨rfl, g', ⟨(unhide H1).b, (unhide H1).s, ?_, (unhide H1).ne, (OutS.of (unhide HBZ)).trans (unhide H1).o (fun _ _ e => e), (unhide H1).i, (unhide H1).m⟩⟩
  rcases (unhide H1).gs with e | e
  · exact Or.inl e
  · exact Or.inr (by omega)
end Go.Proofs.YtmpiiilkaadhfaaDoor
