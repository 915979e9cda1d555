/- Bit by bit: one number's marks or the other's, of the model. -/
import Derived.Test.YtmpiiilkaadhfaaDoorBkT
namespace Go.Proofs.YtmpiiilkaadhfaaDoor
open Go.ChangeShapes Go.WideShapes Go.ChangeAt Go.RowKit Go.Joins
set_option linter.unusedVariables false
set_option maxRecDepth 100000
set_option linter.unusedSimpArgs false

/-- A net in the making and a row of marks, as they are handed back. -/
def LPost (p : KS × List Int) (ad : Option Addr) (base : Nat) (e : Ending) (w' : World) : Prop := ∃ a cap g cp, e = .returned (.tuple #[.agg #[.int .i64 p.1.m, .slice a p.1.n cap, .bool p.1.ok], .slice (some ⟨g, 0, none⟩) p.2.length cp]) ∧ KIn w' p.1 a cap ∧ Pl ad a base ∧ w'.ownsRow base 3 1 (.slice (some ⟨g, 0, none⟩) p.2.length cp) p.2.length (icells p.2) ∧ ∀ q, a = some q → q.block ≠ g
/-- What holds at each round: the box, the results' box, the gates, the row so far. -/
structure RowI (w wr : World) (s : KS) (R : List Int) (n : Nat) (ad ga : Option Addr) (gc g cp : Nat) : Prop where
  k : KBox wr w.heap.size s ga gc
  kf : ∀ o, wr.frozen? ⟨w.heap.size, o, none⟩ = false
  i : KIn wr s ga gc
  pl : Pl ad ga (w.heap.size + 2)
  ap : ∀ q, ga = some q → q.block ≠ g
  row : wr.ownsRow (w.heap.size + 2) 3 1 (.slice (some ⟨g, 0, none⟩) n cp) n (icells R)
  s0 : wr.cell? ⟨w.heap.size + 1, 0, none⟩ = some (.int .i64 0)
  s1 : wr.cell? ⟨w.heap.size + 1, 1, none⟩ = some (.slice none 0 0)
  s2 : wr.cell? ⟨w.heap.size + 1, 2, none⟩ = some (.bool false)
  sf : ∀ o, wr.frozen? ⟨w.heap.size + 1, o, none⟩ = false
  lo : w.heap.size + 2 ≤ wr.heap.size
  be : Below w.heap.size w wr
theorem RowI.drew {w wr : World} {s : KS} {R : List Int} {n : Nat} {ad ga : Option Addr} {gc g cp : Nat} (h : RowI w wr s R n ad ga gc g cp) : RowI w wr.drew s R n ad ga gc g cp := ⟨h.k, h.kf, h.i, h.pl, h.ap, h.row, h.s0, h.s1, h.s2, h.sf, h.lo, h.be.drew⟩
/-- Behind a call that hands back a net in the making: the box is still the elder one. -/
theorem RowI.call {w wr w1 : World} {s t : KS} {R : List Int} {n : Nat} {ad ga ga' : Option Addr} {gc gc' g cp : Nat} (h : RowI w wr s R n ad ga gc g cp) (hb : Below wr.heap.size wr w1) (hi : KIn w1 t ga' gc') (hp : Pl ga ga' wr.heap.size) (hw : ∀ q, ad = some q → q.block < w.heap.size) :
    (KBox w1 w.heap.size s ga gc ∧ (∀ o, w1.frozen? ⟨w.heap.size, o, none⟩ = false)) ∧
    ∀ v, v = ((w1.setCell ⟨w.heap.size, 0, none⟩ (.int .i64 t.m)).setCell ⟨w.heap.size, 1, none⟩ (.slice ga' t.n gc')).setCell ⟨w.heap.size, 2, none⟩ (.bool t.ok) → RowI w v t R n ad ga' gc' g cp := by
  have hk := h.k.later hb
  have hlt := h.k.lt
  have hkf : ∀ o, w1.frozen? ⟨w.heap.size, o, none⟩ = false := fun o => (hb.frozen (p := ⟨w.heap.size, o, none⟩) hlt).trans (h.kf o)
  refine ⟨⟨hk, hkf⟩, fun v hv => ?_⟩
  have mv : Mov w.heap.size w1 v := by rw [hv]; exact mov3 _ _ _ _ _
  have lg := (own_cap h.row).2
  have bg := own_base h.row
  have hpl : Pl ad ga' (w.heap.size + 2) := h.pl.trans hp h.lo
  have s0' := cell_later hb h.s0
  refine ⟨by rw [hv]; exact KBox.put hk, fun o => by rw [hv]; simp [go_sem]; exact hkf o, hi.mov (hpl.apart hw (Nat.le_refl _) (by omega)) mv, hpl, fun q hq => ?_, (h.row.kept (grown_below hb) (Or.inr (by simp [Value.ownBlock]))).kept (grown_mov mv) (Or.inr (by simp [Value.ownBlock]; omega)), mv.cell s0' (by simp only; omega), mv.cell (cell_later hb h.s1) (by simp only; omega), mv.cell (cell_later hb h.s2) (by simp only; omega), fun o => ?_, Nat.le_trans h.lo (Nat.le_trans hb.size mv.size), (h.be.trans (hb.mono h.be.size)).trans (mv.below (Nat.le_refl _) (Nat.le_trans h.be.size hb.size))⟩
  · rcases hp q hq with h1 | h1
    · exact h.ap q h1
    · omega
  · have lt := World.block_lt_of_cell? _ _ h.s0
    have e1 := (hb.frozen (p := ⟨w.heap.size + 1, o, none⟩) lt).trans (h.sf o)
    exact (World.frozen?_of_block (mv.2.2.2.2 (w.heap.size + 1) (World.block_lt_of_cell? _ _ s0') (by omega))).trans e1
/-- Behind an append of one mark onto the row. -/
theorem RowI.more {w wr w1 : World} {s : KS} {R : List Int} {n : Nat} {ad ga : Option Addr} {gc g cp g' cp' : Nat} {x : Int} (h : RowI w wr s R n ad ga gc g cp) (hr : w1.ownsRow (w.heap.size + 2) 3 1 (.slice (some ⟨g', 0, none⟩) (n + 1) cp') (n + 1) (icells (R ++ [x]))) (hg : wr.grownBy w1 (some g)) (hgg : g = g' ∨ wr.heap.size ≤ g') : RowI w w1 s (R ++ [x]) (n + 1) ad ga gc g' cp' := by
  have mg := mov_of_grown hg
  have bg := own_base h.row
  have lg := (own_cap h.row).2
  have fz : ∀ b o, b < wr.heap.size → b ≠ g → wr.frozen? ⟨b, o, none⟩ = false → w1.frozen? ⟨b, o, none⟩ = false := fun b o h1 h2 h3 => (World.frozen?_of_block (mg.2.2.2.2 b h1 h2)).trans h3
  have kl := h.k.lt
  have sl := World.block_lt_of_cell? _ _ h.s0
  simp only at sl
  refine ⟨⟨mg.cell h.k.1 (by simp only; omega), mg.cell h.k.2.1 (by simp only; omega), mg.cell h.k.2.2 (by simp only; omega)⟩, fun o => fz _ o kl (by omega) (h.kf o), h.i.mov h.ap mg, h.pl, fun q hq => ?_, hr, mg.cell h.s0 (by simp only; omega), mg.cell h.s1 (by simp only; omega), mg.cell h.s2 (by simp only; omega), fun o => fz _ o sl (by omega) (h.sf o), Nat.le_trans h.lo mg.size, h.be.trans (mg.below (by omega) h.be.size)⟩
  rcases hgg with e | e
  · rw [← e]; exact h.ap q hq
  · have := h.i.2.2.2 q hq; omega
theorem at0_in {w : World} {a : Option Addr} {n j : Nat} {L : List Int} (h : IntsAt w a n (at0 L)) (hj : j < n) : ∃ b off, a = some ⟨b, off, none⟩ ∧ b < w.heap.size ∧ w.cell? ⟨b, off + j, none⟩ = some (.int .i64 (at0 L j)) := by
  rcases h with h | ⟨b, off, h1, h2, h3⟩
  · omega
  · exact ⟨b, off, h1, h2, h3 j hj⟩
def ifsK (z : Int) (c : Int) (s : KS) (L M : List Int) : Nat → KS × List Int := mapK (fun t a b => oneK z t c a b) s L M
set_option maxRecDepth 100000 in
set_option maxHeartbeats 1500000 in
theorem l7Ifs_any (s : KS) (ad : Option Addr) (cap : Nat) (c : Int) (la : Option Addr) (nl cl : Nat) (L : List Int) (lb : Option Addr) (cm : Nat) (M : List Int) (w : World) (hk : KOk s) (hi : KIn w s ad cap) (hc : Mk s c) (hdL : IntsAt w la nl (at0 L)) (hdM : IntsAt w lb nl (at0 M)) (hL : L.length = nl) (hM : M.length = nl) (hl : nl ≤ 100) (mL : MkL s L) (mM : MkL s M) :
    Calls Tryd.prog 56 #[.agg #[.int .i64 s.m, .slice ad s.n cap, .bool s.ok], .int .i64 c, .slice la nl cl, .slice lb nl cm] w fun e w' => LPost (ifsK 1 c s L M nl) ad w.heap.size e w' ∧ Below w.heap.size w w' := by
  have HG : Hid (∀ i, i ≤ nl → KOk (ifsK 1 c s L M i).1 ∧ MkL (ifsK 1 c s L M i).1 (ifsK 1 c s L M i).2 ∧ Le s (ifsK 1 c s L M i).1) := fun i hi => mapK_good hk mL mM (fun t a b h1 h2 h3 h4 => oneK_good (by omega) h1 (hc.le h2) h3 h4) i (by omega) (by omega)
  have HI := hide hi
  have HC := hide hc
  have HL := hide hdL
  have HM := hide hdM
  have HmL := hide mL
  have HmM := hide mM
  have HeL := hide hL
  have HeM := hide hM
  have clo := hc.1
  have chi := hc.2.1
  have h0 : Hid (RowI w (((w.alloc (.cells #[.int .i64 s.m, .slice ad s.n cap, .bool s.ok] 70)).alloc (.cells #[.int .i64 0, .slice none 0 0, .bool false] 70)).alloc (.cells #[] 3)) s [] 0 ad ad cap (w.heap.size + 2) 0) := by
    have b3 : Below w.heap.size w (((w.alloc (.cells #[.int .i64 s.m, .slice ad s.n cap, .bool s.ok] 70)).alloc (.cells #[.int .i64 0, .slice none 0 0, .bool false] 70)).alloc (.cells #[] 3)) := (((Below.refl _ _).alloc (Nat.le_refl _) _).alloc (by simp) _).alloc (by simp; omega) _
    refine ⟨⟨by simp [go_sem], by simp [go_sem], by simp [go_sem]⟩, fun o => by simp [go_sem], hi.later b3, Pl.refl _ _, fun q hq => by have := hi.2.2.2 q hq; omega, by simpa [icells] using own_new ((w.alloc (.cells #[.int .i64 s.m, .slice ad s.n cap, .bool s.ok] 70)).alloc (.cells #[.int .i64 0, .slice none 0 0, .bool false] 70)) 3 1, by simp [go_sem], by simp [go_sem], by simp [go_sem], fun o => by simp [go_sem], by simp, b3⟩
  clear hk hi hc hdL hdM mL mM hL hM
  go_enter Tryd.func56, Tryd.ntmps56
  go_wp2
  go_loopw [11, 10] (fun i o wr => ∃ j : Nat, j ≤ nl ∧ i = .int .i64 j ∧ ∃ ga gc g cp, o = .slice (some ⟨g, 0, none⟩) j cp ∧ RowI w wr (ifsK 1 c s L M j).1 (ifsK 1 c s L M j).2 j ad ga gc g cp) (fun i _ _ => nl - (intOf i).toNat)
  case atStart => exact ⟨0, by omega, rfl, ad, cap, w.heap.size + 2, 0, rfl, unhide h0⟩
  case round =>
    obtain ⟨j, hj, rfl, ga, gc, g, cp, rfl, hI⟩ := hrel
    have HR := hide hI
    have HGj := hide (unhide HG j hj)
    by_cases hlt : j < nl
    · obtain ⟨bL, oL, rfl, lL, dL⟩ := at0_in (unhide HL) hlt
      obtain ⟨bM, oM, rfl, lM, dM⟩ := at0_in (unhide HM) hlt
      replace dL := (hI.be.cell (p := ⟨bL, oL + j, none⟩) lL).trans dL
      replace dM := (hI.be.cell (p := ⟨bM, oM + j, none⟩) lM).trans dM
      have mx := ((unhide HmL) j (by rw [unhide HeL]; exact hlt)).le (unhide HGj).2.2
      have my := ((unhide HmM) j (by rw [unhide HeM]; exact hlt)).le (unhide HGj).2.2
      have HN : Hid (ifsK 1 c s L M (j + 1) = ((oneK 1 (ifsK 1 c s L M j).1 c (at0 L j) (at0 M j)).1, (ifsK 1 c s L M j).2 ++ [(oneK 1 (ifsK 1 c s L M j).1 c (at0 L j) (at0 M j)).2])) := rfl
      have mc := (unhide HC).le (unhide HGj).2.2
      have hcall : ∀ w', KIn w' (ifsK 1 c s L M j).1 ga gc → Calls Tryd.prog 84 #[.agg #[.int .i64 (ifsK 1 c s L M j).1.m, .slice ga (ifsK 1 c s L M j).1.n gc, .bool (ifsK 1 c s L M j).1.ok], .int .i64 c, .int .i64 (at0 L j), .int .i64 (at0 M j)] w' _ := fun w' hw' => l7One_any (ifsK 1 c s L M j).1 ga gc c (at0 L j) (at0 M j) w' (unhide HGj).1 hw' mc mx my
      obtain ⟨u, hu⟩ : ∃ u, u = oneK 1 (ifsK 1 c s L M j).1 c (at0 L j) (at0 M j) := ⟨_, rfl⟩
      rw [← hu] at hcall HN
      have ub := (oneK_good (z := 1) (by omega) (unhide HGj).1 mc mx my).2.1
      rw [← hu] at ub
      have ulo := ub.1
      have uhi := ub.2.1
      have HCALL := hide hcall
      clear hcall hu ub mx my mc
      generalize at0 L j = x at *
      generalize at0 M j = y at *
      have hlen : (ifsK 1 c s L M j).2.length = j := mapK_len _ _ _ _ _
      generalize (ifsK 1 c s L M j).1 = S at *
      generalize (ifsK 1 c s L M j).2 = R at *
      obtain ⟨kp0, kp1, kp2⟩ := hI.k
      have kl := hI.k.lt
      clear hI
      go_wp2
      refine wp_region_held_drew (S := fun w' => w'.cell? ⟨bL, oL + j, none⟩ = some (.int .i64 x) ∧ w'.cell? ⟨bM, oM + j, none⟩ = some (.int .i64 y)) (by kernel_rfl) ?_ (fun hHeld => ?_)
      · exact ⟨dL, dM⟩
      refine wpAnyH_take (i := 1) (v := ?_) rfl (by kernel_rfl) (by kernel_rfl) (by kernel_rfl) (fun _ _ _ h => h) (Or.inl ⟨by rfl, ?_⟩) (by assumption) ?_
      rotate_left
      · (intro w hSw; (try dsimp only at hSw); first | (go_simp; done) | (go_simp; with_reducible rfl))
      try simp only [List.getElem_toArray, List.getElem_cons_succ, List.getElem_cons_zero, Act.put, List.setIfInBounds_toArray, List.set_cons_zero, List.set_cons_succ]
      refine wpAnyH_take (i := 2) (v := ?_) rfl (by kernel_rfl) (by kernel_rfl) (by kernel_rfl) (fun _ _ _ h => h) (Or.inl ⟨by rfl, ?_⟩) (by assumption) ?_
      rotate_left
      · (intro w hSw; (try dsimp only at hSw); first | (go_simp; done) | (go_simp; with_reducible rfl))
      try simp only [List.getElem_toArray, List.getElem_cons_succ, List.getElem_cons_zero, Act.put, List.setIfInBounds_toArray, List.set_cons_zero, List.set_cons_succ]
      refine wpAnyH_take (i := 3) (v := ?_) rfl (by kernel_rfl) (by kernel_rfl) (by kernel_rfl) (fun _ _ _ h => h) (Or.inl ⟨by rfl, ?_⟩) (by assumption) ?_
      rotate_left
      · (intro w hSw; (try dsimp only at hSw); first | (go_simp; done) | (go_simp; with_reducible rfl))
      try simp only [List.getElem_toArray, List.getElem_cons_succ, List.getElem_cons_zero, Act.put, List.setIfInBounds_toArray, List.set_cons_zero, List.set_cons_succ]
      refine wpAnyH_take (i := 4) (v := ?_) rfl (by kernel_rfl) (by kernel_rfl) (by kernel_rfl) (fun _ _ _ h => h) (Or.inl ⟨by rfl, ?_⟩) (by assumption) ?_
      rotate_left
      · (intro w hSw; (try dsimp only at hSw); first | (go_simp; done) | (go_simp; with_reducible rfl))
      try simp only [List.getElem_toArray, List.getElem_cons_succ, List.getElem_cons_zero, Act.put, List.setIfInBounds_toArray, List.set_cons_zero, List.set_cons_succ]
      refine wpAnyH_take (i := 5) (v := ?_) rfl (by kernel_rfl) (by kernel_rfl) (by kernel_rfl) (fun _ _ _ h => h) (Or.inl ⟨by rfl, ?_⟩) (by assumption) ?_
      rotate_left
      · (intro w hSw; (try dsimp only at hSw); first | (go_simp; done) | (go_simp; with_reducible rfl))
      try simp only [List.getElem_toArray, List.getElem_cons_succ, List.getElem_cons_zero, Act.put, List.setIfInBounds_toArray, List.set_cons_zero, List.set_cons_succ]
      refine wpAnyH_take (i := 6) (v := ?_) rfl (by kernel_rfl) (by kernel_rfl) (by kernel_rfl) (fun _ _ _ h => h) (Or.inl ⟨by rfl, ?_⟩) (by assumption) ?_
      rotate_left
      · (intro w hSw; (try dsimp only at hSw); first | (go_simp; done) | (go_simp; with_reducible rfl))
      try simp only [List.getElem_toArray, List.getElem_cons_succ, List.getElem_cons_zero, Act.put, List.setIfInBounds_toArray, List.set_cons_zero, List.set_cons_succ]
      refine wpAnyH_take (i := 7) (v := ?_) rfl (by kernel_rfl) (by kernel_rfl) (by kernel_rfl) (fun _ _ _ h => h) (Or.inl ⟨by rfl, ?_⟩) (by assumption) ?_
      rotate_left
      · (intro w hSw; (try dsimp only at hSw); first | (go_simp; done) | (go_simp; with_reducible rfl))
      try simp only [List.getElem_toArray, List.getElem_cons_succ, List.getElem_cons_zero, Act.put, List.setIfInBounds_toArray, List.set_cons_zero, List.set_cons_succ]
      refine wpAnyH_take (i := 8) (v := ?_) rfl (by kernel_rfl) (by kernel_rfl) (by kernel_rfl) (fun _ _ _ h => h) (Or.inl ⟨by rfl, ?_⟩) (by assumption) ?_
      rotate_left
      · (intro w hSw; (try dsimp only at hSw); first | (go_simp; done) | (go_simp; with_reducible rfl))
      try simp only [List.getElem_toArray, List.getElem_cons_succ, List.getElem_cons_zero, Act.put, List.setIfInBounds_toArray, List.set_cons_zero, List.set_cons_succ]
      refine wpAnyH_take (i := 9) (v := ?_) rfl (by kernel_rfl) (by kernel_rfl) (by kernel_rfl) (fun _ _ _ h => h) (Or.inl ⟨by rfl, ?_⟩) (by assumption) ?_
      rotate_left
      · (intro w hSw; (try dsimp only at hSw); first | (go_simp; done) | (go_simp; with_reducible rfl))
      try simp only [List.getElem_toArray, List.getElem_cons_succ, List.getElem_cons_zero, Act.put, List.setIfInBounds_toArray, List.set_cons_zero, List.set_cons_succ]
      refine wpAnyH_ready (rs := [0]) (by kernel_rfl) (by simp) ?_
      refine AllReadyH.cons rfl (fun K hK => ?_) AllReadyH.nil
      go_simp
      refine hK.out _ _ ?_ (fun hHeld => ?_)
      · exact ⟨dL, dM⟩
      clear hK K
      try simp only [List.getElem_toArray, List.getElem_cons_succ, List.getElem_cons_zero, Act.put, List.setIfInBounds_toArray, List.set_cons_zero, List.set_cons_succ]
      refine wpAnyH_ready (rs := [10]) (by kernel_rfl) (by simp) ?_
      refine AllReadyH.cons rfl (fun K hK => ?_) AllReadyH.nil
      go_simp
      refine (unhide HCALL _ (by first | exact (unhide HR).i | exact (unhide HR).drew.i)).mono ?_
      rintro e w1 ⟨⟨ga', gc', rfl, hi1, pl1⟩, b1⟩
      have hcl := (RowI.call (by first | exact unhide HR | exact (unhide HR).drew) b1 hi1 pl1 (unhide HI).2.2.2)
      obtain ⟨⟨⟨kp0, kp1, kp2⟩, kf⟩, hput⟩ := hcl
      have kq0 := kf 0
      have kq1 := kf 1
      have kq2 := kf 2
      have HPUT := hide hput
      replace dL := cell_later b1 (by exact dL)
      replace dM := cell_later b1 (by exact dM)
      have lg1 : w.heap.size < w1.heap.size := World.block_lt_of_cell? _ _ kp0
      clear hput kf b1 hi1 pl1
      go_wp2_with fail
      refine hK.out _ _ ?_ (fun hHeld => ?_)
      · exact ⟨dL, dM⟩
      clear hK K
      try simp only [List.getElem_toArray, List.getElem_cons_succ, List.getElem_cons_zero, Act.put, List.setIfInBounds_toArray, List.set_cons_zero, List.set_cons_succ]
      refine wpAnyH_take (i := 11) (v := ?_) rfl (by kernel_rfl) (by kernel_rfl) (by kernel_rfl) (fun _ _ _ h => h) (Or.inl ⟨by rfl, ?_⟩) (by assumption) ?_
      rotate_left
      · (intro w hSw; (try dsimp only at hSw); first | (go_simp; done) | (go_simp; with_reducible rfl))
      try simp only [List.getElem_toArray, List.getElem_cons_succ, List.getElem_cons_zero, Act.put, List.setIfInBounds_toArray, List.set_cons_zero, List.set_cons_succ]
      refine wpAnyH_take (i := 12) (v := ?_) rfl (by kernel_rfl) (by kernel_rfl) (by kernel_rfl) (fun _ _ _ h => h) (Or.inl ⟨by rfl, ?_⟩) (by assumption) ?_
      rotate_left
      · (intro w hSw; (try dsimp only at hSw); first | (go_simp; done) | (go_simp; with_reducible rfl))
      try simp only [List.getElem_toArray, List.getElem_cons_succ, List.getElem_cons_zero, Act.put, List.setIfInBounds_toArray, List.set_cons_zero, List.set_cons_succ]
      refine wpAnyH_take (i := 13) (v := ?_) rfl (by kernel_rfl) (by kernel_rfl) (by kernel_rfl) (fun _ _ _ h => h) (Or.inl ⟨by rfl, ?_⟩) (by assumption) ?_
      rotate_left
      · (intro w hSw; (try dsimp only at hSw); first | (go_simp; done) | (go_simp; with_reducible rfl))
      try simp only [List.getElem_toArray, List.getElem_cons_succ, List.getElem_cons_zero, Act.put, List.setIfInBounds_toArray, List.set_cons_zero, List.set_cons_succ]
      refine wpAnyH_ready (rs := [14]) (by kernel_rfl) (by simp) ?_
      refine AllReadyH.cons rfl (fun K hK => ?_) AllReadyH.nil
      go_simp
      refine hK.out _ _ ?_ (fun hHeld => ?_)
      · exact ⟨by rw [World.cell?_setCell_other _ _ _ _ (by simp <;> omega), World.cell?_setCell_other _ _ _ _ (by simp <;> omega), World.cell?_setCell_other _ _ _ _ (by simp <;> omega)]; exact dL, by rw [World.cell?_setCell_other _ _ _ _ (by simp <;> omega), World.cell?_setCell_other _ _ _ _ (by simp <;> omega), World.cell?_setCell_other _ _ _ _ (by simp <;> omega)]; exact dM⟩
      clear hK K
      try simp only [List.getElem_toArray, List.getElem_cons_succ, List.getElem_cons_zero, Act.put, List.setIfInBounds_toArray, List.set_cons_zero, List.set_cons_succ]
      refine wpAnyH_ready (rs := [15]) (by kernel_rfl) (by simp) ?_
      refine AllReadyH.cons rfl (fun K hK => ?_) AllReadyH.nil
      go_simp
      refine hK.out _ _ ?_ (fun hHeld => ?_)
      · exact ⟨by rw [World.cell?_setCell_other _ _ _ _ (by simp <;> omega), World.cell?_setCell_other _ _ _ _ (by simp <;> omega), World.cell?_setCell_other _ _ _ _ (by simp <;> omega)]; exact dL, by rw [World.cell?_setCell_other _ _ _ _ (by simp <;> omega), World.cell?_setCell_other _ _ _ _ (by simp <;> omega), World.cell?_setCell_other _ _ _ _ (by simp <;> omega)]; exact dM⟩
      clear hK K
      try simp only [List.getElem_toArray, List.getElem_cons_succ, List.getElem_cons_zero, Act.put, List.setIfInBounds_toArray, List.set_cons_zero, List.set_cons_succ]
      refine wpAnyH_done (by kernel_rfl) ?_ _
      obtain ⟨v1, hv1⟩ : ∃ v, v = ((w1.setCell ⟨w.heap.size, 0, none⟩ (.int .i64 u.1.m)).setCell ⟨w.heap.size, 1, none⟩ (.slice ga' u.1.n gc')).setCell ⟨w.heap.size, 2, none⟩ (.bool u.1.ok) := ⟨_, rfl⟩
      have hR1 := unhide HPUT v1 hv1
      rw [← hv1]
      clear hv1
      obtain ⟨g2, cp2, w3, hrun, ow3, gr3, at3⟩ := int_one v1 (w.heap.size + 2) _ j R u.2 hR1.row (by omega) hR1.lo
      have HRUN := hide hrun
      have HR3 := hide (hR1.more ow3 (by simpa [Value.ownBlock] using gr3) (by simpa [Value.ownBlock] using at3))
      clear hrun ow3 gr3 at3 kp0 kp1 kp2 kq0 kq1 kq2 dL dM lg1 hR1
      go_wp2_with (first | (at_builtin; refine wpList_append_run _ rfl (.tmp 34) (.tmp 36) 26 rfl _ _ _ _ rfl rfl (unhide HRUN) ?_))
      go_roundw
      case rel => exact ⟨j + 1, by omega, by go_num, ga', gc', g2, cp2, rfl, by rw [unhide HN]; exact unhide HR3⟩
      case measure => simp [intOf]; omega
    · have ej : j = nl := by omega
      subst ej
      have hlen : (ifsK 1 c s L M j).2.length = j := mapK_len _ _ _ _ _
      obtain ⟨q, hq⟩ : ∃ q, q = ifsK 1 c s L M j := ⟨_, rfl⟩
      rw [← hq] at hI hlen HR
      have HLEN := hide hlen
      have HQ := hide hq
      clear hq
      obtain ⟨kp0, kp1, kp2⟩ := hI.k
      have kl := hI.k.lt
      have s0 := hI.s0
      have s1 := hI.s1
      have s2 := hI.s2
      have f0 := hI.sf 0
      have f1 := hI.sf 1
      have f2 := hI.sf 2
      have be := hI.be
      have bg := own_base hI.row
      clear hI hlen
      go_wp2
      refine bodyPost_ret (v := .tuple #[.agg #[.int .i64 q.1.m, .slice ga q.1.n gc, .bool q.1.ok], .slice (some ⟨g, 0, none⟩) j cp]) (by simp [results, Tryd.results56, go_sem, s0, s1, s2]) rfl ?_
      rw [← unhide HQ]
      have mv := mov3 wr (w.heap.size + 1) (.int .i64 q.1.m) (.slice ga q.1.n gc) (.bool q.1.ok)
      refine ⟨⟨ga, gc, g, cp, by rw [unhide HLEN], (unhide HR).i.mov ((unhide HR).pl.apart (unhide HI).2.2.2 (by omega) (by omega)) mv, (unhide HR).pl.mono (by omega), ?_, (unhide HR).ap⟩, bel3 be (by omega) _ _ _⟩
      rw [unhide HLEN]
      exact own_mono ((unhide HR).row.kept (grown_mov mv) (Or.inr (by simp [Value.ownBlock]; omega))) (by omega)
end Go.Proofs.YtmpiiilkaadhfaaDoor
