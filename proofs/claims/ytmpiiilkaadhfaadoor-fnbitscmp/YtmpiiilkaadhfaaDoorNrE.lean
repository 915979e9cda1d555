/- The gate of two marks, found again or made, of the program. -/
import Derived.Test.YtmpiiilkaadhfaaDoorNrD
namespace Go.Proofs.YtmpiiilkaadhfaaDoor
open Go.ChangeShapes Go.WideShapes Go.ChangeAt Go.RowKit Go.Joins
set_option linter.unusedVariables false
set_option maxRecDepth 100000
set_option linter.unusedSimpArgs false

theorem tab_looks {w : World} {B n : Nat} {G : Nat → Gt} {m : Int} (hT : Tab w B n G m) (g : Gt) (hu : ∀ i j, i < j → j < n → G i ≠ G j) :
    ((∀ i, i < n → G i ≠ g) ∧ ∀ w' : World, w'.heap[B]? = w.heap[B]? → (Instr.lookup 115 (.map (some B)) (.agg #[.bool g.x, .int .i64 g.a, .int .i64 g.b]) false).run Tryd.prog w' = .ok (.int .i64 0) w') ∨
    ∃ i, i < n ∧ G i = g ∧ ∀ w' : World, w'.heap[B]? = w.heap[B]? → (Instr.lookup 115 (.map (some B)) (.agg #[.bool g.x, .int .i64 g.a, .int .i64 g.b]) false).run Tryd.prog w' = .ok (.int .i64 (2 + m + i)) w' := by
  rcases tab_look hT g with ⟨_, hno⟩ | ⟨i, hi, hg, _⟩
  · refine Or.inl ⟨hno, fun w' h' => ?_⟩
    rcases tab_look (hT.keep h') g with ⟨hr, _⟩ | ⟨i, hi, hg, _⟩
    · exact hr
    · exact absurd hg (hno i hi)
  · refine Or.inr ⟨i, hi, hg, fun w' h' => ?_⟩
    rcases tab_look (hT.keep h') g with ⟨_, hno⟩ | ⟨i', hi', hg', hr⟩
    · exact absurd hg (hno i hi)
    · have : i' = i := by
        rcases Nat.lt_trichotomy i' i with h | h | h
        · exact absurd (hg'.trans hg.symm) (hu i' i h hi)
        · exact h
        · exact absurd (hg.trans hg'.symm) (hu i i' h hi')
      subst this
      exact hr
/-- Nothing that was there has turned but three blocks. -/
structure Out3 (x y z : Nat) (w w' : World) : Prop where
  os : w'.os = w.os
  tape : w'.tape = w.tape
  output : w'.output = w.output
  size : w.heap.size ≤ w'.heap.size
  block : ∀ k, k < w.heap.size → k ≠ x → k ≠ y → k ≠ z → w'.heap[k]? = w.heap[k]?
theorem Out3.refl (x y z : Nat) (w : World) : Out3 x y z w w := ⟨rfl, rfl, rfl, Nat.le_refl _, fun _ _ _ _ _ => rfl⟩
theorem Out3.of {x y z : Nat} {w w' : World} (h : Below w.heap.size w w') : Out3 x y z w w' := ⟨h.os, h.tape, h.output, h.size, fun k hk _ _ _ => h.block k hk⟩
theorem Out3.below {x y z : Nat} {a b c : World} (h : Out3 x y z a b) (k : Below b.heap.size b c) : Out3 x y z a c :=
  ⟨k.os.trans h.os, k.tape.trans h.tape, k.output.trans h.output, Nat.le_trans h.size k.size, fun i hi h1 h2 h3 => (k.block i (Nat.lt_of_lt_of_le hi h.size)).trans (h.block i hi h1 h2 h3)⟩
theorem Out3.drew {x y z : Nat} {a b : World} (h : Out3 x y z a b) : Out3 x y z a b.drew := ⟨h.os, h.tape, h.output, h.size, h.block⟩
theorem Out3.grown {x y z : Nat} {a b c : World} {row : Option Nat} (h : Out3 x y z a b) (hg : b.grownBy c row) (hr : ∀ k, row = some k → k = x ∨ k = y ∨ k = z) : Out3 x y z a c :=
  ⟨hg.os.trans h.os, hg.tape.trans h.tape, hg.output.trans h.output, Nat.le_trans h.size hg.size, fun i hi h1 h2 h3 => (hg.block i (Nat.lt_of_lt_of_le hi h.size) (fun e => by rcases hr i e.symm with h | h | h; exact h1 h; exact h2 h; exact h3 h)).trans (h.block i hi h1 h2 h3)⟩
theorem Out3.setCell {x y z : Nat} {a b : World} (h : Out3 x y z a b) {k o : Nat} (hp : k = x ∨ k = y ∨ k = z) (u : Value) : Out3 x y z a (b.setCell ⟨k, o, none⟩ u) := h.grown (grown_mov (Mov.set (R := k) b o u)) (fun k' hk => by cases hk; exact hp)
theorem Out3.lower {base gb : Nat} {m : Int} {g n c B : Nat} {G : Nat → Gt} {w w' : World} (h : Out3 gb B g w w') (hG : Grow w base gb m g n c B G) : Below base w w' :=
  ⟨h.os, h.tape, h.output, h.size, fun k hk => by
    have h1 := hG.1.lt
    have h2 := own_base hG.2.1
    obtain ⟨_, _, _, h3, h4, _⟩ := hG
    exact h.block k (by omega) (by omega) (by omega) (by omega)⟩
/-- The gate of two marks, in the order that is asked. -/
def gat (x : Bool) (p q : Int) : Gt := if absI q < absI p then ⟨x, q, p⟩ else ⟨x, p, q⟩
set_option maxRecDepth 100000 in
set_option maxHeartbeats 2000000 in
theorem gate_any (gb g n c B base : Nat) (m : Int) (G : Nat → Gt) (x : Bool) (p q : Int) (w : World) (h : Grow w base gb m g n c B G) (hbase : base ≤ w.heap.size) (hm0 : 0 ≤ m) (hm1 : m ≤ 8) (hn : n ≤ 600) (hu : ∀ i j, i < j → j < n → G i ≠ G j) (hp1 : -700 ≤ p) (hp2 : p ≤ 700) (hq1 : -700 ≤ q) (hq2 : q ≤ 700) :
    Calls Tryd.prog 110 #[.pointer (some ⟨gb, 0, none⟩), .bool x, .int .i64 p, .int .i64 q] w fun e w' => e = .returned (.int .i64 (putR m n G (gat x p q)).k) ∧ ((putR m n G (gat x p q)).k ≠ 0 → ∃ g', (∃ c', Grow w' base gb m g' (putR m n G (gat x p q)).n c' B (putR m n G (gat x p q)).G) ∧ (g' = g ∨ w.heap.size ≤ g')) ∧ Out3 gb B g w w' := by
  have ltg := h.1.lt
  have ltgg := (own_cap h.2.1).2
  have ltB := h.2.2.1.lt
  have HGr := hide h
  have HU := hide hu
  have hp : W64 p := by unfold W64; omega
  have hq : W64 q := by unfold W64; omega
  have ep : bareI p = absI p := bare_abs (N := 700) (by omega) (by omega) (by omega)
  have eq : bareI q = absI q := bare_abs (N := 700) (by omega) (by omega) (by omega)
  clear h hu
  by_cases c7 : absI q < absI p
  · have hgt : gat x p q = ⟨x, q, p⟩ := if_pos c7
    rw [hgt]
    clear hgt
    obtain ⟨wz, hwz⟩ : ∃ wz, wz = w.alloc (.cells #[.bool x, .int .i64 q, .int .i64 p] 76) := ⟨_, rfl⟩
    have BZ : Below w.heap.size w wz := by rw [hwz]; exact (Below.refl _ _).alloc (Nat.le_refl _) _
    have q0 : wz.cell? ⟨w.heap.size, 0, none⟩ = some (.bool x) := by rw [hwz]; simp [go_sem]
    have q1 : wz.cell? ⟨w.heap.size, 1, none⟩ = some (.int .i64 q) := by rw [hwz]; simp [go_sem]
    have q2 : wz.cell? ⟨w.heap.size, 2, none⟩ = some (.int .i64 p) := by rw [hwz]; simp [go_sem]
    have lz : w.heap.size < wz.heap.size := by rw [hwz]; simp
    have GZ := hide ((unhide HGr).later BZ)
    obtain ⟨p0, p1, p2, pf⟩ := (unhide GZ).1
    have PF := hide pf
    have BB : Out3 gb B g w wz := Out3.of BZ
    have HZ := hide hwz
    have HL := hide (tab_looks (unhide GZ).2.2.1 ⟨x, q, p⟩ (unhide HU))
    clear hwz pf BZ
    go_enter Tryd.func110, Tryd.ntmps110
    go_wp2_with fail
    refine (bare_any _ _ hp).mono ?_
    rintro e w ⟨rfl, rfl⟩
    go_wp2_with fail
    refine (bare_any _ _ hq).mono ?_
    rintro e w ⟨rfl, rfl⟩
    (try rw [eq])
    go_wp2
    rw [← unhide HZ]
    rcases unhide HL with ⟨hno, hl⟩ | ⟨i, hi, hg, hl⟩
    · have hl0 := hl wz rfl
      have hl1 := hl wz.drew rfl
      have HNO := hide hno
      clear hl hno
      by_cases h6 : n = 600
      · have HR := hide (putR_full (m := m) (unhide HNO) (by omega))
        have kb : ((n : Int) == 600) = true := by simp; omega
        go_region
        all_goals go_wp2
        all_goals go_ret
        all_goals rw [unhide HR]
        all_goals exact ⟨rfl, fun h => absurd rfl h, (by first | exact BB | exact BB.drew)⟩
      · have kb : ((n : Int) == 600) = false := by simp; omega
        have HR := hide (putR_new (m := m) (unhide HNO) (by omega))
        go_region
        all_goals go_wp2
        obtain ⟨wy, hwy⟩ : ∃ wy, wy = wz.drew := ⟨_, rfl⟩
        have GY : Hid (Grow wy base gb m g n c B G) := by rw [hwy]; exact unhide GZ
        have q0 : wy.cell? ⟨w.heap.size, 0, none⟩ = some (.bool x) := by rw [hwy]; exact q0
        have q1 : wy.cell? ⟨w.heap.size, 1, none⟩ = some (.int .i64 q) := by rw [hwy]; exact q1
        have q2 : wy.cell? ⟨w.heap.size, 2, none⟩ = some (.int .i64 p) := by rw [hwy]; exact q2
        have lz : w.heap.size < wy.heap.size := by rw [hwy]; exact lz
        have BY : Out3 gb B g w wy := by rw [hwy]; exact BB.drew
        rw [← hwy]
        clear hwy hl0 hl1 p0 p1 p2
        obtain ⟨⟨p0, p1, p2, pf⟩, hO, hTb, hb1, hb2, hn1, hn2, hn3⟩ := unhide GY
        have PF := hide pf
        have HO := hide hO
        have HT := hide hTb
        have lg : gb < wy.heap.size := World.block_lt_of_cell? _ _ p0
        have lgg := (own_cap hO).2
        have lB := hTb.lt
        have gbs := own_base hO
        clear pf hO hTb
        refine wp_region_held_drew (S := fun w' => w'.cell? ⟨w.heap.size, 0, none⟩ = some (.bool x) ∧ w'.cell? ⟨w.heap.size, 1, none⟩ = some (.int .i64 q) ∧ w'.cell? ⟨w.heap.size, 2, none⟩ = some (.int .i64 p)) (by kernel_rfl) ?_ (fun hHeld => ?_)
        · exact ⟨q0, q1, q2⟩
        refine wpAnyH_take (i := 0) (v := ?_) rfl (by kernel_rfl) (by kernel_rfl) (by kernel_rfl) (fun _ _ _ h => h) (Or.inl ⟨by rfl, ?_⟩) (by assumption) ?_
        rotate_left
        · (intro w hSw; (try dsimp only at hSw); first | (go_simp; done) | (go_simp; with_reducible rfl))
        try simp only [List.getElem_toArray, List.getElem_cons_succ, List.getElem_cons_zero, Act.put, List.setIfInBounds_toArray, List.set_cons_zero, List.set_cons_succ]
        refine wpAnyH_take (i := 1) (v := ?_) rfl (by kernel_rfl) (by kernel_rfl) (by kernel_rfl) (fun _ _ _ h => h) (Or.inl ⟨by rfl, ?_⟩) (by assumption) ?_
        rotate_left
        · (intro w hSw; (try dsimp only at hSw); first | (go_simp; done) | (go_simp; with_reducible rfl))
        try simp only [List.getElem_toArray, List.getElem_cons_succ, List.getElem_cons_zero, Act.put, List.setIfInBounds_toArray, List.set_cons_zero, List.set_cons_succ]
        refine wpAnyH_take (i := 2) (v := ?_) rfl (by kernel_rfl) (by kernel_rfl) (by kernel_rfl) (fun _ _ _ h => h) (Or.inl ⟨by rfl, ?_⟩) (by assumption) ?_
        rotate_left
        · (intro w hSw; (try dsimp only at hSw); first | (go_simp; done) | (go_simp; with_reducible rfl))
        try simp only [List.getElem_toArray, List.getElem_cons_succ, List.getElem_cons_zero, Act.put, List.setIfInBounds_toArray, List.set_cons_zero, List.set_cons_succ]
        refine wpAnyH_take (i := 3) (v := ?_) rfl (by kernel_rfl) (by kernel_rfl) (by kernel_rfl) (fun _ _ _ h => h) (Or.inl ⟨by rfl, ?_⟩) (by assumption) ?_
        rotate_left
        · (intro w hSw; (try dsimp only at hSw); first | (go_simp; done) | (go_simp; with_reducible rfl))
        try simp only [List.getElem_toArray, List.getElem_cons_succ, List.getElem_cons_zero, Act.put, List.setIfInBounds_toArray, List.set_cons_zero, List.set_cons_succ]
        refine wpAnyH_take (i := 4) (v := ?_) rfl (by kernel_rfl) (by kernel_rfl) (by kernel_rfl) (fun _ _ _ h => h) (Or.inl ⟨by rfl, ?_⟩) (by assumption) ?_
        rotate_left
        · (intro w hSw; (try dsimp only at hSw); first | (go_simp; done) | (go_simp; with_reducible rfl))
        try simp only [List.getElem_toArray, List.getElem_cons_succ, List.getElem_cons_zero, Act.put, List.setIfInBounds_toArray, List.set_cons_zero, List.set_cons_succ]
        refine wpAnyH_take (i := 6) (v := ?_) rfl (by kernel_rfl) (by kernel_rfl) (by kernel_rfl) (fun _ _ _ h => h) (Or.inl ⟨by rfl, ?_⟩) (by assumption) ?_
        rotate_left
        · (intro w hSw; (try dsimp only at hSw); first | (go_simp; done) | (go_simp; with_reducible rfl))
        try simp only [List.getElem_toArray, List.getElem_cons_succ, List.getElem_cons_zero, Act.put, List.setIfInBounds_toArray, List.set_cons_zero, List.set_cons_succ]
        refine wpAnyH_ready (rs := [5, 7]) (by kernel_rfl) (by simp) ?_
        refine AllReadyH.cons rfl (fun K hK => ?_) (AllReadyH.cons rfl (fun K hK => ?_) AllReadyH.nil)
        · go_simp
          refine hK.out _ _ ?_ (fun hHeld => ?_)
          · exact ⟨((show Below wy.heap.size wy _ from (by repeat (first | exact Below.refl _ _ | assumption | refine below_drewN ?_ _ | refine Below.drew ?_ | refine Below.alloc ?_ (by first | exact Nat.le_refl _ | exact Below.size (by assumption) | (simp; done) | (simp; omega)) _ | refine Below.setCell ?_ (by first | exact Nat.le_refl _ | exact Below.size (by assumption) | (simp; done) | (simp; omega)) _ | refine Below.trans ?_ (by assumption)))).cell (p := ⟨w.heap.size, 0, none⟩) lz).trans q0, ((show Below wy.heap.size wy _ from (by repeat (first | exact Below.refl _ _ | assumption | refine below_drewN ?_ _ | refine Below.drew ?_ | refine Below.alloc ?_ (by first | exact Nat.le_refl _ | exact Below.size (by assumption) | (simp; done) | (simp; omega)) _ | refine Below.setCell ?_ (by first | exact Nat.le_refl _ | exact Below.size (by assumption) | (simp; done) | (simp; omega)) _ | refine Below.trans ?_ (by assumption)))).cell (p := ⟨w.heap.size, 1, none⟩) lz).trans q1, ((show Below wy.heap.size wy _ from (by repeat (first | exact Below.refl _ _ | assumption | refine below_drewN ?_ _ | refine Below.drew ?_ | refine Below.alloc ?_ (by first | exact Nat.le_refl _ | exact Below.size (by assumption) | (simp; done) | (simp; omega)) _ | refine Below.setCell ?_ (by first | exact Nat.le_refl _ | exact Below.size (by assumption) | (simp; done) | (simp; omega)) _ | refine Below.trans ?_ (by assumption)))).cell (p := ⟨w.heap.size, 2, none⟩) lz).trans q2⟩
          clear hK K
          try simp only [List.getElem_toArray, List.getElem_cons_succ, List.getElem_cons_zero, Act.put, List.setIfInBounds_toArray, List.set_cons_zero, List.set_cons_succ]
          refine wpAnyH_ready (rs := [7]) (by kernel_rfl) (by simp) ?_
          refine AllReadyH.cons rfl (fun K hK => ?_) AllReadyH.nil
          go_simp
          refine hK.out _ _ ?_ (fun hHeld => ?_)
          · exact ⟨((show Below wy.heap.size wy _ from (by repeat (first | exact Below.refl _ _ | assumption | refine below_drewN ?_ _ | refine Below.drew ?_ | refine Below.alloc ?_ (by first | exact Nat.le_refl _ | exact Below.size (by assumption) | (simp; done) | (simp; omega)) _ | refine Below.setCell ?_ (by first | exact Nat.le_refl _ | exact Below.size (by assumption) | (simp; done) | (simp; omega)) _ | refine Below.trans ?_ (by assumption)))).cell (p := ⟨w.heap.size, 0, none⟩) lz).trans q0, ((show Below wy.heap.size wy _ from (by repeat (first | exact Below.refl _ _ | assumption | refine below_drewN ?_ _ | refine Below.drew ?_ | refine Below.alloc ?_ (by first | exact Nat.le_refl _ | exact Below.size (by assumption) | (simp; done) | (simp; omega)) _ | refine Below.setCell ?_ (by first | exact Nat.le_refl _ | exact Below.size (by assumption) | (simp; done) | (simp; omega)) _ | refine Below.trans ?_ (by assumption)))).cell (p := ⟨w.heap.size, 1, none⟩) lz).trans q1, ((show Below wy.heap.size wy _ from (by repeat (first | exact Below.refl _ _ | assumption | refine below_drewN ?_ _ | refine Below.drew ?_ | refine Below.alloc ?_ (by first | exact Nat.le_refl _ | exact Below.size (by assumption) | (simp; done) | (simp; omega)) _ | refine Below.setCell ?_ (by first | exact Nat.le_refl _ | exact Below.size (by assumption) | (simp; done) | (simp; omega)) _ | refine Below.trans ?_ (by assumption)))).cell (p := ⟨w.heap.size, 2, none⟩) lz).trans q2⟩
          clear hK K
          try simp only [List.getElem_toArray, List.getElem_cons_succ, List.getElem_cons_zero, Act.put, List.setIfInBounds_toArray, List.set_cons_zero, List.set_cons_succ]
          refine wpAnyH_ready (rs := [8]) (by kernel_rfl) (by simp) ?_
          refine AllReadyH.cons rfl (fun K hK => ?_) AllReadyH.nil
          apply step_gat_one (s := .tmp 43) (x := .tmp 45) (G := G) (q := ⟨x, q, p⟩) (base := base) (g := g) (cap := c)
          case hgd => rfl
          case ho => rfl
          case hs => rfl
          case hx => rfl
          case hown => exact (unhide HO).kept (grown_below (by repeat (first | exact Below.refl _ _ | assumption | refine below_drewN ?_ _ | refine Below.drew ?_ | refine Below.alloc ?_ (by first | exact Nat.le_refl _ | exact Below.size (by assumption) | (simp; done) | (simp; omega)) _ | refine Below.setCell ?_ (by first | exact Nat.le_refl _ | exact Below.size (by assumption) | (simp; done) | (simp; omega)) _ | refine Below.trans ?_ (by assumption)))) (Or.inr (by simp [Value.ownBlock]))
          case hbase => first | omega | (simp; done) | (simp; omega)
          case hT => refine Gts.lone ?_ ?_ ?_ <;> simp [go_sem]
          case hl => omega
          case h =>
            intro g2 c2 wb o2 gr2 at2 lt2
            have P0 := grown_cell gr2 (cell_later (show Below wy.heap.size wy _ from (by repeat (first | exact Below.refl _ _ | assumption | refine below_drewN ?_ _ | refine Below.drew ?_ | refine Below.alloc ?_ (by first | exact Nat.le_refl _ | exact Below.size (by assumption) | (simp; done) | (simp; omega)) _ | refine Below.setCell ?_ (by first | exact Nat.le_refl _ | exact Below.size (by assumption) | (simp; done) | (simp; omega)) _ | refine Below.trans ?_ (by assumption)))) p0) (by simp; omega)
            have P1 := grown_cell gr2 (cell_later (show Below wy.heap.size wy _ from (by repeat (first | exact Below.refl _ _ | assumption | refine below_drewN ?_ _ | refine Below.drew ?_ | refine Below.alloc ?_ (by first | exact Nat.le_refl _ | exact Below.size (by assumption) | (simp; done) | (simp; omega)) _ | refine Below.setCell ?_ (by first | exact Nat.le_refl _ | exact Below.size (by assumption) | (simp; done) | (simp; omega)) _ | refine Below.trans ?_ (by assumption)))) p1) (by simp; omega)
            have P2 := grown_cell gr2 (cell_later (show Below wy.heap.size wy _ from (by repeat (first | exact Below.refl _ _ | assumption | refine below_drewN ?_ _ | refine Below.drew ?_ | refine Below.alloc ?_ (by first | exact Nat.le_refl _ | exact Below.size (by assumption) | (simp; done) | (simp; omega)) _ | refine Below.setCell ?_ (by first | exact Nat.le_refl _ | exact Below.size (by assumption) | (simp; done) | (simp; omega)) _ | refine Below.trans ?_ (by assumption)))) p2) (by simp; omega)
            have Q0 := grown_cell gr2 (cell_later (show Below wy.heap.size wy _ from (by repeat (first | exact Below.refl _ _ | assumption | refine below_drewN ?_ _ | refine Below.drew ?_ | refine Below.alloc ?_ (by first | exact Nat.le_refl _ | exact Below.size (by assumption) | (simp; done) | (simp; omega)) _ | refine Below.setCell ?_ (by first | exact Nat.le_refl _ | exact Below.size (by assumption) | (simp; done) | (simp; omega)) _ | refine Below.trans ?_ (by assumption)))) q0) (by simp; omega)
            have Q1 := grown_cell gr2 (cell_later (show Below wy.heap.size wy _ from (by repeat (first | exact Below.refl _ _ | assumption | refine below_drewN ?_ _ | refine Below.drew ?_ | refine Below.alloc ?_ (by first | exact Nat.le_refl _ | exact Below.size (by assumption) | (simp; done) | (simp; omega)) _ | refine Below.setCell ?_ (by first | exact Nat.le_refl _ | exact Below.size (by assumption) | (simp; done) | (simp; omega)) _ | refine Below.trans ?_ (by assumption)))) q1) (by simp; omega)
            have Q2 := grown_cell gr2 (cell_later (show Below wy.heap.size wy _ from (by repeat (first | exact Below.refl _ _ | assumption | refine below_drewN ?_ _ | refine Below.drew ?_ | refine Below.alloc ?_ (by first | exact Nat.le_refl _ | exact Below.size (by assumption) | (simp; done) | (simp; omega)) _ | refine Below.setCell ?_ (by first | exact Nat.le_refl _ | exact Below.size (by assumption) | (simp; done) | (simp; omega)) _ | refine Below.trans ?_ (by assumption)))) q2) (by simp; omega)
            have FB : Hid (∀ o, wb.frozen? ⟨gb, o, none⟩ = false) := fun o => (World.frozen?_of_block (gr2.block gb (Nat.lt_of_lt_of_le lg (show Below wy.heap.size wy _ from (by repeat (first | exact Below.refl _ _ | assumption | refine below_drewN ?_ _ | refine Below.drew ?_ | refine Below.alloc ?_ (by first | exact Nat.le_refl _ | exact Below.size (by assumption) | (simp; done) | (simp; omega)) _ | refine Below.setCell ?_ (by first | exact Nat.le_refl _ | exact Below.size (by assumption) | (simp; done) | (simp; omega)) _ | refine Below.trans ?_ (by assumption)))).size) (by simp; omega))).trans (((show Below wy.heap.size wy _ from (by repeat (first | exact Below.refl _ _ | assumption | refine below_drewN ?_ _ | refine Below.drew ?_ | refine Below.alloc ?_ (by first | exact Nat.le_refl _ | exact Below.size (by assumption) | (simp; done) | (simp; omega)) _ | refine Below.setCell ?_ (by first | exact Nat.le_refl _ | exact Below.size (by assumption) | (simp; done) | (simp; omega)) _ | refine Below.trans ?_ (by assumption)))).frozen (p := ⟨gb, o, none⟩) lg).trans (unhide PF o))
            have f1 := unhide FB 1
            have TB : Hid (Tab wb B n (snocG G n ⟨x, q, p⟩) m) := ((unhide HT).keep ((gr2.block B (Nat.lt_of_lt_of_le lB (show Below wy.heap.size wy _ from (by repeat (first | exact Below.refl _ _ | assumption | refine below_drewN ?_ _ | refine Below.drew ?_ | refine Below.alloc ?_ (by first | exact Nat.le_refl _ | exact Below.size (by assumption) | (simp; done) | (simp; omega)) _ | refine Below.setCell ?_ (by first | exact Nat.le_refl _ | exact Below.size (by assumption) | (simp; done) | (simp; omega)) _ | refine Below.trans ?_ (by assumption)))).size) (by simp; omega)).trans ((show Below wy.heap.size wy _ from (by repeat (first | exact Below.refl _ _ | assumption | refine below_drewN ?_ _ | refine Below.drew ?_ | refine Below.alloc ?_ (by first | exact Nat.le_refl _ | exact Below.size (by assumption) | (simp; done) | (simp; omega)) _ | refine Below.setCell ?_ (by first | exact Nat.le_refl _ | exact Below.size (by assumption) | (simp; done) | (simp; omega)) _ | refine Below.trans ?_ (by assumption)))).block B lB))).cong (fun i hi => (snocG_lt hi).symm)
            have BBb : Out3 gb B g w wb := (BY.below (show Below wy.heap.size wy _ from (by repeat (first | exact Below.refl _ _ | assumption | refine below_drewN ?_ _ | refine Below.drew ?_ | refine Below.alloc ?_ (by first | exact Nat.le_refl _ | exact Below.size (by assumption) | (simp; done) | (simp; omega)) _ | refine Below.setCell ?_ (by first | exact Nat.le_refl _ | exact Below.size (by assumption) | (simp; done) | (simp; omega)) _ | refine Below.trans ?_ (by assumption))))).grown gr2 (fun k hk => Or.inr (Or.inr (by simp at hk; omega)))
            have sb := gr2.size
            (try simp [go_sem] at sb)
            (try simp [go_sem] at at2)
            refine hK.out _ _ ?_ (fun hHeld => ?_)
            · exact ⟨Q0, Q1, Q2⟩
            clear hK K
            try simp only [List.getElem_toArray, List.getElem_cons_succ, List.getElem_cons_zero, Act.put, List.setIfInBounds_toArray, List.set_cons_zero, List.set_cons_succ]
            refine wpAnyH_take (i := 9) (v := ?_) rfl (by kernel_rfl) (by kernel_rfl) (by kernel_rfl) (fun _ _ _ h => h) (Or.inl ⟨by rfl, ?_⟩) (by assumption) ?_
            rotate_left
            · (intro w hSw; (try dsimp only at hSw); first | (go_simp; done) | (go_simp; with_reducible rfl))
            try simp only [List.getElem_toArray, List.getElem_cons_succ, List.getElem_cons_zero, Act.put, List.setIfInBounds_toArray, List.set_cons_zero, List.set_cons_succ]
            refine wpAnyH_take (i := 10) (v := ?_) rfl (by kernel_rfl) (by kernel_rfl) (by kernel_rfl) (fun _ _ _ h => h) (Or.inl ⟨by rfl, ?_⟩) (by assumption) ?_
            rotate_left
            · (intro w hSw; (try dsimp only at hSw); first | (go_simp; done) | (go_simp; with_reducible rfl))
            try simp only [List.getElem_toArray, List.getElem_cons_succ, List.getElem_cons_zero, Act.put, List.setIfInBounds_toArray, List.set_cons_zero, List.set_cons_succ]
            refine wpAnyH_take (i := 11) (v := ?_) rfl (by kernel_rfl) (by kernel_rfl) (by kernel_rfl) (fun _ _ _ h => h) (Or.inl ⟨by rfl, ?_⟩) (by assumption) ?_
            rotate_left
            · (intro w hSw; (try dsimp only at hSw); first | (go_simp; done) | (go_simp; with_reducible rfl))
            try simp only [List.getElem_toArray, List.getElem_cons_succ, List.getElem_cons_zero, Act.put, List.setIfInBounds_toArray, List.set_cons_zero, List.set_cons_succ]
            refine wpAnyH_ready (rs := [12]) (by kernel_rfl) (by simp) ?_
            refine AllReadyH.cons rfl (fun K hK => ?_) AllReadyH.nil
            go_simp
            refine hK.out _ _ ?_ (fun hHeld => ?_)
            · exact ⟨by rw [World.cell?_setCell_other _ _ _ _ (by simp <;> omega)]; exact Q0, by rw [World.cell?_setCell_other _ _ _ _ (by simp <;> omega)]; exact Q1, by rw [World.cell?_setCell_other _ _ _ _ (by simp <;> omega)]; exact Q2⟩
            clear hK K
            try simp only [List.getElem_toArray, List.getElem_cons_succ, List.getElem_cons_zero, Act.put, List.setIfInBounds_toArray, List.set_cons_zero, List.set_cons_succ]
            refine wpAnyH_done (by kernel_rfl) ?_ _
            obtain ⟨wc, hwc⟩ : ∃ wc, wc = wb.setCell ⟨gb, 1, none⟩ (.slice (some ⟨g2, 0, none⟩) (n + 1) c2) := ⟨_, rfl⟩
            have MC : Mov gb wb wc := by rw [hwc]; exact Mov.set _ _ _
            have g2b := own_base o2
            have R0 : wc.cell? ⟨gb, 0, none⟩ = some (.int .i64 m) := by rw [hwc, World.cell?_setCell_other _ _ _ _ (by simp)]; exact P0
            have R1 : wc.cell? ⟨gb, 1, none⟩ = some (.slice (some ⟨g2, 0, none⟩) (n + 1) c2) := by rw [hwc]; exact World.cell?_setCell_same _ _ _ P1
            have R2 : wc.cell? ⟨gb, 2, none⟩ = some (.map (some B)) := by rw [hwc, World.cell?_setCell_other _ _ _ _ (by simp)]; exact P2
            have S0 := MC.cell Q0 (by simp only; omega)
            have S1 := MC.cell Q1 (by simp only; omega)
            have S2 := MC.cell Q2 (by simp only; omega)
            have FC : Hid (∀ o, wc.frozen? ⟨gb, o, none⟩ = false) := fun o => by rw [hwc]; simp [go_sem]; exact unhide FB o
            have g2n : g2 ≠ gb ∧ g2 ≠ B := by rcases at2 with h | h <;> omega
            have AT : Hid (g2 = g ∨ w.heap.size ≤ g2) := by rcases at2 with h | h; (· exact Or.inl (by omega)); (· exact Or.inr (by omega))
            have OC := hide (o2.kept (grown_mov MC) (Or.inr (by simp [Value.ownBlock]; omega)))
            have TC : Hid (Tab wc B n (snocG G n ⟨x, q, p⟩) m) := (unhide TB).keep (by rw [hwc]; exact Below.heap_setCell _ _ _ _ (by simp only; omega))
            have BC : Out3 gb B g w wc := by rw [hwc]; exact BBb.setCell (Or.inl rfl) _
            have lc := MC.size
            rw [← hwc]
            clear hwc MC o2 BBb P0 P1 P2 Q0 Q1 Q2 f1 FB TB gr2 at2
            have kn : ∀ i, i < n → snocG G n ⟨x, q, p⟩ i ≠ snocG G n ⟨x, q, p⟩ n := fun i hi => by rw [snocG_lt hi, snocG_at]; exact unhide HNO i hi
            have KN := hide kn
            clear kn
            have e3 : (1 + m + ((n + 1 : Nat) : Int)) = 2 + m + (n : Int) := by omega
            have E3 := hide e3
            clear e3
            have l5 : w.heap.size < wc.heap.size := World.block_lt_of_cell? _ _ S0
            have l6 : gb < wc.heap.size := World.block_lt_of_cell? _ _ R0
            go_wp2
            go_region_held3 (fun w' => w'.cell? ⟨gb, 0, none⟩ = some (.int .i64 m) ∧ w'.cell? ⟨gb, 1, none⟩ = some (.slice (some ⟨g2, 0, none⟩) (n + 1) c2) ∧ w'.cell? ⟨gb, 2, none⟩ = some (.map (some B)) ∧ w'.cell? ⟨w.heap.size, 0, none⟩ = some (.bool x) ∧ w'.cell? ⟨w.heap.size, 1, none⟩ = some (.int .i64 q) ∧ w'.cell? ⟨w.heap.size, 2, none⟩ = some (.int .i64 p)) (first | exact ⟨R0, R1, R2, S0, S1, S2⟩ | exact ⟨Z0, Z1, Z2, Y0, Y1, Y2⟩ | go_keep)
              (first | (go_at_call 45; refine (netMany_any _ _ _ _ _ hm0 hm1 (by omega)).mono ?_; rintro e wq ⟨rfl, bq⟩; rw [unhide E3]; have BQ := (by first | exact BC.below bq | exact BC.drew.below bq); have R0 := cell_later bq (by exact R0); have R1 := cell_later bq (by exact R1); have R2 := cell_later bq (by exact R2); have S0 := cell_later bq (by exact S0); have S1 := cell_later bq (by exact S1); have S2 := cell_later bq (by exact S2); have sq := bq.size; obtain ⟨w3, hput, T3, g3⟩ := tab_put (Tab.later (by exact unhide TC) bq) (unhide KN); rw [snocG_at] at hput; have Z0 := grown_cell g3 R0 (by simp; omega); have Z1 := grown_cell g3 R1 (by simp; omega); have Z2 := grown_cell g3 R2 (by simp; omega); have Y0 := grown_cell g3 S0 (by simp; omega); have Y1 := grown_cell g3 S1 (by simp; omega); have Y2 := grown_cell g3 S2 (by simp; omega)))
            all_goals go_wp2
            all_goals have B3 : Out3 gb B g w w3 := BQ.grown g3 (fun k hk => Or.inr (Or.inl (by simp at hk; omega)))
            all_goals have G3 : Hid (Grow w3 base gb m g2 (n + 1) c2 B (snocG G n ⟨x, q, p⟩)) := ⟨⟨Z0, Z1, Z2, fun o => (World.frozen?_of_block (g3.block gb (World.block_lt_of_cell? _ _ R0) (by simp; omega))).trans ((bq.frozen (p := ⟨gb, o, none⟩) (by first | exact l6 | (simp; exact l6))).trans (by exact unhide FC o))⟩, ((show World.ownsRow _ base 76 3 (.slice (some ⟨g2, 0, none⟩) (n + 1) c2) (n + 1) (gcells (snocG G n ⟨x, q, p⟩) (n + 1)) from (by exact unhide OC)).kept (grown_below bq) (Or.inr (by simp [Value.ownBlock]))).kept g3 (Or.inr (by simp [Value.ownBlock]; omega)), T3, hb1, hb2, g2n.1.symm, hn2, g2n.2⟩
            all_goals rcases tab_looks T3 ⟨x, q, p⟩ (fun i j h1 h2 => (by by_cases ej : j = n; (· subst ej; exact unhide KN i h1); (· rw [snocG_lt (show j < n by omega), snocG_lt (show i < n by omega)]; exact unhide HU i j h1 (by omega)))) with ⟨hno, _⟩ | ⟨i, hi, hg, hl⟩
            all_goals first | exact absurd (snocG_at G n ⟨x, q, p⟩) (hno n (by omega)) | skip
            all_goals have ei : i = n := (by by_cases h : i = n; (· exact h); (· exact absurd (hg.trans (snocG_at G n ⟨x, q, p⟩).symm) (unhide KN i (by omega))))
            all_goals subst ei
            all_goals have hl0 := hl w3 rfl
            all_goals have hl1 := hl w3.drew rfl
            all_goals clear hl
            all_goals go_region
            all_goals go_wp2
            all_goals go_ret
            all_goals rw [unhide HR]
            all_goals exact ⟨rfl, fun _ => ⟨g2, ⟨c2, unhide G3⟩, unhide AT⟩, (by first | exact B3 | exact B3.drew)⟩
        · go_simp
          refine hK.out _ _ ?_ (fun hHeld => ?_)
          · exact ⟨((show Below wy.heap.size wy _ from (by repeat (first | exact Below.refl _ _ | assumption | refine below_drewN ?_ _ | refine Below.drew ?_ | refine Below.alloc ?_ (by first | exact Nat.le_refl _ | exact Below.size (by assumption) | (simp; done) | (simp; omega)) _ | refine Below.setCell ?_ (by first | exact Nat.le_refl _ | exact Below.size (by assumption) | (simp; done) | (simp; omega)) _ | refine Below.trans ?_ (by assumption)))).cell (p := ⟨w.heap.size, 0, none⟩) lz).trans q0, ((show Below wy.heap.size wy _ from (by repeat (first | exact Below.refl _ _ | assumption | refine below_drewN ?_ _ | refine Below.drew ?_ | refine Below.alloc ?_ (by first | exact Nat.le_refl _ | exact Below.size (by assumption) | (simp; done) | (simp; omega)) _ | refine Below.setCell ?_ (by first | exact Nat.le_refl _ | exact Below.size (by assumption) | (simp; done) | (simp; omega)) _ | refine Below.trans ?_ (by assumption)))).cell (p := ⟨w.heap.size, 1, none⟩) lz).trans q1, ((show Below wy.heap.size wy _ from (by repeat (first | exact Below.refl _ _ | assumption | refine below_drewN ?_ _ | refine Below.drew ?_ | refine Below.alloc ?_ (by first | exact Nat.le_refl _ | exact Below.size (by assumption) | (simp; done) | (simp; omega)) _ | refine Below.setCell ?_ (by first | exact Nat.le_refl _ | exact Below.size (by assumption) | (simp; done) | (simp; omega)) _ | refine Below.trans ?_ (by assumption)))).cell (p := ⟨w.heap.size, 2, none⟩) lz).trans q2⟩
          clear hK K
          try simp only [List.getElem_toArray, List.getElem_cons_succ, List.getElem_cons_zero, Act.put, List.setIfInBounds_toArray, List.set_cons_zero, List.set_cons_succ]
          refine wpAnyH_ready (rs := [5]) (by kernel_rfl) (by simp) ?_
          refine AllReadyH.cons rfl (fun K hK => ?_) AllReadyH.nil
          go_simp
          refine hK.out _ _ ?_ (fun hHeld => ?_)
          · exact ⟨((show Below wy.heap.size wy _ from (by repeat (first | exact Below.refl _ _ | assumption | refine below_drewN ?_ _ | refine Below.drew ?_ | refine Below.alloc ?_ (by first | exact Nat.le_refl _ | exact Below.size (by assumption) | (simp; done) | (simp; omega)) _ | refine Below.setCell ?_ (by first | exact Nat.le_refl _ | exact Below.size (by assumption) | (simp; done) | (simp; omega)) _ | refine Below.trans ?_ (by assumption)))).cell (p := ⟨w.heap.size, 0, none⟩) lz).trans q0, ((show Below wy.heap.size wy _ from (by repeat (first | exact Below.refl _ _ | assumption | refine below_drewN ?_ _ | refine Below.drew ?_ | refine Below.alloc ?_ (by first | exact Nat.le_refl _ | exact Below.size (by assumption) | (simp; done) | (simp; omega)) _ | refine Below.setCell ?_ (by first | exact Nat.le_refl _ | exact Below.size (by assumption) | (simp; done) | (simp; omega)) _ | refine Below.trans ?_ (by assumption)))).cell (p := ⟨w.heap.size, 1, none⟩) lz).trans q1, ((show Below wy.heap.size wy _ from (by repeat (first | exact Below.refl _ _ | assumption | refine below_drewN ?_ _ | refine Below.drew ?_ | refine Below.alloc ?_ (by first | exact Nat.le_refl _ | exact Below.size (by assumption) | (simp; done) | (simp; omega)) _ | refine Below.setCell ?_ (by first | exact Nat.le_refl _ | exact Below.size (by assumption) | (simp; done) | (simp; omega)) _ | refine Below.trans ?_ (by assumption)))).cell (p := ⟨w.heap.size, 2, none⟩) lz).trans q2⟩
          clear hK K
          try simp only [List.getElem_toArray, List.getElem_cons_succ, List.getElem_cons_zero, Act.put, List.setIfInBounds_toArray, List.set_cons_zero, List.set_cons_succ]
          refine wpAnyH_ready (rs := [8]) (by kernel_rfl) (by simp) ?_
          refine AllReadyH.cons rfl (fun K hK => ?_) AllReadyH.nil
          apply step_gat_one (s := .tmp 43) (x := .tmp 45) (G := G) (q := ⟨x, q, p⟩) (base := base) (g := g) (cap := c)
          case hgd => rfl
          case ho => rfl
          case hs => rfl
          case hx => rfl
          case hown => exact (unhide HO).kept (grown_below (by repeat (first | exact Below.refl _ _ | assumption | refine below_drewN ?_ _ | refine Below.drew ?_ | refine Below.alloc ?_ (by first | exact Nat.le_refl _ | exact Below.size (by assumption) | (simp; done) | (simp; omega)) _ | refine Below.setCell ?_ (by first | exact Nat.le_refl _ | exact Below.size (by assumption) | (simp; done) | (simp; omega)) _ | refine Below.trans ?_ (by assumption)))) (Or.inr (by simp [Value.ownBlock]))
          case hbase => first | omega | (simp; done) | (simp; omega)
          case hT => refine Gts.lone ?_ ?_ ?_ <;> simp [go_sem]
          case hl => omega
          case h =>
            intro g2 c2 wb o2 gr2 at2 lt2
            have P0 := grown_cell gr2 (cell_later (show Below wy.heap.size wy _ from (by repeat (first | exact Below.refl _ _ | assumption | refine below_drewN ?_ _ | refine Below.drew ?_ | refine Below.alloc ?_ (by first | exact Nat.le_refl _ | exact Below.size (by assumption) | (simp; done) | (simp; omega)) _ | refine Below.setCell ?_ (by first | exact Nat.le_refl _ | exact Below.size (by assumption) | (simp; done) | (simp; omega)) _ | refine Below.trans ?_ (by assumption)))) p0) (by simp; omega)
            have P1 := grown_cell gr2 (cell_later (show Below wy.heap.size wy _ from (by repeat (first | exact Below.refl _ _ | assumption | refine below_drewN ?_ _ | refine Below.drew ?_ | refine Below.alloc ?_ (by first | exact Nat.le_refl _ | exact Below.size (by assumption) | (simp; done) | (simp; omega)) _ | refine Below.setCell ?_ (by first | exact Nat.le_refl _ | exact Below.size (by assumption) | (simp; done) | (simp; omega)) _ | refine Below.trans ?_ (by assumption)))) p1) (by simp; omega)
            have P2 := grown_cell gr2 (cell_later (show Below wy.heap.size wy _ from (by repeat (first | exact Below.refl _ _ | assumption | refine below_drewN ?_ _ | refine Below.drew ?_ | refine Below.alloc ?_ (by first | exact Nat.le_refl _ | exact Below.size (by assumption) | (simp; done) | (simp; omega)) _ | refine Below.setCell ?_ (by first | exact Nat.le_refl _ | exact Below.size (by assumption) | (simp; done) | (simp; omega)) _ | refine Below.trans ?_ (by assumption)))) p2) (by simp; omega)
            have Q0 := grown_cell gr2 (cell_later (show Below wy.heap.size wy _ from (by repeat (first | exact Below.refl _ _ | assumption | refine below_drewN ?_ _ | refine Below.drew ?_ | refine Below.alloc ?_ (by first | exact Nat.le_refl _ | exact Below.size (by assumption) | (simp; done) | (simp; omega)) _ | refine Below.setCell ?_ (by first | exact Nat.le_refl _ | exact Below.size (by assumption) | (simp; done) | (simp; omega)) _ | refine Below.trans ?_ (by assumption)))) q0) (by simp; omega)
            have Q1 := grown_cell gr2 (cell_later (show Below wy.heap.size wy _ from (by repeat (first | exact Below.refl _ _ | assumption | refine below_drewN ?_ _ | refine Below.drew ?_ | refine Below.alloc ?_ (by first | exact Nat.le_refl _ | exact Below.size (by assumption) | (simp; done) | (simp; omega)) _ | refine Below.setCell ?_ (by first | exact Nat.le_refl _ | exact Below.size (by assumption) | (simp; done) | (simp; omega)) _ | refine Below.trans ?_ (by assumption)))) q1) (by simp; omega)
            have Q2 := grown_cell gr2 (cell_later (show Below wy.heap.size wy _ from (by repeat (first | exact Below.refl _ _ | assumption | refine below_drewN ?_ _ | refine Below.drew ?_ | refine Below.alloc ?_ (by first | exact Nat.le_refl _ | exact Below.size (by assumption) | (simp; done) | (simp; omega)) _ | refine Below.setCell ?_ (by first | exact Nat.le_refl _ | exact Below.size (by assumption) | (simp; done) | (simp; omega)) _ | refine Below.trans ?_ (by assumption)))) q2) (by simp; omega)
            have FB : Hid (∀ o, wb.frozen? ⟨gb, o, none⟩ = false) := fun o => (World.frozen?_of_block (gr2.block gb (Nat.lt_of_lt_of_le lg (show Below wy.heap.size wy _ from (by repeat (first | exact Below.refl _ _ | assumption | refine below_drewN ?_ _ | refine Below.drew ?_ | refine Below.alloc ?_ (by first | exact Nat.le_refl _ | exact Below.size (by assumption) | (simp; done) | (simp; omega)) _ | refine Below.setCell ?_ (by first | exact Nat.le_refl _ | exact Below.size (by assumption) | (simp; done) | (simp; omega)) _ | refine Below.trans ?_ (by assumption)))).size) (by simp; omega))).trans (((show Below wy.heap.size wy _ from (by repeat (first | exact Below.refl _ _ | assumption | refine below_drewN ?_ _ | refine Below.drew ?_ | refine Below.alloc ?_ (by first | exact Nat.le_refl _ | exact Below.size (by assumption) | (simp; done) | (simp; omega)) _ | refine Below.setCell ?_ (by first | exact Nat.le_refl _ | exact Below.size (by assumption) | (simp; done) | (simp; omega)) _ | refine Below.trans ?_ (by assumption)))).frozen (p := ⟨gb, o, none⟩) lg).trans (unhide PF o))
            have f1 := unhide FB 1
            have TB : Hid (Tab wb B n (snocG G n ⟨x, q, p⟩) m) := ((unhide HT).keep ((gr2.block B (Nat.lt_of_lt_of_le lB (show Below wy.heap.size wy _ from (by repeat (first | exact Below.refl _ _ | assumption | refine below_drewN ?_ _ | refine Below.drew ?_ | refine Below.alloc ?_ (by first | exact Nat.le_refl _ | exact Below.size (by assumption) | (simp; done) | (simp; omega)) _ | refine Below.setCell ?_ (by first | exact Nat.le_refl _ | exact Below.size (by assumption) | (simp; done) | (simp; omega)) _ | refine Below.trans ?_ (by assumption)))).size) (by simp; omega)).trans ((show Below wy.heap.size wy _ from (by repeat (first | exact Below.refl _ _ | assumption | refine below_drewN ?_ _ | refine Below.drew ?_ | refine Below.alloc ?_ (by first | exact Nat.le_refl _ | exact Below.size (by assumption) | (simp; done) | (simp; omega)) _ | refine Below.setCell ?_ (by first | exact Nat.le_refl _ | exact Below.size (by assumption) | (simp; done) | (simp; omega)) _ | refine Below.trans ?_ (by assumption)))).block B lB))).cong (fun i hi => (snocG_lt hi).symm)
            have BBb : Out3 gb B g w wb := (BY.below (show Below wy.heap.size wy _ from (by repeat (first | exact Below.refl _ _ | assumption | refine below_drewN ?_ _ | refine Below.drew ?_ | refine Below.alloc ?_ (by first | exact Nat.le_refl _ | exact Below.size (by assumption) | (simp; done) | (simp; omega)) _ | refine Below.setCell ?_ (by first | exact Nat.le_refl _ | exact Below.size (by assumption) | (simp; done) | (simp; omega)) _ | refine Below.trans ?_ (by assumption))))).grown gr2 (fun k hk => Or.inr (Or.inr (by simp at hk; omega)))
            have sb := gr2.size
            (try simp [go_sem] at sb)
            (try simp [go_sem] at at2)
            refine hK.out _ _ ?_ (fun hHeld => ?_)
            · exact ⟨Q0, Q1, Q2⟩
            clear hK K
            try simp only [List.getElem_toArray, List.getElem_cons_succ, List.getElem_cons_zero, Act.put, List.setIfInBounds_toArray, List.set_cons_zero, List.set_cons_succ]
            refine wpAnyH_take (i := 9) (v := ?_) rfl (by kernel_rfl) (by kernel_rfl) (by kernel_rfl) (fun _ _ _ h => h) (Or.inl ⟨by rfl, ?_⟩) (by assumption) ?_
            rotate_left
            · (intro w hSw; (try dsimp only at hSw); first | (go_simp; done) | (go_simp; with_reducible rfl))
            try simp only [List.getElem_toArray, List.getElem_cons_succ, List.getElem_cons_zero, Act.put, List.setIfInBounds_toArray, List.set_cons_zero, List.set_cons_succ]
            refine wpAnyH_take (i := 10) (v := ?_) rfl (by kernel_rfl) (by kernel_rfl) (by kernel_rfl) (fun _ _ _ h => h) (Or.inl ⟨by rfl, ?_⟩) (by assumption) ?_
            rotate_left
            · (intro w hSw; (try dsimp only at hSw); first | (go_simp; done) | (go_simp; with_reducible rfl))
            try simp only [List.getElem_toArray, List.getElem_cons_succ, List.getElem_cons_zero, Act.put, List.setIfInBounds_toArray, List.set_cons_zero, List.set_cons_succ]
            refine wpAnyH_take (i := 11) (v := ?_) rfl (by kernel_rfl) (by kernel_rfl) (by kernel_rfl) (fun _ _ _ h => h) (Or.inl ⟨by rfl, ?_⟩) (by assumption) ?_
            rotate_left
            · (intro w hSw; (try dsimp only at hSw); first | (go_simp; done) | (go_simp; with_reducible rfl))
            try simp only [List.getElem_toArray, List.getElem_cons_succ, List.getElem_cons_zero, Act.put, List.setIfInBounds_toArray, List.set_cons_zero, List.set_cons_succ]
            refine wpAnyH_ready (rs := [12]) (by kernel_rfl) (by simp) ?_
            refine AllReadyH.cons rfl (fun K hK => ?_) AllReadyH.nil
            go_simp
            refine hK.out _ _ ?_ (fun hHeld => ?_)
            · exact ⟨by rw [World.cell?_setCell_other _ _ _ _ (by simp <;> omega)]; exact Q0, by rw [World.cell?_setCell_other _ _ _ _ (by simp <;> omega)]; exact Q1, by rw [World.cell?_setCell_other _ _ _ _ (by simp <;> omega)]; exact Q2⟩
            clear hK K
            try simp only [List.getElem_toArray, List.getElem_cons_succ, List.getElem_cons_zero, Act.put, List.setIfInBounds_toArray, List.set_cons_zero, List.set_cons_succ]
            refine wpAnyH_done (by kernel_rfl) ?_ _
            obtain ⟨wc, hwc⟩ : ∃ wc, wc = wb.setCell ⟨gb, 1, none⟩ (.slice (some ⟨g2, 0, none⟩) (n + 1) c2) := ⟨_, rfl⟩
            have MC : Mov gb wb wc := by rw [hwc]; exact Mov.set _ _ _
            have g2b := own_base o2
            have R0 : wc.cell? ⟨gb, 0, none⟩ = some (.int .i64 m) := by rw [hwc, World.cell?_setCell_other _ _ _ _ (by simp)]; exact P0
            have R1 : wc.cell? ⟨gb, 1, none⟩ = some (.slice (some ⟨g2, 0, none⟩) (n + 1) c2) := by rw [hwc]; exact World.cell?_setCell_same _ _ _ P1
            have R2 : wc.cell? ⟨gb, 2, none⟩ = some (.map (some B)) := by rw [hwc, World.cell?_setCell_other _ _ _ _ (by simp)]; exact P2
            have S0 := MC.cell Q0 (by simp only; omega)
            have S1 := MC.cell Q1 (by simp only; omega)
            have S2 := MC.cell Q2 (by simp only; omega)
            have FC : Hid (∀ o, wc.frozen? ⟨gb, o, none⟩ = false) := fun o => by rw [hwc]; simp [go_sem]; exact unhide FB o
            have g2n : g2 ≠ gb ∧ g2 ≠ B := by rcases at2 with h | h <;> omega
            have AT : Hid (g2 = g ∨ w.heap.size ≤ g2) := by rcases at2 with h | h; (· exact Or.inl (by omega)); (· exact Or.inr (by omega))
            have OC := hide (o2.kept (grown_mov MC) (Or.inr (by simp [Value.ownBlock]; omega)))
            have TC : Hid (Tab wc B n (snocG G n ⟨x, q, p⟩) m) := (unhide TB).keep (by rw [hwc]; exact Below.heap_setCell _ _ _ _ (by simp only; omega))
            have BC : Out3 gb B g w wc := by rw [hwc]; exact BBb.setCell (Or.inl rfl) _
            have lc := MC.size
            rw [← hwc]
            clear hwc MC o2 BBb P0 P1 P2 Q0 Q1 Q2 f1 FB TB gr2 at2
            have kn : ∀ i, i < n → snocG G n ⟨x, q, p⟩ i ≠ snocG G n ⟨x, q, p⟩ n := fun i hi => by rw [snocG_lt hi, snocG_at]; exact unhide HNO i hi
            have KN := hide kn
            clear kn
            have e3 : (1 + m + ((n + 1 : Nat) : Int)) = 2 + m + (n : Int) := by omega
            have E3 := hide e3
            clear e3
            have l5 : w.heap.size < wc.heap.size := World.block_lt_of_cell? _ _ S0
            have l6 : gb < wc.heap.size := World.block_lt_of_cell? _ _ R0
            go_wp2
            go_region_held3 (fun w' => w'.cell? ⟨gb, 0, none⟩ = some (.int .i64 m) ∧ w'.cell? ⟨gb, 1, none⟩ = some (.slice (some ⟨g2, 0, none⟩) (n + 1) c2) ∧ w'.cell? ⟨gb, 2, none⟩ = some (.map (some B)) ∧ w'.cell? ⟨w.heap.size, 0, none⟩ = some (.bool x) ∧ w'.cell? ⟨w.heap.size, 1, none⟩ = some (.int .i64 q) ∧ w'.cell? ⟨w.heap.size, 2, none⟩ = some (.int .i64 p)) (first | exact ⟨R0, R1, R2, S0, S1, S2⟩ | exact ⟨Z0, Z1, Z2, Y0, Y1, Y2⟩ | go_keep)
              (first | (go_at_call 45; refine (netMany_any _ _ _ _ _ hm0 hm1 (by omega)).mono ?_; rintro e wq ⟨rfl, bq⟩; rw [unhide E3]; have BQ := (by first | exact BC.below bq | exact BC.drew.below bq); have R0 := cell_later bq (by exact R0); have R1 := cell_later bq (by exact R1); have R2 := cell_later bq (by exact R2); have S0 := cell_later bq (by exact S0); have S1 := cell_later bq (by exact S1); have S2 := cell_later bq (by exact S2); have sq := bq.size; obtain ⟨w3, hput, T3, g3⟩ := tab_put (Tab.later (by exact unhide TC) bq) (unhide KN); rw [snocG_at] at hput; have Z0 := grown_cell g3 R0 (by simp; omega); have Z1 := grown_cell g3 R1 (by simp; omega); have Z2 := grown_cell g3 R2 (by simp; omega); have Y0 := grown_cell g3 S0 (by simp; omega); have Y1 := grown_cell g3 S1 (by simp; omega); have Y2 := grown_cell g3 S2 (by simp; omega)))
            all_goals go_wp2
            all_goals have B3 : Out3 gb B g w w3 := BQ.grown g3 (fun k hk => Or.inr (Or.inl (by simp at hk; omega)))
            all_goals have G3 : Hid (Grow w3 base gb m g2 (n + 1) c2 B (snocG G n ⟨x, q, p⟩)) := ⟨⟨Z0, Z1, Z2, fun o => (World.frozen?_of_block (g3.block gb (World.block_lt_of_cell? _ _ R0) (by simp; omega))).trans ((bq.frozen (p := ⟨gb, o, none⟩) (by first | exact l6 | (simp; exact l6))).trans (by exact unhide FC o))⟩, ((show World.ownsRow _ base 76 3 (.slice (some ⟨g2, 0, none⟩) (n + 1) c2) (n + 1) (gcells (snocG G n ⟨x, q, p⟩) (n + 1)) from (by exact unhide OC)).kept (grown_below bq) (Or.inr (by simp [Value.ownBlock]))).kept g3 (Or.inr (by simp [Value.ownBlock]; omega)), T3, hb1, hb2, g2n.1.symm, hn2, g2n.2⟩
            all_goals rcases tab_looks T3 ⟨x, q, p⟩ (fun i j h1 h2 => (by by_cases ej : j = n; (· subst ej; exact unhide KN i h1); (· rw [snocG_lt (show j < n by omega), snocG_lt (show i < n by omega)]; exact unhide HU i j h1 (by omega)))) with ⟨hno, _⟩ | ⟨i, hi, hg, hl⟩
            all_goals first | exact absurd (snocG_at G n ⟨x, q, p⟩) (hno n (by omega)) | skip
            all_goals have ei : i = n := (by by_cases h : i = n; (· exact h); (· exact absurd (hg.trans (snocG_at G n ⟨x, q, p⟩).symm) (unhide KN i (by omega))))
            all_goals subst ei
            all_goals have hl0 := hl w3 rfl
            all_goals have hl1 := hl w3.drew rfl
            all_goals clear hl
            all_goals go_region
            all_goals go_wp2
            all_goals go_ret
            all_goals rw [unhide HR]
            all_goals exact ⟨rfl, fun _ => ⟨g2, ⟨c2, unhide G3⟩, unhide AT⟩, (by first | exact B3 | exact B3.drew)⟩
    · have hl0 := hl wz rfl
      have hl1 := hl wz.drew rfl
      have hnz : ((2 + m + (i : Int)) != 0) = true := by simp; omega
      have HR := hide (putR_at (m := m) hi hg (fun j hj e => unhide HU j i hj hi (e.trans hg.symm)))
      clear hl
      go_region
      all_goals go_wp2
      all_goals go_ret
      all_goals rw [unhide HR]
      all_goals exact ⟨rfl, fun _ => ⟨g, ⟨c, unhide GZ⟩, Or.inl rfl⟩, (by first | exact BB | exact BB.drew)⟩
  · have hgt : gat x p q = ⟨x, p, q⟩ := if_neg c7
    rw [hgt]
    clear hgt
    obtain ⟨wz, hwz⟩ : ∃ wz, wz = w.alloc (.cells #[.bool x, .int .i64 p, .int .i64 q] 76) := ⟨_, rfl⟩
    have BZ : Below w.heap.size w wz := by rw [hwz]; exact (Below.refl _ _).alloc (Nat.le_refl _) _
    have q0 : wz.cell? ⟨w.heap.size, 0, none⟩ = some (.bool x) := by rw [hwz]; simp [go_sem]
    have q1 : wz.cell? ⟨w.heap.size, 1, none⟩ = some (.int .i64 p) := by rw [hwz]; simp [go_sem]
    have q2 : wz.cell? ⟨w.heap.size, 2, none⟩ = some (.int .i64 q) := by rw [hwz]; simp [go_sem]
    have lz : w.heap.size < wz.heap.size := by rw [hwz]; simp
    have GZ := hide ((unhide HGr).later BZ)
    obtain ⟨p0, p1, p2, pf⟩ := (unhide GZ).1
    have PF := hide pf
    have BB : Out3 gb B g w wz := Out3.of BZ
    have HZ := hide hwz
    have HL := hide (tab_looks (unhide GZ).2.2.1 ⟨x, p, q⟩ (unhide HU))
    clear hwz pf BZ
    go_enter Tryd.func110, Tryd.ntmps110
    go_wp2_with fail
    refine (bare_any _ _ hp).mono ?_
    rintro e w ⟨rfl, rfl⟩
    go_wp2_with fail
    refine (bare_any _ _ hq).mono ?_
    rintro e w ⟨rfl, rfl⟩
    (try rw [eq])
    go_wp2
    rw [← unhide HZ]
    rcases unhide HL with ⟨hno, hl⟩ | ⟨i, hi, hg, hl⟩
    · have hl0 := hl wz rfl
      have hl1 := hl wz.drew rfl
      have HNO := hide hno
      clear hl hno
      by_cases h6 : n = 600
      · have HR := hide (putR_full (m := m) (unhide HNO) (by omega))
        have kb : ((n : Int) == 600) = true := by simp; omega
        go_region
        all_goals go_wp2
        all_goals go_ret
        all_goals rw [unhide HR]
        all_goals exact ⟨rfl, fun h => absurd rfl h, (by first | exact BB | exact BB.drew)⟩
      · have kb : ((n : Int) == 600) = false := by simp; omega
        have HR := hide (putR_new (m := m) (unhide HNO) (by omega))
        go_region
        all_goals go_wp2
        obtain ⟨wy, hwy⟩ : ∃ wy, wy = wz.drew := ⟨_, rfl⟩
        have GY : Hid (Grow wy base gb m g n c B G) := by rw [hwy]; exact unhide GZ
        have q0 : wy.cell? ⟨w.heap.size, 0, none⟩ = some (.bool x) := by rw [hwy]; exact q0
        have q1 : wy.cell? ⟨w.heap.size, 1, none⟩ = some (.int .i64 p) := by rw [hwy]; exact q1
        have q2 : wy.cell? ⟨w.heap.size, 2, none⟩ = some (.int .i64 q) := by rw [hwy]; exact q2
        have lz : w.heap.size < wy.heap.size := by rw [hwy]; exact lz
        have BY : Out3 gb B g w wy := by rw [hwy]; exact BB.drew
        rw [← hwy]
        clear hwy hl0 hl1 p0 p1 p2
        obtain ⟨⟨p0, p1, p2, pf⟩, hO, hTb, hb1, hb2, hn1, hn2, hn3⟩ := unhide GY
        have PF := hide pf
        have HO := hide hO
        have HT := hide hTb
        have lg : gb < wy.heap.size := World.block_lt_of_cell? _ _ p0
        have lgg := (own_cap hO).2
        have lB := hTb.lt
        have gbs := own_base hO
        clear pf hO hTb
        refine wp_region_held_drew (S := fun w' => w'.cell? ⟨w.heap.size, 0, none⟩ = some (.bool x) ∧ w'.cell? ⟨w.heap.size, 1, none⟩ = some (.int .i64 p) ∧ w'.cell? ⟨w.heap.size, 2, none⟩ = some (.int .i64 q)) (by kernel_rfl) ?_ (fun hHeld => ?_)
        · exact ⟨q0, q1, q2⟩
        refine wpAnyH_take (i := 0) (v := ?_) rfl (by kernel_rfl) (by kernel_rfl) (by kernel_rfl) (fun _ _ _ h => h) (Or.inl ⟨by rfl, ?_⟩) (by assumption) ?_
        rotate_left
        · (intro w hSw; (try dsimp only at hSw); first | (go_simp; done) | (go_simp; with_reducible rfl))
        try simp only [List.getElem_toArray, List.getElem_cons_succ, List.getElem_cons_zero, Act.put, List.setIfInBounds_toArray, List.set_cons_zero, List.set_cons_succ]
        refine wpAnyH_take (i := 1) (v := ?_) rfl (by kernel_rfl) (by kernel_rfl) (by kernel_rfl) (fun _ _ _ h => h) (Or.inl ⟨by rfl, ?_⟩) (by assumption) ?_
        rotate_left
        · (intro w hSw; (try dsimp only at hSw); first | (go_simp; done) | (go_simp; with_reducible rfl))
        try simp only [List.getElem_toArray, List.getElem_cons_succ, List.getElem_cons_zero, Act.put, List.setIfInBounds_toArray, List.set_cons_zero, List.set_cons_succ]
        refine wpAnyH_take (i := 2) (v := ?_) rfl (by kernel_rfl) (by kernel_rfl) (by kernel_rfl) (fun _ _ _ h => h) (Or.inl ⟨by rfl, ?_⟩) (by assumption) ?_
        rotate_left
        · (intro w hSw; (try dsimp only at hSw); first | (go_simp; done) | (go_simp; with_reducible rfl))
        try simp only [List.getElem_toArray, List.getElem_cons_succ, List.getElem_cons_zero, Act.put, List.setIfInBounds_toArray, List.set_cons_zero, List.set_cons_succ]
        refine wpAnyH_take (i := 3) (v := ?_) rfl (by kernel_rfl) (by kernel_rfl) (by kernel_rfl) (fun _ _ _ h => h) (Or.inl ⟨by rfl, ?_⟩) (by assumption) ?_
        rotate_left
        · (intro w hSw; (try dsimp only at hSw); first | (go_simp; done) | (go_simp; with_reducible rfl))
        try simp only [List.getElem_toArray, List.getElem_cons_succ, List.getElem_cons_zero, Act.put, List.setIfInBounds_toArray, List.set_cons_zero, List.set_cons_succ]
        refine wpAnyH_take (i := 4) (v := ?_) rfl (by kernel_rfl) (by kernel_rfl) (by kernel_rfl) (fun _ _ _ h => h) (Or.inl ⟨by rfl, ?_⟩) (by assumption) ?_
        rotate_left
        · (intro w hSw; (try dsimp only at hSw); first | (go_simp; done) | (go_simp; with_reducible rfl))
        try simp only [List.getElem_toArray, List.getElem_cons_succ, List.getElem_cons_zero, Act.put, List.setIfInBounds_toArray, List.set_cons_zero, List.set_cons_succ]
        refine wpAnyH_take (i := 6) (v := ?_) rfl (by kernel_rfl) (by kernel_rfl) (by kernel_rfl) (fun _ _ _ h => h) (Or.inl ⟨by rfl, ?_⟩) (by assumption) ?_
        rotate_left
        · (intro w hSw; (try dsimp only at hSw); first | (go_simp; done) | (go_simp; with_reducible rfl))
        try simp only [List.getElem_toArray, List.getElem_cons_succ, List.getElem_cons_zero, Act.put, List.setIfInBounds_toArray, List.set_cons_zero, List.set_cons_succ]
        refine wpAnyH_ready (rs := [5, 7]) (by kernel_rfl) (by simp) ?_
        refine AllReadyH.cons rfl (fun K hK => ?_) (AllReadyH.cons rfl (fun K hK => ?_) AllReadyH.nil)
        · go_simp
          refine hK.out _ _ ?_ (fun hHeld => ?_)
          · exact ⟨((show Below wy.heap.size wy _ from (by repeat (first | exact Below.refl _ _ | assumption | refine below_drewN ?_ _ | refine Below.drew ?_ | refine Below.alloc ?_ (by first | exact Nat.le_refl _ | exact Below.size (by assumption) | (simp; done) | (simp; omega)) _ | refine Below.setCell ?_ (by first | exact Nat.le_refl _ | exact Below.size (by assumption) | (simp; done) | (simp; omega)) _ | refine Below.trans ?_ (by assumption)))).cell (p := ⟨w.heap.size, 0, none⟩) lz).trans q0, ((show Below wy.heap.size wy _ from (by repeat (first | exact Below.refl _ _ | assumption | refine below_drewN ?_ _ | refine Below.drew ?_ | refine Below.alloc ?_ (by first | exact Nat.le_refl _ | exact Below.size (by assumption) | (simp; done) | (simp; omega)) _ | refine Below.setCell ?_ (by first | exact Nat.le_refl _ | exact Below.size (by assumption) | (simp; done) | (simp; omega)) _ | refine Below.trans ?_ (by assumption)))).cell (p := ⟨w.heap.size, 1, none⟩) lz).trans q1, ((show Below wy.heap.size wy _ from (by repeat (first | exact Below.refl _ _ | assumption | refine below_drewN ?_ _ | refine Below.drew ?_ | refine Below.alloc ?_ (by first | exact Nat.le_refl _ | exact Below.size (by assumption) | (simp; done) | (simp; omega)) _ | refine Below.setCell ?_ (by first | exact Nat.le_refl _ | exact Below.size (by assumption) | (simp; done) | (simp; omega)) _ | refine Below.trans ?_ (by assumption)))).cell (p := ⟨w.heap.size, 2, none⟩) lz).trans q2⟩
          clear hK K
          try simp only [List.getElem_toArray, List.getElem_cons_succ, List.getElem_cons_zero, Act.put, List.setIfInBounds_toArray, List.set_cons_zero, List.set_cons_succ]
          refine wpAnyH_ready (rs := [7]) (by kernel_rfl) (by simp) ?_
          refine AllReadyH.cons rfl (fun K hK => ?_) AllReadyH.nil
          go_simp
          refine hK.out _ _ ?_ (fun hHeld => ?_)
          · exact ⟨((show Below wy.heap.size wy _ from (by repeat (first | exact Below.refl _ _ | assumption | refine below_drewN ?_ _ | refine Below.drew ?_ | refine Below.alloc ?_ (by first | exact Nat.le_refl _ | exact Below.size (by assumption) | (simp; done) | (simp; omega)) _ | refine Below.setCell ?_ (by first | exact Nat.le_refl _ | exact Below.size (by assumption) | (simp; done) | (simp; omega)) _ | refine Below.trans ?_ (by assumption)))).cell (p := ⟨w.heap.size, 0, none⟩) lz).trans q0, ((show Below wy.heap.size wy _ from (by repeat (first | exact Below.refl _ _ | assumption | refine below_drewN ?_ _ | refine Below.drew ?_ | refine Below.alloc ?_ (by first | exact Nat.le_refl _ | exact Below.size (by assumption) | (simp; done) | (simp; omega)) _ | refine Below.setCell ?_ (by first | exact Nat.le_refl _ | exact Below.size (by assumption) | (simp; done) | (simp; omega)) _ | refine Below.trans ?_ (by assumption)))).cell (p := ⟨w.heap.size, 1, none⟩) lz).trans q1, ((show Below wy.heap.size wy _ from (by repeat (first | exact Below.refl _ _ | assumption | refine below_drewN ?_ _ | refine Below.drew ?_ | refine Below.alloc ?_ (by first | exact Nat.le_refl _ | exact Below.size (by assumption) | (simp; done) | (simp; omega)) _ | refine Below.setCell ?_ (by first | exact Nat.le_refl _ | exact Below.size (by assumption) | (simp; done) | (simp; omega)) _ | refine Below.trans ?_ (by assumption)))).cell (p := ⟨w.heap.size, 2, none⟩) lz).trans q2⟩
          clear hK K
          try simp only [List.getElem_toArray, List.getElem_cons_succ, List.getElem_cons_zero, Act.put, List.setIfInBounds_toArray, List.set_cons_zero, List.set_cons_succ]
          refine wpAnyH_ready (rs := [8]) (by kernel_rfl) (by simp) ?_
          refine AllReadyH.cons rfl (fun K hK => ?_) AllReadyH.nil
          apply step_gat_one (s := .tmp 43) (x := .tmp 45) (G := G) (q := ⟨x, p, q⟩) (base := base) (g := g) (cap := c)
          case hgd => rfl
          case ho => rfl
          case hs => rfl
          case hx => rfl
          case hown => exact (unhide HO).kept (grown_below (by repeat (first | exact Below.refl _ _ | assumption | refine below_drewN ?_ _ | refine Below.drew ?_ | refine Below.alloc ?_ (by first | exact Nat.le_refl _ | exact Below.size (by assumption) | (simp; done) | (simp; omega)) _ | refine Below.setCell ?_ (by first | exact Nat.le_refl _ | exact Below.size (by assumption) | (simp; done) | (simp; omega)) _ | refine Below.trans ?_ (by assumption)))) (Or.inr (by simp [Value.ownBlock]))
          case hbase => first | omega | (simp; done) | (simp; omega)
          case hT => refine Gts.lone ?_ ?_ ?_ <;> simp [go_sem]
          case hl => omega
          case h =>
            intro g2 c2 wb o2 gr2 at2 lt2
            have P0 := grown_cell gr2 (cell_later (show Below wy.heap.size wy _ from (by repeat (first | exact Below.refl _ _ | assumption | refine below_drewN ?_ _ | refine Below.drew ?_ | refine Below.alloc ?_ (by first | exact Nat.le_refl _ | exact Below.size (by assumption) | (simp; done) | (simp; omega)) _ | refine Below.setCell ?_ (by first | exact Nat.le_refl _ | exact Below.size (by assumption) | (simp; done) | (simp; omega)) _ | refine Below.trans ?_ (by assumption)))) p0) (by simp; omega)
            have P1 := grown_cell gr2 (cell_later (show Below wy.heap.size wy _ from (by repeat (first | exact Below.refl _ _ | assumption | refine below_drewN ?_ _ | refine Below.drew ?_ | refine Below.alloc ?_ (by first | exact Nat.le_refl _ | exact Below.size (by assumption) | (simp; done) | (simp; omega)) _ | refine Below.setCell ?_ (by first | exact Nat.le_refl _ | exact Below.size (by assumption) | (simp; done) | (simp; omega)) _ | refine Below.trans ?_ (by assumption)))) p1) (by simp; omega)
            have P2 := grown_cell gr2 (cell_later (show Below wy.heap.size wy _ from (by repeat (first | exact Below.refl _ _ | assumption | refine below_drewN ?_ _ | refine Below.drew ?_ | refine Below.alloc ?_ (by first | exact Nat.le_refl _ | exact Below.size (by assumption) | (simp; done) | (simp; omega)) _ | refine Below.setCell ?_ (by first | exact Nat.le_refl _ | exact Below.size (by assumption) | (simp; done) | (simp; omega)) _ | refine Below.trans ?_ (by assumption)))) p2) (by simp; omega)
            have Q0 := grown_cell gr2 (cell_later (show Below wy.heap.size wy _ from (by repeat (first | exact Below.refl _ _ | assumption | refine below_drewN ?_ _ | refine Below.drew ?_ | refine Below.alloc ?_ (by first | exact Nat.le_refl _ | exact Below.size (by assumption) | (simp; done) | (simp; omega)) _ | refine Below.setCell ?_ (by first | exact Nat.le_refl _ | exact Below.size (by assumption) | (simp; done) | (simp; omega)) _ | refine Below.trans ?_ (by assumption)))) q0) (by simp; omega)
            have Q1 := grown_cell gr2 (cell_later (show Below wy.heap.size wy _ from (by repeat (first | exact Below.refl _ _ | assumption | refine below_drewN ?_ _ | refine Below.drew ?_ | refine Below.alloc ?_ (by first | exact Nat.le_refl _ | exact Below.size (by assumption) | (simp; done) | (simp; omega)) _ | refine Below.setCell ?_ (by first | exact Nat.le_refl _ | exact Below.size (by assumption) | (simp; done) | (simp; omega)) _ | refine Below.trans ?_ (by assumption)))) q1) (by simp; omega)
            have Q2 := grown_cell gr2 (cell_later (show Below wy.heap.size wy _ from (by repeat (first | exact Below.refl _ _ | assumption | refine below_drewN ?_ _ | refine Below.drew ?_ | refine Below.alloc ?_ (by first | exact Nat.le_refl _ | exact Below.size (by assumption) | (simp; done) | (simp; omega)) _ | refine Below.setCell ?_ (by first | exact Nat.le_refl _ | exact Below.size (by assumption) | (simp; done) | (simp; omega)) _ | refine Below.trans ?_ (by assumption)))) q2) (by simp; omega)
            have FB : Hid (∀ o, wb.frozen? ⟨gb, o, none⟩ = false) := fun o => (World.frozen?_of_block (gr2.block gb (Nat.lt_of_lt_of_le lg (show Below wy.heap.size wy _ from (by repeat (first | exact Below.refl _ _ | assumption | refine below_drewN ?_ _ | refine Below.drew ?_ | refine Below.alloc ?_ (by first | exact Nat.le_refl _ | exact Below.size (by assumption) | (simp; done) | (simp; omega)) _ | refine Below.setCell ?_ (by first | exact Nat.le_refl _ | exact Below.size (by assumption) | (simp; done) | (simp; omega)) _ | refine Below.trans ?_ (by assumption)))).size) (by simp; omega))).trans (((show Below wy.heap.size wy _ from (by repeat (first | exact Below.refl _ _ | assumption | refine below_drewN ?_ _ | refine Below.drew ?_ | refine Below.alloc ?_ (by first | exact Nat.le_refl _ | exact Below.size (by assumption) | (simp; done) | (simp; omega)) _ | refine Below.setCell ?_ (by first | exact Nat.le_refl _ | exact Below.size (by assumption) | (simp; done) | (simp; omega)) _ | refine Below.trans ?_ (by assumption)))).frozen (p := ⟨gb, o, none⟩) lg).trans (unhide PF o))
            have f1 := unhide FB 1
            have TB : Hid (Tab wb B n (snocG G n ⟨x, p, q⟩) m) := ((unhide HT).keep ((gr2.block B (Nat.lt_of_lt_of_le lB (show Below wy.heap.size wy _ from (by repeat (first | exact Below.refl _ _ | assumption | refine below_drewN ?_ _ | refine Below.drew ?_ | refine Below.alloc ?_ (by first | exact Nat.le_refl _ | exact Below.size (by assumption) | (simp; done) | (simp; omega)) _ | refine Below.setCell ?_ (by first | exact Nat.le_refl _ | exact Below.size (by assumption) | (simp; done) | (simp; omega)) _ | refine Below.trans ?_ (by assumption)))).size) (by simp; omega)).trans ((show Below wy.heap.size wy _ from (by repeat (first | exact Below.refl _ _ | assumption | refine below_drewN ?_ _ | refine Below.drew ?_ | refine Below.alloc ?_ (by first | exact Nat.le_refl _ | exact Below.size (by assumption) | (simp; done) | (simp; omega)) _ | refine Below.setCell ?_ (by first | exact Nat.le_refl _ | exact Below.size (by assumption) | (simp; done) | (simp; omega)) _ | refine Below.trans ?_ (by assumption)))).block B lB))).cong (fun i hi => (snocG_lt hi).symm)
            have BBb : Out3 gb B g w wb := (BY.below (show Below wy.heap.size wy _ from (by repeat (first | exact Below.refl _ _ | assumption | refine below_drewN ?_ _ | refine Below.drew ?_ | refine Below.alloc ?_ (by first | exact Nat.le_refl _ | exact Below.size (by assumption) | (simp; done) | (simp; omega)) _ | refine Below.setCell ?_ (by first | exact Nat.le_refl _ | exact Below.size (by assumption) | (simp; done) | (simp; omega)) _ | refine Below.trans ?_ (by assumption))))).grown gr2 (fun k hk => Or.inr (Or.inr (by simp at hk; omega)))
            have sb := gr2.size
            (try simp [go_sem] at sb)
            (try simp [go_sem] at at2)
            refine hK.out _ _ ?_ (fun hHeld => ?_)
            · exact ⟨Q0, Q1, Q2⟩
            clear hK K
            try simp only [List.getElem_toArray, List.getElem_cons_succ, List.getElem_cons_zero, Act.put, List.setIfInBounds_toArray, List.set_cons_zero, List.set_cons_succ]
            refine wpAnyH_take (i := 9) (v := ?_) rfl (by kernel_rfl) (by kernel_rfl) (by kernel_rfl) (fun _ _ _ h => h) (Or.inl ⟨by rfl, ?_⟩) (by assumption) ?_
            rotate_left
            · (intro w hSw; (try dsimp only at hSw); first | (go_simp; done) | (go_simp; with_reducible rfl))
            try simp only [List.getElem_toArray, List.getElem_cons_succ, List.getElem_cons_zero, Act.put, List.setIfInBounds_toArray, List.set_cons_zero, List.set_cons_succ]
            refine wpAnyH_take (i := 10) (v := ?_) rfl (by kernel_rfl) (by kernel_rfl) (by kernel_rfl) (fun _ _ _ h => h) (Or.inl ⟨by rfl, ?_⟩) (by assumption) ?_
            rotate_left
            · (intro w hSw; (try dsimp only at hSw); first | (go_simp; done) | (go_simp; with_reducible rfl))
            try simp only [List.getElem_toArray, List.getElem_cons_succ, List.getElem_cons_zero, Act.put, List.setIfInBounds_toArray, List.set_cons_zero, List.set_cons_succ]
            refine wpAnyH_take (i := 11) (v := ?_) rfl (by kernel_rfl) (by kernel_rfl) (by kernel_rfl) (fun _ _ _ h => h) (Or.inl ⟨by rfl, ?_⟩) (by assumption) ?_
            rotate_left
            · (intro w hSw; (try dsimp only at hSw); first | (go_simp; done) | (go_simp; with_reducible rfl))
            try simp only [List.getElem_toArray, List.getElem_cons_succ, List.getElem_cons_zero, Act.put, List.setIfInBounds_toArray, List.set_cons_zero, List.set_cons_succ]
            refine wpAnyH_ready (rs := [12]) (by kernel_rfl) (by simp) ?_
            refine AllReadyH.cons rfl (fun K hK => ?_) AllReadyH.nil
            go_simp
            refine hK.out _ _ ?_ (fun hHeld => ?_)
            · exact ⟨by rw [World.cell?_setCell_other _ _ _ _ (by simp <;> omega)]; exact Q0, by rw [World.cell?_setCell_other _ _ _ _ (by simp <;> omega)]; exact Q1, by rw [World.cell?_setCell_other _ _ _ _ (by simp <;> omega)]; exact Q2⟩
            clear hK K
            try simp only [List.getElem_toArray, List.getElem_cons_succ, List.getElem_cons_zero, Act.put, List.setIfInBounds_toArray, List.set_cons_zero, List.set_cons_succ]
            refine wpAnyH_done (by kernel_rfl) ?_ _
            obtain ⟨wc, hwc⟩ : ∃ wc, wc = wb.setCell ⟨gb, 1, none⟩ (.slice (some ⟨g2, 0, none⟩) (n + 1) c2) := ⟨_, rfl⟩
            have MC : Mov gb wb wc := by rw [hwc]; exact Mov.set _ _ _
            have g2b := own_base o2
            have R0 : wc.cell? ⟨gb, 0, none⟩ = some (.int .i64 m) := by rw [hwc, World.cell?_setCell_other _ _ _ _ (by simp)]; exact P0
            have R1 : wc.cell? ⟨gb, 1, none⟩ = some (.slice (some ⟨g2, 0, none⟩) (n + 1) c2) := by rw [hwc]; exact World.cell?_setCell_same _ _ _ P1
            have R2 : wc.cell? ⟨gb, 2, none⟩ = some (.map (some B)) := by rw [hwc, World.cell?_setCell_other _ _ _ _ (by simp)]; exact P2
            have S0 := MC.cell Q0 (by simp only; omega)
            have S1 := MC.cell Q1 (by simp only; omega)
            have S2 := MC.cell Q2 (by simp only; omega)
            have FC : Hid (∀ o, wc.frozen? ⟨gb, o, none⟩ = false) := fun o => by rw [hwc]; simp [go_sem]; exact unhide FB o
            have g2n : g2 ≠ gb ∧ g2 ≠ B := by rcases at2 with h | h <;> omega
            have AT : Hid (g2 = g ∨ w.heap.size ≤ g2) := by rcases at2 with h | h; (· exact Or.inl (by omega)); (· exact Or.inr (by omega))
            have OC := hide (o2.kept (grown_mov MC) (Or.inr (by simp [Value.ownBlock]; omega)))
            have TC : Hid (Tab wc B n (snocG G n ⟨x, p, q⟩) m) := (unhide TB).keep (by rw [hwc]; exact Below.heap_setCell _ _ _ _ (by simp only; omega))
            have BC : Out3 gb B g w wc := by rw [hwc]; exact BBb.setCell (Or.inl rfl) _
            have lc := MC.size
            rw [← hwc]
            clear hwc MC o2 BBb P0 P1 P2 Q0 Q1 Q2 f1 FB TB gr2 at2
            have kn : ∀ i, i < n → snocG G n ⟨x, p, q⟩ i ≠ snocG G n ⟨x, p, q⟩ n := fun i hi => by rw [snocG_lt hi, snocG_at]; exact unhide HNO i hi
            have KN := hide kn
            clear kn
            have e3 : (1 + m + ((n + 1 : Nat) : Int)) = 2 + m + (n : Int) := by omega
            have E3 := hide e3
            clear e3
            have l5 : w.heap.size < wc.heap.size := World.block_lt_of_cell? _ _ S0
            have l6 : gb < wc.heap.size := World.block_lt_of_cell? _ _ R0
            go_wp2
            go_region_held3 (fun w' => w'.cell? ⟨gb, 0, none⟩ = some (.int .i64 m) ∧ w'.cell? ⟨gb, 1, none⟩ = some (.slice (some ⟨g2, 0, none⟩) (n + 1) c2) ∧ w'.cell? ⟨gb, 2, none⟩ = some (.map (some B)) ∧ w'.cell? ⟨w.heap.size, 0, none⟩ = some (.bool x) ∧ w'.cell? ⟨w.heap.size, 1, none⟩ = some (.int .i64 p) ∧ w'.cell? ⟨w.heap.size, 2, none⟩ = some (.int .i64 q)) (first | exact ⟨R0, R1, R2, S0, S1, S2⟩ | exact ⟨Z0, Z1, Z2, Y0, Y1, Y2⟩ | go_keep)
              (first | (go_at_call 45; refine (netMany_any _ _ _ _ _ hm0 hm1 (by omega)).mono ?_; rintro e wq ⟨rfl, bq⟩; rw [unhide E3]; have BQ := (by first | exact BC.below bq | exact BC.drew.below bq); have R0 := cell_later bq (by exact R0); have R1 := cell_later bq (by exact R1); have R2 := cell_later bq (by exact R2); have S0 := cell_later bq (by exact S0); have S1 := cell_later bq (by exact S1); have S2 := cell_later bq (by exact S2); have sq := bq.size; obtain ⟨w3, hput, T3, g3⟩ := tab_put (Tab.later (by exact unhide TC) bq) (unhide KN); rw [snocG_at] at hput; have Z0 := grown_cell g3 R0 (by simp; omega); have Z1 := grown_cell g3 R1 (by simp; omega); have Z2 := grown_cell g3 R2 (by simp; omega); have Y0 := grown_cell g3 S0 (by simp; omega); have Y1 := grown_cell g3 S1 (by simp; omega); have Y2 := grown_cell g3 S2 (by simp; omega)))
            all_goals go_wp2
            all_goals have B3 : Out3 gb B g w w3 := BQ.grown g3 (fun k hk => Or.inr (Or.inl (by simp at hk; omega)))
            all_goals have G3 : Hid (Grow w3 base gb m g2 (n + 1) c2 B (snocG G n ⟨x, p, q⟩)) := ⟨⟨Z0, Z1, Z2, fun o => (World.frozen?_of_block (g3.block gb (World.block_lt_of_cell? _ _ R0) (by simp; omega))).trans ((bq.frozen (p := ⟨gb, o, none⟩) (by first | exact l6 | (simp; exact l6))).trans (by exact unhide FC o))⟩, ((show World.ownsRow _ base 76 3 (.slice (some ⟨g2, 0, none⟩) (n + 1) c2) (n + 1) (gcells (snocG G n ⟨x, p, q⟩) (n + 1)) from (by exact unhide OC)).kept (grown_below bq) (Or.inr (by simp [Value.ownBlock]))).kept g3 (Or.inr (by simp [Value.ownBlock]; omega)), T3, hb1, hb2, g2n.1.symm, hn2, g2n.2⟩
            all_goals rcases tab_looks T3 ⟨x, p, q⟩ (fun i j h1 h2 => (by by_cases ej : j = n; (· subst ej; exact unhide KN i h1); (· rw [snocG_lt (show j < n by omega), snocG_lt (show i < n by omega)]; exact unhide HU i j h1 (by omega)))) with ⟨hno, _⟩ | ⟨i, hi, hg, hl⟩
            all_goals first | exact absurd (snocG_at G n ⟨x, p, q⟩) (hno n (by omega)) | skip
            all_goals have ei : i = n := (by by_cases h : i = n; (· exact h); (· exact absurd (hg.trans (snocG_at G n ⟨x, p, q⟩).symm) (unhide KN i (by omega))))
            all_goals subst ei
            all_goals have hl0 := hl w3 rfl
            all_goals have hl1 := hl w3.drew rfl
            all_goals clear hl
            all_goals go_region
            all_goals go_wp2
            all_goals go_ret
            all_goals rw [unhide HR]
            all_goals exact ⟨rfl, fun _ => ⟨g2, ⟨c2, unhide G3⟩, unhide AT⟩, (by first | exact B3 | exact B3.drew)⟩
        · go_simp
          refine hK.out _ _ ?_ (fun hHeld => ?_)
          · exact ⟨((show Below wy.heap.size wy _ from (by repeat (first | exact Below.refl _ _ | assumption | refine below_drewN ?_ _ | refine Below.drew ?_ | refine Below.alloc ?_ (by first | exact Nat.le_refl _ | exact Below.size (by assumption) | (simp; done) | (simp; omega)) _ | refine Below.setCell ?_ (by first | exact Nat.le_refl _ | exact Below.size (by assumption) | (simp; done) | (simp; omega)) _ | refine Below.trans ?_ (by assumption)))).cell (p := ⟨w.heap.size, 0, none⟩) lz).trans q0, ((show Below wy.heap.size wy _ from (by repeat (first | exact Below.refl _ _ | assumption | refine below_drewN ?_ _ | refine Below.drew ?_ | refine Below.alloc ?_ (by first | exact Nat.le_refl _ | exact Below.size (by assumption) | (simp; done) | (simp; omega)) _ | refine Below.setCell ?_ (by first | exact Nat.le_refl _ | exact Below.size (by assumption) | (simp; done) | (simp; omega)) _ | refine Below.trans ?_ (by assumption)))).cell (p := ⟨w.heap.size, 1, none⟩) lz).trans q1, ((show Below wy.heap.size wy _ from (by repeat (first | exact Below.refl _ _ | assumption | refine below_drewN ?_ _ | refine Below.drew ?_ | refine Below.alloc ?_ (by first | exact Nat.le_refl _ | exact Below.size (by assumption) | (simp; done) | (simp; omega)) _ | refine Below.setCell ?_ (by first | exact Nat.le_refl _ | exact Below.size (by assumption) | (simp; done) | (simp; omega)) _ | refine Below.trans ?_ (by assumption)))).cell (p := ⟨w.heap.size, 2, none⟩) lz).trans q2⟩
          clear hK K
          try simp only [List.getElem_toArray, List.getElem_cons_succ, List.getElem_cons_zero, Act.put, List.setIfInBounds_toArray, List.set_cons_zero, List.set_cons_succ]
          refine wpAnyH_ready (rs := [5]) (by kernel_rfl) (by simp) ?_
          refine AllReadyH.cons rfl (fun K hK => ?_) AllReadyH.nil
          go_simp
          refine hK.out _ _ ?_ (fun hHeld => ?_)
          · exact ⟨((show Below wy.heap.size wy _ from (by repeat (first | exact Below.refl _ _ | assumption | refine below_drewN ?_ _ | refine Below.drew ?_ | refine Below.alloc ?_ (by first | exact Nat.le_refl _ | exact Below.size (by assumption) | (simp; done) | (simp; omega)) _ | refine Below.setCell ?_ (by first | exact Nat.le_refl _ | exact Below.size (by assumption) | (simp; done) | (simp; omega)) _ | refine Below.trans ?_ (by assumption)))).cell (p := ⟨w.heap.size, 0, none⟩) lz).trans q0, ((show Below wy.heap.size wy _ from (by repeat (first | exact Below.refl _ _ | assumption | refine below_drewN ?_ _ | refine Below.drew ?_ | refine Below.alloc ?_ (by first | exact Nat.le_refl _ | exact Below.size (by assumption) | (simp; done) | (simp; omega)) _ | refine Below.setCell ?_ (by first | exact Nat.le_refl _ | exact Below.size (by assumption) | (simp; done) | (simp; omega)) _ | refine Below.trans ?_ (by assumption)))).cell (p := ⟨w.heap.size, 1, none⟩) lz).trans q1, ((show Below wy.heap.size wy _ from (by repeat (first | exact Below.refl _ _ | assumption | refine below_drewN ?_ _ | refine Below.drew ?_ | refine Below.alloc ?_ (by first | exact Nat.le_refl _ | exact Below.size (by assumption) | (simp; done) | (simp; omega)) _ | refine Below.setCell ?_ (by first | exact Nat.le_refl _ | exact Below.size (by assumption) | (simp; done) | (simp; omega)) _ | refine Below.trans ?_ (by assumption)))).cell (p := ⟨w.heap.size, 2, none⟩) lz).trans q2⟩
          clear hK K
          try simp only [List.getElem_toArray, List.getElem_cons_succ, List.getElem_cons_zero, Act.put, List.setIfInBounds_toArray, List.set_cons_zero, List.set_cons_succ]
          refine wpAnyH_ready (rs := [8]) (by kernel_rfl) (by simp) ?_
          refine AllReadyH.cons rfl (fun K hK => ?_) AllReadyH.nil
          apply step_gat_one (s := .tmp 43) (x := .tmp 45) (G := G) (q := ⟨x, p, q⟩) (base := base) (g := g) (cap := c)
          case hgd => rfl
          case ho => rfl
          case hs => rfl
          case hx => rfl
          case hown => exact (unhide HO).kept (grown_below (by repeat (first | exact Below.refl _ _ | assumption | refine below_drewN ?_ _ | refine Below.drew ?_ | refine Below.alloc ?_ (by first | exact Nat.le_refl _ | exact Below.size (by assumption) | (simp; done) | (simp; omega)) _ | refine Below.setCell ?_ (by first | exact Nat.le_refl _ | exact Below.size (by assumption) | (simp; done) | (simp; omega)) _ | refine Below.trans ?_ (by assumption)))) (Or.inr (by simp [Value.ownBlock]))
          case hbase => first | omega | (simp; done) | (simp; omega)
          case hT => refine Gts.lone ?_ ?_ ?_ <;> simp [go_sem]
          case hl => omega
          case h =>
            intro g2 c2 wb o2 gr2 at2 lt2
            have P0 := grown_cell gr2 (cell_later (show Below wy.heap.size wy _ from (by repeat (first | exact Below.refl _ _ | assumption | refine below_drewN ?_ _ | refine Below.drew ?_ | refine Below.alloc ?_ (by first | exact Nat.le_refl _ | exact Below.size (by assumption) | (simp; done) | (simp; omega)) _ | refine Below.setCell ?_ (by first | exact Nat.le_refl _ | exact Below.size (by assumption) | (simp; done) | (simp; omega)) _ | refine Below.trans ?_ (by assumption)))) p0) (by simp; omega)
            have P1 := grown_cell gr2 (cell_later (show Below wy.heap.size wy _ from (by repeat (first | exact Below.refl _ _ | assumption | refine below_drewN ?_ _ | refine Below.drew ?_ | refine Below.alloc ?_ (by first | exact Nat.le_refl _ | exact Below.size (by assumption) | (simp; done) | (simp; omega)) _ | refine Below.setCell ?_ (by first | exact Nat.le_refl _ | exact Below.size (by assumption) | (simp; done) | (simp; omega)) _ | refine Below.trans ?_ (by assumption)))) p1) (by simp; omega)
            have P2 := grown_cell gr2 (cell_later (show Below wy.heap.size wy _ from (by repeat (first | exact Below.refl _ _ | assumption | refine below_drewN ?_ _ | refine Below.drew ?_ | refine Below.alloc ?_ (by first | exact Nat.le_refl _ | exact Below.size (by assumption) | (simp; done) | (simp; omega)) _ | refine Below.setCell ?_ (by first | exact Nat.le_refl _ | exact Below.size (by assumption) | (simp; done) | (simp; omega)) _ | refine Below.trans ?_ (by assumption)))) p2) (by simp; omega)
            have Q0 := grown_cell gr2 (cell_later (show Below wy.heap.size wy _ from (by repeat (first | exact Below.refl _ _ | assumption | refine below_drewN ?_ _ | refine Below.drew ?_ | refine Below.alloc ?_ (by first | exact Nat.le_refl _ | exact Below.size (by assumption) | (simp; done) | (simp; omega)) _ | refine Below.setCell ?_ (by first | exact Nat.le_refl _ | exact Below.size (by assumption) | (simp; done) | (simp; omega)) _ | refine Below.trans ?_ (by assumption)))) q0) (by simp; omega)
            have Q1 := grown_cell gr2 (cell_later (show Below wy.heap.size wy _ from (by repeat (first | exact Below.refl _ _ | assumption | refine below_drewN ?_ _ | refine Below.drew ?_ | refine Below.alloc ?_ (by first | exact Nat.le_refl _ | exact Below.size (by assumption) | (simp; done) | (simp; omega)) _ | refine Below.setCell ?_ (by first | exact Nat.le_refl _ | exact Below.size (by assumption) | (simp; done) | (simp; omega)) _ | refine Below.trans ?_ (by assumption)))) q1) (by simp; omega)
            have Q2 := grown_cell gr2 (cell_later (show Below wy.heap.size wy _ from (by repeat (first | exact Below.refl _ _ | assumption | refine below_drewN ?_ _ | refine Below.drew ?_ | refine Below.alloc ?_ (by first | exact Nat.le_refl _ | exact Below.size (by assumption) | (simp; done) | (simp; omega)) _ | refine Below.setCell ?_ (by first | exact Nat.le_refl _ | exact Below.size (by assumption) | (simp; done) | (simp; omega)) _ | refine Below.trans ?_ (by assumption)))) q2) (by simp; omega)
            have FB : Hid (∀ o, wb.frozen? ⟨gb, o, none⟩ = false) := fun o => (World.frozen?_of_block (gr2.block gb (Nat.lt_of_lt_of_le lg (show Below wy.heap.size wy _ from (by repeat (first | exact Below.refl _ _ | assumption | refine below_drewN ?_ _ | refine Below.drew ?_ | refine Below.alloc ?_ (by first | exact Nat.le_refl _ | exact Below.size (by assumption) | (simp; done) | (simp; omega)) _ | refine Below.setCell ?_ (by first | exact Nat.le_refl _ | exact Below.size (by assumption) | (simp; done) | (simp; omega)) _ | refine Below.trans ?_ (by assumption)))).size) (by simp; omega))).trans (((show Below wy.heap.size wy _ from (by repeat (first | exact Below.refl _ _ | assumption | refine below_drewN ?_ _ | refine Below.drew ?_ | refine Below.alloc ?_ (by first | exact Nat.le_refl _ | exact Below.size (by assumption) | (simp; done) | (simp; omega)) _ | refine Below.setCell ?_ (by first | exact Nat.le_refl _ | exact Below.size (by assumption) | (simp; done) | (simp; omega)) _ | refine Below.trans ?_ (by assumption)))).frozen (p := ⟨gb, o, none⟩) lg).trans (unhide PF o))
            have f1 := unhide FB 1
            have TB : Hid (Tab wb B n (snocG G n ⟨x, p, q⟩) m) := ((unhide HT).keep ((gr2.block B (Nat.lt_of_lt_of_le lB (show Below wy.heap.size wy _ from (by repeat (first | exact Below.refl _ _ | assumption | refine below_drewN ?_ _ | refine Below.drew ?_ | refine Below.alloc ?_ (by first | exact Nat.le_refl _ | exact Below.size (by assumption) | (simp; done) | (simp; omega)) _ | refine Below.setCell ?_ (by first | exact Nat.le_refl _ | exact Below.size (by assumption) | (simp; done) | (simp; omega)) _ | refine Below.trans ?_ (by assumption)))).size) (by simp; omega)).trans ((show Below wy.heap.size wy _ from (by repeat (first | exact Below.refl _ _ | assumption | refine below_drewN ?_ _ | refine Below.drew ?_ | refine Below.alloc ?_ (by first | exact Nat.le_refl _ | exact Below.size (by assumption) | (simp; done) | (simp; omega)) _ | refine Below.setCell ?_ (by first | exact Nat.le_refl _ | exact Below.size (by assumption) | (simp; done) | (simp; omega)) _ | refine Below.trans ?_ (by assumption)))).block B lB))).cong (fun i hi => (snocG_lt hi).symm)
            have BBb : Out3 gb B g w wb := (BY.below (show Below wy.heap.size wy _ from (by repeat (first | exact Below.refl _ _ | assumption | refine below_drewN ?_ _ | refine Below.drew ?_ | refine Below.alloc ?_ (by first | exact Nat.le_refl _ | exact Below.size (by assumption) | (simp; done) | (simp; omega)) _ | refine Below.setCell ?_ (by first | exact Nat.le_refl _ | exact Below.size (by assumption) | (simp; done) | (simp; omega)) _ | refine Below.trans ?_ (by assumption))))).grown gr2 (fun k hk => Or.inr (Or.inr (by simp at hk; omega)))
            have sb := gr2.size
            (try simp [go_sem] at sb)
            (try simp [go_sem] at at2)
            refine hK.out _ _ ?_ (fun hHeld => ?_)
            · exact ⟨Q0, Q1, Q2⟩
            clear hK K
            try simp only [List.getElem_toArray, List.getElem_cons_succ, List.getElem_cons_zero, Act.put, List.setIfInBounds_toArray, List.set_cons_zero, List.set_cons_succ]
            refine wpAnyH_take (i := 9) (v := ?_) rfl (by kernel_rfl) (by kernel_rfl) (by kernel_rfl) (fun _ _ _ h => h) (Or.inl ⟨by rfl, ?_⟩) (by assumption) ?_
            rotate_left
            · (intro w hSw; (try dsimp only at hSw); first | (go_simp; done) | (go_simp; with_reducible rfl))
            try simp only [List.getElem_toArray, List.getElem_cons_succ, List.getElem_cons_zero, Act.put, List.setIfInBounds_toArray, List.set_cons_zero, List.set_cons_succ]
            refine wpAnyH_take (i := 10) (v := ?_) rfl (by kernel_rfl) (by kernel_rfl) (by kernel_rfl) (fun _ _ _ h => h) (Or.inl ⟨by rfl, ?_⟩) (by assumption) ?_
            rotate_left
            · (intro w hSw; (try dsimp only at hSw); first | (go_simp; done) | (go_simp; with_reducible rfl))
            try simp only [List.getElem_toArray, List.getElem_cons_succ, List.getElem_cons_zero, Act.put, List.setIfInBounds_toArray, List.set_cons_zero, List.set_cons_succ]
            refine wpAnyH_take (i := 11) (v := ?_) rfl (by kernel_rfl) (by kernel_rfl) (by kernel_rfl) (fun _ _ _ h => h) (Or.inl ⟨by rfl, ?_⟩) (by assumption) ?_
            rotate_left
            · (intro w hSw; (try dsimp only at hSw); first | (go_simp; done) | (go_simp; with_reducible rfl))
            try simp only [List.getElem_toArray, List.getElem_cons_succ, List.getElem_cons_zero, Act.put, List.setIfInBounds_toArray, List.set_cons_zero, List.set_cons_succ]
            refine wpAnyH_ready (rs := [12]) (by kernel_rfl) (by simp) ?_
            refine AllReadyH.cons rfl (fun K hK => ?_) AllReadyH.nil
            go_simp
            refine hK.out _ _ ?_ (fun hHeld => ?_)
            · exact ⟨by rw [World.cell?_setCell_other _ _ _ _ (by simp <;> omega)]; exact Q0, by rw [World.cell?_setCell_other _ _ _ _ (by simp <;> omega)]; exact Q1, by rw [World.cell?_setCell_other _ _ _ _ (by simp <;> omega)]; exact Q2⟩
            clear hK K
            try simp only [List.getElem_toArray, List.getElem_cons_succ, List.getElem_cons_zero, Act.put, List.setIfInBounds_toArray, List.set_cons_zero, List.set_cons_succ]
            refine wpAnyH_done (by kernel_rfl) ?_ _
            obtain ⟨wc, hwc⟩ : ∃ wc, wc = wb.setCell ⟨gb, 1, none⟩ (.slice (some ⟨g2, 0, none⟩) (n + 1) c2) := ⟨_, rfl⟩
            have MC : Mov gb wb wc := by rw [hwc]; exact Mov.set _ _ _
            have g2b := own_base o2
            have R0 : wc.cell? ⟨gb, 0, none⟩ = some (.int .i64 m) := by rw [hwc, World.cell?_setCell_other _ _ _ _ (by simp)]; exact P0
            have R1 : wc.cell? ⟨gb, 1, none⟩ = some (.slice (some ⟨g2, 0, none⟩) (n + 1) c2) := by rw [hwc]; exact World.cell?_setCell_same _ _ _ P1
            have R2 : wc.cell? ⟨gb, 2, none⟩ = some (.map (some B)) := by rw [hwc, World.cell?_setCell_other _ _ _ _ (by simp)]; exact P2
            have S0 := MC.cell Q0 (by simp only; omega)
            have S1 := MC.cell Q1 (by simp only; omega)
            have S2 := MC.cell Q2 (by simp only; omega)
            have FC : Hid (∀ o, wc.frozen? ⟨gb, o, none⟩ = false) := fun o => by rw [hwc]; simp [go_sem]; exact unhide FB o
            have g2n : g2 ≠ gb ∧ g2 ≠ B := by rcases at2 with h | h <;> omega
            have AT : Hid (g2 = g ∨ w.heap.size ≤ g2) := by rcases at2 with h | h; (· exact Or.inl (by omega)); (· exact Or.inr (by omega))
            have OC := hide (o2.kept (grown_mov MC) (Or.inr (by simp [Value.ownBlock]; omega)))
            have TC : Hid (Tab wc B n (snocG G n ⟨x, p, q⟩) m) := (unhide TB).keep (by rw [hwc]; exact Below.heap_setCell _ _ _ _ (by simp only; omega))
            have BC : Out3 gb B g w wc := by rw [hwc]; exact BBb.setCell (Or.inl rfl) _
            have lc := MC.size
            rw [← hwc]
            clear hwc MC o2 BBb P0 P1 P2 Q0 Q1 Q2 f1 FB TB gr2 at2
            have kn : ∀ i, i < n → snocG G n ⟨x, p, q⟩ i ≠ snocG G n ⟨x, p, q⟩ n := fun i hi => by rw [snocG_lt hi, snocG_at]; exact unhide HNO i hi
            have KN := hide kn
            clear kn
            have e3 : (1 + m + ((n + 1 : Nat) : Int)) = 2 + m + (n : Int) := by omega
            have E3 := hide e3
            clear e3
            have l5 : w.heap.size < wc.heap.size := World.block_lt_of_cell? _ _ S0
            have l6 : gb < wc.heap.size := World.block_lt_of_cell? _ _ R0
            go_wp2
            go_region_held3 (fun w' => w'.cell? ⟨gb, 0, none⟩ = some (.int .i64 m) ∧ w'.cell? ⟨gb, 1, none⟩ = some (.slice (some ⟨g2, 0, none⟩) (n + 1) c2) ∧ w'.cell? ⟨gb, 2, none⟩ = some (.map (some B)) ∧ w'.cell? ⟨w.heap.size, 0, none⟩ = some (.bool x) ∧ w'.cell? ⟨w.heap.size, 1, none⟩ = some (.int .i64 p) ∧ w'.cell? ⟨w.heap.size, 2, none⟩ = some (.int .i64 q)) (first | exact ⟨R0, R1, R2, S0, S1, S2⟩ | exact ⟨Z0, Z1, Z2, Y0, Y1, Y2⟩ | go_keep)
              (first | (go_at_call 45; refine (netMany_any _ _ _ _ _ hm0 hm1 (by omega)).mono ?_; rintro e wq ⟨rfl, bq⟩; rw [unhide E3]; have BQ := (by first | exact BC.below bq | exact BC.drew.below bq); have R0 := cell_later bq (by exact R0); have R1 := cell_later bq (by exact R1); have R2 := cell_later bq (by exact R2); have S0 := cell_later bq (by exact S0); have S1 := cell_later bq (by exact S1); have S2 := cell_later bq (by exact S2); have sq := bq.size; obtain ⟨w3, hput, T3, g3⟩ := tab_put (Tab.later (by exact unhide TC) bq) (unhide KN); rw [snocG_at] at hput; have Z0 := grown_cell g3 R0 (by simp; omega); have Z1 := grown_cell g3 R1 (by simp; omega); have Z2 := grown_cell g3 R2 (by simp; omega); have Y0 := grown_cell g3 S0 (by simp; omega); have Y1 := grown_cell g3 S1 (by simp; omega); have Y2 := grown_cell g3 S2 (by simp; omega)))
            all_goals go_wp2
            all_goals have B3 : Out3 gb B g w w3 := BQ.grown g3 (fun k hk => Or.inr (Or.inl (by simp at hk; omega)))
            all_goals have G3 : Hid (Grow w3 base gb m g2 (n + 1) c2 B (snocG G n ⟨x, p, q⟩)) := ⟨⟨Z0, Z1, Z2, fun o => (World.frozen?_of_block (g3.block gb (World.block_lt_of_cell? _ _ R0) (by simp; omega))).trans ((bq.frozen (p := ⟨gb, o, none⟩) (by first | exact l6 | (simp; exact l6))).trans (by exact unhide FC o))⟩, ((show World.ownsRow _ base 76 3 (.slice (some ⟨g2, 0, none⟩) (n + 1) c2) (n + 1) (gcells (snocG G n ⟨x, p, q⟩) (n + 1)) from (by exact unhide OC)).kept (grown_below bq) (Or.inr (by simp [Value.ownBlock]))).kept g3 (Or.inr (by simp [Value.ownBlock]; omega)), T3, hb1, hb2, g2n.1.symm, hn2, g2n.2⟩
            all_goals rcases tab_looks T3 ⟨x, p, q⟩ (fun i j h1 h2 => (by by_cases ej : j = n; (· subst ej; exact unhide KN i h1); (· rw [snocG_lt (show j < n by omega), snocG_lt (show i < n by omega)]; exact unhide HU i j h1 (by omega)))) with ⟨hno, _⟩ | ⟨i, hi, hg, hl⟩
            all_goals first | exact absurd (snocG_at G n ⟨x, p, q⟩) (hno n (by omega)) | skip
            all_goals have ei : i = n := (by by_cases h : i = n; (· exact h); (· exact absurd (hg.trans (snocG_at G n ⟨x, p, q⟩).symm) (unhide KN i (by omega))))
            all_goals subst ei
            all_goals have hl0 := hl w3 rfl
            all_goals have hl1 := hl w3.drew rfl
            all_goals clear hl
            all_goals go_region
            all_goals go_wp2
            all_goals go_ret
            all_goals rw [unhide HR]
            all_goals exact ⟨rfl, fun _ => ⟨g2, ⟨c2, unhide G3⟩, unhide AT⟩, (by first | exact B3 | exact B3.drew)⟩
    · have hl0 := hl wz rfl
      have hl1 := hl wz.drew rfl
      have hnz : ((2 + m + (i : Int)) != 0) = true := by simp; omega
      have HR := hide (putR_at (m := m) hi hg (fun j hj e => unhide HU j i hj hi (e.trans hg.symm)))
      clear hl
      go_region
      all_goals go_wp2
      all_goals go_ret
      all_goals rw [unhide HR]
      all_goals exact ⟨rfl, fun _ => ⟨g, ⟨c, unhide GZ⟩, Or.inl rfl⟩, (by first | exact BB | exact BB.drew)⟩
end Go.Proofs.YtmpiiilkaadhfaaDoor
