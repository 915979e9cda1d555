/- Memory that is plain (cells that no string shares), and that a copy of a term lies in such; how many parts a term has that the law's count lets through. -/
import Derived.Test.YtfopmobopmdahaaGreatTrmB
namespace Go.Proofs.YtfopmobopmdahaaGreat
open Go.ChangeShapes Go.WideShapes Go.ChangeAt Go.RowKit Go.Joins
set_option linter.unusedVariables false

/-- Each block of this range that has a cell is plain. -/
def Pl (w : World) (lo hi : Nat) : Prop := ∀ b, lo ≤ b → b < hi → ∀ o v, w.cell? ⟨b, o, none⟩ = some v → ∃ c e, w.heap[b]? = some (.cells c e (0, 0))
theorem Pl.none (w : World) (lo : Nat) : Pl w lo lo := fun b h1 h2 => by omega
theorem Pl.keep {w w' : World} {lo hi : Nat} (h : Pl w lo hi) (hk : ∀ b, lo ≤ b → b < hi → w'.heap[b]? = w.heap[b]?) : Pl w' lo hi := by
  intro b h1 h2 o v hc
  rw [hk b h1 h2]
  exact h b h1 h2 o v (by rw [← World.cell?_of_block (w := w) (a := ⟨b, o, Option.none⟩) (hk b h1 h2)]; exact hc)
theorem Pl.later {w w' : World} {lo hi : Nat} (h : Pl w lo hi) (hb : Below hi w w') : Pl w' lo hi := h.keep (fun b _ h2 => hb.block b h2)
theorem Pl.drew {w : World} {lo hi : Nat} (h : Pl w lo hi) : Pl w.drew lo hi := h
theorem Pl.join {w : World} {lo mid hi : Nat} (h : Pl w lo mid) (k : Pl w mid hi) : Pl w lo hi := by
  intro b h1 h2 o v hc
  by_cases e : b < mid
  · exact h b h1 e o v hc
  · exact k b (by omega) h2 o v hc
theorem Pl.wide {w : World} {lo hi lo' hi' : Nat} (h : Pl w lo hi) (h1 : lo ≤ lo') (h2 : hi' ≤ hi) : Pl w lo' hi' := fun b h3 h4 => h b (by omega) (by omega)
theorem Pl.alloc {w : World} {lo : Nat} (h : Pl w lo w.heap.size) (c : Array Value) (e : TypeId) : Pl (w.alloc (.cells c e)) lo (w.alloc (.cells c e)).heap.size := by
  intro b h1 h2 o v hc
  simp only [World.size_alloc] at h2
  by_cases hb : b < w.heap.size
  · have e1 : (w.alloc (.cells c e)).heap[b]? = w.heap[b]? := (World.grownBy_alloc w _ Option.none).block b hb (by simp)
    rw [e1]
    exact h b h1 hb o v (by rw [← World.cell?_of_block (w := w) (a := ⟨b, o, Option.none⟩) e1]; exact hc)
  · obtain rfl : b = w.heap.size := by omega
    exact ⟨c, e, heap_alloc_new w _⟩
theorem Pl.setCell {w : World} {lo hi : Nat} (h : Pl w lo hi) (p : Addr) (u : Value) : Pl (w.setCell p u) lo hi := by
  intro b h1 h2 o v hc
  by_cases hb : p.block = b
  · subst hb
    have hlt : p.block < w.heap.size := by have := World.block_lt_of_cell? _ _ hc; simpa using this
    have e1 : (w.setCell p u).heap[p.block]? = (w.heap[p.block]?).map (fun x => match x with | .cells c elem frozen => .cells (if p.spot.isSome then c else c.setIfInBounds p.off u) elem frozen | o => o) := by
      simp [World.setCell, Array.getElem?_modify]
      rfl
    cases hx : w.heap[p.block]? with
    | none => simp at hx; omega
    | some x =>
      have hw : ∃ o v, w.cell? ⟨p.block, o, Option.none⟩ = some v := by
        cases x with
        | cells c el fr =>
          have : ∃ v, w.cell? ⟨p.block, o, Option.none⟩ = some v := by
            rw [hx] at e1
            simp only [World.cell?, e1, hx, Option.map_some] at hc ⊢
            by_cases hs : p.spot.isSome
            · rw [if_pos hs] at hc; exact ⟨v, hc⟩
            · rw [if_neg hs] at hc
              simp at hc ⊢
              obtain ⟨q1, q2⟩ := Array.getElem?_eq_some_iff.1 hc
              simp at q1
              exact ⟨_, Array.getElem?_eq_getElem q1⟩
          exact ⟨o, this⟩
        | _ => exact ⟨o, v, by rw [hx] at e1; simp only [World.cell?, e1, hx, Option.map_some] at hc ⊢; exact hc⟩
      obtain ⟨o', v', hw⟩ := hw
      obtain ⟨c, el, hc'⟩ := h p.block h1 h2 o' v' hw
      rw [e1, hc']
      exact ⟨_, _, rfl⟩
  · have e1 : (w.setCell p u).heap[b]? = w.heap[b]? := by simp [World.setCell, Array.getElem?_modify, hb]
    rw [e1]
    exact h b h1 h2 o v (by rw [← World.cell?_of_block (w := w) (a := ⟨b, o, Option.none⟩) e1]; exact hc)
theorem Pl.put5 {w : World} {lo hi : Nat} (h : Pl w lo hi) (B o : Nat) (t : TT) (ad : Option Addr) (cp : Nat) : Pl (put5 w B o t ad cp) lo hi := by
  unfold Go.Proofs.YtfopmobopmdahaaGreat.put5
  exact Pl.setCell (Pl.setCell (Pl.setCell (Pl.setCell (Pl.setCell h _ _) _ _) _ _) _ _) _ _
set_option maxRecDepth 100000 in
set_option maxHeartbeats 4000000 in
theorem toTermP_any (hi : Nat) (t : TT) : ∀ (ad : Option Addr) (cp : Nat) (w : World), t.In w 0 hi ad → t.Fit 1048576 → hi ≤ w.heap.size →
    Calls Tryz.prog 31 #[.agg #[.int .i64 t.op, .int .i64 t.a, .int .i64 t.b, .string t.s, .slice ad t.n cp]] w fun e w' => (∃ B, e = .returned (.agg #[.int .i64 t.op, .int .i64 t.a, .int .i64 t.b, .string t.s, .slice (some ⟨B, 0, none⟩) t.n t.n]) ∧ t.In w' w.heap.size w'.heap.size (some ⟨B, 0, none⟩)) ∧ Pl w' w.heap.size w'.heap.size ∧ Below w.heap.size w w' := by
  induction t with
  | nil => intro ad cp w hin; exact hin.elim
  | node op a b s n kid ih =>
    intro ad cp w hin hft hhi
    show Calls Tryz.prog 31 #[.agg #[.int .i64 op, .int .i64 a, .int .i64 b, .string s, .slice ad n cp]] w fun e w' => (∃ B, e = .returned (.agg #[.int .i64 op, .int .i64 a, .int .i64 b, .string s, .slice (some ⟨B, 0, none⟩) n n]) ∧ _) ∧ _ ∧ _
    obtain ⟨fn, fs, fk⟩ := hft
    have HS : Hid (∀ (w : World), (TT.node op a b s n kid).In w 0 hi ad → hi ≤ w.heap.size → Calls Tryz.prog 57 #[.slice ad n cp] w fun e w' => e = .returned (.slice (some ⟨w.heap.size, 0, none⟩) n n) ∧ (TT.node op a b s n kid).In w' w.heap.size w'.heap.size (some ⟨w.heap.size, 0, none⟩) ∧ Pl w' w.heap.size w'.heap.size ∧ Below w.heap.size w w') := by
      clear hin hhi w
      intro w hin hhi
      have IH := hide ih
      have FK := hide fk
      clear ih fk
      have hmk := run_make_wide (P := Tryz.prog) 48 50 _ 5 64 Tryz.underlying48 infoTerm .i64 .i64 n (by omega) (by omega)
      rcases hin with rfl | ⟨bl, off, rfl, hlo, hbl, AD, CP, hd⟩
      · simp only [Int.natCast_zero, Nat.zero_mul] at hmk
        go_enter Tryz.func57, Tryz.ntmps57
        go_wp2
        go_loopw [4] (fun i wr => i = .int .i64 0 ∧ wr.heap.size = w.heap.size + 1 ∧ Pl wr w.heap.size wr.heap.size ∧ Below w.heap.size w wr) (fun _ _ => 0)
        case atStart => exact ⟨rfl, by simp, Pl.alloc (Pl.none _ _) _ _, (by repeat (first | exact Below.refl _ _ | assumption | refine below_drewN ?_ _ | refine Below.drew ?_ | refine Below.alloc ?_ (by first | exact Nat.le_refl _ | exact Below.size (by assumption) | (simp; done) | (simp; omega)) _ | refine Below.setCell ?_ (by first | exact Nat.le_refl _ | exact Below.size (by assumption) | (simp; done) | (simp; omega)) _ | refine Below.trans ?_ (by assumption)))⟩
        case round =>
          obtain ⟨rfl, hsz, hpl, hbel⟩ := hrel
          have HP := hide hpl
          clear hpl
          go_wp2
          go_ret
          exact ⟨rfl, Or.inl rfl, unhide HP, hbel⟩
      · have HD := hide hd
        clear hd
        go_enter Tryz.func57, Tryz.ntmps57
        go_wp2
        go_loopw [4] (fun i wr => ∃ k : Nat, k ≤ n ∧ i = .int .i64 k ∧ KidsTo wr w.heap.size k kid ∧ Made wr w.heap.size (n * 5) ∧ Pl wr w.heap.size wr.heap.size ∧ Below w.heap.size w wr) (fun i _ => n - (intOf i).toNat)
        case atStart => exact ⟨0, by omega, rfl, ⟨fun _ => none, fun _ => 0, fun i hi => by omega⟩, Made.new _ _ _ _, Pl.alloc (Pl.none _ _) _ _, (by repeat (first | exact Below.refl _ _ | assumption | refine below_drewN ?_ _ | refine Below.drew ?_ | refine Below.alloc ?_ (by first | exact Nat.le_refl _ | exact Below.size (by assumption) | (simp; done) | (simp; omega)) _ | refine Below.setCell ?_ (by first | exact Nat.le_refl _ | exact Below.size (by assumption) | (simp; done) | (simp; omega)) _ | refine Below.trans ?_ (by assumption)))⟩
        case round =>
          obtain ⟨k, hk, rfl, hdk, hmd, hpl, hbel⟩ := hrel
          have HP := hide hpl
          clear hpl
          have HK := hide hdk
          have HM := hide hmd
          clear hdk hmd
          have hlt0 := (unhide HM).1
          by_cases hlt : k < n
          · obtain ⟨h5, hcp, hin⟩ := unhide HD k hlt
            obtain ⟨c0, c1, c2, c3, c4⟩ := h5.keep (w' := wr) (fun o => hbel.cell (p := ⟨bl, o, none⟩) (Nat.lt_of_lt_of_le hbl hhi))
            have hin' := hin.later (hbel.mono hhi)
            go_wp2_with fail
            refine (unhide IH k _ _ _ hin' (unhide FK k hlt) (Nat.le_trans hhi hbel.size)).mono ?_
            rintro e w1 ⟨⟨B1, rfl, in1⟩, pl1, b1⟩
            have HP1 := hide (Pl.join ((unhide HP).later b1) pl1)
            clear pl1
            have HM1 := hide ((unhide HM).later b1)
            have HK1 := hide ((unhide HK).later b1 hlt0)
            have IN1 := hide (TT.In.wide (show w.heap.size + 1 ≤ wr.heap.size from hlt0) (Nat.le_refl _) _ _ in1)
            obtain ⟨⟨u0, q0⟩, f0⟩ := (unhide HM1).2 (k * 5) (by omega)
            obtain ⟨⟨u1, q1⟩, f1⟩ := (unhide HM1).2 (k * 5 + 1) (by omega)
            obtain ⟨⟨u2, q2⟩, f2⟩ := (unhide HM1).2 (k * 5 + 2) (by omega)
            obtain ⟨⟨u3, q3⟩, f3⟩ := (unhide HM1).2 (k * 5 + 3) (by omega)
            obtain ⟨⟨u4, q4⟩, f4⟩ := (unhide HM1).2 (k * 5 + 4) (by omega)
            have l1 := (unhide HM1).1
            clear in1
            have hb1 := hbel.trans (b1.mono hbel.size)
            go_wp2
            go_roundw
            case rel => exact ⟨k + 1, by omega, by go_num, (unhide HK1).put (unhide HM1) (by omega) _ _ (Nat.le_refl _) (unhide IN1), (unhide HM1).put5 _ _ _ _, (by simp only [World.size_setCell]; exact Pl.put5 (unhide HP1) _ _ _ _ _), hb1.trans (put5_below (Nat.le_refl _) _ _ _ _)⟩
            case measure => simp [intOf]; omega
          · have e : k = n := by omega
            subst e
            go_wp2
            go_ret
            exact ⟨rfl, (unhide HK).whole hlt0, unhide HP, hbel⟩
    clear ih fk
    go_enter Tryz.func31, Tryz.ntmps31
    go_wp2_with fail
    have e1 : Below w.heap.size w (((w.alloc (.cells #[.int .i64 op, .int .i64 a, .int .i64 b, .string s, .slice ad n cp] 45)).alloc (.cells #[.int .i64 0, .int .i64 0, .int .i64 0, .string { data := #[] }, .slice none 0 0] 50)).alloc (.cells #[.int .i64 op, .int .i64 a, .int .i64 b, .string s, .slice none 0 0] 50)) := (((Below.refl w.heap.size w).alloc (by simp <;> omega) _).alloc (by simp <;> omega) _).alloc (by simp <;> omega) _
    refine (unhide HS _ (hin.later (e1.mono hhi)) (by simp; omega)).mono ?_
    rintro e w1 ⟨rfl, in1, pl1, b1⟩
    have HP1 := hide (Pl.join (Pl.later (Pl.alloc (Pl.alloc (Pl.alloc (Pl.none w _) _ _) _ _) _ _) b1) pl1)
    clear pl1
    have BL := e1.trans (b1.mono (by simp <;> omega))
    simp only [World.size_alloc] at in1
    have IN1 := hide in1
    clear in1 e1
    have r0 : w1.cell? ⟨w.heap.size + 1, 0, none⟩ = some (.int .i64 0) := cell_later b1 (by simp [go_sem])
    have r1 : w1.cell? ⟨w.heap.size + 1, 1, none⟩ = some (.int .i64 0) := cell_later b1 (by simp [go_sem])
    have r2 : w1.cell? ⟨w.heap.size + 1, 2, none⟩ = some (.int .i64 0) := cell_later b1 (by simp [go_sem])
    have r3 : w1.cell? ⟨w.heap.size + 1, 3, none⟩ = some (.string ⟨#[]⟩) := cell_later b1 (by simp [go_sem])
    have r4 : w1.cell? ⟨w.heap.size + 1, 4, none⟩ = some (.slice none 0 0) := cell_later b1 (by simp [go_sem])
    have p0 : w1.cell? ⟨w.heap.size + 2, 0, none⟩ = some (.int .i64 op) := cell_later b1 (by simp [go_sem])
    have p1 : w1.cell? ⟨w.heap.size + 2, 1, none⟩ = some (.int .i64 a) := cell_later b1 (by simp [go_sem])
    have p2 : w1.cell? ⟨w.heap.size + 2, 2, none⟩ = some (.int .i64 b) := cell_later b1 (by simp [go_sem])
    have p3 : w1.cell? ⟨w.heap.size + 2, 3, none⟩ = some (.string s) := cell_later b1 (by simp [go_sem])
    have p4 : w1.cell? ⟨w.heap.size + 2, 4, none⟩ = some (.slice none 0 0) := cell_later b1 (by simp [go_sem])
    have f4 : w1.frozen? ⟨w.heap.size + 2, 4, none⟩ = false := by rw [b1.frozen (by simp)]; simp [go_sem]
    have g0 : w1.frozen? ⟨w.heap.size + 1, 0, none⟩ = false := by rw [b1.frozen (by simp)]; simp [go_sem]
    have g1 : w1.frozen? ⟨w.heap.size + 1, 1, none⟩ = false := by rw [b1.frozen (by simp)]; simp [go_sem]
    have g2 : w1.frozen? ⟨w.heap.size + 1, 2, none⟩ = false := by rw [b1.frozen (by simp)]; simp [go_sem]
    have g3 : w1.frozen? ⟨w.heap.size + 1, 3, none⟩ = false := by rw [b1.frozen (by simp)]; simp [go_sem]
    have g4 : w1.frozen? ⟨w.heap.size + 1, 4, none⟩ = false := by rw [b1.frozen (by simp)]; simp [go_sem]
    clear b1
    have n0 : w.heap.size + 2 ≠ w.heap.size + 1 := by omega
    have n1 : w.heap.size + 1 ≠ w.heap.size + 2 := by omega
    go_wp2
    refine bodyPost_ret (v := .agg #[.int .i64 op, .int .i64 a, .int .i64 b, .string s, .slice (some ⟨w.heap.size + 1 + 1 + 1, 0, none⟩) n n]) (by simp [results, Tryz.results31, go_sem, r0, r1, r2, r3, r4]) rfl ⟨⟨_, rfl, ?_⟩, ?_, ?_⟩
    · refine TT.In.wide (lo := w.heap.size + 1 + 1 + 1) (hi := w1.heap.size) (by omega) (by simp) _ _ ?_
      exact ((((((unhide IN1).set (by simp) _).set (by simp) _).set (by simp) _).set (by simp) _).set (by simp) _).set (by simp) _
    · simp only [World.size_setCell]
      exact Pl.setCell (Pl.setCell (Pl.setCell (Pl.setCell (Pl.setCell (Pl.setCell (unhide HP1) _ _) _ _) _ _) _ _) _ _) _ _
    · exact (((((BL.setCell (by simp <;> omega) _).setCell (by simp) _).setCell (by simp) _).setCell (by simp) _).setCell (by simp) _).setCell (by simp) _
set_option maxRecDepth 100000 in
set_option maxHeartbeats 2000000 in
theorem szTermN_any (hi : Nat) (t : TT) : ∀ (ad : Option Addr) (cp : Nat) (left : Int) (w : World), t.In w 0 hi ad → t.Fit maxLen → 0 ≤ left → left ≤ 1048576 → hi ≤ w.heap.size →
    Calls Tryz.prog 29 #[.agg #[.int .i64 t.op, .int .i64 t.a, .int .i64 t.b, .string t.s, .slice ad t.n cp], .int .i64 left] w fun e w' => (∃ z : Int, e = .returned (.int .i64 z) ∧ (z < 0 ∨ 0 ≤ z ∧ z + t.N ≤ left + 1 ∧ t.Fit 1048576)) ∧ Below w.heap.size w w' := by
  induction t with
  | nil => intro ad cp left w hin; exact hin.elim
  | node op a b s n kid ih =>
    intro ad cp left w hin hft h0 h1 hhi
    show Calls Tryz.prog 29 #[.agg #[.int .i64 op, .int .i64 a, .int .i64 b, .string s, .slice ad n cp], .int .i64 left] w _
    obtain ⟨fn, fs, fk⟩ := hft
    have HS : Hid (∀ (left : Int) (w : World), (TT.node op a b s n kid).In w 0 hi ad → 0 ≤ left → left ≤ 1048576 → hi ≤ w.heap.size → Calls Tryz.prog 55 #[.slice ad n cp, .int .i64 left] w fun e w' => (∃ z : Int, e = .returned (.int .i64 z) ∧ (z < 0 ∨ 0 ≤ z ∧ z + sumN (fun i => (kid i).N) n ≤ left ∧ n ≤ 1048576 ∧ ∀ i, i < n → (kid i).Fit 1048576)) ∧ Below w.heap.size w w') := by
      clear hin h0 h1 hhi w left
      intro left w hin h0 h1 hhi
      have IH := hide ih
      have FK := hide fk
      clear ih fk
      unfold maxLen at fn
      by_cases h : (n : Int) ≤ left
      · rcases hin with rfl | ⟨bl, off, rfl, hlo, hbl, AD, CP, hd⟩
        · go_enter Tryz.func55, Tryz.ntmps55
          go_wp2
          go_loopw [5, 1] (fun i l wr => i = .int .i64 0 ∧ l = .int .i64 left ∧ Below w.heap.size w wr) (fun _ _ _ => 0)
          case atStart => exact ⟨rfl, by go_num, (by repeat (first | exact Below.refl _ _ | assumption | refine below_drewN ?_ _ | refine Below.drew ?_ | refine Below.alloc ?_ (by first | exact Nat.le_refl _ | exact Below.size (by assumption) | (simp; done) | (simp; omega)) _ | refine Below.setCell ?_ (by first | exact Nat.le_refl _ | exact Below.size (by assumption) | (simp; done) | (simp; omega)) _ | refine Below.trans ?_ (by assumption)))⟩
          case round =>
            obtain ⟨rfl, rfl, hbel⟩ := hrel
            go_wp2
            go_ret
            exact ⟨⟨_, rfl, Or.inr ⟨h0, by simp [sumN], by omega, fun i hi => by omega⟩⟩, (by repeat (first | exact Below.refl _ _ | assumption | refine below_drewN ?_ _ | refine Below.drew ?_ | refine Below.alloc ?_ (by first | exact Nat.le_refl _ | exact Below.size (by assumption) | (simp; done) | (simp; omega)) _ | refine Below.setCell ?_ (by first | exact Nat.le_refl _ | exact Below.size (by assumption) | (simp; done) | (simp; omega)) _ | refine Below.trans ?_ (by assumption)))⟩
        · have HD := hide hd
          clear hd
          go_enter Tryz.func55, Tryz.ntmps55
          go_wp2
          go_loopw [5, 1] (fun i l wr => ∃ (k : Nat) (z : Int), k ≤ n ∧ i = .int .i64 k ∧ l = .int .i64 z ∧ 0 ≤ z ∧ z + sumN (fun i => (kid i).N) k + (n - k) ≤ left ∧ (∀ j, j < k → (kid j).Fit 1048576) ∧ Below w.heap.size w wr) (fun i _ _ => n - (intOf i).toNat)
          case atStart => exact ⟨0, left - n, by omega, rfl, by go_num, by omega, by simp [sumN], fun j hj => by omega, (by repeat (first | exact Below.refl _ _ | assumption | refine below_drewN ?_ _ | refine Below.drew ?_ | refine Below.alloc ?_ (by first | exact Nat.le_refl _ | exact Below.size (by assumption) | (simp; done) | (simp; omega)) _ | refine Below.setCell ?_ (by first | exact Nat.le_refl _ | exact Below.size (by assumption) | (simp; done) | (simp; omega)) _ | refine Below.trans ?_ (by assumption)))⟩
          case round =>
            obtain ⟨k, z, hk, rfl, rfl, z0, z1, hz, hbel⟩ := hrel
            have HZ := hide hz
            clear hz
            have hhr := Nat.le_trans hhi hbel.size
            by_cases hlt : k < n
            · obtain ⟨h5, hcp, hin⟩ := unhide HD k hlt
              obtain ⟨c0, c1, c2, c3, c4⟩ := h5.keep (w' := wr) (fun o => hbel.cell (p := ⟨bl, o, none⟩) (Nat.lt_of_lt_of_le hbl hhi))
              have hin' := hin.later (hbel.mono hhi)
              go_wp2_with fail
              refine (unhide IH k _ _ _ _ hin' (unhide FK k hlt) z0 (by omega) hhr).mono ?_
              rintro e w1 ⟨⟨y, rfl, hy⟩, b1⟩
              by_cases hle : 0 ≤ y
              · go_wp2
                go_roundw
                case rel =>
                  obtain ⟨_, hy1, hy2⟩ := hy.resolve_left (by omega)
                  have e : sumN (fun i => (kid i).N) (k + 1) = sumN (fun i => (kid i).N) k + (kid k).N := rfl
                  refine ⟨k + 1, y, by omega, by go_num, rfl, by omega, by rw [e]; omega, ?_, hbel.trans (b1.mono hbel.size)⟩
                  intro j hj
                  by_cases e : j = k
                  · subst e; exact hy2
                  · exact unhide HZ j (by omega)
                case measure => simp [intOf]; omega
              · go_wp2
                go_ret
                exact ⟨⟨_, rfl, Or.inl (by omega)⟩, hbel.trans (b1.mono hbel.size)⟩
            · have e : k = n := by omega
              subst e
              go_wp2
              go_ret
              exact ⟨⟨_, rfl, Or.inr ⟨z0, by omega, by omega, unhide HZ⟩⟩, hbel⟩
      · go_enter Tryz.func55, Tryz.ntmps55
        go_wp2
        go_ret
        exact ⟨⟨_, rfl, Or.inl (by omega)⟩, (by repeat (first | exact Below.refl _ _ | assumption | refine below_drewN ?_ _ | refine Below.drew ?_ | refine Below.alloc ?_ (by first | exact Nat.le_refl _ | exact Below.size (by assumption) | (simp; done) | (simp; omega)) _ | refine Below.setCell ?_ (by first | exact Nat.le_refl _ | exact Below.size (by assumption) | (simp; done) | (simp; omega)) _ | refine Below.trans ?_ (by assumption)))⟩
    clear ih fk
    unfold maxLen at fs fn
    by_cases h : (s.size : Int) ≤ left
    · go_enter Tryz.func29, Tryz.ntmps29
      go_wp2_with fail
      refine (unhide HS _ _ (hin.later ((Below.refl _ _).alloc hhi _)) (by omega) (by omega) (by simp; omega)).mono ?_
      rintro e w1 ⟨⟨y, rfl, hy⟩, b1⟩
      have BL := ((Below.refl w.heap.size w).alloc (Nat.le_refl _) (.cells #[.int .i64 op, .int .i64 a, .int .i64 b, .string s, .slice ad n cp] 45)).trans (b1.mono (by simp))
      by_cases hle : 0 ≤ y
      · obtain ⟨_, hy1, hy2, hy3⟩ := hy.resolve_left (by omega)
        have HY := hide hy3
        clear hy hy3
        go_wp2
        go_ret
        exact ⟨⟨_, rfl, Or.inr ⟨hle, by rw [TT.N_node]; omega, hy2, by omega, unhide HY⟩⟩, BL⟩
      · clear hy
        go_wp2
        go_ret
        exact ⟨⟨_, rfl, Or.inl (by omega)⟩, BL⟩
    · go_enter Tryz.func29, Tryz.ntmps29
      go_wp2
      go_ret
      exact ⟨⟨_, rfl, Or.inl (by omega)⟩, (by repeat (first | exact Below.refl _ _ | assumption | refine below_drewN ?_ _ | refine Below.drew ?_ | refine Below.alloc ?_ (by first | exact Nat.le_refl _ | exact Below.size (by assumption) | (simp; done) | (simp; omega)) _ | refine Below.setCell ?_ (by first | exact Nat.le_refl _ | exact Below.size (by assumption) | (simp; done) | (simp; omega)) _ | refine Below.trans ?_ (by assumption)))⟩
end Go.Proofs.YtfopmobopmdahaaGreat
