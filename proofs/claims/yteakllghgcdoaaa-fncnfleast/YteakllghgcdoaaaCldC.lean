/- What the model's draw of clauses for CnfLeast returns; and whether two lists of what is so are one. -/
import Derived.Test.YteakllghgcdoaaaCldB
namespace Go.Proofs.Yteakllghgcdoaaa
open Go.ChangeShapes Go.WideShapes Go.ChangeAt Go.RowKit Go.Joins
set_option linter.unusedVariables false

theorem byts_later {w w' : World} {R R' : Nat} {a : Option Addr} {l : Nat} (h : Byts w R a l) (hb : Below w.heap.size w w') (hR : R ≤ R') : Byts w' R' a l := by
  rcases h with h | ⟨B, o, ha, hB, hc⟩
  · exact Or.inl h
  · exact Or.inr ⟨B, o, ha, by omega, fun i hi => by obtain ⟨x, x0, x1, hx⟩ := hc i hi; exact ⟨x, x0, x1, cell_later hb hx⟩⟩
/-- Clauses that a law has drawn. -/
def LawC (w w' : World) (e : Ending) : Prop := ∃ (m : Int) (v : Value) (Ls : List Clz) (R : Nat), e = .returned (.agg #[.int .i64 m, v]) ∧ W64 m ∧ Ls.length ≤ 40 ∧ ClzAt w' R v Ls ∧ Below w.heap.size w w'
set_option maxHeartbeats 2000000 in
theorem drawCnfLeast_any (a : Option Addr) (l c : Nat) (w : World) (hl : l ≤ 1048576) (hc : l ≤ c) (hcm : c ≤ maxLen) (hby : Byts w w.heap.size a l) :
    Calls Try.prog 17 #[.slice a l c] w fun e w' => LawC w w' e := by
  obtain ⟨w1, hw1⟩ : ∃ x, x = w.alloc (.cells #[.int .i64 0, .slice none 0 0] 31) := ⟨_, rfl⟩
  have b1 : Below w.heap.size w w1 := by rw [hw1]; exact (Below.refl _ _).alloc (Nat.le_refl _) _
  have rm1 : Made w1 w.heap.size 2 := by rw [hw1]; exact made_two
  have s1 : w1.heap.size = w.heap.size + 1 := by rw [hw1]; simp
  have hby1 := byts_later (R' := w1.heap.size) hby b1 (by omega)
  go_enter Try.func17, Try.ntmps17
  go_wp2_with fail
  rw [← hw1]
  clear hw1 hby
  refine (open_any _ _ _ _ hl hc hcm hby1).mono ?_
  rintro e w2 ⟨rfl, R2, b2⟩
  obtain ⟨R, hRe⟩ : ∃ x, x = w1.heap.size := ⟨_, rfl⟩
  rw [← hRe] at R2
  rw [← hRe]
  have rl := R2.lt
  have rm2 := rm1.later b2
  have BL : Below w.heap.size w w2 := b1.trans (b2.mono b1.size)
  have hlt : w.heap.size < R := by omega
  clear hRe b1 b2 rm1 hby1
  go_wp2_with fail
  refine (l4Cnf_any R _ _ R2 (by omega)).mono ?_
  rintro e w3 ⟨⟨m3, v3, L3, rfl, m31, m37, l3, c3⟩, R3, mv3⟩
  have rm3 := rm2.mov mv3 (by omega)
  have BL3 := BL.trans (mv3.below (by omega) BL.size)
  clear BL rm2 mv3 R2
  go_wp2_with fail
  refine (l4Bent_any R _ 30 _ _ L3 _ R3 (by omega) (by unfold W64; omega) c3 l3 (by omega)).mono ?_
  rintro e w4 ⟨⟨m4, v4, L4, rfl, hm4, l4, c4⟩, R4, mv4⟩
  have rm4 := rm3.mov mv4 (by omega)
  have BL4 := BL3.trans (mv4.below (by omega) BL3.size)
  have hs4 := R4.lt
  clear BL3 rm3 mv4 R3 c3
  obtain ⟨va, vc, rfl, _⟩ := c4.slice
  have CL4 := hide c4
  clear c4
  obtain ⟨w5, hw5⟩ : ∃ x, x = w4.alloc (.cells #[.int .i64 m4, .slice va L4.length vc] 31) := ⟨_, rfl⟩
  have b5 : Below w4.heap.size w4 w5 := by rw [hw5]; exact (Below.refl _ _).alloc (Nat.le_refl _) _
  have p5 : Box w5 w4.heap.size m4 va L4.length vc := by rw [hw5]; exact Box.new _ _ _ _ _ _
  have pm5 : Made w5 w4.heap.size 2 := by rw [hw5]; exact made_two
  go_wp2_with fail
  rw [← hw5]
  have rm5 := rm4.later b5
  have BL5 := BL4.trans (b5.mono BL4.size)
  have CL5 := hide ((unhide CL4).later b5)
  have R5 := R4.below b5
  have s4 := BL4.size
  have HBL : Hid (∀ q, q ∈ L4 → q.g < w4.heap.size ∧ R < q.g) := fun q hq => ⟨((unhide CL4).1 q hq).2.1, ((unhide CL4).1 q hq).1⟩
  have HOV : Hid (∀ k, (Value.slice va L4.length vc).ownBlock = some k → k < w4.heap.size ∧ R < k) := by
    intro k hk
    rcases (unhide CL4).2 with ⟨e, _⟩ | ⟨b, cap, e, _, h2, h3, _⟩
    · rw [e] at hk; simp [Value.ownBlock] at hk
    · rw [e] at hk; simp [Value.ownBlock] at hk; omega
  clear hw5 b5 rm4 BL4 CL4 R4
  refine (pick_any R _ _ _ R5 (by omega) (by omega) (by omega)).mono ?_
  rintro e w6 ⟨x, rfl, x0, x1, R6, m6⟩
  have p6 : Box w6 w4.heap.size m4 va L4.length vc := ⟨m6.cell p5.1 (by simp only; omega), m6.cell p5.2 (by simp only; omega)⟩
  have PM6 := hide (pm5.mov m6 (by omega))
  have RM6 := hide (rm5.mov m6 (by omega))
  have CL6 := hide ((unhide CL5).mov m6)
  have BL6 := BL5.trans (m6.below (by omega) BL5.size)
  clear p5 pm5 rm5 CL5 BL5 m6 R5
  by_cases hx : x = 0
  · subst hx
    go_wp2_with fail
    refine (pick_any R _ _ _ R6 (by omega) (by omega) (by omega)).mono ?_
    rintro e w7 ⟨y, rfl, y0, y1, R7, m7⟩
    have p70 := m7.cell p6.1 (by simp only; omega)
    have p71 := m7.cell p6.2 (by simp only; omega)
    have PM7 := hide ((unhide PM6).mov m7 (by omega))
    have RM7 := hide ((unhide RM6).mov m7 (by omega))
    have CL7 := hide ((unhide CL6).mov m7)
    have BL7 := BL6.trans (m7.below (by omega) BL6.size)
    have f70 := ((unhide PM7).2 0 (by omega)).2
    have pl7 := World.block_lt_of_cell? _ _ p70
    simp only at pl7
    clear p6 PM6 RM6 CL6 BL6 m7 R6
    have RM8 := hide ((unhide RM7).set ⟨w4.heap.size, 0, none⟩ (.int .i64 (10 + y)))
    have c0 := ((unhide RM8).2 0 (by omega)).2
    have c1 := ((unhide RM8).2 1 (by omega)).2
    obtain ⟨d0, e0⟩ := ((unhide RM8).2 0 (by omega)).1
    obtain ⟨d1, e1⟩ := ((unhide RM8).2 1 (by omega)).1
    have p80 : (w7.setCell ⟨w4.heap.size, 0, none⟩ (.int .i64 (10 + y))).cell? ⟨w4.heap.size, 0, none⟩ = some (.int .i64 (10 + y)) := World.cell?_setCell_same _ _ _ p70
    have p81 : (w7.setCell ⟨w4.heap.size, 0, none⟩ (.int .i64 (10 + y))).cell? ⟨w4.heap.size, 1, none⟩ = some (.slice va L4.length vc) := by rw [World.cell?_setCell_other _ _ _ _ (by simp)]; exact p71
    have nb : w4.heap.size ≠ w.heap.size := by omega
    have nb' : w.heap.size ≠ w4.heap.size := by omega
    have CLf := hide ((((unhide CL7).set (b := w4.heap.size) (o := 0) (x := .int .i64 (10 + y)) (fun q hq => by have := unhide HBL q hq; omega) (fun e => by have := unhide HOV _ e; omega)).set (b := w.heap.size) (o := 0) (x := .int .i64 (10 + y)) (fun q hq => by have := unhide HBL q hq; omega) (fun e => by have := unhide HOV _ e; omega)).set (b := w.heap.size) (o := 1) (x := .slice va L4.length vc) (fun q hq => by have := unhide HBL q hq; omega) (fun e => by have := unhide HOV _ e; omega))
    have BLf : Below w.heap.size w (((w7.setCell ⟨w4.heap.size, 0, none⟩ (.int .i64 (10 + y))).setCell ⟨w.heap.size, 0, none⟩ (.int .i64 (10 + y))).setCell ⟨w.heap.size, 1, none⟩ (.slice va L4.length vc)) := ((BL7.setCell (by simp only; omega) _).setCell (by simp) _).setCell (by simp) _
    go_wp2
    exact bodyPost_ret (v := .agg #[.int .i64 (10 + y), .slice va L4.length vc]) (by simp [results, Try.results17, go_sem, e0, e1]) rfl ⟨_, _, L4, R, rfl, by unfold W64; omega, by omega, unhide CLf, BLf⟩
  · have xb : (x == 0) = false := by simp [hx]
    obtain ⟨p60, p61⟩ := p6
    have pl6 := World.block_lt_of_cell? _ _ p60
    simp only at pl6
    have c0 := ((unhide RM6).2 0 (by omega)).2
    have c1 := ((unhide RM6).2 1 (by omega)).2
    obtain ⟨d0, e0⟩ := ((unhide RM6).2 0 (by omega)).1
    obtain ⟨d1, e1⟩ := ((unhide RM6).2 1 (by omega)).1
    have nb : w4.heap.size ≠ w.heap.size := by omega
    have nb' : w.heap.size ≠ w4.heap.size := by omega
    have CLf := hide (((unhide CL6).set (b := w.heap.size) (o := 0) (x := .int .i64 m4) (fun q hq => by have := unhide HBL q hq; omega) (fun e => by have := unhide HOV _ e; omega)).set (b := w.heap.size) (o := 1) (x := .slice va L4.length vc) (fun q hq => by have := unhide HBL q hq; omega) (fun e => by have := unhide HOV _ e; omega))
    have BLf : Below w.heap.size w ((w6.setCell ⟨w.heap.size, 0, none⟩ (.int .i64 m4)).setCell ⟨w.heap.size, 1, none⟩ (.slice va L4.length vc)) := (BL6.setCell (by simp) _).setCell (by simp) _
    go_wp2
    exact bodyPost_ret (v := .agg #[.int .i64 m4, .slice va L4.length vc]) (by simp [results, Try.results17, go_sem, e0, e1]) rfl ⟨_, _, L4, R, rfl, hm4, by omega, unhide CLf, BLf⟩
/-- Two lists of what is so are one. -/
def beP (l l' : Nat) (V V' : Nat → Bool) : Prop := l = l' ∧ ∀ k, k < l → V k = V' k
noncomputable def beB (l l' : Nat) (V V' : Nat → Bool) : Bool := @decide (beP l l' V V') (Classical.propDecidable _)
theorem beB_iff {l l' : Nat} {V V' : Nat → Bool} : beB l l' V V' = true ↔ beP l l' V V' := by simp [beB]
theorem beB_yes {l l' : Nat} {V V' : Nat → Bool} (h : beP l l' V V') : beB l l' V V' = true := beB_iff.2 h
theorem beB_no {l l' : Nat} {V V' : Nat → Bool} (h : ¬ beP l l' V V') : beB l l' V V' = false := by simpa [beB] using h
set_option maxHeartbeats 1000000 in
theorem wpBools_any (a c : Option Addr) (l l' cap cap' : Nat) (V V' : Nat → Bool) (w : World) (hd : BlsAt w a l V) (hd' : BlsAt w c l' V') (hl : l ≤ 1048576) (hl' : l' ≤ 1048576) :
    Calls Try.prog 20 #[.slice a l cap, .slice c l' cap'] w fun e w' => e = .returned (.bool (beB l l' V V')) ∧ Below w.heap.size w w' := by
  have HD := hide hd
  have HE := hide hd'
  clear hd hd'
  by_cases hll : l = l'
  · subst hll
    have kb0 : ((l : Int) != (l : Int)) = false := by simp
    go_enter Try.func20, Try.ntmps20
    go_wp2
    go_loopw [5] (fun i wr => ∃ k : Nat, k ≤ l ∧ i = .int .i64 k ∧ (∀ j, j < k → V j = V' j) ∧ Below w.heap.size w wr) (fun i _ => l - (intOf i).toNat)
    case atStart => exact ⟨0, by omega, rfl, fun j hj => by omega, (by repeat (first | exact Below.refl _ _ | assumption | refine below_drewN ?_ _ | refine Below.drew ?_ | refine Below.alloc ?_ (by first | exact Nat.le_refl _ | exact Below.size (by assumption) | (simp; done) | (simp; omega)) _ | refine Below.setCell ?_ (by first | exact Nat.le_refl _ | exact Below.size (by assumption) | (simp; done) | (simp; omega)) _ | refine Below.trans ?_ (by assumption)))⟩
    case round =>
      obtain ⟨k, hk, rfl, hok, hbel⟩ := hrel
      have HK := hide hok
      clear hok
      by_cases hlt : k < l
      · obtain ⟨b, off, rfl, hb, hd⟩ := (unhide HD).ok hlt
        obtain ⟨c, off', rfl, hc, hd'⟩ := (unhide HE).ok hlt
        have d0 := (hbel.cell (p := ⟨b, off + k, none⟩) hb).trans (hd k hlt)
        have g0 := (hbel.cell (p := ⟨c, off' + k, none⟩) hc).trans (hd' k hlt)
        clear hd hd'
        have yes : ∀ x, V k = x → V' k = x → Hid (∀ j, j < k + 1 → V j = V' j) := fun x h1 h2 j hj => by
          by_cases e : j = k
          · subst e; rw [h1, h2]
          · exact unhide HK j (by omega)
        have no : V k ≠ V' k → Hid (beB l l V V' = false) := fun h => beB_no (fun h' => h (h'.2 k hlt))
        have YES := hide yes
        have NO := hide no
        clear yes no
        cases h1 : V k <;> cases h2 : V' k
        · have HK1 := unhide YES _ h1 h2
          rw [h1] at d0
          rw [h2] at g0
          go_wp2
          go_region
          all_goals go_wp2
          all_goals go_roundw
          all_goals first | exact ⟨k + 1, by omega, by go_num, unhide HK1, (by first | exact hbel | exact hbel.drew)⟩ | (simp [intOf]; omega)
        · have HN := unhide NO (by rw [h1, h2]; simp)
          rw [h1] at d0
          rw [h2] at g0
          go_wp2
          go_region
          all_goals go_wp2
          all_goals rw [unhide HN]
          all_goals go_ret
          all_goals exact ⟨rfl, (by first | exact hbel | exact hbel.drew)⟩
        · have HN := unhide NO (by rw [h1, h2]; simp)
          rw [h1] at d0
          rw [h2] at g0
          go_wp2
          go_region
          all_goals go_wp2
          all_goals rw [unhide HN]
          all_goals go_ret
          all_goals exact ⟨rfl, (by first | exact hbel | exact hbel.drew)⟩
        · have HK1 := unhide YES _ h1 h2
          rw [h1] at d0
          rw [h2] at g0
          go_wp2
          go_region
          all_goals go_wp2
          all_goals go_roundw
          all_goals first | exact ⟨k + 1, by omega, by go_num, unhide HK1, (by first | exact hbel | exact hbel.drew)⟩ | (simp [intOf]; omega)
      · have e : k = l := by omega
        subst e
        have HN := hide (beB_yes (l := k) (l' := k) (V := V) (V' := V') ⟨rfl, unhide HK⟩)
        go_wp2
        rw [unhide HN]
        go_ret
        exact ⟨rfl, hbel⟩
  · have HN := hide (beB_no (l := l) (l' := l') (V := V) (V' := V') (fun h => hll h.1))
    have kb : ((l : Int) != (l' : Int)) = true := by simp; omega
    go_enter Try.func20, Try.ntmps20
    go_wp2
    rw [unhide HN]
    go_ret
    exact ⟨rfl, (by repeat (first | exact Below.refl _ _ | assumption | refine below_drewN ?_ _ | refine Below.drew ?_ | refine Below.alloc ?_ (by first | exact Nat.le_refl _ | exact Below.size (by assumption) | (simp; done) | (simp; omega)) _ | refine Below.setCell ?_ (by first | exact Nat.le_refl _ | exact Below.size (by assumption) | (simp; done) | (simp; omega)) _ | refine Below.trans ?_ (by assumption)))⟩
end Go.Proofs.Yteakllghgcdoaaa
