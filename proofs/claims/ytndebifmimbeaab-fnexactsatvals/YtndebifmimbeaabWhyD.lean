/- Whether all reasons are right: the program's whyRight. -/
import Derived.Test.YtndebifmimbeaabWhyC
import Derived.Deep.WholeRow
namespace Go.Proofs.Ytndebifmimbeaab
open Go.ChangeShapes Go.WideShapes Go.ChangeAt Go.RowKit Go.Joins
set_option linter.unusedVariables false

theorem asI_put {w : World} {B M k m : Nat} {P : Nat → Int} {u0 : Value} (h : Ints w B 0 M (asI P k)) (hm : absI (P k) = (m : Int)) (q0 : w.cell? ⟨B, m, none⟩ = some u0) :
    Ints (w.setCell ⟨B, m, none⟩ (.int .i64 (P k))) B 0 M (asI P (k + 1)) := by
  intro i hi
  by_cases e : i = m
  · subst e
    rw [Nat.zero_add]
    have : asI P (k + 1) i = P k := by rw [asI, hm, if_pos rfl]
    rw [this]
    exact World.cell?_setCell_same _ _ _ q0
  · have : asI P (k + 1) i = asI P k i := by
      rw [asI, hm, if_neg (by omega)]
    rw [this, World.cell?_setCell_other _ _ _ _ (by simp <;> omega)]
    exact h i hi
def zc701int : Array Value := Array.replicate 701 (Value.int .i64 0)
theorem zv701 : ∀ w, (zeroValue 68).run Try.prog w = .ok (.agg zc701int) w := (zero_of_info (P := Try.prog) (t := 68) (v := .agg zc701int) (n := 701) (by kernel_rfl)).1
theorem ne701 : zc701int ≠ #[] := by intro h; have := congrArg Array.size h; simp [zc701int] at this
theorem sz701 : zc701int.size = 701 := by simp [zc701int]
theorem zero701 : zc701int = Array.replicate 701 (Value.int .i64 0) := rfl
theorem zero701_cell (w : World) (i : Nat) (h : i < 701) (t : TypeId) : (w.alloc (.cells zc701int t)).cell? ⟨w.heap.size, i, none⟩ = some (.int .i64 0) := by
  rw [World.cell?_alloc_new, zero701, Array.getElem?_replicate, if_pos h]
theorem info701 : (Try.prog.info? 68).map (·.size) = some zc701int.size := by kernel_rfl
theorem one701 : zc701int.all (·.oneCell') = true := by kernel_rfl
theorem store701 (w : World) : (storeCells ⟨w.heap.size, 0, none⟩ zc701int.toList 0).run Try.prog (w.alloc (.cells zc701int 68)) = .ok () (w.alloc (.cells zc701int 68)) :=
  run_storeCells_new w 68 _ _ info701 rfl one701
set_option maxRecDepth 20000 in
set_option maxHeartbeats 4000000 in
theorem whyRight_any (N : Nat) (a : Option Addr) (n cap : Nat) (A : Nat → Option Addr) (L C : Nat → Nat) (V : Nat → Nat → Int) (p : Option Addr) (np cp : Nat) (P : Nat → Int) (q : Option Addr) (cq : Nat) (Q : Nat → Int) (a' : Option Addr) (n' cap' : Nat) (A' : Nat → Option Addr) (L' C' : Nat → Nat) (V' : Nat → Nat → Int) (code : Int) (w : World)
    (hd : RwsAt w a n A L C V) (hf : Fits n L V) (hd' : SatIn w p np P q np Q a' n' A' L' C' V') (hf' : SFit np P np Q n' L' V' code) (hl : LstP n L V N) (hl' : LstP n' L' V' N) (hm : MarkP np P N) (hN : N ≤ 700) (h3 : n ≤ 2500) (h4 : n' ≤ 300) :
    Calls Try.prog 43 #[.agg #[.int .i64 N, .slice a n cap], .agg #[.slice p np cp, .slice q np cq, .slice a' n' cap', .int .i64 code]] w fun e w' => e = .returned (.bool (whysB np n n' L L' V V' P Q)) ∧ Below w.heap.size w w' := by
  have HD := hide hd
  have HE := hide hd'
  have HF := hide hf
  have HG := hide hf'
  have HL := hide hl
  have HL' := hide hl'
  have HMk := hide hm
  have hn := hf.1
  have hn' := hf'.2.2.2.2.1.1
  have hnp := hf'.1
  clear hd hd' hf hf' hl hl' hm
  have zv := zv701
  have zn := ne701
  have zs := sz701
  go_enter Try.func43, Try.ntmps43
  go_wp2_with fail
  obtain ⟨w0, hw0⟩ : ∃ v, v = (w.alloc (.cells #[.int .i64 N, .slice a n cap] 36)).alloc (.cells #[.slice p np cp, .slice q np cq, .slice a' n' cap', .int .i64 code] 28) := ⟨_, rfl⟩
  have hz0 : w0.heap.size = w.heap.size + 1 + 1 := by rw [hw0]; simp
  have hx0 : Box w0 w.heap.size N a n cap := by rw [hw0]; exact ⟨by simp [go_sem], by simp [go_sem]⟩
  have hy0 : SBox w0 (w.heap.size + 1) p np cp q np cq a' n' cap' code := by rw [hw0]; exact ⟨by simp [go_sem], by simp [go_sem], by simp [go_sem], by simp [go_sem]⟩
  have BL : Below w.heap.size w w0 := by rw [hw0]; exact ((Below.refl w.heap.size w).alloc (by simp <;> omega) _).alloc (by simp <;> omega) _
  rw [← hw0, ← hz0, store701]
  simp only [Result.andThen]
  rw [Oper.upon_skip]
  clear hw0
  obtain ⟨w1, hw1⟩ : ∃ v, v = w0.alloc (.cells zc701int 68) := ⟨_, rfl⟩
  have b1 : Below w0.heap.size w0 w1 := by rw [hw1]; exact (Below.refl _ _).alloc (Nat.le_refl _) _
  have HV : Hid (Ints w1 w0.heap.size 0 701 (asI P 0)) := fun i hi => by rw [hw1, Nat.zero_add]; exact zero701_cell w0 i hi _
  have HFz : Hid (∀ i, i < 701 → w1.frozen? ⟨w0.heap.size, i, none⟩ = false) := fun i hi => by rw [hw1]; simp [go_sem]
  have HX := hide (hx0.later b1)
  have HY := hide (hy0.later b1)
  have lt1 : w0.heap.size < w1.heap.size := by rw [hw1]; simp
  rw [← hw1]
  replace BL := BL.trans (b1.mono BL.size)
  clear hw1 b1 hx0 hy0
  obtain ⟨x0, x1⟩ := unhide HX
  obtain ⟨y0, y1, y2, y3⟩ := unhide HY
  have hz1 : w.heap.size + 1 < w0.heap.size := by omega
  replace hz0 := hide hz0
  go_wp2_with fail
  obtain ⟨w2, hw2⟩ : ∃ v, v = w1.alloc (.cells #[.slice a n cap, .slice a' n' cap'] 23) := ⟨_, rfl⟩
  have b2 : Below w1.heap.size w1 w2 := by rw [hw2]; exact (Below.refl _ _).alloc (Nat.le_refl _) _
  have z0 : w2.cell? ⟨w1.heap.size, 0, none⟩ = some (.slice a n cap) := by rw [hw2]; simp [go_sem]
  have z1 : w2.cell? ⟨w1.heap.size, 1, none⟩ = some (.slice a' n' cap') := by rw [hw2]; simp [go_sem]
  rw [← hw2]
  clear hw2
  replace BL := BL.trans (b2.mono BL.size)
  replace HV := hide ((unhide HV).later b2)
  replace HX := hide ((unhide HX).later b2)
  replace HY := hide ((unhide HY).later b2)
  have HFz2 : Hid (∀ i, i < 701 → w2.frozen? ⟨w0.heap.size, i, none⟩ = false) := fun i hi => by rw [b2.frozen (by exact lt1)]; exact unhide HFz i hi
  have lt2 := Nat.lt_of_lt_of_le lt1 b2.size
  clear b2 HFz x0 x1 y0 y1 y2 y3
  refine (concat_any _ _ _ _ A L C V _ _ _ A' L' C' V' _ ((unhide HD).later BL) ((unhide HE).later BL).2.2 (by omega) (by omega) z0 z1).mono ?_
  rintro e w3 ⟨g, gc, rfl, hg, b3⟩
  replace BL := BL.trans (b3.mono BL.size)
  replace HV := hide ((unhide HV).later b3)
  replace HX := hide ((unhide HX).later b3)
  replace HY := hide ((unhide HY).later b3)
  have HFz3 : Hid (∀ i, i < 701 → w3.frozen? ⟨w0.heap.size, i, none⟩ = false) := fun i hi => by rw [b3.frozen (by exact lt2)]; exact unhide HFz2 i hi
  have HR : Hid (GList w3 (w0.heap.size + 1) g (n + n') (jn n A A') (jn n L L') (jn n C C')) := by
    rcases hg with h | ⟨gb, h1, h2, h3⟩
    · exact Or.inl h
    · exact Or.inr ⟨gb, h1, by omega, h3⟩
  clear b3 hg HFz2 z0 z1 lt1 lt2
  obtain ⟨y0, y1, y2, y3⟩ := unhide HY
  go_wp2
  go_loopw [20] (fun i wr => ∃ k : Nat, k ≤ np ∧ i = .int .i64 k ∧ (∀ j, j < k → WhyP n n' L L' V V' P Q j) ∧ Ints wr w0.heap.size 0 701 (asI P k) ∧ (∀ i, i < 701 → wr.frozen? ⟨w0.heap.size, i, none⟩ = false) ∧ SBox wr (w.heap.size + 1) p np cp q np cq a' n' cap' code ∧ GList wr (w0.heap.size + 1) g (n + n') (jn n A A') (jn n L L') (jn n C C') ∧ Below w.heap.size w wr) (fun i _ => np - (intOf i).toNat)
  case atStart => exact ⟨0, by omega, rfl, fun j hj => by omega, unhide HV, unhide HFz3, unhide HY, unhide HR, BL⟩
  case round =>
    clear y0 y1 y2 y3 HV HFz3 HY HR BL HX
    obtain ⟨k, hk, rfl, hok, hv, hfz, hsx, hrw, hbel⟩ := hrel
    have HK := hide hok
    have HV := hide hv
    have HFz := hide hfz
    have HY := hide hsx
    have HR := hide hrw
    obtain ⟨y0, y1, y2, y3⟩ := hsx
    clear hok hv hfz hrw
    by_cases hlt : k < np
    · obtain ⟨b, off, rfl, hb, hdp⟩ := (unhide HE).1.ok hlt
      obtain ⟨c, off', rfl, hc, hdq⟩ := (unhide HE).2.1.ok hlt
      have d0 := (hbel.cell (p := ⟨b, off + k, none⟩) hb).trans (hdp k hlt)
      have g0 := (hbel.cell (p := ⟨c, off' + k, none⟩) hc).trans (hdq k hlt)
      clear hdp hdq
      have hwq := (unhide HG).2.2.2.1 k hlt
      unfold W64 at hwq
      obtain ⟨⟨m1, m2, m3⟩, _⟩ := unhide HMk k hlt
      have hba := bare_abs m1 m2 (by omega)
      obtain ⟨a1, a2⟩ := absI_bd _ _ m1 m2
      obtain ⟨m, hm⟩ := Int.eq_ofNat_of_zero_le a1
      have hm1 : m < 701 := by omega
      have hmI : (m : Int) < 701 := by omega
      have hb5 : ∀ v, Calls Try.prog 33 #[.int .i64 (P k)] v fun e w' => e = .returned (.int .i64 (m : Int)) ∧ w' = v := fun v => by
        rw [show (m : Int) = bareI (P k) by rw [hba]; exact hm.symm]
        exact bare_any _ _ (by unfold W64; omega)
      have HB5 := hide hb5
      have HQ := hide hm
      clear hb5 hm hba
      by_cases q0 : Q k = -1
      · have HK1 : Hid (∀ j, j < k + 1 → WhyP n n' L L' V V' P Q j) := fun j hj => by
          by_cases e : j = k
          · subst e; exact Or.inl q0
          · exact unhide HK j (by omega)
        rw [q0] at g0
        clear q0
        have s0 := unhide HV m hm1
        rw [Nat.zero_add] at s0
        have f0 := unhide HFz m hm1
        have HS := hide (asI_put (w := _) (unhide HV) (unhide HQ) s0)
        go_wp2_with fail
        refine (unhide HB5 _).mono ?_
        rintro e w9 ⟨rfl, rfl⟩
        go_wp2
        go_roundw
        case rel => exact ⟨k + 1, by omega, by go_num, unhide HK1, unhide HS, fun i hi => (by simp [go_sem]; exact unhide HFz i hi), (unhide HY).set _ _ (by dsimp only; omega), (unhide HR).set _ _ (by dsimp only; omega), hbel.setCell (by dsimp only; omega) _⟩
        case measure => simp [intOf]; omega
      · have kb : (Q k != -1) = true := by simp [q0]
        by_cases q1 : Q k < 0
        · have HN := hide (whysB_no (np := np) (n := n) (n' := n') (L := L) (L' := L') (V := V) (V' := V') (P := P) (Q := Q) (fun h => by rcases h k hlt with h | h <;> omega))
          go_wp2
          rw [unhide HN]
          go_ret
          exact ⟨rfl, hbel⟩
        · by_cases q2 : (n : Int) + n' ≤ Q k
          · have HN := hide (whysB_no (np := np) (n := n) (n' := n') (L := L) (L' := L') (V := V) (V' := V') (P := P) (Q := Q) (fun h => by rcases h k hlt with h | h <;> omega))
            go_wp2
            rw [unhide HN]
            go_ret
            exact ⟨rfl, hbel⟩
          · obtain ⟨r, hr⟩ := Int.eq_ofNat_of_zero_le (show 0 ≤ Q k by omega)
            have hrn : r < n + n' := by omega
            have HI := hide ((jn_rws ((unhide HD).later hbel) ((unhide HE).later hbel).2.2 hrn))
            have HCl := hide (jn_cl (unhide HL) (unhide HL') hrn)
            have HLen := hide (jn_len (M := 1048576) (fun i hi => ((unhide HF).2 i hi).1) (fun i hi => ((unhide HG).2.2.2.2.1.2 i hi).1) hrn)
            obtain ⟨gb, hge, _, _, hgc⟩ := (unhide HR).resolve_left (by omega)
            have c0 := hgc r hrn
            subst hge
            clear hgc
            rw [hr] at g0 kb
            cases hv : becB (jn n L L' r) (jn n V V' r) (P k) P k
            · have HN := hide (whysB_no (np := np) (n := n) (n' := n') (L := L) (L' := L') (V := V) (V' := V') (P := P) (Q := Q) (fun h => by
                rcases h k hlt with h | ⟨_, _, h⟩
                · omega
                · rw [hr, Int.toNat_natCast] at h
                  have := becB_iff.2 h
                  rw [hv] at this; cases this))
              clear q0 q1 q2 hr
              go_wp2_with fail
              refine (wants_any _ P k N _ _ _ _ _ _ (unhide HV) (unhide HI) (unhide HLen) (unhide HCl) hN).mono ?_
              rintro e w8 ⟨rfl, nn, rfl⟩
              rw [hv]
              go_wp2
              rw [unhide HN]
              go_ret
              exact ⟨rfl, below_drewN hbel _⟩
            · have HK1 : Hid (∀ j, j < k + 1 → WhyP n n' L L' V V' P Q j) := fun j hj => by
                by_cases e : j = k
                · subst e; exact Or.inr ⟨by omega, by omega, by rw [hr, Int.toNat_natCast]; exact becB_iff.1 hv⟩
                · exact unhide HK j (by omega)
              clear q0 q1 q2 hr
              go_wp2_with fail
              refine (wants_any _ P k N _ _ _ _ _ _ (unhide HV) (unhide HI) (unhide HLen) (unhide HCl) hN).mono ?_
              rintro e w8 ⟨rfl, nn, rfl⟩
              rw [hv]
              have s0 := unhide HV m hm1
              rw [Nat.zero_add] at s0
              have f0 := unhide HFz m hm1
              have HS := hide (asI_put (w := _) (unhide HV) (unhide HQ) s0)
              go_wp2_with fail
              refine (unhide HB5 _).mono ?_
              rintro e w9 ⟨rfl, rfl⟩
              go_wp2
              go_roundw
              case rel => exact ⟨k + 1, by omega, by go_num, unhide HK1, unhide HS, fun i hi => (by simp [go_sem]; exact unhide HFz i hi), (unhide HY).set _ _ (by dsimp only; omega), (unhide HR).set _ _ (by dsimp only; omega), (below_drewN hbel _).setCell (by dsimp only; omega) _⟩
              case measure => simp [intOf]; omega
    · have e : k = np := by omega
      subst e
      have HN := hide (whysB_yes (np := k) (n := n) (n' := n') (L := L) (L' := L') (V := V) (V' := V') (P := P) (Q := Q) (unhide HK))
      go_wp2
      rw [unhide HN]
      go_ret
      exact ⟨rfl, hbel⟩
end Go.Proofs.Ytndebifmimbeaab
