/- Whether a pair of lists of Kids is still to be walked, of the program. -/
import Derived.Test.YtbcojkadfbpmgaaSamX
namespace Go.Proofs.Ytbcojkadfbpmgaa
open Go.ChangeShapes Go.WideShapes Go.ChangeAt Go.RowKit Go.Joins
set_option linter.unusedVariables false
set_option linter.unusedSimpArgs false

theorem eqlP_same (w : World) (x : Addr) : (binOp .eql 72 (.pointer (some x)) (.pointer (some x))).run Try.prog w = .ok (.bool true) w := by
  obtain ⟨i, hi, hz⟩ := Option.map_eq_some_iff.1 infoTerm
  exact run_eql_ptr_same w x Try.underlying72 hi
theorem eqlP_other {w : World} {x y : Addr} (hne : x ≠ y) (hx : Plain w x) (hy : Plain w y) : (binOp .eql 72 (.pointer (some x)) (.pointer (some y))).run Try.prog w = .ok (.bool false) w := by
  obtain ⟨i, hi, hz⟩ := Option.map_eq_some_iff.1 infoTerm
  simp only [Prod.mk.injEq] at hz
  obtain ⟨c, e, hc⟩ := hx
  obtain ⟨c', e', hc'⟩ := hy
  exact run_eql_ptr_other w Try.underlying72 hi (by rw [hz.2.1]; decide) hne hc hc'
theorem Lies.keep {w w' : World} {lo hi : Nat} {f : Fr} (h : Lies w lo hi f) (hk : ∀ b o, lo ≤ b → b < hi → w'.cell? ⟨b, o, none⟩ = w.cell? ⟨b, o, none⟩) : Lies w' lo hi f :=
  ⟨TT.In.keep hk _ _ h.1, TT.In.keep hk _ _ h.2.1, h.2.2⟩
/-- What was met at the same places is the same. -/
theorem met_same {w : World} {lo hi : Nat} {f : Fr} {L : List Fr} (hl : ∀ g, g ∈ L → Lies w lo hi g) (hf : Lies w lo hi f) (h : ∃ p, p ∈ L ∧ p.ad = f.ad ∧ p.ad' = f.ad' ∧ p.t.n = f.t.n) : ∃ p, p ∈ L ∧ (p.same ↔ f.same) ∧ p.t.N = f.t.N := by
  obtain ⟨p, hp, h1, h2, h3⟩ := h
  obtain ⟨a1, a2, a3⟩ := hl p hp
  obtain ⟨b1, b2, b3⟩ := hf
  rw [h1] at a1
  rw [h2] at a2
  obtain ⟨s1, s2⟩ := In_same _ _ _ a1 b1 h3
  obtain ⟨s3, s4⟩ := In_same _ _ _ a2 b2 (by omega)
  exact ⟨p, hp, LSame_swap s1 s3 h3 (by omega) a3, s2⟩
theorem grown_of_below {w w' : World} {row : Option Nat} (h : Below w.heap.size w w') : w.grownBy w' row := ⟨h.os, h.tape, h.output, h.size, fun k hk _ => h.block k hk⟩
theorem grown_trans {a b c : World} {row : Option Nat} (h : a.grownBy b row) (k : b.grownBy c row) : a.grownBy c row :=
  ⟨k.os.trans h.os, k.tape.trans h.tape, k.output.trans h.output, Nat.le_trans h.size k.size, fun i hi hne => (k.block i (Nat.lt_of_lt_of_le hi h.size) hne).trans (h.block i hi hne)⟩
set_option maxHeartbeats 8000000 in
theorem fresh_any (lo hi : Nat) (f : Fr) (B : Nat) (L : List Fr) (w : World) (hf : Lies w lo hi f) (hl : ∀ g, g ∈ L → Lies w lo hi g) (hp : Pl w lo hi) (hM : Met w B L) (hhi : hi ≤ w.heap.size) (hn : f.t.n ≤ 1048576) :
    Calls Try.prog 42 #[.agg #[.slice f.ad f.t.n f.cp, .slice f.ad' f.u.n f.cp'], .map (some B)] w fun e w' =>
      ((e = .returned (.bool false) ∧ Met w' B L ∧ (f.same ∨ ∃ p, p ∈ L ∧ (p.same ↔ f.same) ∧ p.t.N = f.t.N)) ∨ (e = .returned (.bool true) ∧ Met w' B (f :: L))) ∧ w.grownBy w' (some B) := by
  have hB := hM.lt
  have HM := hide hM
  have HL := hide hl
  have HF := hide hf
  have HP := hide hp
  obtain ⟨f1, f2, f3⟩ := hf
  clear hM hl hp
  obtain ⟨n, hn0⟩ : ∃ n, f.t.n = n := ⟨_, rfl⟩
  have f4 : f.u.n = n := by omega
  rw [f4, hn0]
  by_cases hz : n = 0
  · have HS : Hid f.same := fun i hi => by omega
    clear f1 f2 f3 f4
    obtain ⟨ad, cp, ad', cp', had⟩ : ∃ ad cp ad' cp', (Value.agg #[.slice f.ad n f.cp, .slice f.ad' n f.cp']) = .agg #[.slice ad n cp, .slice ad' n cp'] := ⟨_, _, _, _, rfl⟩
    rw [had]
    clear had hn0
    subst hz
    go_enter Try.func42, Try.ntmps42
    go_wp2
    obtain ⟨wb, hwb⟩ : ∃ v, v = w.alloc (.cells #[.slice ad 0 cp, .slice ad' 0 cp'] 69) := ⟨_, rfl⟩
    have q0 : wb.cell? ⟨w.heap.size, 0, none⟩ = some (.slice ad 0 cp) := by rw [hwb]; simp [go_sem]
    have q1 : wb.cell? ⟨w.heap.size, 1, none⟩ = some (.slice ad' 0 cp') := by rw [hwb]; simp [go_sem]
    have bb : Below w.heap.size w wb := by rw [hwb]; exact (Below.refl _ _).alloc (Nat.le_refl _) _
    rw [← hwb]
    have HB := hide bb
    clear hwb bb
    obtain ⟨H, hH⟩ : ∃ x, x = w.heap.size := ⟨_, rfl⟩
    rw [← hH] at q0 q1 ⊢
    have HH := hide hH
    clear hH
    refine wp_region_held_drew (S := (fun w' => w'.cell? ⟨H, 0, none⟩ = some (.slice ad 0 cp) ∧ w'.cell? ⟨H, 1, none⟩ = some (.slice ad' 0 cp'))) (by kernel_rfl) ?_ (fun hHeld => ?_)
    · exact ⟨q0, q1⟩
    refine wpAnyH_take (i := 0) (v := ?_) rfl (by kernel_rfl) (by kernel_rfl) (by kernel_rfl) (fun _ _ _ h => h) (Or.inl ⟨by rfl, ?_⟩) (by assumption) ?_
    rotate_left
    · (intro w hSw; (try dsimp only at hSw); first | (go_simp; done) | (go_simp; with_reducible rfl))
    try simp only [List.getElem_toArray, List.getElem_cons_succ, List.getElem_cons_zero, Act.put, List.setIfInBounds_toArray, List.set_cons_zero, List.set_cons_succ]
    refine wpAnyH_take (i := 1) (v := ?_) rfl (by kernel_rfl) (by kernel_rfl) (by kernel_rfl) (fun _ _ _ h => h) (Or.inl ⟨by rfl, ?_⟩) (by assumption) ?_
    rotate_left
    · (intro w hSw; (try dsimp only at hSw); first | (go_simp; done) | (go_simp; with_reducible rfl))
    try simp only [List.getElem_toArray, List.getElem_cons_succ, List.getElem_cons_zero, Act.put, List.setIfInBounds_toArray, List.set_cons_zero, List.set_cons_succ]
    refine wpAnyH_take (i := 2) (v := ?_) rfl (by kernel_rfl) (by kernel_rfl) (by kernel_rfl) (fun _ _ _ h => h) (Or.inl ⟨by rfl, ?_⟩) (by assumption) ?_
    rotate_left
    · (intro w hSw; (try dsimp only at hSw); first | (go_simp; done) | (go_simp; with_reducible rfl))
    try simp only [List.getElem_toArray, List.getElem_cons_succ, List.getElem_cons_zero, Act.put, List.setIfInBounds_toArray, List.set_cons_zero, List.set_cons_succ]
    refine wpAnyH_take (i := 3) (v := ?_) rfl (by kernel_rfl) (by kernel_rfl) (by kernel_rfl) (fun _ _ _ h => h) (Or.inl ⟨by rfl, ?_⟩) (by assumption) ?_
    rotate_left
    · (intro w hSw; (try dsimp only at hSw); first | (go_simp; done) | (go_simp; with_reducible rfl))
    try simp only [List.getElem_toArray, List.getElem_cons_succ, List.getElem_cons_zero, Act.put, List.setIfInBounds_toArray, List.set_cons_zero, List.set_cons_succ]
    refine wpAnyH_take (i := 4) (v := ?_) rfl (by kernel_rfl) (by kernel_rfl) (by kernel_rfl) (fun _ _ _ h => h) (Or.inl ⟨by rfl, ?_⟩) (by assumption) ?_
    rotate_left
    · (intro w hSw; (try dsimp only at hSw); first | (go_simp; done) | (go_simp; with_reducible rfl))
    try simp only [List.getElem_toArray, List.getElem_cons_succ, List.getElem_cons_zero, Act.put, List.setIfInBounds_toArray, List.set_cons_zero, List.set_cons_succ]
    refine wpAnyH_take (i := 5) (v := undef) rfl (by kernel_rfl) (by kernel_rfl) (by kernel_rfl) (fun _ _ _ h => h) (Or.inr ⟨by rfl, rfl⟩) (by assumption) ?_
    try simp only [List.getElem_toArray, List.getElem_cons_succ, List.getElem_cons_zero, Act.put, List.setIfInBounds_toArray, List.set_cons_zero, List.set_cons_succ]
    refine wpAnyH_take (i := 6) (v := undef) rfl (by kernel_rfl) (by kernel_rfl) (by kernel_rfl) (fun _ _ _ h => h) (Or.inr ⟨by rfl, rfl⟩) (by assumption) ?_
    try simp only [List.getElem_toArray, List.getElem_cons_succ, List.getElem_cons_zero, Act.put, List.setIfInBounds_toArray, List.set_cons_zero, List.set_cons_succ]
    refine wpAnyH_take (i := 7) (v := undef) rfl (by kernel_rfl) (by kernel_rfl) (by kernel_rfl) (fun _ _ _ h => h) (Or.inr ⟨by rfl, rfl⟩) (by assumption) ?_
    try simp only [List.getElem_toArray, List.getElem_cons_succ, List.getElem_cons_zero, Act.put, List.setIfInBounds_toArray, List.set_cons_zero, List.set_cons_succ]
    refine wpAnyH_take (i := 8) (v := undef) rfl (by kernel_rfl) (by kernel_rfl) (by kernel_rfl) (fun _ _ _ h => h) (Or.inr ⟨by rfl, rfl⟩) (by assumption) ?_
    try simp only [List.getElem_toArray, List.getElem_cons_succ, List.getElem_cons_zero, Act.put, List.setIfInBounds_toArray, List.set_cons_zero, List.set_cons_succ]
    refine wpAnyH_take (i := 9) (v := undef) rfl (by kernel_rfl) (by kernel_rfl) (by kernel_rfl) (fun _ _ _ h => h) (Or.inr ⟨by rfl, rfl⟩) (by assumption) ?_
    try simp only [List.getElem_toArray, List.getElem_cons_succ, List.getElem_cons_zero, Act.put, List.setIfInBounds_toArray, List.set_cons_zero, List.set_cons_succ]
    refine wpAnyH_take (i := 10) (v := undef) rfl (by kernel_rfl) (by kernel_rfl) (by kernel_rfl) (fun _ _ _ h => h) (Or.inr ⟨by rfl, rfl⟩) (by assumption) ?_
    try simp only [List.getElem_toArray, List.getElem_cons_succ, List.getElem_cons_zero, Act.put, List.setIfInBounds_toArray, List.set_cons_zero, List.set_cons_succ]
    refine wpAnyH_take (i := 11) (v := undef) rfl (by kernel_rfl) (by kernel_rfl) (by kernel_rfl) (fun _ _ _ h => h) (Or.inr ⟨by rfl, rfl⟩) (by assumption) ?_
    try simp only [List.getElem_toArray, List.getElem_cons_succ, List.getElem_cons_zero, Act.put, List.setIfInBounds_toArray, List.set_cons_zero, List.set_cons_succ]
    refine wpAnyH_take (i := 12) (v := ?_) rfl (by kernel_rfl) (by kernel_rfl) (by kernel_rfl) (fun _ _ _ h => h) (Or.inl ⟨by rfl, ?_⟩) (by assumption) ?_
    rotate_left
    · (intro w hSw; (try dsimp only at hSw); first | (go_simp; done) | (go_simp; with_reducible rfl))
    try simp only [List.getElem_toArray, List.getElem_cons_succ, List.getElem_cons_zero, Act.put, List.setIfInBounds_toArray, List.set_cons_zero, List.set_cons_succ]
    refine wpAnyH_done (by kernel_rfl) ?_ _
    go_wp2
    go_ret
    have hg : w.grownBy wb.drew (some B) := grown_of_below ((unhide HB).drew)
    exact ⟨Or.inl ⟨rfl, (unhide HM).keep ((unhide HB).block B hB), Or.inl (unhide HS)⟩, hg⟩
  · obtain ⟨bl, off, hx⟩ : ∃ bl off, f.ad = some ⟨bl, off, none⟩ := by
      cases ht : f.t with
      | nil => rw [ht] at f1; exact f1.elim
      | node op a b s m kid =>
        rw [ht] at f1 hn0
        rcases f1 with h | ⟨bl, off, e, _⟩
        · have : m = n := hn0
          omega
        · exact ⟨bl, off, e⟩
    obtain ⟨bl', off', hy⟩ : ∃ bl off, f.ad' = some ⟨bl, off, none⟩ := by
      cases ht : f.u with
      | nil => rw [ht] at f2; exact f2.elim
      | node op a b s m kid =>
        rw [ht] at f2 f4
        rcases f2 with h | ⟨bl, off, e, _⟩
        · have : m = n := f4
          omega
        · exact ⟨bl, off, e⟩
    have px : Plain w ⟨bl, off, none⟩ := by rw [hx] at f1; exact plain_of (unhide HP) f1 (by omega)
    have py : Plain w ⟨bl', off', none⟩ := by rw [hy] at f2; exact plain_of (unhide HP) f2 (by omega)
    rw [hx, hy]
    have kz : ((n : Int) == (0 : Int)) = false := by simp; omega
    have k0 : 0 < n := by omega
    have HX := hide hx
    have HY := hide hy
    have HN := hide hn0
    have H1 := hide f1
    have H2 := hide f2
    have H3 := hide f3
    obtain ⟨cp, hcp⟩ : ∃ x, x = f.cp := ⟨_, rfl⟩
    obtain ⟨cp', hcp'⟩ : ∃ x, x = f.cp' := ⟨_, rfl⟩
    rw [← hcp, ← hcp']
    clear hx hy f1 f2 f3 f4 hcp hcp'
    rw [hn0] at hn
    clear hn0
    have knn : ((n : Int) < 0) = False := by simp
    have kni : (0 : Int) < (n : Int) := by omega
    go_enter Try.func42, Try.ntmps42
    go_wp2
    obtain ⟨wb, hwb⟩ : ∃ v, v = w.alloc (.cells #[.slice (some ⟨bl, off, none⟩) n cp, .slice (some ⟨bl', off', none⟩) n cp'] 69) := ⟨_, rfl⟩
    have q0 : wb.cell? ⟨w.heap.size, 0, none⟩ = some (.slice (some ⟨bl, off, none⟩) n cp) := by rw [hwb]; simp [go_sem]
    have q1 : wb.cell? ⟨w.heap.size, 1, none⟩ = some (.slice (some ⟨bl', off', none⟩) n cp') := by rw [hwb]; simp [go_sem]
    have bb : Below w.heap.size w wb := by rw [hwb]; exact (Below.refl _ _).alloc (Nat.le_refl _) _
    have lwb : w.heap.size < wb.heap.size := by rw [hwb]; simp
    rw [← hwb]
    have pxb : Plain wb ⟨bl, off, none⟩ := by
      obtain ⟨c, e, hc⟩ := px
      exact ⟨c, e, (bb.block _ (Array.getElem?_eq_some_iff.1 hc).1).trans hc⟩
    have pyb : Plain wb ⟨bl', off', none⟩ := by
      obtain ⟨c, e, hc⟩ := py
      exact ⟨c, e, (bb.block _ (Array.getElem?_eq_some_iff.1 hc).1).trans hc⟩
    have HB := hide bb
    clear hwb bb px py
    obtain ⟨H, hH⟩ : ∃ x, x = w.heap.size := ⟨_, rfl⟩
    rw [← hH] at q0 q1 lwb ⊢
    have HH := hide hH
    clear hH
    by_cases hxy : (⟨bl, off, none⟩ : Addr) = ⟨bl', off', none⟩
    · have HS : Hid f.same := (In_same f.t f.u f.ad (unhide H1) (by rw [show f.ad = f.ad' by rw [unhide HX, unhide HY, hxy]]; exact unhide H2) (unhide H3)).1
      simp only [Addr.mk.injEq, and_true] at hxy
      obtain ⟨e1, e2⟩ := hxy
      subst e1 e2
      refine wp_region_held_drew (S := (fun w' => w'.cell? ⟨H, 0, none⟩ = some (.slice (some ⟨bl, off, none⟩) n cp) ∧ w'.cell? ⟨H, 1, none⟩ = some (.slice (some ⟨bl, off, none⟩) n cp'))) (by kernel_rfl) ?_ (fun hHeld => ?_)
      · exact ⟨q0, q1⟩
      refine wpAnyH_take (i := 0) (v := ?_) rfl (by kernel_rfl) (by kernel_rfl) (by kernel_rfl) (fun _ _ _ h => h) (Or.inl ⟨by rfl, ?_⟩) (by assumption) ?_
      rotate_left
      · (intro w hSw; (try dsimp only at hSw); first | (go_simp; done) | (go_simp; with_reducible rfl))
      try simp only [List.getElem_toArray, List.getElem_cons_succ, List.getElem_cons_zero, Act.put, List.setIfInBounds_toArray, List.set_cons_zero, List.set_cons_succ]
      refine wpAnyH_take (i := 1) (v := ?_) rfl (by kernel_rfl) (by kernel_rfl) (by kernel_rfl) (fun _ _ _ h => h) (Or.inl ⟨by rfl, ?_⟩) (by assumption) ?_
      rotate_left
      · (intro w hSw; (try dsimp only at hSw); first | (go_simp; done) | (go_simp; with_reducible rfl))
      try simp only [List.getElem_toArray, List.getElem_cons_succ, List.getElem_cons_zero, Act.put, List.setIfInBounds_toArray, List.set_cons_zero, List.set_cons_succ]
      refine wpAnyH_take (i := 2) (v := ?_) rfl (by kernel_rfl) (by kernel_rfl) (by kernel_rfl) (fun _ _ _ h => h) (Or.inl ⟨by rfl, ?_⟩) (by assumption) ?_
      rotate_left
      · (intro w hSw; (try dsimp only at hSw); first | (go_simp; done) | (go_simp; with_reducible rfl))
      try simp only [List.getElem_toArray, List.getElem_cons_succ, List.getElem_cons_zero, Act.put, List.setIfInBounds_toArray, List.set_cons_zero, List.set_cons_succ]
      refine wpAnyH_take (i := 3) (v := ?_) rfl (by kernel_rfl) (by kernel_rfl) (by kernel_rfl) (fun _ _ _ h => h) (Or.inl ⟨by rfl, ?_⟩) (by assumption) ?_
      rotate_left
      · (intro w hSw; (try dsimp only at hSw); first | (go_simp; done) | (go_simp; with_reducible rfl))
      try simp only [List.getElem_toArray, List.getElem_cons_succ, List.getElem_cons_zero, Act.put, List.setIfInBounds_toArray, List.set_cons_zero, List.set_cons_succ]
      refine wpAnyH_take (i := 4) (v := ?_) rfl (by kernel_rfl) (by kernel_rfl) (by kernel_rfl) (fun _ _ _ h => h) (Or.inl ⟨by rfl, ?_⟩) (by assumption) ?_
      rotate_left
      · (intro w hSw; (try dsimp only at hSw); first | (go_simp; done) | (go_simp; with_reducible rfl))
      try simp only [List.getElem_toArray, List.getElem_cons_succ, List.getElem_cons_zero, Act.put, List.setIfInBounds_toArray, List.set_cons_zero, List.set_cons_succ]
      refine wpAnyH_take (i := 5) (v := ?_) rfl (by kernel_rfl) (by kernel_rfl) (by kernel_rfl) (fun _ _ _ h => h) (Or.inl ⟨by rfl, ?_⟩) (by assumption) ?_
      rotate_left
      · (intro w hSw; (try dsimp only at hSw); first | (go_simp; done) | (go_simp; with_reducible rfl))
      try simp only [List.getElem_toArray, List.getElem_cons_succ, List.getElem_cons_zero, Act.put, List.setIfInBounds_toArray, List.set_cons_zero, List.set_cons_succ]
      refine wpAnyH_take (i := 6) (v := ?_) rfl (by kernel_rfl) (by kernel_rfl) (by kernel_rfl) (fun _ _ _ h => h) (Or.inl ⟨by rfl, ?_⟩) (by assumption) ?_
      rotate_left
      · (intro w hSw; (try dsimp only at hSw); first | (go_simp; done) | (go_simp; with_reducible rfl))
      try simp only [List.getElem_toArray, List.getElem_cons_succ, List.getElem_cons_zero, Act.put, List.setIfInBounds_toArray, List.set_cons_zero, List.set_cons_succ]
      refine wpAnyH_take (i := 7) (v := ?_) rfl (by kernel_rfl) (by kernel_rfl) (by kernel_rfl) (fun _ _ _ h => h) (Or.inl ⟨by rfl, ?_⟩) (by assumption) ?_
      rotate_left
      · (intro w hSw; (try dsimp only at hSw); first | (go_simp; done) | (go_simp; with_reducible rfl))
      try simp only [List.getElem_toArray, List.getElem_cons_succ, List.getElem_cons_zero, Act.put, List.setIfInBounds_toArray, List.set_cons_zero, List.set_cons_succ]
      refine wpAnyH_take (i := 8) (v := ?_) rfl (by kernel_rfl) (by kernel_rfl) (by kernel_rfl) (fun _ _ _ h => h) (Or.inl ⟨by rfl, ?_⟩) (by assumption) ?_
      rotate_left
      · (intro w hSw; (try dsimp only at hSw); first | (go_simp; done) | (go_simp; with_reducible rfl))
      try simp only [List.getElem_toArray, List.getElem_cons_succ, List.getElem_cons_zero, Act.put, List.setIfInBounds_toArray, List.set_cons_zero, List.set_cons_succ]
      refine wpAnyH_take (i := 9) (v := ?_) rfl (by kernel_rfl) (by kernel_rfl) (by kernel_rfl) (fun _ _ _ h => h) (Or.inl ⟨by rfl, ?_⟩) (by assumption) ?_
      rotate_left
      · (intro w hSw; (try dsimp only at hSw); first | (go_simp; done) | (go_simp; with_reducible rfl))
      try simp only [List.getElem_toArray, List.getElem_cons_succ, List.getElem_cons_zero, Act.put, List.setIfInBounds_toArray, List.set_cons_zero, List.set_cons_succ]
      refine wpAnyH_take (i := 10) (v := ?_) rfl (by kernel_rfl) (by kernel_rfl) (by kernel_rfl) (fun _ _ _ h => h) (Or.inl ⟨by rfl, ?_⟩) (by assumption) ?_
      rotate_left
      · (intro w hSw; (try dsimp only at hSw); first | (go_simp; done) | (go_simp; with_reducible rfl))
      try simp only [List.getElem_toArray, List.getElem_cons_succ, List.getElem_cons_zero, Act.put, List.setIfInBounds_toArray, List.set_cons_zero, List.set_cons_succ]
      refine wpAnyH_take (i := 11) (v := ?_) rfl (by kernel_rfl) (by kernel_rfl) (by kernel_rfl) (fun _ _ _ h => h) (Or.inl ⟨by rfl, ?_⟩) (by assumption) ?_
      rotate_left
      · (intro w hSw; (try dsimp only at hSw); have hq := eqlP_same w ⟨bl, off, none⟩; first | (go_simp; done) | (go_simp; with_reducible rfl))
      try simp only [List.getElem_toArray, List.getElem_cons_succ, List.getElem_cons_zero, Act.put, List.setIfInBounds_toArray, List.set_cons_zero, List.set_cons_succ]
      refine wpAnyH_take (i := 12) (v := ?_) rfl (by kernel_rfl) (by kernel_rfl) (by kernel_rfl) (fun _ _ _ h => h) (Or.inl ⟨by rfl, ?_⟩) (by assumption) ?_
      rotate_left
      · (intro w hSw; (try dsimp only at hSw); first | (go_simp; done) | (go_simp; with_reducible rfl))
      try simp only [List.getElem_toArray, List.getElem_cons_succ, List.getElem_cons_zero, Act.put, List.setIfInBounds_toArray, List.set_cons_zero, List.set_cons_succ]
      refine wpAnyH_done (by kernel_rfl) ?_ _
      go_wp2
      go_ret
      have hg : w.grownBy wb.drew (some B) := grown_of_below ((unhide HB).drew)
      exact ⟨Or.inl ⟨rfl, (unhide HM).keep ((unhide HB).block B hB), Or.inl (unhide HS)⟩, hg⟩
    · -- two places
      refine wp_region_held_drew (S := (fun w' => w'.cell? ⟨H, 0, none⟩ = some (.slice (some ⟨bl, off, none⟩) n cp) ∧ w'.cell? ⟨H, 1, none⟩ = some (.slice (some ⟨bl', off', none⟩) n cp') ∧ Plain w' ⟨bl, off, none⟩ ∧ Plain w' ⟨bl', off', none⟩)) (by kernel_rfl) ?_ (fun hHeld => ?_)
      · exact ⟨q0, q1, pxb, pyb⟩
      refine wpAnyH_take (i := 0) (v := ?_) rfl (by kernel_rfl) (by kernel_rfl) (by kernel_rfl) (fun _ _ _ h => h) (Or.inl ⟨by rfl, ?_⟩) (by assumption) ?_
      rotate_left
      · (intro w hSw; (try dsimp only at hSw); first | (go_simp; done) | (go_simp; with_reducible rfl))
      try simp only [List.getElem_toArray, List.getElem_cons_succ, List.getElem_cons_zero, Act.put, List.setIfInBounds_toArray, List.set_cons_zero, List.set_cons_succ]
      refine wpAnyH_take (i := 1) (v := ?_) rfl (by kernel_rfl) (by kernel_rfl) (by kernel_rfl) (fun _ _ _ h => h) (Or.inl ⟨by rfl, ?_⟩) (by assumption) ?_
      rotate_left
      · (intro w hSw; (try dsimp only at hSw); first | (go_simp; done) | (go_simp; with_reducible rfl))
      try simp only [List.getElem_toArray, List.getElem_cons_succ, List.getElem_cons_zero, Act.put, List.setIfInBounds_toArray, List.set_cons_zero, List.set_cons_succ]
      refine wpAnyH_take (i := 2) (v := ?_) rfl (by kernel_rfl) (by kernel_rfl) (by kernel_rfl) (fun _ _ _ h => h) (Or.inl ⟨by rfl, ?_⟩) (by assumption) ?_
      rotate_left
      · (intro w hSw; (try dsimp only at hSw); first | (go_simp; done) | (go_simp; with_reducible rfl))
      try simp only [List.getElem_toArray, List.getElem_cons_succ, List.getElem_cons_zero, Act.put, List.setIfInBounds_toArray, List.set_cons_zero, List.set_cons_succ]
      refine wpAnyH_take (i := 3) (v := ?_) rfl (by kernel_rfl) (by kernel_rfl) (by kernel_rfl) (fun _ _ _ h => h) (Or.inl ⟨by rfl, ?_⟩) (by assumption) ?_
      rotate_left
      · (intro w hSw; (try dsimp only at hSw); first | (go_simp; done) | (go_simp; with_reducible rfl))
      try simp only [List.getElem_toArray, List.getElem_cons_succ, List.getElem_cons_zero, Act.put, List.setIfInBounds_toArray, List.set_cons_zero, List.set_cons_succ]
      refine wpAnyH_take (i := 4) (v := ?_) rfl (by kernel_rfl) (by kernel_rfl) (by kernel_rfl) (fun _ _ _ h => h) (Or.inl ⟨by rfl, ?_⟩) (by assumption) ?_
      rotate_left
      · (intro w hSw; (try dsimp only at hSw); first | (go_simp; done) | (go_simp; with_reducible rfl))
      try simp only [List.getElem_toArray, List.getElem_cons_succ, List.getElem_cons_zero, Act.put, List.setIfInBounds_toArray, List.set_cons_zero, List.set_cons_succ]
      refine wpAnyH_take (i := 5) (v := ?_) rfl (by kernel_rfl) (by kernel_rfl) (by kernel_rfl) (fun _ _ _ h => h) (Or.inl ⟨by rfl, ?_⟩) (by assumption) ?_
      rotate_left
      · (intro w hSw; (try dsimp only at hSw); first | (go_simp; done) | (go_simp; with_reducible rfl))
      try simp only [List.getElem_toArray, List.getElem_cons_succ, List.getElem_cons_zero, Act.put, List.setIfInBounds_toArray, List.set_cons_zero, List.set_cons_succ]
      refine wpAnyH_take (i := 6) (v := ?_) rfl (by kernel_rfl) (by kernel_rfl) (by kernel_rfl) (fun _ _ _ h => h) (Or.inl ⟨by rfl, ?_⟩) (by assumption) ?_
      rotate_left
      · (intro w hSw; (try dsimp only at hSw); first | (go_simp; done) | (go_simp; with_reducible rfl))
      try simp only [List.getElem_toArray, List.getElem_cons_succ, List.getElem_cons_zero, Act.put, List.setIfInBounds_toArray, List.set_cons_zero, List.set_cons_succ]
      refine wpAnyH_take (i := 7) (v := ?_) rfl (by kernel_rfl) (by kernel_rfl) (by kernel_rfl) (fun _ _ _ h => h) (Or.inl ⟨by rfl, ?_⟩) (by assumption) ?_
      rotate_left
      · (intro w hSw; (try dsimp only at hSw); first | (go_simp; done) | (go_simp; with_reducible rfl))
      try simp only [List.getElem_toArray, List.getElem_cons_succ, List.getElem_cons_zero, Act.put, List.setIfInBounds_toArray, List.set_cons_zero, List.set_cons_succ]
      refine wpAnyH_take (i := 8) (v := ?_) rfl (by kernel_rfl) (by kernel_rfl) (by kernel_rfl) (fun _ _ _ h => h) (Or.inl ⟨by rfl, ?_⟩) (by assumption) ?_
      rotate_left
      · (intro w hSw; (try dsimp only at hSw); first | (go_simp; done) | (go_simp; with_reducible rfl))
      try simp only [List.getElem_toArray, List.getElem_cons_succ, List.getElem_cons_zero, Act.put, List.setIfInBounds_toArray, List.set_cons_zero, List.set_cons_succ]
      refine wpAnyH_take (i := 9) (v := ?_) rfl (by kernel_rfl) (by kernel_rfl) (by kernel_rfl) (fun _ _ _ h => h) (Or.inl ⟨by rfl, ?_⟩) (by assumption) ?_
      rotate_left
      · (intro w hSw; (try dsimp only at hSw); first | (go_simp; done) | (go_simp; with_reducible rfl))
      try simp only [List.getElem_toArray, List.getElem_cons_succ, List.getElem_cons_zero, Act.put, List.setIfInBounds_toArray, List.set_cons_zero, List.set_cons_succ]
      refine wpAnyH_take (i := 10) (v := ?_) rfl (by kernel_rfl) (by kernel_rfl) (by kernel_rfl) (fun _ _ _ h => h) (Or.inl ⟨by rfl, ?_⟩) (by assumption) ?_
      rotate_left
      · (intro w hSw; (try dsimp only at hSw); first | (go_simp; done) | (go_simp; with_reducible rfl))
      try simp only [List.getElem_toArray, List.getElem_cons_succ, List.getElem_cons_zero, Act.put, List.setIfInBounds_toArray, List.set_cons_zero, List.set_cons_succ]
      refine wpAnyH_take (i := 11) (v := ?_) rfl (by kernel_rfl) (by kernel_rfl) (by kernel_rfl) (fun _ _ _ h => h) (Or.inl ⟨by rfl, ?_⟩) (by assumption) ?_
      rotate_left
      · (intro w hSw; (try dsimp only at hSw); have hq := eqlP_other hxy hSw.2.2.1 hSw.2.2.2; first | (go_simp; done) | (go_simp; with_reducible rfl))
      try simp only [List.getElem_toArray, List.getElem_cons_succ, List.getElem_cons_zero, Act.put, List.setIfInBounds_toArray, List.set_cons_zero, List.set_cons_succ]
      refine wpAnyH_take (i := 12) (v := ?_) rfl (by kernel_rfl) (by kernel_rfl) (by kernel_rfl) (fun _ _ _ h => h) (Or.inl ⟨by rfl, ?_⟩) (by assumption) ?_
      rotate_left
      · (intro w hSw; (try dsimp only at hSw); first | (go_simp; done) | (go_simp; with_reducible rfl))
      try simp only [List.getElem_toArray, List.getElem_cons_succ, List.getElem_cons_zero, Act.put, List.setIfInBounds_toArray, List.set_cons_zero, List.set_cons_succ]
      refine wpAnyH_done (by kernel_rfl) ?_ _
      go_wp2
      have la := World.block_lt_of_cell? _ _ q0
      go_region_held3 (fun w' => w'.cell? ⟨H, 0, none⟩ = some (.slice (some ⟨bl, off, none⟩) n cp) ∧ w'.cell? ⟨H, 1, none⟩ = some (.slice (some ⟨bl', off', none⟩) n cp')) (first | go_keep | exact ⟨q0, q1⟩) (fail)
      obtain ⟨wk, hwk⟩ : ∃ v, v = (wb.alloc (.cells #[.pointer (some ⟨bl, off, none⟩), .pointer (some ⟨bl', off', none⟩), .int .i64 n] 74)).drew.drew := ⟨_, rfl⟩
      have r0 : wk.cell? ⟨wb.heap.size, 0, none⟩ = some (.pointer (some ⟨bl, off, none⟩)) := by rw [hwk]; simp [go_sem]
      have r1 : wk.cell? ⟨wb.heap.size, 1, none⟩ = some (.pointer (some ⟨bl', off', none⟩)) := by rw [hwk]; simp [go_sem]
      have r2 : wk.cell? ⟨wb.heap.size, 2, none⟩ = some (.int .i64 n) := by rw [hwk]; simp [go_sem]
      have bk : Below wb.heap.size wb wk := by rw [hwk]; exact (((Below.refl _ _).alloc (Nat.le_refl _) _).drew).drew
      rw [← hwk]
      clear hwk
      have BK : Below w.heap.size w wk := (unhide HB).trans (bk.mono (unhide HB).size)
      have hB' := hB
      have mM := (unhide HM).keep (BK.block B hB)
      have mP := (unhide HP).later (BK.mono hhi)
      have mL : ∀ g, g ∈ L → Lies wk lo hi g := fun g hg => (unhide HL g hg).keep (fun b o _ h => BK.cell (p := ⟨b, o, none⟩) (Nat.lt_of_lt_of_le h hhi))
      have mF : Lies wk lo hi f := (unhide HF).keep (fun b o _ h => BK.cell (p := ⟨b, o, none⟩) (Nat.lt_of_lt_of_le h hhi))
      obtain ⟨was, hrun, hwas⟩ := met_look mP mL mM f mF _ _ (unhide HX) (unhide HY) (by rw [unhide HN]; exact k0)
      have ba : Below wk.heap.size wk (wk.alloc (.cells #[] 75)) := (Below.refl _ _).alloc (Nat.le_refl _) _
      have BA := BK.trans (ba.mono BK.size)
      obtain ⟨wu, hup, uM, uM', ug⟩ := met_put (w := wk.alloc (.cells #[] 75)) ((unhide HP).later (BA.mono hhi)) (fun g hg => (unhide HL g hg).keep (fun b o _ h => BA.cell (p := ⟨b, o, none⟩) (Nat.lt_of_lt_of_le h hhi))) ((unhide HM).keep (BA.block B hB)) f ((unhide HF).keep (fun b o _ h => BA.cell (p := ⟨b, o, none⟩) (Nat.lt_of_lt_of_le h hhi))) _ _ (unhide HX) (unhide HY) (by rw [unhide HN]; exact k0)
      unfold KP at hrun hup
      rw [unhide HN] at hrun hup
      have hg : w.grownBy wu (some B) := grown_trans (grown_of_below BA) ug
      have HG := hide hg
      have HU := hide uM
      have HU' := hide uM'
      have HW := hide hwas
      have lk := World.block_lt_of_cell? _ _ r0
      clear hg uM uM' hwas mM mP mL mF ba BA BK ug bk
      generalize wb.heap.size = A at *
      cases was
      · go_wp2
        go_ret
        exact ⟨Or.inr ⟨rfl, unhide HU⟩, unhide HG⟩
      · go_wp2
        go_ret
        exact ⟨Or.inl ⟨rfl, unhide HU' (unhide HW (by trivial)), Or.inr (met_same (unhide HL) (unhide HF) (unhide HW (by trivial)))⟩, unhide HG⟩
end Go.Proofs.Ytbcojkadfbpmgaa
