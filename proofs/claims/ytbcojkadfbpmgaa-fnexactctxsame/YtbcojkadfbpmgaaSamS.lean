/- The list of pairs that are still to be walked, in memory. -/
import Derived.Test.YtbcojkadfbpmgaaSamB
import Derived.Test.YtbcojkadfbpmgaaHsA
import Derived.Test.YtbcojkadfbpmgaaAppA
namespace Go.Proofs.Ytbcojkadfbpmgaa
open Go.ChangeShapes Go.WideShapes Go.ChangeAt Go.RowKit Go.Joins
set_option linter.unusedVariables false

def Fr.cells (f : Fr) : List Value := [.slice f.ad f.t.n f.cp, .slice f.ad' f.u.n f.cp']
def flat (L : List Fr) : List Value := L.flatMap Fr.cells
theorem flat_snoc (L : List Fr) (f : Fr) : flat (L ++ [f]) = flat L ++ f.cells := by simp [flat]
theorem flat_len (L : List Fr) : (flat L).length = L.length * 2 := by
  induction L with
  | nil => rfl
  | cons f L ih =>
    have : flat (f :: L) = f.cells ++ flat L := rfl
    rw [this, List.length_append, ih]
    simp [Fr.cells]
    omega
def Stk (w : World) (base : Nat) (v : Value) (L : List Fr) : Prop := w.ownsRow base 69 2 v L.length (flat L)
theorem Stk.nil {w : World} {base : Nat} {v : Value} (h : Stk w base v []) : ∃ a cap, v = .slice a 0 cap := by
  rcases h.2 with ⟨h1, _⟩ | ⟨g, cap, cur, h1, _⟩
  · exact ⟨_, _, h1⟩
  · exact ⟨_, _, h1⟩
theorem Stk.top {w : World} {base : Nat} {v : Value} {L : List Fr} {q : Fr} (h : Stk w base v (L ++ [q])) :
    ∃ g cap, v = .slice (some ⟨g, 0, none⟩) (L.length + 1) cap ∧ base ≤ g ∧ g < w.heap.size ∧ L.length + 1 ≤ cap ∧ w.cell? ⟨g, L.length * 2, none⟩ = some (.slice q.ad q.t.n q.cp) ∧ w.cell? ⟨g, L.length * 2 + 1, none⟩ = some (.slice q.ad' q.u.n q.cp') ∧
      Stk w base (.slice (some ⟨g, 0, none⟩) L.length cap) L := by
  have h' := h
  obtain ⟨h0, h1⟩ := h
  rw [List.length_append] at h1
  rcases h1 with ⟨_, h2⟩ | ⟨g, cap, cur, rfl, hb, hg, hnc, hcm, hcs, ht⟩
  · simp at h2
  · simp only [List.length_singleton] at hnc ht ⊢
    have hlt : g < w.heap.size := (Array.getElem?_eq_some_iff.1 hg).1
    have hc := h'.cells (g := g) rfl
    rw [flat_snoc] at hc
    have hfl := flat_len L
    refine ⟨g, cap, rfl, hb, hlt, hnc, ?_, ?_, ⟨hfl, .inr ⟨g, cap, cur, rfl, hb, hg, by omega, hcm, hcs, ?_⟩⟩⟩
    · have := hc (L.length * 2) (.slice q.ad q.t.n q.cp) (by rw [← hfl]; simp [Fr.cells])
      rwa [show (⟨g, 0, none⟩ : Addr).add (L.length * 2) = ⟨g, L.length * 2, none⟩ by rw [Go.WideShapes.add_plain, Nat.zero_add]] at this
    · have := hc (L.length * 2 + 1) (.slice q.ad' q.u.n q.cp') (by rw [← hfl, List.getElem?_append_right (by omega)]; simp [Fr.cells])
      rwa [show (⟨g, 0, none⟩ : Addr).add (L.length * 2 + 1) = ⟨g, L.length * 2 + 1, none⟩ by rw [Go.WideShapes.add_plain, Nat.zero_add]] at this
    · rw [flat_snoc] at ht
      have h3 : List.take (L.length * 2) cur.toList = List.take (L.length * 2) (List.take ((L.length + 1) * 2) cur.toList) := by rw [List.take_take]; congr 1; omega
      rw [h3, ht, ← hfl]
      exact List.take_left
theorem Stk.keep {w w' : World} {base : Nat} {v : Value} {L : List Fr} {row : Option Nat} (h : Stk w base v L) (hg : w.grownBy w' row) (hr : ∀ k, row = some k → k < base) : Stk w' base v L := by
  refine World.ownsRow.kept h hg ?_
  cases hv : v.ownBlock with
  | none => exact Or.inl rfl
  | some k =>
    right
    intro e
    have := (World.ownsRow.lt h k hv).1
    have := hr k e.symm
    omega
theorem Met.hole {w : World} {B : Nat} {L : List Fr} (h : Met w B L) (o : Nat) : w.cell? ⟨B, o, none⟩ = none := by
  obtain ⟨es, clock, h1, _⟩ := h
  simp [World.cell?, h1]
/-- A pair whose lists lie below hi, and whose Kids' lists lie from lo on and below h0. -/
def Lk (w : World) (lo h0 hi : Nat) (f : Fr) : Prop := f.t.n = f.u.n ∧ f.t.N = 1 + sumN (fun j => (f.t.kid j).N) f.t.n ∧
  ∀ i, i < f.t.n → ∃ bl off bl' off' AD CP AD' CP', f.ad = some ⟨bl, off, none⟩ ∧ f.ad' = some ⟨bl', off', none⟩ ∧ bl < hi ∧ bl' < hi ∧
    Five w bl (off + i * 5) (f.t.kid i) AD CP ∧ Five w bl' (off' + i * 5) (f.u.kid i) AD' CP' ∧ (f.t.kid i).In w lo h0 AD ∧ (f.u.kid i).In w lo h0 AD'
theorem Lk.of {w : World} {lo h0 hi : Nat} {f : Fr} (h : Lies w lo h0 f) (hh : h0 ≤ hi) : Lk w lo h0 hi f := by
  obtain ⟨h1, h2, h3⟩ := h
  refine ⟨h3, ?_, ?_⟩
  · cases ht : f.t with
    | nil => rw [ht] at h1; exact h1.elim
    | node op a b s n kid => exact TT.N_node op a b s n kid
  · intro i hi'
    cases ht : f.t with
    | nil => rw [ht] at h1; exact h1.elim
    | node op a b s n kid =>
      cases hu : f.u with
      | nil => rw [hu] at h2; exact h2.elim
      | node op' a' b' s' n' kid' =>
        rw [ht] at h1 h3 hi'
        rw [hu] at h2 h3
        have e : n = n' := h3
        subst e
        have hi'' : i < n := hi'
        rcases h1 with h1 | ⟨bl, off, e1, _, l1, AD, CP, k1⟩
        · omega
        rcases h2 with h2 | ⟨bl', off', e2, _, l2, AD', CP', k2⟩
        · omega
        exact ⟨bl, off, bl', off', AD i, CP i, AD' i, CP' i, e1, e2, by omega, by omega, (k1 i hi'').1, (k2 i hi'').1, (k1 i hi'').2.2, (k2 i hi'').2.2⟩
theorem Lk.keep {w w' : World} {lo h0 hi : Nat} {f : Fr} (h : Lk w lo h0 hi f) (hh : h0 ≤ hi) (hk : ∀ b o, b < hi → w'.cell? ⟨b, o, none⟩ = w.cell? ⟨b, o, none⟩) : Lk w' lo h0 hi f := by
  obtain ⟨h1, h2, h3⟩ := h
  refine ⟨h1, h2, fun i hi' => ?_⟩
  obtain ⟨bl, off, bl', off', AD, CP, AD', CP', e1, e2, l1, l2, f1, f2, i1, i2⟩ := h3 i hi'
  exact ⟨bl, off, bl', off', AD, CP, AD', CP', e1, e2, l1, l2, f1.keep (fun o => hk bl o l1), f2.keep (fun o => hk bl' o l2), TT.In.keep (fun b o _ h => hk b o (by omega)) _ _ i1, TT.In.keep (fun b o _ h => hk b o (by omega)) _ _ i2⟩
/-- All that a walk keeps of memory. -/
def Kept (w : World) (lo h0 hi MB : Nat) (L M : List Fr) : Prop := (∀ f, f ∈ L → Lk w lo h0 hi f ∧ f.t.Fit 1048576) ∧ (∀ f, f ∈ M → Lies w lo h0 f) ∧ Pl w lo h0 ∧ Met w MB M ∧ hi ≤ w.heap.size ∧ h0 ≤ hi
theorem Kept.below {w w' : World} {lo h0 hi MB : Nat} {L M : List Fr} (h : Kept w lo h0 hi MB L M) (hb : Below w.heap.size w w') : Kept w' lo h0 hi MB L M := by
  obtain ⟨h1, h2, h3, h4, h5, h6⟩ := h
  have hk : ∀ b o, b < hi → w'.cell? ⟨b, o, none⟩ = w.cell? ⟨b, o, none⟩ := fun b o h => hb.cell (p := ⟨b, o, none⟩) (Nat.lt_of_lt_of_le h h5)
  exact ⟨fun f hf => ⟨(h1 f hf).1.keep h6 hk, (h1 f hf).2⟩, fun f hf => (h2 f hf).keep (fun b o _ h => hk b o (by omega)), h3.later (hb.mono (by omega)), h4.keep (hb.block _ h4.lt), Nat.le_trans h5 hb.size, h6⟩
/-- The same behind what turned the map. -/
theorem grown_cells {w w' : World} {MB : Nat} {M M' : List Fr} (hg : w.grownBy w' (some MB)) (h : Met w MB M) (h' : Met w' MB M') (b o : Nat) (hb : b < w.heap.size) : w'.cell? ⟨b, o, none⟩ = w.cell? ⟨b, o, none⟩ := by
  by_cases e : b = MB
  · subst e; rw [h.hole, h'.hole]
  · exact World.cell?_of_block (a := ⟨b, o, none⟩) (hg.block b hb (fun k => e (by injection k)))
theorem Kept.grown {w w' : World} {lo h0 hi MB : Nat} {L M M' : List Fr} (h : Kept w lo h0 hi MB L M) (hg : w.grownBy w' (some MB)) (hM : Met w' MB M') (hs : ∀ f, f ∈ M' → Lies w lo h0 f) : Kept w' lo h0 hi MB L M' := by
  obtain ⟨h1, h2, h3, h4, h5, h6⟩ := h
  have hk : ∀ b o, b < hi → w'.cell? ⟨b, o, none⟩ = w.cell? ⟨b, o, none⟩ := fun b o h => grown_cells hg h4 hM b o (Nat.lt_of_lt_of_le h h5)
  refine ⟨fun f hf => ⟨(h1 f hf).1.keep h6 hk, (h1 f hf).2⟩, fun f hf => (hs f hf).keep (fun b o _ h => hk b o (by omega)), ?_, hM, Nat.le_trans h5 hg.size, h6⟩
  intro b b1 b2 o v hc
  by_cases e : b = MB
  · subst e; rw [hM.hole] at hc; cases hc
  · rw [hg.block b (by omega) (fun k => e (by injection k))]
    exact h3 b b1 b2 o v (by rw [← hk b o (by omega)]; exact hc)
/-- The same behind what turned the list itself, which lies above. -/
theorem Kept.stack {w w' : World} {lo h0 hi MB : Nat} {L M : List Fr} {g : Nat} (h : Kept w lo h0 hi MB L M) (hg : w.grownBy w' (some g)) (h1' : hi ≤ g) (h2' : MB < g) : Kept w' lo h0 hi MB L M := by
  obtain ⟨h1, h2, h3, h4, h5, h6⟩ := h
  have hb : ∀ b, b < hi → w'.heap[b]? = w.heap[b]? := fun b hb => hg.block b (Nat.lt_of_lt_of_le hb h5) (fun e => by injection e; omega)
  have hk : ∀ b o, b < hi → w'.cell? ⟨b, o, none⟩ = w.cell? ⟨b, o, none⟩ := fun b o h => World.cell?_of_block (a := ⟨b, o, none⟩) (hb b h)
  exact ⟨fun f hf => ⟨(h1 f hf).1.keep h6 hk, (h1 f hf).2⟩, fun f hf => (h2 f hf).keep (fun b o _ h => hk b o (by omega)), h3.keep (fun b _ h => hb b (by omega)), h4.keep (hg.block _ h4.lt (fun e => by injection e; omega)), Nat.le_trans h5 hg.size, h6⟩
theorem Kept.push {w : World} {lo h0 hi MB : Nat} {L M : List Fr} {f : Fr} (h : Kept w lo h0 hi MB L M) (hf : Lies w lo h0 f) (hF : f.t.Fit 1048576) : Kept w lo h0 hi MB (L ++ [f]) M := by
  obtain ⟨h1, h2, h3, h4, h5, h6⟩ := h
  refine ⟨fun g hg => ?_, h2, h3, h4, h5, h6⟩
  rcases List.mem_append.1 hg with hg | hg
  · exact h1 g hg
  · simp only [List.mem_singleton] at hg
    subst hg
    exact ⟨Lk.of hf h6, hF⟩
theorem Kept.sub {w : World} {lo h0 hi MB : Nat} {L L' M : List Fr} (h : Kept w lo h0 hi MB L M) (hs : ∀ f, f ∈ L' → f ∈ L) : Kept w lo h0 hi MB L' M := ⟨fun f hf => h.1 f (hs f hf), h.2⟩
theorem msr_len {w : World} {lo h0 hi : Nat} : ∀ (L : List Fr), (∀ f, f ∈ L → Lk w lo h0 hi f ∧ f.t.Fit 1048576) → L.length ≤ msr L
  | [], _ => Nat.zero_le _
  | f :: L, h => by
    have h1 := (h f (by simp)).1.2.1
    have h2 := msr_len L (fun g hg => h g (by simp [hg]))
    have : msr (f :: L) = f.t.N + msr L := by simp [msr]
    simp only [List.length_cons]
    omega
/-- The least number of those that there are. -/
theorem least_ex (p : Nat → Prop) (h : ∃ m, p m) : ∃ m, p m ∧ ∀ k, p k → m ≤ k := by
  obtain ⟨m, hm⟩ := h
  induction m using Nat.strongRecOn with
  | ind m ih =>
    by_cases hx : ∃ k, k < m ∧ p k
    · obtain ⟨k, h1, h2⟩ := hx
      exact ih k h1 h2
    · exact ⟨m, hm, fun k hk => Nat.le_of_not_lt (fun hlt => hx ⟨k, hlt, hk⟩)⟩
noncomputable def least (p : Nat → Prop) : Nat := by classical exact if h : ∃ m, p m then (least_ex p h).choose else 0
theorem least_at {p : Nat → Prop} (h : ∃ m, p m) : p (least p) := by
  unfold least
  rw [dif_pos h]
  exact (least_ex p h).choose_spec.1
theorem least_le {p : Nat → Prop} {m : Nat} (h : p m) : least p ≤ m := by
  unfold least
  rw [dif_pos ⟨m, h⟩]
  exact (least_ex p ⟨m, h⟩).choose_spec.2 m h
theorem infoPair : (Try.prog.info? 69).map (fun i => (i.zero, i.size, i.bytes)) = some (some (.agg #[.slice none 0 0, .slice none 0 0]), 2, 48) := by kernel_rfl
/-- One pair more. -/
theorem stk_append (w : World) (base g cap : Nat) (L : List Fr) (f : Fr) (T : Nat) (hown : Stk w base (.slice (some ⟨g, 0, none⟩) L.length cap) L)
    (c0 : w.cell? ⟨T, 0, none⟩ = some (.slice f.ad f.t.n f.cp)) (c1 : w.cell? ⟨T, 1, none⟩ = some (.slice f.ad' f.u.n f.cp')) (hlen : L.length ≤ 1048600) (hbase : base ≤ w.heap.size) :
    ∃ g' cap' w', (Builtin.append_ #[70, 70] 70 #[.slice (some ⟨g, 0, none⟩) L.length cap, .slice (some ⟨T, 0, none⟩) 1 1]).run Try.prog w = .ok (.slice (some ⟨g', 0, none⟩) (L.length + 1) cap') w' ∧ Stk w' base (.slice (some ⟨g', 0, none⟩) (L ++ [f]).length cap') (L ++ [f]) ∧ w.grownBy w' (some g) ∧ (g' = g ∨ g' = w.heap.size) := by
  obtain ⟨i, hi, hzz⟩ := Option.map_eq_some_iff.1 infoPair
  simp only [Prod.mk.injEq] at hzz
  obtain ⟨hz, hs, hb⟩ := hzz
  obtain ⟨g', cap', w', h1, h2, h3, h4⟩ := append_where (P := Try.prog) w base 70 70 69 i _ 2 48 Try.underlying70 hi hz hs hb rfl (by omega) g L.length cap (flat L) hown ⟨T, 0, none⟩ 1 1 f.cells rfl (by
    intro j u hj
    rw [Go.WideShapes.add_plain, Nat.zero_add]
    match j, hj with
    | 0, hj => simp [Fr.cells] at hj; rw [← hj]; exact c0
    | 1, hj => simp [Fr.cells] at hj; rw [← hj]; exact c1
    | j + 2, hj => simp [Fr.cells] at hj) (by intro u hu; simp [Fr.cells] at hu; rcases hu with rfl | rfl <;> rfl) (by unfold maxLen; omega) (by omega) hbase
  refine ⟨g', cap', w', h1, ?_, h3, h4⟩
  unfold Stk
  rw [flat_snoc, List.length_append, List.length_singleton]
  exact h2
end Go.Proofs.Ytbcojkadfbpmgaa
