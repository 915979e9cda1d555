/- What the model's bending of a term returns: some term; the reader moves on, nothing else that was there turns. -/
import Derived.Test.YtmdelmpdnmhpmaaDrwU
namespace Go.Proofs.Ytmdelmpdnmhpmaa
open Go.ChangeShapes Go.WideShapes Go.ChangeAt Go.RowKit Go.Joins
set_option linter.unusedVariables false
set_option linter.unusedSimpArgs false

/-- The Kids lie in memory, their lists in blocks of which something holds. -/
def TT.InS (w : World) (Q : Nat → Prop) : TT → Option Addr → Prop
  | .nil, _ => False
  | .node _ _ _ _ n kid, ad => n = 0 ∨ ∃ bl off, ad = some ⟨bl, off, none⟩ ∧ Q bl ∧ ∃ (AD : Nat → Option Addr) (CP : Nat → Nat), ∀ i, i < n → Five w bl (off + i * 5) (kid i) (AD i) (CP i) ∧ (kid i).n ≤ CP i ∧ (kid i).InS w Q (AD i)
theorem InS.of {w : World} {lo hi : Nat} {Q : Nat → Prop} (hQ : ∀ b, lo ≤ b → b < hi → Q b) : ∀ (t : TT) (ad : Option Addr), t.In w lo hi ad → t.InS w Q ad
  | .nil, _, h => h.elim
  | .node _ _ _ _ n kid, ad, h => by
    rcases h with h | ⟨bl, off, h1, h2, h3, AD, CP, h4⟩
    · exact Or.inl h
    · exact Or.inr ⟨bl, off, h1, hQ bl h2 h3, AD, CP, fun i hi => ⟨(h4 i hi).1, (h4 i hi).2.1, InS.of hQ (kid i) (AD i) (h4 i hi).2.2⟩⟩
theorem InS.to {w : World} {lo : Nat} {Q : Nat → Prop} (hQ : ∀ b, Q b → lo ≤ b) : ∀ (t : TT) (ad : Option Addr), t.InS w Q ad → t.In w lo w.heap.size ad
  | .nil, _, h => h.elim
  | .node _ _ _ _ n kid, ad, h => by
    rcases h with h | ⟨bl, off, h1, h2, AD, CP, h4⟩
    · exact Or.inl h
    · by_cases h0 : n = 0
      · exact Or.inl h0
      · exact Or.inr ⟨bl, off, h1, hQ bl h2, World.block_lt_of_cell? _ _ (h4 0 (by omega)).1.1, AD, CP, fun i hi => ⟨(h4 i hi).1, (h4 i hi).2.1, InS.to hQ (kid i) (AD i) (h4 i hi).2.2⟩⟩
theorem InS.keep {w w' : World} {Q : Nat → Prop} (hk : ∀ b o v, Q b → w.cell? ⟨b, o, none⟩ = some v → w'.cell? ⟨b, o, none⟩ = some v) : ∀ (t : TT) (ad : Option Addr), t.InS w Q ad → t.InS w' Q ad
  | .nil, _, h => h.elim
  | .node _ _ _ _ n kid, ad, h => by
    rcases h with h | ⟨bl, off, h1, h2, AD, CP, h4⟩
    · exact Or.inl h
    · exact Or.inr ⟨bl, off, h1, h2, AD, CP, fun i hi => by
        obtain ⟨⟨f0, f1, f2, f3, f4⟩, g, k⟩ := h4 i hi
        exact ⟨⟨hk _ _ _ h2 f0, hk _ _ _ h2 f1, hk _ _ _ h2 f2, hk _ _ _ h2 f3, hk _ _ _ h2 f4⟩, g, InS.keep hk (kid i) (AD i) k⟩⟩
theorem InS.head {w : World} {Q : Nat → Prop} {t : TT} {ad : Option Addr} (h : t.InS w Q ad) (op a b : Int) (s : ByteArray) : (TT.node op a b s t.n t.kid).InS w Q ad := by
  cases t with
  | nil => exact h.elim
  | node _ _ _ _ n kid => exact h
theorem fit_head {t : TT} (h : t.Fit 1048576) (op a b : Int) (s : ByteArray) (hs : s.size ≤ 1048576) : (TT.node op a b s t.n t.kid).Fit 1048576 := by
  cases t with
  | nil => exact ⟨by simp [TT.n], hs, fun i hi => by simp [TT.n] at hi⟩
  | node _ _ _ _ n kid => exact ⟨h.1, hs, h.2.2⟩
theorem fit_s {t : TT} (h : t.Fit 1048576) : t.s.size ≤ 1048576 := by
  cases t with
  | nil => simp [TT.s]
  | node _ _ _ _ n kid => exact h.2.1
theorem fit_nn {t : TT} (h : t.Fit 1048576) : t.n ≤ 1048576 := by
  cases t with
  | nil => simp [TT.n]
  | node _ _ _ _ n kid => exact h.1
theorem Five.mov {w w' : World} {bl o R : Nat} {t : TT} {ad : Option Addr} {cp : Nat} (h : Five w bl o t ad cp) (hm : Mov R w w') (hR : bl ≠ R) : Five w' bl o t ad cp :=
  ⟨hm.cell h.1 hR, hm.cell h.2.1 hR, hm.cell h.2.2.1 hR, hm.cell h.2.2.2.1 hR, hm.cell h.2.2.2.2 hR⟩
/-- The cells of Kids. -/
def kc (kid : Nat → TT) (AD : Nat → Option Addr) (CP : Nat → Nat) : Nat → List Value
  | 0 => []
  | n + 1 => kc kid AD CP n ++ [.int .i64 (kid n).op, .int .i64 (kid n).a, .int .i64 (kid n).b, .string (kid n).s, .slice (AD n) (kid n).n (CP n)]
theorem kc_len (kid : Nat → TT) (AD : Nat → Option Addr) (CP : Nat → Nat) : ∀ n, (kc kid AD CP n).length = n * 5
  | 0 => rfl
  | n + 1 => by simp [kc, kc_len kid AD CP n]; omega
theorem kc_cells {w : World} {bl off : Nat} {kid : Nat → TT} {AD : Nat → Option Addr} {CP : Nat → Nat} : ∀ n, (∀ i, i < n → Five w bl (off + i * 5) (kid i) (AD i) (CP i)) → ∀ j u, (kc kid AD CP n)[j]? = some u → w.cell? ⟨bl, off + j, none⟩ = some u
  | 0, _, j, u, h => by simp [kc] at h
  | n + 1, hf, j, u, h => by
    have hl := kc_len kid AD CP n
    by_cases hj : j < n * 5
    · refine kc_cells n (fun i hi => hf i (by omega)) j u ?_
      rw [kc, List.getElem?_append_left (by omega)] at h
      exact h
    · obtain ⟨f0, f1, f2, f3, f4⟩ := hf n (by omega)
      rw [kc, List.getElem?_append_right (by omega), hl] at h
      have hr : j - n * 5 < 5 := by
        have := (List.getElem?_eq_some_iff.1 h).1
        simpa using this
      have hc : j = n * 5 ∨ j = n * 5 + 1 ∨ j = n * 5 + 2 ∨ j = n * 5 + 3 ∨ j = n * 5 + 4 := by omega
      rcases hc with e | e | e | e | e
      · subst e; simp at h; rw [← h]; exact f0
      · subst e; simp at h; rw [← h, ← Nat.add_assoc]; exact f1
      · subst e; simp at h; rw [← h, ← Nat.add_assoc]; exact f2
      · subst e; simp at h; rw [← h, ← Nat.add_assoc]; exact f3
      · subst e; simp at h; rw [← h, ← Nat.add_assoc]; exact f4
theorem kc_one (kid : Nat → TT) (AD : Nat → Option Addr) (CP : Nat → Nat) : ∀ n, ∀ u ∈ kc kid AD CP n, u.oneCell' = true
  | 0, u, h => by simp [kc] at h
  | n + 1, u, h => by
    rw [kc, List.mem_append] at h
    rcases h with h | h
    · exact kc_one kid AD CP n u h
    · simp at h
      rcases h with rfl | rfl | rfl | rfl | rfl <;> rfl
theorem kc_at (kid : Nat → TT) (AD : Nat → Option Addr) (CP : Nat → Nat) : ∀ n i, i < n → (kc kid AD CP n)[i * 5]? = some (.int .i64 (kid i).op) ∧ (kc kid AD CP n)[i * 5 + 1]? = some (.int .i64 (kid i).a) ∧ (kc kid AD CP n)[i * 5 + 2]? = some (.int .i64 (kid i).b) ∧ (kc kid AD CP n)[i * 5 + 3]? = some (.string (kid i).s) ∧ (kc kid AD CP n)[i * 5 + 4]? = some (.slice (AD i) (kid i).n (CP i))
  | 0, i, h => by omega
  | n + 1, i, h => by
    have hl := kc_len kid AD CP n
    by_cases hi : i < n
    · obtain ⟨a, b, c, d, e⟩ := kc_at kid AD CP n i hi
      rw [kc]
      refine ⟨?_, ?_, ?_, ?_, ?_⟩
      · rw [List.getElem?_append_left (by omega)]; exact a
      · rw [List.getElem?_append_left (by omega)]; exact b
      · rw [List.getElem?_append_left (by omega)]; exact c
      · rw [List.getElem?_append_left (by omega)]; exact d
      · rw [List.getElem?_append_left (by omega)]; exact e
    · obtain rfl : i = n := by omega
      rw [kc]
      refine ⟨?_, ?_, ?_, ?_, ?_⟩
      · rw [List.getElem?_append_right (by omega), hl]; simp
      · rw [List.getElem?_append_right (by omega), hl]; simp
      · rw [List.getElem?_append_right (by omega), hl]; simp
      · rw [List.getElem?_append_right (by omega), hl]; simp
      · rw [List.getElem?_append_right (by omega), hl]; simp
theorem own_five {w : World} {base g n cap : Nat} {e : TypeId} {kid : Nat → TT} {AD : Nat → Option Addr} {CP : Nat → Nat} (h : w.ownsRow base e 5 (.slice (some ⟨g, 0, none⟩) n cap) n (kc kid AD CP n)) : ∀ i, i < n → Five w g (0 + i * 5) (kid i) (AD i) (CP i) := by
  intro i hi
  obtain ⟨a, b, c, d, f⟩ := kc_at kid AD CP n i hi
  have hc := h.cells (g := g) rfl
  have rd : ∀ j u, (kc kid AD CP n)[j]? = some u → w.cell? ⟨g, j, none⟩ = some u := fun j u hj => by
    have := hc j u hj
    rwa [Go.WideShapes.add_plain, Nat.zero_add] at this
  rw [Nat.zero_add]
  exact ⟨rd _ _ a, rd _ _ b, rd _ _ c, rd _ _ d, rd _ _ f⟩
theorem infoTermV : (Try.prog.info? 25).map (fun i => (i.zero, i.size, i.bytes)) = some (some (.agg #[.int .i64 0, .int .i64 0, .int .i64 0, .string ByteArray.empty, .slice none 0 0]), 5, 64) := by kernel_rfl
/-- Kids appended to an empty list. -/
theorem kids_append (w : World) (g : Nat) (Q : Nat → Prop) (t : TT) (ad : Option Addr) (cp : Nat) (hg : w.heap[g]? = some (.cells #[] 25 (0, 0))) (hin : t.InS w Q ad) (hn : t.n ≤ 1048576) (hgl : g ≤ w.heap.size) :
    ∃ g' cap' w' kid AD CP, (Builtin.append_ #[23, 23] 23 #[.slice (some ⟨g, 0, none⟩) 0 0, .slice ad t.n cp]).run Try.prog w = .ok (.slice (some ⟨g', 0, none⟩) t.n cap') w' ∧ w'.ownsRow g 25 5 (.slice (some ⟨g', 0, none⟩) t.n cap') t.n (kc kid AD CP t.n) ∧ w.grownBy w' (some g) ∧ (g' = g ∨ g' = w.heap.size) ∧
      ∀ i, i < t.n → kid i = t.kid i ∧ (kid i).n ≤ CP i ∧ (kid i).InS w Q (AD i) := by
  obtain ⟨i0, hi, hzz⟩ := Option.map_eq_some_iff.1 infoTermV
  simp only [Prod.mk.injEq] at hzz
  obtain ⟨hz, hs, hb⟩ := hzz
  have own0 : w.ownsRow g 25 5 (.slice (some ⟨g, 0, none⟩) 0 0) 0 [] := ⟨rfl, .inr ⟨g, 0, #[], rfl, Nat.le_refl _, hg, Nat.le_refl _, by unfold maxLen; omega, rfl, rfl⟩⟩
  cases t with
  | nil => exact hin.elim
  | node op a b s n kid =>
    have hn' : n ≤ 1048576 := hn
    by_cases h0 : n = 0
    · subst h0
      refine ⟨g, 0, w, kid, fun _ => none, fun _ => 0, ?_, own0, ⟨rfl, rfl, rfl, Nat.le_refl _, fun _ _ _ => rfl⟩, Or.inl rfl, fun i hi => by have : i < 0 := hi; omega⟩
      show (Builtin.append_ _ _ #[_, .slice ad 0 cp]).run _ w = _
      cases ad with
      | none => simp [Builtin.append_, run_underlying Try.underlying23, sizeOf, typeInfo, hi, Builtin.lenOf, Builtin.firstCells, storeCells, TT.n]
      | some a => simp [Builtin.append_, run_underlying Try.underlying23, sizeOf, typeInfo, hi, Builtin.lenOf, Builtin.firstCells, loadCells, loadCellsFrom, storeCells, TT.n]
    · obtain ⟨bl, off, rfl, hq, AD, CP, hk⟩ := hin.resolve_left h0
      obtain ⟨g', cap', w', h1, h2, h3, h4⟩ := append_where (P := Try.prog) w g 23 23 25 i0 _ 5 64 Try.underlying23 hi hz hs hb rfl (by omega) g 0 0 [] own0 ⟨bl, off, none⟩ n cp (kc kid AD CP n) (kc_len _ _ _ _) (by
        intro j u hj
        rw [Go.WideShapes.add_plain]
        exact kc_cells n (fun i hi => (hk i hi).1) j u hj) (kc_one _ _ _ _) (by unfold maxLen; omega) (by omega) hgl
      simp only [Nat.zero_add, List.nil_append] at h1 h2
      exact ⟨g', cap', w', kid, AD, CP, h1, h2, h3, h4, fun i hi => ⟨rfl, (hk i hi).2.1, (hk i hi).2.2⟩⟩
end Go.Proofs.Ytmdelmpdnmhpmaa
