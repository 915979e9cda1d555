/- Appends of terms: those of a list behind a list of one's own. -/
import Derived.Test.YtfopmobopmdahaaGreatLyrB
namespace Go.Proofs.YtfopmobopmdahaaGreat
open Go.ChangeShapes Go.WideShapes Go.ChangeAt Go.RowKit Go.Joins
set_option linter.unusedVariables false

/-- A term, with where its Kids lie. -/
abbrev Lt := TT × Option Addr × Nat
def tcell (p : Lt) : List Value := [.int .i64 p.1.op, .int .i64 p.1.a, .int .i64 p.1.b, .string p.1.s, .slice p.2.1 p.1.n p.2.2]
def tcells (L : List Lt) : List Value := L.flatMap tcell
theorem tcells_app (L M : List Lt) : tcells (L ++ M) = tcells L ++ tcells M := by simp [tcells]
theorem tcells_size : ∀ (L : List Lt), (tcells L).length = L.length * 5
  | [] => rfl
  | p :: L => by
    have e : tcells (p :: L) = tcell p ++ tcells L := rfl
    rw [e, List.length_append, tcells_size L]; simp [tcell]; omega
theorem tcells_cell {L : List Lt} : ∀ u ∈ tcells L, u.oneCell' = true := by
  intro u hu
  unfold tcells at hu
  rw [List.mem_flatMap] at hu
  obtain ⟨p, _, h⟩ := hu
  unfold tcell at h
  simp only [List.mem_cons, List.not_mem_nil, or_false] at h
  rcases h with h | h | h | h | h <;> subst h <;> rfl
theorem tcells_at : ∀ (L : List Lt) (i j : Nat) (h : i < L.length), j < 5 → (tcells L)[i * 5 + j]? = (tcell L[i])[j]?
  | [], i, j, h, _ => by simp at h
  | p :: L, 0, j, h, hj => by
    have e : tcells (p :: L) = tcell p ++ tcells L := rfl
    rw [e, Nat.zero_mul, Nat.zero_add, List.getElem?_append_left (by simp [tcell]; omega)]
    rfl
  | p :: L, i + 1, j, h, hj => by
    have e : tcells (p :: L) = tcell p ++ tcells L := rfl
    have h' : i < L.length := by simpa using h
    have ih := tcells_at L i j h' hj
    have hl : (tcell p).length = 5 := rfl
    rw [e, List.getElem?_append_right (by rw [hl]; omega), hl, show (i + 1) * 5 + j - 5 = i * 5 + j by omega]
    simpa using ih
/-- The terms of a list, as they lie. -/
theorem tcells_lie {w : World} {b off : Nat} {L : List Lt} (h : ∀ i (hi : i < L.length), Five w b (off + i * 5) L[i].1 L[i].2.1 L[i].2.2) :
    ∀ j u, (tcells L)[j]? = some u → w.cell? ((⟨b, off, none⟩ : Addr).add j) = some u := by
  intro j u hj
  have hl : j < L.length * 5 := by
    have := (List.getElem?_eq_some_iff.1 hj).1
    rwa [tcells_size] at this
  have hi : j / 5 < L.length := by omega
  have hm : j % 5 < 5 := Nat.mod_lt _ (by omega)
  have e : j / 5 * 5 + j % 5 = j := by omega
  have ha := tcells_at L (j / 5) (j % 5) hi hm
  rw [e] at ha
  rw [ha] at hj
  obtain ⟨f0, f1, f2, f3, f4⟩ := h (j / 5) hi
  rw [Go.WideShapes.add_plain]
  have e2 : off + j = off + j / 5 * 5 + j % 5 := by omega
  rw [e2]
  have : j % 5 = 0 ∨ j % 5 = 1 ∨ j % 5 = 2 ∨ j % 5 = 3 ∨ j % 5 = 4 := by omega
  rcases this with q | q | q | q | q <;> rw [q] at hj ⊢ <;> simp [tcell] at hj <;> subst hj
  · exact f0
  · exact f1
  · exact f2
  · exact f3
  · exact f4
theorem infoTermS : (Tryz.prog.info? 50).map (fun i => (i.zero, i.size, i.bytes)) = some (some (.agg #[.int .i64 0, .int .i64 0, .int .i64 0, .string ByteArray.empty, .slice none 0 0]), 5, 64) := by kernel_rfl
/-- Terms behind those of a list of one's own. -/
theorem terms_more (w : World) (base g n cap : Nat) (L M : List Lt) (a : Addr) (m c : Nat) (hown : w.ownsRow base 50 5 (.slice (some ⟨g, 0, none⟩) n cap) n (tcells L)) (hm : M.length = m) (hM : ∀ j u, (tcells M)[j]? = some u → w.cell? (a.add j) = some u) (hk : n + m ≤ 4000000) (hbase : base ≤ w.heap.size) :
    ∃ g' cap' w', (Builtin.append_ #[48, 48] 48 #[.slice (some ⟨g, 0, none⟩) n cap, .slice (some a) m c]).run Tryz.prog w = .ok (.slice (some ⟨g', 0, none⟩) (n + m) cap') w' ∧ w'.ownsRow base 50 5 (.slice (some ⟨g', 0, none⟩) (n + m) cap') (n + m) (tcells (L ++ M)) ∧ w.grownBy w' (some g) ∧ (g' = g ∨ g' = w.heap.size) := by
  obtain ⟨i0, hi0, hzz⟩ := Option.map_eq_some_iff.1 infoTermS
  simp only [Prod.mk.injEq] at hzz
  obtain ⟨hz0, hz1, hz2⟩ := hzz
  rw [tcells_app]
  exact append_where (P := Tryz.prog) w base 48 48 50 i0 _ 5 64 Tryz.underlying48 hi0 hz0 hz1 hz2 rfl (by omega) g n cap (tcells L) hown a m c (tcells M) (by rw [tcells_size, hm]) hM tcells_cell (by unfold maxLen; omega) (by omega) hbase
theorem terms_none {w : World} {base X : Nat} (hX : w.heap[X]? = some (.cells #[] 50 (0, 0))) (hb : base ≤ X) : w.ownsRow base 50 5 (.slice (some ⟨X, 0, none⟩) 0 0) 0 (tcells []) :=
  ⟨rfl, .inr ⟨X, 0, #[], rfl, hb, hX, Nat.le_refl _, by unfold maxLen; omega, rfl, rfl⟩⟩
/-- A layer's names behind those of a list of one's own. -/
theorem decs_put (w : World) (base g n cap hi : Nat) (L : List (ByteArray × Int)) (q : Lyr) (da : Option Addr) (dc : Nat) (hown : w.ownsRow base 40 2 (.slice (some ⟨g, 0, none⟩) n cap) n (dcells L)) (hd : DecsIn w 0 hi da q.nd q.S q.V) (hz : da = none → dc = 0) (hk : n + q.nd ≤ 4000000) (hbase : base ≤ w.heap.size) :
    ∃ g' cap' w', (Builtin.append_ #[29, 29] 29 #[.slice (some ⟨g, 0, none⟩) n cap, .slice da q.nd dc]).run Tryz.prog w = .ok (.slice (some ⟨g', 0, none⟩) (n + q.nd) cap') w' ∧ w'.ownsRow base 40 2 (.slice (some ⟨g', 0, none⟩) (n + q.nd) cap') (n + q.nd) (dcells (L ++ q.ns)) ∧ w.grownBy w' (some g) ∧ (g' = g ∨ g' = w.heap.size) := by
  cases hda : da with
  | none =>
    have h0 : q.nd = 0 := by
      rcases hd with h | ⟨b, off, h, _⟩
      · exact h
      · rw [hda] at h; cases h
    have e : q.ns = [] := by unfold Lyr.ns; rw [h0]; rfl
    obtain ⟨i0, hi0, hzz⟩ := Option.map_eq_some_iff.1 infoDeclS
    simp only [Prod.mk.injEq] at hzz
    obtain ⟨hz0, hz1, hz2⟩ := hzz
    rw [h0, hz hda, e, List.append_nil, Nat.add_zero]
    exact ⟨g, cap, w, run_append_owned_none (P := Tryz.prog) (w := w) base 29 29 40 i0 2 Tryz.underlying29 hi0 _ n _ hown, hown, ⟨rfl, rfl, rfl, Nat.le_refl _, fun _ _ _ => rfl⟩, Or.inl rfl⟩
  | some x =>
    refine decs_more w base g n cap L q.ns x q.nd dc hown (dprs_len _ _ _) ?_ hk hbase
    rcases hd with h0 | ⟨b, off, h, _, _, hD⟩
    · have e : q.ns = [] := by unfold Lyr.ns; rw [h0]; rfl
      rw [e]; intro j u hj; simp [dcells] at hj
    · rw [hda] at h; injection h with h; subst h
      exact decs_lie hD
/-- Terms as a list, with where their Kids lie. -/
def tprs (n : Nat) (kid : Nat → TT) (AD : Nat → Option Addr) (CP : Nat → Nat) : List Lt := (List.range n).map fun i => (kid i, AD i, CP i)
theorem tprs_len (n : Nat) (kid : Nat → TT) (AD : Nat → Option Addr) (CP : Nat → Nat) : (tprs n kid AD CP).length = n := by simp [tprs]
/-- A layer's terms behind those of a list of one's own. -/
theorem terms_put (w : World) (base g n cap hi : Nat) (L : List Lt) (q : Lyr) (ta : Option Addr) (tc : Nat) (hown : w.ownsRow base 50 5 (.slice (some ⟨g, 0, none⟩) n cap) n (tcells L)) (hd : q.t.In w 0 hi ta) (hz : ta = none → tc = 0) (hk : n + q.nt ≤ 4000000) (hbase : base ≤ w.heap.size) :
    ∃ g' cap' w' AD CP, (Builtin.append_ #[48, 48] 48 #[.slice (some ⟨g, 0, none⟩) n cap, .slice ta q.nt tc]).run Tryz.prog w = .ok (.slice (some ⟨g', 0, none⟩) (n + q.nt) cap') w' ∧ w'.ownsRow base 50 5 (.slice (some ⟨g', 0, none⟩) (n + q.nt) cap') (n + q.nt) (tcells (L ++ tprs q.nt q.kid AD CP)) ∧ w.grownBy w' (some g) ∧ (g' = g ∨ g' = w.heap.size) ∧ ∀ i, i < q.nt → (q.kid i).n ≤ CP i ∧ (q.kid i).In w 0 hi (AD i) := by
  cases hta : ta with
  | none =>
    have h0 : q.nt = 0 := by
      rcases hd with h | ⟨b, off, h, _⟩
      · exact h
      · rw [hta] at h; cases h
    obtain ⟨i0, hi0, hzz⟩ := Option.map_eq_some_iff.1 infoTermS
    simp only [Prod.mk.injEq] at hzz
    obtain ⟨hz0, hz1, hz2⟩ := hzz
    rw [h0, hz hta, Nat.add_zero]
    exact ⟨g, cap, w, fun _ => none, fun _ => 0, run_append_owned_none (P := Tryz.prog) (w := w) base 48 48 50 i0 5 Tryz.underlying48 hi0 _ n _ hown, by simpa [tprs] using hown, ⟨rfl, rfl, rfl, Nat.le_refl _, fun _ _ _ => rfl⟩, Or.inl rfl, fun i hi => by omega⟩
  | some x =>
    rcases hd with h0 | ⟨b, off, h, _, _, AD, CP, hD⟩
    · have h0' : q.nt = 0 := h0
      obtain ⟨g', cap', w', h1, h2, h3, h4⟩ := terms_more w base g n cap L [] x q.nt tc hown h0'.symm (by intro j u hj; simp [tcells] at hj) hk hbase
      exact ⟨g', cap', w', fun _ => none, fun _ => 0, h1, by rw [h0'] at h2 ⊢; simpa [tprs] using h2, h3, h4, fun i hi => by omega⟩
    · rw [hta] at h; injection h with h; subst h
      obtain ⟨g', cap', w', h1, h2, h3, h4⟩ := terms_more w base g n cap L (tprs q.nt q.kid AD CP) ⟨b, off, none⟩ q.nt tc hown (tprs_len _ _ _ _) (tcells_lie (fun i hi => by
        have hi' : i < q.nt := by simpa [tprs_len] using hi
        have e : (tprs q.nt q.kid AD CP)[i] = (q.kid i, AD i, CP i) := by simp [tprs]
        rw [e]; exact (hD i hi').1)) hk hbase
      exact ⟨g', cap', w', AD, CP, h1, h2, h3, h4, fun i hi => ⟨(hD i hi).2.1, (hD i hi).2.2⟩⟩
end Go.Proofs.YtfopmobopmdahaaGreat
