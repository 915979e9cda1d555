/- Gates appended onto lists of one's own. -/
import Derived.Test.YtmpiiilkaadhfaaDoorGtB
import Derived.Test.YtmpiiilkaadhfaaDoorGrwA
import Derived.Laws.OwnMore
namespace Go.Proofs.YtmpiiilkaadhfaaDoor
open Go.ChangeShapes Go.WideShapes Go.ChangeAt Go.RowKit Go.Joins
set_option linter.unusedVariables false
set_option maxRecDepth 100000

/-- The cells of gates. -/
def gcells (G : Nat → Gt) : Nat → List Value
  | 0 => []
  | n + 1 => gcells G n ++ [.bool (G n).x, .int .i64 (G n).a, .int .i64 (G n).b]
def gcel (G : Nat → Gt) (j : Nat) : Value := if j % 3 = 0 then .bool (G (j / 3)).x else if j % 3 = 1 then .int .i64 (G (j / 3)).a else .int .i64 (G (j / 3)).b
theorem gcells_len (G : Nat → Gt) : ∀ n, (gcells G n).length = n * 3
  | 0 => rfl
  | n + 1 => by simp [gcells, gcells_len G n]; omega
theorem gcells_get (G : Nat → Gt) : ∀ n j, j < n * 3 → (gcells G n)[j]? = some (gcel G j)
  | 0, j, h => by omega
  | n + 1, j, h => by
    unfold gcells
    by_cases hj : j < n * 3
    · rw [List.getElem?_append_left (by rw [gcells_len]; exact hj)]
      exact gcells_get G n j hj
    · rw [List.getElem?_append_right (by rw [gcells_len]; omega), gcells_len]
      have e3 : j / 3 = n := by omega
      have : j = n * 3 ∨ j = n * 3 + 1 ∨ j = n * 3 + 2 := by omega
      unfold gcel
      rw [e3]
      rcases this with rfl | rfl | rfl
      · have : n * 3 % 3 = 0 := by omega
        simp [this]
      · have : (n * 3 + 1) % 3 = 1 := by omega
        simp [this]
      · have : (n * 3 + 2) % 3 = 2 := by omega
        simp [this]
theorem gcells_cong {G G' : Nat → Gt} : ∀ {n}, (∀ i, i < n → G i = G' i) → gcells G n = gcells G' n
  | 0, _ => rfl
  | n + 1, h => by
    unfold gcells
    rw [gcells_cong (fun i hi => h i (by omega)), h n (by omega)]
/-- Gates, and one more. -/
def snocG (G : Nat → Gt) (n : Nat) (g : Gt) : Nat → Gt := fun i => if i = n then g else G i
theorem snocG_lt {G : Nat → Gt} {n i : Nat} {g : Gt} (h : i < n) : snocG G n g i = G i := if_neg (by omega)
theorem snocG_at (G : Nat → Gt) (n : Nat) (g : Gt) : snocG G n g n = g := if_pos rfl
theorem gcells_snoc (G : Nat → Gt) (n : Nat) (g : Gt) : gcells G n ++ [.bool g.x, .int .i64 g.a, .int .i64 g.b] = gcells (snocG G n g) (n + 1) := by
  show _ = gcells (snocG G n g) n ++ _
  rw [snocG_at, gcells_cong (fun i hi => snocG_lt hi)]
theorem own_gts {w : World} {base g n cap : Nat} {e : TypeId} {G : Nat → Gt} (h : w.ownsRow base e 3 (.slice (some ⟨g, 0, none⟩) n cap) n (gcells G n)) : Gts w g 0 n G := by
  intro i hi
  have c0 := h.cells (g := g) rfl (i * 3) _ (gcells_get G n (i * 3) (by omega))
  have c1 := h.cells (g := g) rfl (i * 3 + 1) _ (gcells_get G n (i * 3 + 1) (by omega))
  have c2 := h.cells (g := g) rfl (i * 3 + 2) _ (gcells_get G n (i * 3 + 2) (by omega))
  rw [Go.WideShapes.add_plain] at c0 c1 c2
  have e0 : i * 3 % 3 = 0 := by omega
  have e1 : (i * 3 + 1) % 3 = 1 := by omega
  have e2 : (i * 3 + 2) % 3 = 2 := by omega
  have d0 : i * 3 / 3 = i := by omega
  have d1 : (i * 3 + 1) / 3 = i := by omega
  have d2 : (i * 3 + 2) / 3 = i := by omega
  simp only [gcel, e0, e1, e2, d0, d1, d2, if_true, Nat.zero_add] at c0 c1 c2
  refine ⟨by simpa using c0, ?_, ?_⟩
  · simpa using c1
  · simpa using c2
theorem own_gtsAt {w : World} {base g n cap : Nat} {e : TypeId} {G : Nat → Gt} (h : w.ownsRow base e 3 (.slice (some ⟨g, 0, none⟩) n cap) n (gcells G n)) : GtsAt w (some ⟨g, 0, none⟩) n G := Or.inr ⟨g, 0, rfl, (own_cap h).2, own_gts h⟩
theorem gcel_at {w : World} {b off m : Nat} {G : Nat → Gt} (h : Gts w b off m G) {j : Nat} (hj : j < m * 3) : w.cell? ⟨b, off + j, none⟩ = some (gcel G j) := by
  obtain ⟨c0, c1, c2⟩ := h (j / 3) (by omega)
  unfold gcel
  have : j % 3 = 0 ∨ j % 3 = 1 ∨ j % 3 = 2 := by omega
  rcases this with e | e | e
  · rw [if_pos e]
    have : off + j = off + j / 3 * 3 := by omega
    rw [this]; exact c0
  · rw [if_neg (by omega), if_pos e]
    have : off + j = off + j / 3 * 3 + 1 := by omega
    rw [this]; exact c1
  · rw [if_neg (by omega), if_neg (by omega)]
    have : off + j = off + j / 3 * 3 + 2 := by omega
    rw [this]; exact c2
theorem gcel_one (G : Nat → Gt) (j : Nat) : (gcel G j).oneCell' = true := by unfold gcel; split; rfl; split <;> rfl
theorem infoGat : (Tryd.prog.info? 76).map (fun i => (i.zero, i.size, i.bytes)) = some (some (.agg #[.bool false, .int .i64 0, .int .i64 0]), 3, 24) := by kernel_rfl
/-- Gates onto a list of one's own. -/
theorem gat_app (w : World) (base g n cap0 : Nat) (ty : TypeId) (xs : List Value) (b off m cap : Nat) (G : Nat → Gt) (hown : w.ownsRow base 76 3 (.slice (some ⟨g, 0, none⟩) n cap0) n xs) (hi : Gts w b off m G) (h63 : n + m ≤ 1100000) (hbase : base ≤ w.heap.size) :
    ∃ g' cap' w', (Builtin.append_ #[23, 23] ty #[.slice (some ⟨g, 0, none⟩) n cap0, .slice (some ⟨b, off, none⟩) m cap]).run Tryd.prog w = .ok (.slice (some ⟨g', 0, none⟩) (n + m) cap') w' ∧ w'.ownsRow base 76 3 (.slice (some ⟨g', 0, none⟩) (n + m) cap') (n + m) (xs ++ gcells G m) ∧ w.grownBy w' (some g) ∧ (g' = g ∨ g' = w.heap.size) := by
  obtain ⟨i0, hi0, hzz⟩ := Option.map_eq_some_iff.1 infoGat
  simp only [Prod.mk.injEq] at hzz
  obtain ⟨hz0, hz1, hz2⟩ := hzz
  refine append_where (P := Tryd.prog) w base 23 ty 76 i0 _ 3 24 Tryd.underlying23 hi0 hz0 hz1 hz2 rfl (by omega) g n cap0 xs hown ⟨b, off, none⟩ m cap (gcells G m) (gcells_len G m) ?_ ?_ (by unfold maxLen; omega) (by omega) hbase
  · intro j u hj
    have hj' : j < m * 3 := by
      have := (List.getElem?_eq_some_iff.1 hj).1
      rwa [gcells_len] at this
    rw [gcells_get G m j hj'] at hj
    simp at hj
    rw [Go.WideShapes.add_plain, ← hj]
    exact gcel_at hi hj'
  · intro u hu
    obtain ⟨j, hj, rfl⟩ := List.mem_iff_getElem.1 hu
    have h2 := gcells_get G m j (by rwa [gcells_len] at hj)
    rw [List.getElem?_eq_getElem hj] at h2
    simp at h2
    rw [h2]
    exact gcel_one G j
theorem Gts.lone {w : World} {T : Nat} {g : Gt} (h0 : w.cell? ⟨T, 0, none⟩ = some (.bool g.x)) (h1 : w.cell? ⟨T, 1, none⟩ = some (.int .i64 g.a)) (h2 : w.cell? ⟨T, 2, none⟩ = some (.int .i64 g.b)) : Gts w T 0 1 (fun _ => g) := by
  intro i hi
  have : i = 0 := by omega
  subst this
  exact ⟨h0, h1, h2⟩
theorem step_app_ex {P : Program} {ops : Array Oper} {o : Oper} {a : Act} {w : World} {K : Act → World → Prop} {Q : Exit → Act → World → Prop} {E : Prop} (hgd : o.guard = none) (s x : Operand) (t : TypeId)
    (ho : o.op = .call { callee := .builtin .append, args := #[s, x], argTypes := #[t, t] }) (v xv : Value) (hs : a.eval s = v) (hx : a.eval x = xv) (v' : Value) (w' : World)
    (hr : (Builtin.append_ #[t, t] o.type #[v, xv]).run P w = .ok v' w') (h : K (a.put o.dst v') w') : if Region.wanted o (yielded ops a.tmps) = true then Oper.wp P o a w K Q else E := by
  have hw : Region.wanted o (yielded ops a.tmps) = true := by simp [Region.wanted, hgd]
  rw [if_pos hw]
  unfold Oper.wp
  simp only [execOp, ho, resolve, invoke, builtin, Sem.run_bind, Sem.run_pure, Result.andThen_ok, List.map_toArray, List.map_cons, List.map_nil, hs, hx, hr]
  exact h
/-- A copy of gates onto an empty list that has been laid down, as a step. -/
theorem step_gat_copy {ops : Array Oper} {o : Oper} {a : Act} {w : World} {K : Act → World → Prop} {Q : Exit → Act → World → Prop} {E : Prop} (hgd : o.guard = none) (s x : Operand)
    (ho : o.op = .call { callee := .builtin .append, args := #[s, x], argTypes := #[23, 23] }) (G : Nat → Gt) (ad : Option Addr) (n cap base X : Nat) (hs : a.eval s = .slice (some ⟨X, 0, none⟩) 0 0) (hX : w.heap[X]? = some (.cells #[] 76 (0, 0))) (hbX : base ≤ X) (hbase : base ≤ w.heap.size)
    (hx : a.eval x = .slice ad n cap) (hc : GtsAt w ad n G) (hnn : ad = none → n = 0 ∧ cap = 0) (hspot : ∀ p, ad = some p → p.spot = none) (hl : n ≤ 1048576)
    (h : ∀ g cap' w', w'.ownsRow base 76 3 (.slice (some ⟨g, 0, none⟩) n cap') n (gcells G n) → w.grownBy w' (some X) → (g = X ∨ w.heap.size ≤ g) → g < w'.heap.size → K (a.put o.dst (.slice (some ⟨g, 0, none⟩) n cap')) w') :
    if Region.wanted o (yielded ops a.tmps) = true then Oper.wp Tryd.prog o a w K Q else E := by
  obtain ⟨i0, hi0, hzz⟩ := Option.map_eq_some_iff.1 infoGat
  simp only [Prod.mk.injEq] at hzz
  obtain ⟨hz0, hz1, hz2⟩ := hzz
  have o4 : w.ownsRow base 76 3 (.slice (some ⟨X, 0, none⟩) 0 0) 0 [] := ⟨by simp, .inr ⟨X, 0, #[], rfl, hbX, hX, Nat.le_refl _, by unfold maxLen; omega, by simp, by simp⟩⟩
  cases ad with
  | none =>
    obtain ⟨rfl, rfl⟩ := hnn rfl
    refine step_app_ex hgd s x _ ho _ _ hs hx _ _ (run_append_owned_none _ base 23 _ 76 i0 3 Tryd.underlying23 hi0 _ 0 [] o4) ?_
    exact h X 0 w o4 ⟨rfl, rfl, rfl, Nat.le_refl _, fun _ _ _ => rfl⟩ (Or.inl rfl) (own_cap o4).2
  | some p =>
    obtain ⟨b, off, spot⟩ := p
    have hsp := hspot _ rfl
    simp only at hsp
    subst hsp
    have hi : Gts w b off n G := by
      rcases hc with rfl | ⟨b', off', e, _, hd⟩
      · exact fun i hi => by omega
      · simp only [Option.some.injEq, Addr.mk.injEq, and_true] at e
        obtain ⟨rfl, rfl⟩ := e
        exact hd
    obtain ⟨g', cap', w', h1, h2, h3, h4⟩ := gat_app w base X 0 0 o.type [] b off n cap G o4 hi (by omega) hbase
    simp only [Nat.zero_add, List.nil_append] at h1 h2
    refine step_app_ex hgd s x _ ho _ _ hs hx _ _ h1 ?_
    exact h g' cap' w' h2 h3 (by rcases h4 with rfl | rfl; exact Or.inl rfl; exact Or.inr (Nat.le_refl _)) (own_cap h2).2
/-- One gate more, that has been laid down, as a step. -/
theorem step_gat_one {ops : Array Oper} {o : Oper} {a : Act} {w : World} {K : Act → World → Prop} {Q : Exit → Act → World → Prop} {E : Prop} (hgd : o.guard = none) (s x : Operand)
    (ho : o.op = .call { callee := .builtin .append, args := #[s, x], argTypes := #[23, 23] }) (G : Nat → Gt) (q : Gt) (base g n cap T : Nat) (hs : a.eval s = .slice (some ⟨g, 0, none⟩) n cap) (hown : w.ownsRow base 76 3 (.slice (some ⟨g, 0, none⟩) n cap) n (gcells G n)) (hbase : base ≤ w.heap.size)
    (hx : a.eval x = .slice (some ⟨T, 0, none⟩) 1 1) (hT : Gts w T 0 1 (fun _ => q)) (hl : n ≤ 1048576)
    (h : ∀ g' cap' w', w'.ownsRow base 76 3 (.slice (some ⟨g', 0, none⟩) (n + 1) cap') (n + 1) (gcells (snocG G n q) (n + 1)) → w.grownBy w' (some g) → (g' = g ∨ w.heap.size ≤ g') → g' < w'.heap.size → K (a.put o.dst (.slice (some ⟨g', 0, none⟩) (n + 1) cap')) w') :
    if Region.wanted o (yielded ops a.tmps) = true then Oper.wp Tryd.prog o a w K Q else E := by
  obtain ⟨g', cap', w', h1, h2, h3, h4⟩ := gat_app w base g n cap o.type (gcells G n) T 0 1 1 (fun _ => q) hown hT (by omega) hbase
  refine step_app_ex hgd s x _ ho _ _ hs hx _ _ h1 ?_
  have e : gcells G n ++ gcells (fun _ => q) 1 = gcells (snocG G n q) (n + 1) := by rw [← gcells_snoc]; rfl
  rw [e] at h2
  exact h g' cap' w' h2 h3 (by rcases h4 with rfl | rfl; exact Or.inl rfl; exact Or.inr (Nat.le_refl _)) (own_cap h2).2
end Go.Proofs.YtmpiiilkaadhfaaDoor
