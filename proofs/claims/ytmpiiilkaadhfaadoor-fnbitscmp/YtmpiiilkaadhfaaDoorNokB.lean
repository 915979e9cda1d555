/- The program's table of gates, and which nets are right. -/
import Derived.Test.YtmpiiilkaadhfaaDoorNokA
import Derived.Maps.Keyed
namespace Go.Proofs.YtmpiiilkaadhfaaDoor
open Go.ChangeShapes Go.WideShapes Go.ChangeAt Go.RowKit Go.Joins
open Go.ChangeMaps (setBlock)
set_option linter.unusedVariables false
set_option maxRecDepth 100000
set_option linter.unusedSimpArgs false

theorem gv_inj {g h : Gt} (e : gv g = gv h) : g = h := by
  unfold gv at e
  simp at e
  exact Gt.ext_iff'.2 e
theorem ckG (w : World) (em : Bool) (g : Gt) : (Instr.checkKey em 10000 76 (gv g)).run Tryd.prog w = .ok () w := by kernel_rfl
theorem opEqG (w : World) (g h : Gt) : (Op.equal 76 (gv g) (gv h)).run Tryd.prog w = .ok (geq g h) w := eqIn g h w
theorem askG (w : World) (g : Gt) : ∀ (es : List MapEntry) (i : Nat), (∀ e ∈ es, ∃ h, e.key = gv h) →
    ((Instr.findAsking 76 (gv g) es i).run Tryd.prog w = .ok none w ∧ ∀ e ∈ es, e.key ≠ gv g) ∨
    ∃ j e, (Instr.findAsking 76 (gv g) es i).run Tryd.prog w = .ok (some (i + j, e.val)) w ∧ es[j]? = some e ∧ e.key = gv g
  | [], i, _ => Or.inl ⟨rfl, fun e he => by simp at he⟩
  | e :: es, i, h => by
    obtain ⟨h', hk⟩ := h e (by simp)
    have he := opEqG w g h'
    by_cases hd : g = h'
    · refine Or.inr ⟨0, e, ?_, rfl, ?_⟩
      · rw [geq_iff.2 hd] at he
        simp [Instr.findAsking, hk, he]
      · rw [hd]; exact hk
    · rw [geq_no.2 hd] at he
      have hne : e.key ≠ gv g := fun k => hd (by rw [hk] at k; exact (gv_inj k).symm)
      rcases askG w g es (i + 1) (fun e he => h e (by simp [he])) with ⟨h1, h2⟩ | ⟨j, e0, h1, h2, h3⟩
      · refine Or.inl ⟨by simp [Instr.findAsking, hk, he, h1], ?_⟩
        intro e' he'
        rcases List.mem_cons.1 he' with rfl | he'
        · exact hne
        · exact h2 e' he'
      · exact Or.inr ⟨j + 1, e0, by simp [Instr.findAsking, hk, he, h1]; omega, by simpa using h2, h3⟩
theorem findG (w : World) (g : Gt) (es : List MapEntry) (h : ∀ e ∈ es, ∃ h, e.key = gv h) :
    ((Instr.findKey 76 (gv g) es).run Tryd.prog w = .ok none w ∧ ∀ e ∈ es, e.key ≠ gv g) ∨
    ∃ j e, (Instr.findKey 76 (gv g) es).run Tryd.prog w = .ok (some (j, e.val)) w ∧ es[j]? = some e ∧ e.key = gv g := by
  cases es with
  | nil => exact Or.inl ⟨by simp [Instr.findKey, run_underlying Tryd.underlying76, Instr.findNow], fun e he => by simp at he⟩
  | cons e es =>
    have hs : (Instr.findKey 76 (gv g) (e :: es)).run Tryd.prog w = (Instr.findAsking 76 (gv g) (e :: es) 0).run Tryd.prog w := by
      obtain ⟨h', hk⟩ := h e (by simp)
      simp [Instr.findKey, run_underlying Tryd.underlying76, Instr.findNow, Instr.sameNow, hk, gv]
    rw [hs]
    rcases askG w g (e :: es) 0 h with h1 | ⟨j, e0, h1, h2, h3⟩
    · exact Or.inl h1
    · exact Or.inr ⟨j, e0, by simpa using h1, h2, h3⟩
/-- A table of the first n gates: the mark of each by what it is of. -/
def Tab (w : World) (B n : Nat) (G : Nat → Gt) (m : Int) : Prop :=
  ∃ es clock, w.heap[B]? = some (.map es clock) ∧ es.size = n ∧ ∀ i, i < n → ∃ e, es[i]? = some e ∧ e.key = gv (G i) ∧ e.val = .int .i64 (2 + m + i)
theorem Tab.keep {w w' : World} {B n : Nat} {G : Nat → Gt} {m : Int} (h : Tab w B n G m) (hb : w'.heap[B]? = w.heap[B]?) : Tab w' B n G m := by
  obtain ⟨es, clock, h1, h2⟩ := h
  exact ⟨es, clock, hb.trans h1, h2⟩
theorem Tab.lt {w : World} {B n : Nat} {G : Nat → Gt} {m : Int} (h : Tab w B n G m) : B < w.heap.size := by
  obtain ⟨es, clock, h1, h2⟩ := h
  exact (Array.getElem?_eq_some_iff.1 h1).1
theorem Tab.later {w w' : World} {B n : Nat} {G : Nat → Gt} {m : Int} (h : Tab w B n G m) (hb : Below w.heap.size w w') : Tab w' B n G m := h.keep (hb.block B h.lt)
theorem Tab.cong {w : World} {B n : Nat} {G G' : Nat → Gt} {m : Int} (h : Tab w B n G m) (e : ∀ i, i < n → G i = G' i) : Tab w B n G' m := by
  obtain ⟨es, clock, h1, h2, h3⟩ := h
  exact ⟨es, clock, h1, h2, fun i hi => by rw [← e i hi]; exact h3 i hi⟩
theorem Tab.mem {n : Nat} {G : Nat → Gt} {m : Int} {es : Array MapEntry} (h2 : es.size = n) (h3 : ∀ i, i < n → ∃ e, es[i]? = some e ∧ e.key = gv (G i) ∧ e.val = .int .i64 (2 + m + i)) : ∀ e ∈ es.toList, ∃ h, e.key = gv h := by
  intro e he
  obtain ⟨i, hi, rfl⟩ := List.mem_iff_getElem.1 he
  obtain ⟨e', h4, h5, h6⟩ := h3 i (by simpa [h2] using hi)
  refine ⟨G i, ?_⟩
  have : es.toList[i] = e' := by
    have h7 : es[i]? = some es.toList[i] := by simp
    rw [h7] at h4
    simpa using h4
  rw [this]; exact h5
theorem zeroMark (w : World) : (zeroValue 81).run Tryd.prog w = .ok (.int .i64 0) w := by kernel_rfl
theorem tab_look {w : World} {B n : Nat} {G : Nat → Gt} {m : Int} (hT : Tab w B n G m) (g : Gt) :
    ((Instr.lookup 115 (.map (some B)) (.agg #[.bool g.x, .int .i64 g.a, .int .i64 g.b]) false).run Tryd.prog w = .ok (.int .i64 0) w ∧ ∀ i, i < n → G i ≠ g) ∨
    ∃ i, i < n ∧ G i = g ∧ (Instr.lookup 115 (.map (some B)) (.agg #[.bool g.x, .int .i64 g.a, .int .i64 g.b]) false).run Tryd.prog w = .ok (.int .i64 (2 + m + i)) w := by
  obtain ⟨es, clock, hb, h2, h3⟩ := hT
  have hck := ckG w es.isEmpty g
  rcases findG w g es.toList (Tab.mem h2 h3) with ⟨h1, h4⟩ | ⟨j, e0, h1, h4, h5⟩
  · refine Or.inl ⟨?_, fun i hi e => ?_⟩
    · unfold gv at h1 hck
      simp [Instr.lookup, run_underlying Tryd.underlying115, MapKept.run_getObj_map hb, hck, h1, zeroMark, Result.andThen]
    · obtain ⟨e', h6, h7, _⟩ := h3 i hi
      refine h4 e' ?_ (by rw [h7, e])
      exact List.mem_of_getElem? (i := i) (by simpa using h6)
  · have hj : j < n := by
      have := (List.getElem?_eq_some_iff.1 h4).1
      simpa [h2] using this
    obtain ⟨e', h6, h7, h8⟩ := h3 j hj
    have he : e' = e0 := by
      have h9 : es[j]? = some e0 := by simpa using h4
      rw [h9] at h6
      simpa using h6.symm
    subst he
    refine Or.inr ⟨j, hj, gv_inj (by rw [← h7, h5]), ?_⟩
    unfold gv at h1 hck
    simp [Instr.lookup, run_underlying Tryd.underlying115, MapKept.run_getObj_map hb, hck, h1, h8, Result.andThen]
theorem tab_put {w : World} {B n : Nat} {G : Nat → Gt} {m : Int} (hT : Tab w B n G m) (hne : ∀ i, i < n → G i ≠ G n) :
    ∃ w', (Instr.mapUpdate 115 (.map (some B)) (.agg #[.bool (G n).x, .int .i64 (G n).a, .int .i64 (G n).b]) (.int .i64 (2 + m + n))).run Tryd.prog w = .ok () w' ∧ Tab w' B (n + 1) G m ∧ w.grownBy w' (some B) := by
  have hlt := hT.lt
  obtain ⟨es, clock, hb, h2, h3⟩ := hT
  have hck := fun em => ckG w em (G n)
  have hset : ∀ o, (setBlock w B o).heap[B]? = some o := fun o => by simp [setBlock, hlt]
  have hgr : ∀ o, w.grownBy (setBlock w B o) (some B) := fun o => ⟨rfl, rfl, rfl, by simp [setBlock], fun k hk hne => by
    simp only [setBlock]
    rw [Array.getElem?_setIfInBounds_ne]
    intro e
    exact hne (by rw [e])⟩
  rcases findG w (G n) es.toList (Tab.mem h2 h3) with ⟨h1, h4⟩ | ⟨j, e0, h1, h4, h5⟩
  · refine ⟨setBlock w B (.map (es.push ⟨gv (G n), .int .i64 (2 + m + n), clock⟩) (clock + 1)), ?_, ⟨_, _, hset _, by simp [h2], fun i hi => ?_⟩, hgr _⟩
    · unfold gv at h1 hck
      simp [Instr.mapUpdate, run_underlying Tryd.underlying115, MapKept.run_getObj_map hb, hck, h1, MapKept.run_setObj_map _ hb, Result.andThen, setBlock, gv]
    · by_cases e : i = n
      · subst e
        exact ⟨⟨gv (G i), .int .i64 (2 + m + i), clock⟩, by rw [← h2]; simp, rfl, rfl⟩
      · obtain ⟨e', h6, h7⟩ := h3 i (by omega)
        exact ⟨e', by rw [Array.getElem?_push_lt (by omega)]; rw [← h6]; simp [h2], h7⟩
  · have hj : j < n := by
      have := (List.getElem?_eq_some_iff.1 h4).1
      simpa [h2] using this
    obtain ⟨e', h6, h7, h8⟩ := h3 j hj
    have he : e' = e0 := by
      have h9 : es[j]? = some e0 := by simpa using h4
      rw [h9] at h6
      simpa using h6.symm
    subst he
    exact absurd (gv_inj (by rw [← h7, h5])) (hne j hj)
theorem Tab.new (w : World) (G : Nat → Gt) (m : Int) : Tab (w.alloc (.map #[] 0)) w.heap.size 0 G m := ⟨#[], 0, by unfold World.alloc; simp, rfl, fun i hi => by omega⟩
end Go.Proofs.YtmpiiilkaadhfaaDoor
