/- Pairs of places as keys of a map: what is asked of it and put into it. -/
import Derived.Test.YtbcojkadfbpmgaaSamM
import Derived.Test.YtbcojkadfbpmgaaPlA
import Derived.LaidEqlPtr
import Derived.Laws.StructEq
import Derived.Maps.Keyed
namespace Go.Proofs.Ytbcojkadfbpmgaa
open Go.ChangeShapes Go.WideShapes Go.ChangeAt Go.RowKit Go.Joins
open Go.ChangeMaps (setBlock)
set_option linter.unusedVariables false

/-- A pair of places, and how many Kids there are, as a key. -/
def KP (x y : Addr) (n : Nat) : Value := .agg #[.pointer (some x), .pointer (some y), .int .i64 n]
theorem eqPtrD (d : Nat) (w : World) (x x' : Addr) (hx : (sameAddr x x').run Try.prog w = .ok (decide (x = x')) w) :
    (Op.equalIn (d + 1) 72 (.pointer (some x)) (.pointer (some x'))).run Try.prog w = .ok (decide (x = x')) w := by
  obtain ⟨i, hi, hz⟩ := Option.map_eq_some_iff.1 infoTerm
  simp only [Prod.mk.injEq] at hz
  have hs : i.size ≠ 0 := by rw [hz.2.1]; decide
  simp [Op.equalIn, run_underlying Try.underlying72, sizeOf, typeInfo, hi, hs, hx]
theorem eqPtr (w : World) (x x' : Addr) (hx : (sameAddr x x').run Try.prog w = .ok (decide (x = x')) w) :
    (Op.equalIn 9999 72 (.pointer (some x)) (.pointer (some x'))).run Try.prog w = .ok (decide (x = x')) w := eqPtrD 9998 w x x' hx
theorem eqKey (w : World) (x y x' y' : Addr) (n n' : Nat) (hx : (sameAddr x x').run Try.prog w = .ok (decide (x = x')) w) (hy : (sameAddr y y').run Try.prog w = .ok (decide (y = y')) w) :
    (Op.equal 74 (KP x y n) (KP x' y' n')).run Try.prog w = .ok (decide (x = x' ∧ y = y' ∧ n = n')) w := by
  unfold KP
  show (Op.equalIn (9999 + 1) _ _ _).run _ w = _
  rw [run_equalIn_struct w 9999 _ _ _ (by kernel_rfl) (by kernel_rfl)]
  simp [go_sem]
  rw [eqPtr w x x' hx]
  by_cases h1 : x = x'
  · rw [Result.andThen_ok, eqPtr w y y' hy]
    by_cases h2 : y = y'
    · by_cases h3 : n = n'
      · simp [h1, h2, h3]
      · have : ¬ (n : Int) = (n' : Int) := by omega
        simp [h1, h2, h3, this]
    · simp [h1, h2]
  · simp [h1]
theorem KP_inj {x y x' y' : Addr} {n n' : Nat} (h : KP x y n = KP x' y' n') : x = x' ∧ y = y' ∧ n = n' := by
  unfold KP at h
  simp at h
  exact ⟨h.1, h.2.1, by omega⟩
theorem ckKey (w : World) (em : Bool) (x y : Addr) (n : Nat) : (Instr.checkKey em 10000 74 (KP x y n)).run Try.prog w = .ok () w := by kernel_rfl
theorem ktKey (w : World) (x y : Addr) (n : Nat) : (Instr.keyThatStays (KP x y n) (KP x y n)).run Try.prog w = .ok (KP x y n) w := by
  simp [Instr.keyThatStays, Instr.sameBits, KP]
def Plain (w : World) (x : Addr) : Prop := ∃ c e, w.heap[x.block]? = some (.cells c e (0, 0))
theorem sameA {w : World} {x y : Addr} (hx : Plain w x) (hy : Plain w y) : (sameAddr x y).run Try.prog w = .ok (decide (x = y)) w := by
  by_cases h : x = y
  · subst h; simpa using run_sameAddr_same w x
  · obtain ⟨c, e, hc⟩ := hx
    obtain ⟨c', e', hc'⟩ := hy
    simpa [h] using run_sameAddr_other (P := Try.prog) w h hc hc'
/-- The entries of a map of such keys. -/
def KeyAt (w : World) (e : MapEntry) : Prop := ∃ x y n, Plain w x ∧ Plain w y ∧ e.key = KP x y n
theorem findAsk (w : World) (x y : Addr) (n : Nat) (hx : Plain w x) (hy : Plain w y) : ∀ (es : List MapEntry) (i : Nat), (∀ e ∈ es, KeyAt w e) →
    ((Instr.findAsking 74 (KP x y n) es i).run Try.prog w = .ok none w ∧ ∀ e ∈ es, e.key ≠ KP x y n) ∨
    ∃ j e, (Instr.findAsking 74 (KP x y n) es i).run Try.prog w = .ok (some (i + j, e.val)) w ∧ es[j]? = some e ∧ e.key = KP x y n
  | [], i, _ => Or.inl ⟨rfl, fun e he => by simp at he⟩
  | e :: es, i, h => by
    obtain ⟨x', y', n', px, py, hk⟩ := h e (by simp)
    have he := eqKey w x y x' y' n n' (sameA hx px) (sameA hy py)
    by_cases hd : x = x' ∧ y = y' ∧ n = n'
    · refine Or.inr ⟨0, e, ?_, rfl, ?_⟩
      · rw [decide_eq_true hd] at he
        simp [Instr.findAsking, hk, he]
      · obtain ⟨rfl, rfl, rfl⟩ := hd
        exact hk
    · rw [decide_eq_false hd] at he
      have hne : e.key ≠ KP x y n := fun k => hd (by rw [hk] at k; obtain ⟨a, b, c⟩ := KP_inj k; exact ⟨a.symm, b.symm, c.symm⟩)
      rcases findAsk w x y n hx hy es (i + 1) (fun e he => h e (by simp [he])) with ⟨h1, h2⟩ | ⟨j, e0, h1, h2, h3⟩
      · refine Or.inl ⟨by simp [Instr.findAsking, hk, he, h1], ?_⟩
        intro e' he'
        rcases List.mem_cons.1 he' with rfl | he'
        · exact hne
        · exact h2 e' he'
      · exact Or.inr ⟨j + 1, e0, by simp [Instr.findAsking, hk, he, h1]; omega, by simpa using h2, h3⟩
theorem findKey (w : World) (x y : Addr) (n : Nat) (hx : Plain w x) (hy : Plain w y) (es : List MapEntry) (h : ∀ e ∈ es, KeyAt w e) :
    ((Instr.findKey 74 (KP x y n) es).run Try.prog w = .ok none w ∧ ∀ e ∈ es, e.key ≠ KP x y n) ∨
    ∃ j e, (Instr.findKey 74 (KP x y n) es).run Try.prog w = .ok (some (j, e.val)) w ∧ es[j]? = some e ∧ e.key = KP x y n := by
  cases es with
  | nil => exact Or.inl ⟨by simp [Instr.findKey, run_underlying Try.underlying74, Instr.findNow], fun e he => by simp at he⟩
  | cons e es =>
    have hs : (Instr.findKey 74 (KP x y n) (e :: es)).run Try.prog w = (Instr.findAsking 74 (KP x y n) (e :: es) 0).run Try.prog w := by
      obtain ⟨x', y', n', px, py, hk⟩ := h e (by simp)
      simp [Instr.findKey, run_underlying Try.underlying74, Instr.findNow, Instr.sameNow, hk, KP]
    rw [hs]
    rcases findAsk w x y n hx hy (e :: es) 0 h with h1 | ⟨j, e0, h1, h2, h3⟩
    · exact Or.inl h1
    · exact Or.inr ⟨j, e0, by simpa using h1, h2, h3⟩
/-- A map that has the places of pairs that were met. -/
def Met (w : World) (B : Nat) (L : List Fr) : Prop :=
  ∃ es clock, w.heap[B]? = some (.map es clock) ∧ ∀ e ∈ es.toList, e.val = .agg #[] ∧ ∃ f, f ∈ L ∧ ∃ x y, f.ad = some x ∧ f.ad' = some y ∧ 0 < f.t.n ∧ e.key = KP x y f.t.n
theorem Met.keep {w w' : World} {B : Nat} {L : List Fr} (h : Met w B L) (hb : w'.heap[B]? = w.heap[B]?) : Met w' B L := by
  obtain ⟨es, clock, h1, h2⟩ := h
  exact ⟨es, clock, hb.trans h1, h2⟩
theorem Met.lt {w : World} {B : Nat} {L : List Fr} (h : Met w B L) : B < w.heap.size := by
  obtain ⟨es, clock, h1, h2⟩ := h
  exact (Array.getElem?_eq_some_iff.1 h1).1
theorem plain_of {w : World} {lo hi : Nat} {t : TT} {x : Addr} (hp : Pl w lo hi) (h : t.In w lo hi (some x)) (hn : 0 < t.n) : Plain w x := by
  cases t with
  | nil => exact h.elim
  | node op a b s n kid =>
    rcases h with h | ⟨bl, off, e, h1, h2, AD, CP, hk⟩
    · have : 0 < n := hn
      omega
    · simp only [Option.some.injEq] at e
      subst e
      obtain ⟨⟨f0, _⟩, _⟩ := hk 0 hn
      exact hp bl h1 h2 _ _ f0
theorem met_keys {w : World} {lo hi B : Nat} {L : List Fr} {es : Array MapEntry} (hp : Pl w lo hi) (hl : ∀ f, f ∈ L → Lies w lo hi f)
    (h : ∀ e ∈ es.toList, e.val = .agg #[] ∧ ∃ f, f ∈ L ∧ ∃ x y, f.ad = some x ∧ f.ad' = some y ∧ 0 < f.t.n ∧ e.key = KP x y f.t.n) : ∀ e ∈ es.toList, KeyAt w e := by
  intro e he
  obtain ⟨_, f, hf, x, y, h1, h2, h3, h4⟩ := h e he
  obtain ⟨l1, l2, l3⟩ := hl f hf
  rw [h1] at l1
  rw [h2] at l2
  exact ⟨x, y, _, plain_of hp l1 h3, plain_of hp l2 (by omega), h4⟩
theorem zeroUnit (w : World) : (zeroValue 75).run Try.prog w = .ok (.agg #[]) w := by kernel_rfl
/-- Looking a pair up: what was met is one of those that were put in. -/
theorem met_look {w : World} {lo hi B : Nat} {L : List Fr} (hp : Pl w lo hi) (hl : ∀ f, f ∈ L → Lies w lo hi f) (hM : Met w B L) (f : Fr) (hf : Lies w lo hi f) (x y : Addr) (hx : f.ad = some x) (hy : f.ad' = some y) (hn : 0 < f.t.n) :
    ∃ was : Bool, (Instr.lookup 67 (.map (some B)) (KP x y f.t.n) true).run Try.prog w = .ok (.tuple #[.agg #[], .bool was]) w ∧
      (was = true → ∃ p, p ∈ L ∧ p.ad = f.ad ∧ p.ad' = f.ad' ∧ p.t.n = f.t.n) := by
  obtain ⟨es, clock, hb, he⟩ := hM
  obtain ⟨l1, l2, l3⟩ := hf
  have px : Plain w x := by rw [hx] at l1; exact plain_of hp l1 hn
  have py : Plain w y := by rw [hy] at l2; exact plain_of hp l2 (by omega)
  rcases findKey w x y f.t.n px py es.toList (met_keys (B := B) hp hl he) with ⟨h1, h2⟩ | ⟨j, e0, h1, h2, h3⟩
  · refine ⟨false, ?_, fun h => by cases h⟩
    simp [Instr.lookup, run_underlying Try.underlying67, MapKept.run_getObj_map hb, ckKey, h1, Result.andThen]
  · obtain ⟨hv, p, hp', x', y', a1, a2, a3, a4⟩ := he e0 (List.mem_of_getElem? h2)
    refine ⟨true, ?_, fun _ => ⟨p, hp', ?_⟩⟩
    · simp [Instr.lookup, run_underlying Try.underlying67, MapKept.run_getObj_map hb, ckKey, h1, hv, Result.andThen]
    · rw [a4] at h3
      obtain ⟨rfl, rfl, e⟩ := KP_inj h3
      exact ⟨a1.trans hx.symm, a2.trans hy.symm, e⟩
theorem met_put {w : World} {lo hi B : Nat} {L : List Fr} (hp : Pl w lo hi) (hl : ∀ f, f ∈ L → Lies w lo hi f) (hM : Met w B L) (f : Fr) (hf : Lies w lo hi f) (x y : Addr) (hx : f.ad = some x) (hy : f.ad' = some y) (hn : 0 < f.t.n) :
    ∃ w', (Instr.mapUpdate 67 (.map (some B)) (KP x y f.t.n) (.agg #[])).run Try.prog w = .ok () w' ∧ Met w' B (f :: L) ∧ ((∃ p, p ∈ L ∧ p.ad = f.ad ∧ p.ad' = f.ad' ∧ p.t.n = f.t.n) → Met w' B L) ∧ w.grownBy w' (some B) := by
  obtain ⟨es, clock, hb, he⟩ := hM
  obtain ⟨l1, l2, l3⟩ := hf
  have px : Plain w x := by rw [hx] at l1; exact plain_of hp l1 hn
  have py : Plain w y := by rw [hy] at l2; exact plain_of hp l2 (by omega)
  have hlt : B < w.heap.size := (Array.getElem?_eq_some_iff.1 hb).1
  have hset : ∀ o, (setBlock w B o).heap[B]? = some o := fun o => by simp [setBlock, hlt]
  have hgr : ∀ o, w.grownBy (setBlock w B o) (some B) := fun o => ⟨rfl, rfl, rfl, by simp [setBlock], fun k hk hne => by
    simp only [setBlock]
    rw [Array.getElem?_setIfInBounds_ne]
    intro e
    exact hne (by rw [e])⟩
  rcases findKey w x y f.t.n px py es.toList (met_keys (B := B) hp hl he) with ⟨h1, h2⟩ | ⟨j, e0, h1, h2, h3⟩
  · have all : ∀ (L' : List Fr), (∀ g, g ∈ L → g ∈ L') → (∃ p, p ∈ L' ∧ p.ad = f.ad ∧ p.ad' = f.ad' ∧ p.t.n = f.t.n) → Met (setBlock w B (.map (es.push ⟨KP x y f.t.n, .agg #[], clock⟩) (clock + 1))) B L' := by
      intro L' hs hp'
      refine ⟨_, _, hset _, fun e hm => ?_⟩
      simp only [Array.toList_push, List.mem_append, List.mem_singleton] at hm
      rcases hm with hm | rfl
      · obtain ⟨a, g, b, c⟩ := he e hm
        exact ⟨a, g, hs g b, c⟩
      · obtain ⟨p, p1, p2, p3, p4⟩ := hp'
        exact ⟨rfl, p, p1, x, y, p2.trans hx, p3.trans hy, by omega, by rw [p4]⟩
    refine ⟨setBlock w B (.map (es.push ⟨KP x y f.t.n, .agg #[], clock⟩) (clock + 1)), ?_, all _ (fun g hg => by simp [hg]) ⟨f, by simp, rfl, rfl, rfl⟩, all _ (fun g hg => hg), hgr _⟩
    simp [Instr.mapUpdate, run_underlying Try.underlying67, MapKept.run_getObj_map hb, ckKey, h1, MapKept.run_setObj_map _ hb, Result.andThen, setBlock]
  · have hj : es[j]? = some e0 := by simpa using h2
    have hlist : (es.modify j (fun e' => { e' with key := KP x y f.t.n, val := .agg #[] })).toList = es.toList.set j { e0 with key := KP x y f.t.n, val := .agg #[] } := by rw [Array.toList_modify, ChangeMaps.modify_eq_set _ _ _ _ h2]
    have hm0 := List.mem_of_getElem? h2
    have all : ∀ (L' : List Fr), (∀ g, g ∈ L → g ∈ L') → Met (setBlock w B (.map (es.modify j (fun e' => { e' with key := KP x y f.t.n, val := .agg #[] })) clock)) B L' := by
      intro L' hs
      refine ⟨_, _, hset _, fun e hm => ?_⟩
      rw [hlist] at hm
      rcases List.mem_or_eq_of_mem_set hm with hm | rfl
      · obtain ⟨a, g, b, c⟩ := he e hm
        exact ⟨a, g, hs g b, c⟩
      · obtain ⟨a, g, b, x', y', c1, c2, c3, c4⟩ := he e0 hm0
        exact ⟨rfl, g, hs g b, x', y', c1, c2, c3, by rw [← c4, h3]⟩
    refine ⟨setBlock w B (.map (es.modify j (fun e' => { e' with key := KP x y f.t.n, val := .agg #[] })) clock), ?_, all _ (fun g hg => by simp [hg]), fun _ => all _ (fun g hg => hg), hgr _⟩
    simp [Instr.mapUpdate, run_underlying Try.underlying67, MapKept.run_getObj_map hb, ckKey, h1, hj, h3, ktKey, MapKept.run_setObj_map _ hb, Result.andThen, setBlock]
end Go.Proofs.Ytbcojkadfbpmgaa
