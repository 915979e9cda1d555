/- Lists of one's own that grow: what else stays as it was. -/
import Derived.Test.YtfopmobopmdahaaGreatRd
import Derived.Test.YtfopmobopmdahaaGreatAppA
import Derived.Test.YtfopmobopmdahaaGreatMkA
namespace Go.Proofs.YtfopmobopmdahaaGreat
open Go.ChangeShapes Go.WideShapes Go.ChangeAt Go.RowKit Go.Joins
set_option linter.unusedVariables false

theorem Made.mov {w w' : World} {B m R : Nat} (h : Made w B m) (hm : Mov R w w') (hR : B ≠ R) : Made w' B m :=
  ⟨Nat.lt_of_lt_of_le h.1 hm.size, fun j hj => by
    obtain ⟨⟨v, hv⟩, hf⟩ := h.2 j hj
    exact ⟨⟨v, hm.cell hv hR⟩, hm.frozen hv hR hf⟩⟩
theorem Mov.grown {R : Nat} {w v w' : World} {row : Option Nat} (h : Mov R w v) (hg : v.grownBy w' row) (hr : ∀ k, row = some k → w.heap.size ≤ k) : Mov R w w' :=
  ⟨hg.os.trans h.1, hg.tape.trans h.2.1, hg.output.trans h.2.2.1, Nat.le_trans h.2.2.2.1 hg.size, fun i hi hR => (hg.block i (Nat.lt_of_lt_of_le hi h.2.2.2.1) (fun e => by have := hr i e.symm; omega)).trans (h.2.2.2.2 i hi hR)⟩
theorem grown_mov {R : Nat} {w w' : World} (h : Mov R w w') : w.grownBy w' (some R) := ⟨h.1, h.2.1, h.2.2.1, h.2.2.2.1, fun k hk hne => h.2.2.2.2 k hk (fun e => hne (by rw [e]))⟩
theorem mov_of_grown {g : Nat} {w w' : World} (h : w.grownBy w' (some g)) : Mov g w w' := ⟨h.os, h.tape, h.output, h.size, fun k hk hne => h.block k hk (fun e => hne (by injection e))⟩
theorem own_cap {w : World} {base g n cap size : Nat} {e : TypeId} {xs : List Value} (h : w.ownsRow base e size (.slice (some ⟨g, 0, none⟩) n cap) n xs) : n ≤ cap ∧ g < w.heap.size := by
  rcases h.2 with ⟨h', _⟩ | ⟨g', cap', cur, h', _, hg, hc, _⟩
  · cases h'
  · simp at h'
    obtain ⟨rfl, rfl⟩ := h'
    exact ⟨hc, (Array.getElem?_eq_some_iff.1 hg).1⟩
theorem own_base {w : World} {base g n cap size : Nat} {e : TypeId} {xs : List Value} (h : w.ownsRow base e size (.slice (some ⟨g, 0, none⟩) n cap) n xs) : base ≤ g := by
  rcases h.2 with ⟨h', _⟩ | ⟨g', cap', cur, h', hb, _⟩
  · cases h'
  · simp at h'
    obtain ⟨rfl, rfl⟩ := h'
    exact hb
theorem own_mono {w : World} {base base' n size : Nat} {e : TypeId} {v : Value} {xs : List Value} (h : w.ownsRow base e size v n xs) (hb : base' ≤ base) : w.ownsRow base' e size v n xs := by
  refine ⟨h.1, ?_⟩
  rcases h.2 with h' | ⟨g', cap', cur, h', hb', r⟩
  · exact Or.inl h'
  · exact Or.inr ⟨g', cap', cur, h', Nat.le_trans hb hb', r⟩
theorem grown_below {w w' : World} (b : Below w.heap.size w w') : w.grownBy w' none := ⟨b.os, b.tape, b.output, b.size, fun k hk _ => b.block k hk⟩
theorem below_grown {w w' : World} (b : w.grownBy w' none) : Below w.heap.size w w' := ⟨b.os, b.tape, b.output, b.size, fun k hk => b.block k hk (by simp)⟩
theorem grown_trans {a b c : World} {row : Option Nat} (h : a.grownBy b row) (k : b.grownBy c row) : a.grownBy c row :=
  ⟨k.os.trans h.os, k.tape.trans h.tape, k.output.trans h.output, Nat.le_trans h.size k.size, fun i hi hne => (k.block i (Nat.lt_of_lt_of_le hi h.size) hne).trans (h.block i hi hne)⟩
theorem grown_mono {a b : World} {row : Option Nat} (h : a.grownBy b none) : a.grownBy b row := ⟨h.os, h.tape, h.output, h.size, fun i hi hne => h.block i hi (by simp)⟩
/-- What lies in no row that has grown stays. -/
theorem grown_cell {w w' : World} {row : Option Nat} (h : w.grownBy w' row) {p : Addr} {v : Value} (hc : w.cell? p = some v) (hne : row ≠ some p.block) : w'.cell? p = some v :=
  (World.cell?_of_block (w := w) (h.block p.block (World.block_lt_of_cell? _ _ hc) (fun e => hne e.symm))).trans hc
theorem grown_frozen {w w' : World} {row : Option Nat} (h : w.grownBy w' row) {p : Addr} {v : Value} (hc : w.cell? p = some v) (hne : row ≠ some p.block) (hf : w.frozen? p = false) : w'.frozen? p = false :=
  (World.frozen?_of_block (w := w) (h.block p.block (World.block_lt_of_cell? _ _ hc) (fun e => hne e.symm))).trans hf
theorem Rd.grown {w w' : World} {R N : Nat} {row : Option Nat} (h : Rd w R N) (hg : w.grownBy w' row) (hr : ∀ k, row = some k → R < k) : Rd w' R N := by
  cases row with
  | none => exact h.below (below_grown hg)
  | some g => exact h.other (mov_of_grown hg) (hr g rfl)
theorem own_new (w : World) (e : TypeId) (size : Nat) : (w.alloc (.cells #[] e)).ownsRow w.heap.size e size (.slice (some ⟨w.heap.size, 0, none⟩) 0 0) 0 [] :=
  ⟨by simp, .inr ⟨w.heap.size, 0, #[], rfl, Nat.le_refl _, heap_alloc_new w _, Nat.le_refl _, by unfold maxLen; omega, by simp, by simp⟩⟩
theorem own_nil (w : World) (base : Nat) (e : TypeId) (size : Nat) : w.ownsRow base e size (.slice none 0 0) 0 [] := ⟨by simp, .inl ⟨rfl, rfl⟩⟩
/-- An append onto a list of one's own, or onto none: where it lies behind it. -/
theorem append_any {P : Program} (w : World) (base : Nat) (t ty e : TypeId) (i : TypeInfo) (z : Value) (size bytes : Nat) (ht : P.underlying t = some (.slice e)) (hi : P.info? e = some i) (hz : i.zero = some z)
    (hsize : i.size = size) (hby : i.bytes = bytes) (hzs : z.cells.size = size) (hsz : 0 < size) (v : Value) (n : Nat) (xs : List Value) (hown : w.ownsRow base e size v n xs)
    (a : Addr) (m c : Nat) (news : List Value) (hl : news.length = m * size) (hnews : ∀ j u, news[j]? = some u → w.cell? (a.add j) = some u) (h1 : ∀ u ∈ news, u.oneCell' = true)
    (hm : 0 < m) (h63 : n + m ≤ maxLen) (hbytes : (n + m) * bytes ≤ 140737488355328) (hbase : base ≤ w.heap.size) :
    ∃ g' cap' w', (Builtin.append_ #[t, t] ty #[v, .slice (some a) m c]).run P w = .ok (.slice (some ⟨g', 0, none⟩) (n + m) cap') w' ∧ w'.ownsRow base e size (.slice (some ⟨g', 0, none⟩) (n + m) cap') (n + m) (xs ++ news) ∧ w.grownBy w' v.ownBlock ∧ (v.ownBlock = some g' ∨ w.heap.size ≤ g') := by
  rcases hown.2 with ⟨rfl, rfl⟩ | ⟨g, cap, cur, rfl, _⟩
  · obtain ⟨v', w', hr, h2, h3, h4⟩ := run_append_own (P := P) w w.heap.size t ty e i z size bytes ht hi hz hsize hby hzs hsz (.slice none 0 0) 0 xs ⟨hown.1, .inl ⟨rfl, rfl⟩⟩ a m c news hl hnews h1 h63 hbytes (Nat.le_refl _)
    rcases h2.2 with ⟨hv, _⟩ | ⟨g', cap', cur, hv, hb, _⟩
    · have := (h4.1 hv).2; omega
    · subst hv
      exact ⟨g', cap', w', hr, own_mono h2 hbase, h3, Or.inr hb⟩
  · obtain ⟨g', cap', w', hr, h2, h3, h4⟩ := append_where (P := P) w base t ty e i z size bytes ht hi hz hsize hby hzs hsz g n cap xs hown a m c news hl hnews h1 h63 hbytes hbase
    exact ⟨g', cap', w', hr, h2, h3, by rcases h4 with rfl | rfl; exact Or.inl rfl; exact Or.inr (Nat.le_refl _)⟩
/-- An append of one that has just been laid down. -/
theorem append_one {P : Program} (w : World) (base : Nat) (t ty e : TypeId) (i : TypeInfo) (z : Value) (bytes : Nat) (ht : P.underlying t = some (.slice e)) (hi : P.info? e = some i) (hz : i.zero = some z)
    (hsize : i.size = 1) (hby : i.bytes = bytes) (hzs : z.cells.size = 1) (v : Value) (n : Nat) (xs : List Value) (hown : w.ownsRow base e 1 v n xs) (u : Value) (h1 : u.oneCell' = true) (h63 : n + 1 ≤ 1000000) (hb24 : bytes ≤ 64) (hbase : base ≤ w.heap.size) :
    ∃ g' cap' w', (Builtin.append_ #[t, t] ty #[v, .slice (some ⟨w.heap.size, 0, none⟩) 1 1]).run P (w.alloc (.cells #[u] e)) = .ok (.slice (some ⟨g', 0, none⟩) (n + 1) cap') w' ∧ w'.ownsRow base e 1 (.slice (some ⟨g', 0, none⟩) (n + 1) cap') (n + 1) (xs ++ [u]) ∧ w.grownBy w' v.ownBlock ∧ (v.ownBlock = some g' ∨ w.heap.size ≤ g') := by
  have b3 : Below w.heap.size w (w.alloc (.cells #[u] e)) := (Below.refl _ _).alloc (Nat.le_refl _) _
  have ow := World.ownsRow.kept (w' := w.alloc (.cells #[u] e)) hown (grown_below b3) (by cases v.ownBlock <;> simp)
  obtain ⟨g', cap', w', h2, h3, h4, h5⟩ := append_any (P := P) (w.alloc (.cells #[u] e)) base t ty e i z 1 bytes ht hi hz hsize hby hzs (by omega) v n xs ow ⟨w.heap.size, 0, none⟩ 1 1 [u] rfl (by
    intro j x hj
    rw [Go.WideShapes.add_plain, Nat.zero_add]
    match j, hj with
    | 0, hj => simp at hj; rw [← hj]; simp [go_sem]
    | j + 1, hj => simp at hj) (by intro x hx; simp at hx; subst hx; exact h1) (by omega) (by unfold maxLen; omega) (by
      have : (n + 1) * bytes ≤ 1000000 * 64 := Nat.mul_le_mul h63 hb24
      omega) (by simp; omega)
  exact ⟨g', cap', w', h2, h3, grown_trans (grown_mono (grown_below b3)) h4, by
    rcases h5 with h5 | h5
    · exact Or.inl h5
    · right; simp at h5; omega⟩
end Go.Proofs.YtfopmobopmdahaaGreat
