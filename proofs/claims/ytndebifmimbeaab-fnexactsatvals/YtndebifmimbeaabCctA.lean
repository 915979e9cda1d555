/- Two lists of lists, one behind the other, in new memory (slices.Concat); and whether a number is in a list (slices.Contains). -/
import Derived.Test.YtndebifmimbeaabGrwA
import Derived.Test.YtndebifmimbeaabWhyM
import Derived.Test.YtndebifmimbeaabLstA
import Derived.Lib.AppendZeros
import Derived.Deep.Upon
namespace Go.Proofs.Ytndebifmimbeaab
open Go.ChangeShapes Go.WideShapes Go.ChangeAt Go.RowKit Go.Joins
set_option linter.unusedVariables false

def idxI (V : Nat → Int) (x : Int) (l : Nat) : Int := match (List.range l).find? (fun i => V i == x) with | some i => i | none => -1
set_option maxHeartbeats 1000000 in
theorem index_any (a : Option Addr) (l cap : Nat) (V : Nat → Int) (x : Int) (w : World) (hd : IntsAt w a l V) (hl : l ≤ 1048576) :
    Calls Try.prog 56 #[.slice a l cap, .int .i64 x] w fun e w' => (∃ i : Int, e = .returned (.int .i64 i) ∧ (0 ≤ i ↔ hsB V x l = true) ∧ -1 ≤ i ∧ i ≤ l) ∧ w' = w := by
  have HD := hide hd
  clear hd
  go_enter Try.func56, Try.ntmps56
  go_wp2
  go_loopw [8] (fun i wr => ∃ k : Nat, k ≤ l ∧ i = .int .i64 k ∧ (∀ j, j < k → V j ≠ x) ∧ wr = w) (fun i _ => l - (intOf i).toNat)
  case atStart => exact ⟨0, by omega, rfl, fun j hj => by omega, rfl⟩
  case round =>
    obtain ⟨k, hk, rfl, hok, rfl⟩ := hrel
    have HK := hide hok
    clear hok
    by_cases hlt : k < l
    · obtain ⟨b', off, rfl, hb, hd⟩ := (unhide HD).ok hlt
      have d0 := hd k hlt
      clear hd
      by_cases he : V k = x
      · have HS := hide ((hsB_iff V x l).2 ⟨k, hlt, he⟩)
        have kb : (x == V k) = true := by simp [he]
        clear he
        go_wp2
        go_ret
        exact ⟨⟨_, rfl, ⟨fun _ => unhide HS, fun _ => by omega⟩, by omega, by omega⟩, rfl⟩
      · have HK1 : Hid (∀ j, j < k + 1 → V j ≠ x) := fun j hj => by
          by_cases e : j = k
          · subst e; exact he
          · exact unhide HK j (by omega)
        have kb : (x == V k) = false := by simp; exact fun e => he e.symm
        clear he
        go_wp2
        go_roundw
        case rel => exact ⟨k + 1, by omega, by go_num, unhide HK1, trivial⟩
        case measure => simp [intOf]; omega
    · have e : k = l := by omega
      subst e
      go_wp2
      go_ret
      refine ⟨⟨-1, rfl, ⟨fun h => by omega, fun h => ?_⟩, by omega, by omega⟩, rfl⟩
      obtain ⟨j, hj, e⟩ := (hsB_iff V x k).1 h
      exact absurd e (unhide HK j hj)
set_option maxHeartbeats 1000000 in
theorem contains_any (a : Option Addr) (l cap : Nat) (V : Nat → Int) (x : Int) (w : World) (hd : IntsAt w a l V) (hl : l ≤ 1048576) :
    Calls Try.prog 55 #[.slice a l cap, .int .i64 x] w fun e w' => e = .returned (.bool (hsB V x l)) ∧ w' = w := by
  have HD := hide hd
  clear hd
  go_enter Try.func55, Try.ntmps55
  go_wp2_with fail
  refine (index_any _ _ _ _ _ _ (unhide HD) hl).mono ?_
  rintro e w1 ⟨⟨i, rfl, hi, h1, h2⟩, rfl⟩
  have HI := hide hi
  clear hi
  go_wp2
  go_ret
  refine ⟨ret_bool ?_, rfl⟩
  rw [Bool.eq_iff_iff, ← unhide HI]
  simp
/-- The slices of a row, as values. -/
def rcells (n : Nat) (A : Nat → Option Addr) (L C : Nat → Nat) : List Value := (List.range n).map fun i => .slice (A i) (L i) (C i)
theorem rcells_len (n : Nat) (A : Nat → Option Addr) (L C : Nat → Nat) : (rcells n A L C).length = n := by simp [rcells]
theorem rcells_get (n : Nat) (A : Nat → Option Addr) (L C : Nat → Nat) (j : Nat) : (rcells n A L C)[j]? = if j < n then some (.slice (A j) (L j) (C j)) else none := by
  unfold rcells
  rw [List.getElem?_map]
  by_cases h : j < n
  · rw [if_pos h, List.getElem?_range h]; rfl
  · rw [if_neg h, List.getElem?_eq_none (by simp; omega)]; rfl
theorem own_slice2 {w : World} {base n : Nat} {e : TypeId} {v : Value} {xs : List Value} (h : w.ownsRow base e 1 v n xs) : ∃ a cap, v = .slice a n cap ∧ n ≤ cap := by
  rcases h.2 with ⟨rfl, rfl⟩ | ⟨g, cap, cur, rfl, _, _, hc, _⟩
  · exact ⟨none, 0, rfl, Nat.le_refl _⟩
  · exact ⟨_, cap, rfl, hc⟩
/-- A row of slices appended onto a row of one's own. -/
theorem rows_more (w : World) (base : Nat) (v : Value) (m : Nat) (xs : List Value) (a : Option Addr) (n cap : Nat) (A : Nat → Option Addr) (L C : Nat → Nat) (V : Nat → Nat → Int) (hown : w.ownsRow base 22 1 v m xs) (hd : RwsAt w a n A L C V) (h63 : m + n ≤ 1000000) (hbase : base ≤ w.heap.size) :
    ∃ a' c' w', (Builtin.append_ #[23, 23] 23 #[v, .slice a n cap]).run Try.prog w = .ok (.slice a' (m + n : Nat) c') w' ∧ w'.ownsRow base 22 1 (.slice a' (m + n : Nat) c') (m + n) (xs ++ rcells n A L C) ∧ w.grownBy w' v.ownBlock := by
  obtain ⟨i, hi, hzz⟩ := Option.map_eq_some_iff.1 infoInts
  simp only [Prod.mk.injEq] at hzz
  obtain ⟨hz, hsz, hby⟩ := hzz
  by_cases h0 : n = 0
  · subst h0
    obtain ⟨a', c', rfl, hc⟩ := own_slice2 hown
    have hr := run_append_nothing (P := Try.prog) w 23 23 23 22 i Try.underlying23 hi a' m c' hc (.slice a 0 cap) (by cases a with | none => exact Src.ofNil w Try.underlying23 cap | some a => exact Src.ofSlice w Try.underlying23 a 0 cap [] (by simp) (by intro j u h; simp at h) (by intro u h; simp at h))
    exact ⟨a', c', w, hr, by simpa [rcells] using hown, ⟨rfl, rfl, rfl, Nat.le_refl _, fun _ _ _ => rfl⟩⟩
  · obtain ⟨b, off, rfl, hb, hd⟩ := hd.ok (show 0 < n by omega)
    obtain ⟨v', w', hr, h2, h3, h4⟩ := run_append_own (P := Try.prog) w base 23 23 22 i (.slice none 0 0) 1 24 Try.underlying23 hi hz hsz hby (by simp [Value.cells]) (by omega) v m xs hown ⟨b, off, none⟩ n cap (rcells n A L C) (by rw [rcells_len]; omega) (by
      intro j u hj
      rw [rcells_get] at hj
      split at hj
      · rename_i hjn
        rw [Go.WideShapes.add_plain]
        rw [(hd j hjn).1]
        exact hj
      · cases hj) (by
      intro u hu
      simp only [rcells, List.mem_map] at hu
      obtain ⟨j, _, rfl⟩ := hu
      rfl) (by unfold maxLen; omega) (by omega) hbase
    obtain ⟨a', c', rfl, hc⟩ := own_slice2 h2
    exact ⟨a', c', w', hr, h2, h3⟩
theorem below_of_own {w v w' : World} {a : Option Addr} {m c : Nat} (hb : Below w.heap.size w v) (hg : v.grownBy w' (Value.slice a m c).ownBlock) (hl : ∀ k, (Value.slice a m c).ownBlock = some k → w.heap.size ≤ k ∧ k < v.heap.size) : Below w.heap.size w w' :=
  hb.trans ⟨hg.os, hg.tape, hg.output, hg.size, fun k hk => hg.block k (Nat.lt_of_lt_of_le hk hb.size) (fun e => by have := (hl k e.symm).1; omega)⟩
theorem below_cell_own {w v w' : World} {a : Option Addr} {m c : Nat} (hb : Below w.heap.size w v) (hg : v.grownBy w' (Value.slice a m c).ownBlock) (hl : ∀ k, (Value.slice a m c).ownBlock = some k → w.heap.size ≤ k ∧ k < v.heap.size) {p : Addr} {u : Value} (hp : p.block < w.heap.size) (h : v.cell? p = some u) : w'.cell? p = some u :=
  grown_cell hg h (fun e => by have := (hl _ e).1; omega)
/-- Slices in a row of one's own. -/
def GList (w : World) (lo : Nat) (g : Option Addr) (n : Nat) (A : Nat → Option Addr) (L C : Nat → Nat) : Prop := n = 0 ∨ ∃ gb, g = some ⟨gb, 0, none⟩ ∧ lo ≤ gb ∧ gb < w.heap.size ∧ ∀ i, i < n → w.cell? ⟨gb, i, none⟩ = some (.slice (A i) (L i) (C i))
theorem GList.later {w w' : World} {lo : Nat} {g : Option Addr} {n : Nat} {A : Nat → Option Addr} {L C : Nat → Nat} (h : GList w lo g n A L C) (hb : Below w.heap.size w w') : GList w' lo g n A L C := by
  rcases h with h | ⟨gb, h1, h2, h3, h4⟩
  · exact Or.inl h
  · exact Or.inr ⟨gb, h1, h2, Nat.lt_of_lt_of_le h3 hb.size, fun i hi => cell_later hb (h4 i hi)⟩
theorem GList.set {w : World} {lo : Nat} {g : Option Addr} {n : Nat} {A : Nat → Option Addr} {L C : Nat → Nat} (h : GList w lo g n A L C) (x : Addr) (v : Value) (hx : x.block < lo) : GList (w.setCell x v) lo g n A L C := by
  rcases h with h | ⟨gb, h1, h2, h3, h4⟩
  · exact Or.inl h
  · exact Or.inr ⟨gb, h1, h2, by simpa using h3, fun i hi => by rw [World.cell?_setCell_other _ _ _ _ (by intro e; rw [e] at hx; simp at hx; omega)]; exact h4 i hi⟩
theorem jn_own {w : World} {base : Nat} {g : Option Addr} {c n n' : Nat} {A A' : Nat → Option Addr} {L L' C C' : Nat → Nat} (h : w.ownsRow base 22 1 (.slice g (n + n' : Nat) c) (n + n') (rcells n A L C ++ rcells n' A' L' C')) :
    GList w base g (n + n') (jn n A A') (jn n L L') (jn n C C') := by
  by_cases h0 : n + n' = 0
  · exact Or.inl h0
  · rcases h.2 with ⟨h', _⟩ | ⟨g', cap', cur, h', hbg, hg, _⟩
    · simp at h'; omega
    · simp only [Value.slice.injEq] at h'
      obtain ⟨rfl, _, rfl⟩ := h'
      refine Or.inr ⟨g', rfl, hbg, (Array.getElem?_eq_some_iff.1 hg).1, fun i hi => ?_⟩
      have hc := World.ownsRow.cells h (g := g') rfl i
      by_cases hin : i < n
      · have := hc (.slice (A i) (L i) (C i)) (by rw [List.getElem?_append_left (by rw [rcells_len]; exact hin), rcells_get, if_pos hin])
        rw [Go.WideShapes.add_plain, Nat.zero_add] at this
        rw [jn_lt hin, jn_lt hin, jn_lt hin]
        exact this
      · have hin' : i - n < n' := by omega
        have := hc (.slice (A' (i - n)) (L' (i - n)) (C' (i - n))) (by rw [List.getElem?_append_right (by rw [rcells_len]; omega), rcells_len, rcells_get, if_pos hin'])
        rw [Go.WideShapes.add_plain, Nat.zero_add] at this
        rw [jn_ge (by omega), jn_ge (by omega), jn_ge (by omega)]
        exact this
set_option maxHeartbeats 1000000 in
theorem grow_any (t : Nat) (w : World) (ht : t ≤ 100000) :
    Calls Try.prog 54 #[.slice none 0 0, .int .i64 t] w fun e w' => ∃ a cap, e = .returned (.slice a 0 cap) ∧ w'.ownsRow w.heap.size 22 1 (.slice a 0 cap) 0 [] ∧ Below w.heap.size w w' := by
  by_cases h0 : t = 0
  · subst h0
    go_enter Try.func54, Try.ntmps54
    go_wp2
    go_ret
    exact ⟨none, 0, rfl, own_nil _ _ _ _, Below.refl _ _⟩
  · obtain ⟨i, hi, hzz⟩ := Option.map_eq_some_iff.1 infoInts
    simp only [Prod.mk.injEq] at hzz
    obtain ⟨hz, hsz, hby⟩ := hzz
    have hr := Lib.run_append_nil_zeros (P := Try.prog) w 23 3 23 22 i (.slice none 0 0) .i64 .i64 Try.underlying23 Try.underlying3 hi hz t (by omega) (by omega) (by omega) (by rw [hby]; omega)
    have HR := hide hr
    have hge := grownCap_ge w t 0 22
    have hcm : grownCap w t 0 22 ≤ maxLen := grownCap_le_maxLen w t 0 22 (by unfold maxLen; omega)
    have hown := World.ownsRow_made (base := w.heap.size) (e := 22) (size := 1) w.drew (Builtin.zeroCells (Value.slice none 0 0).cells t ++ Builtin.zeroCells (Value.slice none 0 0).cells (grownCap w t 0 22 - t)) (grownCap w t 0 22) (Nat.le_refl _) hcm (by
      rw [Array.size_append, size_zeroCells, size_zeroCells]
      simp [Value.cells]
      omega)
    have HO := hide hown
    clear hr hown hi hz hsz hby
    generalize grownCap w t 0 22 = gc at *
    unfold maxLen at hcm
    have tp : (0 : Int) < t := by omega
    go_enter Try.func54, Try.ntmps54
    go_wp2_with (first | (at_builtin; refine Lib.wpList_append_run _ rfl (.tmp 20) (.tmp 21) 23 3 rfl _ _ rfl rfl _ _ (unhide HR) ?_))
    go_ret
    exact ⟨_, gc, rfl, unhide HO, ((Below.refl w.heap.size w).drew).alloc (Nat.le_refl _) _⟩
set_option maxHeartbeats 2000000 in
theorem concat_any (Z : Nat) (a : Option Addr) (n cap : Nat) (A : Nat → Option Addr) (L C : Nat → Nat) (V : Nat → Nat → Int) (a' : Option Addr) (n' cap' : Nat) (A' : Nat → Option Addr) (L' C' : Nat → Nat) (V' : Nat → Nat → Int) (w : World)
    (hd : RwsAt w a n A L C V) (hd' : RwsAt w a' n' A' L' C' V') (hn : n ≤ 3000) (hn' : n' ≤ 3000) (z0 : w.cell? ⟨Z, 0, none⟩ = some (.slice a n cap)) (z1 : w.cell? ⟨Z, 1, none⟩ = some (.slice a' n' cap')) :
    Calls Try.prog 51 #[.slice (some ⟨Z, 0, none⟩) 2 2] w fun e w' => ∃ g c, e = .returned (.slice g (n + n' : Nat) c) ∧ GList w' w.heap.size g (n + n') (jn n A A') (jn n L L') (jn n C C') ∧ Below w.heap.size w w' := by
  have HD := hide hd
  have HE := hide hd'
  have z00 := z0
  have z01 := z1
  clear hd hd'
  go_enter Try.func51, Try.ntmps51
  go_wp2
  go_loopw [3, 11] (fun s i wr => ((i = .int .i64 0 ∧ s = .int .i64 0) ∨ (i = .int .i64 1 ∧ s = .int .i64 n) ∨ (i = .int .i64 2 ∧ s = .int .i64 ((n : Int) + n'))) ∧ wr = w) (fun _ i _ => 2 - (intOf i).toNat)
  case atStart => exact ⟨Or.inl ⟨rfl, rfl⟩, rfl⟩
  case round =>
    obtain ⟨hr, hq⟩ := hrel
    replace hq := hq.symm
    subst hq
    rcases hr with ⟨rfl, rfl⟩ | ⟨rfl, rfl⟩ | ⟨rfl, rfl⟩
    · go_wp2
      go_roundw
      case rel => exact ⟨Or.inr (Or.inl ⟨by go_num, by go_num⟩), trivial⟩
      case measure => simp [intOf]
    · go_wp2
      go_roundw
      case rel => exact ⟨Or.inr (Or.inr ⟨by go_num, by go_num⟩), trivial⟩
      case measure => simp [intOf]
    · go_wp2_with fail
      have eN : (n : Int) + n' = ((n + n' : Nat) : Int) := by omega
      rw [eN]
      refine (grow_any (n + n') _ (by omega)).mono ?_
      rintro e w1 ⟨ga, gc, rfl, ow, b1⟩
      have OW := hide ow
      clear ow
      replace z0 := cell_later b1 z0
      replace z1 := cell_later b1 z1
      clear eN
      go_wp2
      go_loopw [6, 27] (fun v i wv => (∃ a2 m c2 xs, v = .slice a2 m c2 ∧ wv.ownsRow w.heap.size 22 1 (.slice a2 m c2) m xs ∧ ((i = .int .i64 0 ∧ m = 0 ∧ xs = []) ∨ (i = .int .i64 1 ∧ m = n ∧ xs = rcells n A L C) ∨ (i = .int .i64 2 ∧ m = n + n' ∧ xs = rcells n A L C ++ rcells n' A' L' C'))) ∧ wv.cell? ⟨Z, 0, none⟩ = some (.slice a n cap) ∧ wv.cell? ⟨Z, 1, none⟩ = some (.slice a' n' cap') ∧ Below w.heap.size w wv) (fun _ i _ => 2 - (intOf i).toNat)
      case atStart => exact ⟨⟨ga, 0, gc, [], rfl, unhide OW, Or.inl ⟨rfl, rfl, rfl⟩⟩, z0, z1, b1⟩
      case round =>
        obtain ⟨⟨a2, m, c2, xs, rfl, ow, hr⟩, y0, y1, bv⟩ := hrel
        have hbs := (World.ownsRow.lt ow)
        rcases hr with ⟨rfl, rfl, rfl⟩ | ⟨rfl, rfl, rfl⟩ | ⟨rfl, rfl, rfl⟩
        · obtain ⟨a3, c3, w3, hrun, ow3, gr3⟩ := rows_more wr w.heap.size _ 0 [] a n cap A L C V ow ((unhide HD).later bv) (by omega) bv.size
          have HR := hide hrun
          have OW3 := hide ow3
          have B3 := below_of_own bv gr3 hbs
          have y2 := below_cell_own bv gr3 hbs (p := ⟨Z, 0, none⟩) (World.block_lt_of_cell? _ _ z00) y0
          have y3 := below_cell_own bv gr3 hbs (p := ⟨Z, 1, none⟩) (World.block_lt_of_cell? _ _ z01) y1
          clear hrun ow3 gr3 ow hbs
          simp only [Nat.zero_add] at HR OW3
          go_wp2_with (first | (at_builtin; refine wpList_append_run _ rfl (.tmp 31) (.tmp 32) 23 rfl _ _ _ _ rfl rfl (unhide HR) ?_))
          go_roundw
          case rel => exact ⟨⟨a3, n, c3, _, rfl, unhide OW3, Or.inr (Or.inl ⟨by go_num, rfl, rfl⟩)⟩, y2, y3, B3⟩
          case measure => simp [intOf]
        · obtain ⟨a3, c3, w3, hrun, ow3, gr3⟩ := rows_more wr w.heap.size _ _ _ a' n' cap' A' L' C' V' ow ((unhide HE).later bv) (by omega) bv.size
          have HR := hide hrun
          have OW3 := hide ow3
          have B3 := below_of_own bv gr3 hbs
          have y2 := below_cell_own bv gr3 hbs (p := ⟨Z, 0, none⟩) (World.block_lt_of_cell? _ _ z00) y0
          have y3 := below_cell_own bv gr3 hbs (p := ⟨Z, 1, none⟩) (World.block_lt_of_cell? _ _ z01) y1
          clear hrun ow3 gr3 ow hbs
          go_wp2_with (first | (at_builtin; refine wpList_append_run _ rfl (.tmp 31) (.tmp 32) 23 rfl _ _ _ _ rfl rfl (unhide HR) ?_))
          go_roundw
          case rel => exact ⟨⟨a3, _, c3, _, rfl, unhide OW3, Or.inr (Or.inr ⟨by go_num, rfl, rfl⟩)⟩, y2, y3, B3⟩
          case measure => simp [intOf]
        · have HO := hide ow
          clear ow hbs
          go_wp2
          go_ret
          exact ⟨a2, c2, rfl, jn_own (unhide HO), bv⟩
end Go.Proofs.Ytndebifmimbeaab
