/- Numbers of names, kept in a map. -/
import Derived.Test.YtfopmobopmdahaaGreatWrtC
import Derived.Test.YtfopmobopmdahaaGreatEnvA
import Derived.Maps.OwnSet
namespace Go.Proofs.YtfopmobopmdahaaGreat
open Go.ChangeShapes Go.WideShapes Go.ChangeAt Go.RowKit Go.Joins Go.Maps
set_option linter.unusedVariables false
set_option linter.unusedSimpArgs false

/-- How a number of a few bits reads as an element of a map. -/
def vecElem : Value → Option (DataW Unit × List MemPlace)
  | .agg cs => match cs.toList with
    | [.int .i64 a, .int .i64 b] => some (.agg [.lit (.int .i64 a), .lit (.int .i64 b)], [])
    | _ => none
  | _ => none
theorem vecElem_mk (a b : Int) : vecElem (.agg #[.int .i64 a, .int .i64 b]) = some (.agg [.lit (.int .i64 a), .lit (.int .i64 b)], []) := rfl
theorem vecElem_inv {v : Value} {a b : Int} {ps : List MemPlace} (h : vecElem v = some (.agg [.lit (.int .i64 a), .lit (.int .i64 b)], ps)) : v = .agg #[.int .i64 a, .int .i64 b] := by
  unfold vecElem at h
  split at h
  · rename_i cs
    split at h
    · rename_i x y hcs
      simp at h
      obtain ⟨⟨rfl, rfl⟩, _⟩ := h
      congr 1
      apply Array.ext'
      simpa using hcs
    · simp at h
  · simp at h
def zd : DataW Unit := .agg [.lit (.int .i64 0), .lit (.int .i64 0)]
def keyL (s : ByteArray) : Lit := .string s.data.toList
theorem keyL_ne {s t : ByteArray} (h : s.toList ≠ t.toList) : keyL s ≠ keyL t := by
  intro e
  apply h
  rw [ByteArray.toList_eq, ByteArray.toList_eq]
  simpa [keyL] using e
theorem keyL_eq {s t : ByteArray} (h : s.toList = t.toList) : keyL s = keyL t := by
  rw [ByteArray.toList_eq, ByteArray.toList_eq] at h
  simp [keyL, h]
/-- A map that has what the first n names are. -/
def Known (w : World) (B n : Nat) (S : Nat → ByteArray) (V E : Nat → Int) : Prop :=
  ∃ D m, w.ownsMap Tryz.prog 9 vecElem B m D ∧ m ≤ n ∧ ∀ s : ByteArray, (findI S s n = -1 → Maps.has D (keyL s) = false) ∧ ∀ k : Nat, findI S s n = (k : Int) → Maps.has D (keyL s) = true ∧ D.atKey (keyL s) zd = .agg [.lit (.int .i64 (V k)), .lit (.int .i64 (E k))]
theorem Known.later {w w' : World} {B n : Nat} {S : Nat → ByteArray} {V E : Nat → Int} (h : Known w B n S V E) (hb : Below w.heap.size w w') : Known w' B n S V E := by
  obtain ⟨D, m, ho, h2⟩ := h
  have hlt := ho.lt
  obtain ⟨es, clock, hbk, F, hs, hD⟩ := ho
  exact ⟨D, m, ⟨es, clock, (hb.block B hlt).trans hbk, F, hs, hD⟩, h2⟩
theorem Known.lt {w : World} {B n : Nat} {S : Nat → ByteArray} {V E : Nat → Int} (h : Known w B n S V E) : B < w.heap.size := by
  obtain ⟨D, m, ho, h2⟩ := h
  exact ho.lt
theorem lawK : Keyed Tryz.prog 9 := string_keyed Tryz.underlying9
theorem zeroVec (w : World) : (zeroValue 107).run Tryz.prog w = .ok (.agg #[.int .i64 0, .int .i64 0]) w := by kernel_rfl
/-- One name more. -/
theorem known_put {D : DataW Unit} {k : Nat} {S : Nat → ByteArray} {V E : Nat → Int} (hD : IsMap D) (hne : ∀ j, j < k → (S j).toList ≠ (S k).toList)
    (h : ∀ s : ByteArray, (findI S s k = -1 → Maps.has D (keyL s) = false) ∧ ∀ j : Nat, findI S s k = (j : Int) → Maps.has D (keyL s) = true ∧ D.atKey (keyL s) zd = .agg [.lit (.int .i64 (V j)), .lit (.int .i64 (E j))]) :
    ∀ s : ByteArray, (findI S s (k + 1) = -1 → Maps.has (D.put (keyL (S k)) (.agg [.lit (.int .i64 (V k)), .lit (.int .i64 (E k))])) (keyL s) = false) ∧ ∀ j : Nat, findI S s (k + 1) = (j : Int) → Maps.has (D.put (keyL (S k)) (.agg [.lit (.int .i64 (V k)), .lit (.int .i64 (E k))])) (keyL s) = true ∧ (D.put (keyL (S k)) (.agg [.lit (.int .i64 (V k)), .lit (.int .i64 (E k))])).atKey (keyL s) zd = .agg [.lit (.int .i64 (V j)), .lit (.int .i64 (E j))] := by
  intro s
  by_cases e : (S k).toList = s.toList
  · have hf : findI S s (k + 1) = k := findI_at (fun j hj => by rw [← e]; exact hne j hj) e (k + 1) (by omega)
    refine ⟨fun h => by rw [hf] at h; omega, fun j hj => ?_⟩
    obtain rfl : j = k := by rw [hf] at hj; omega
    rw [← keyL_eq e]
    exact ⟨has_put_same hD (by unfold keyL; trivial) _, atKey_put_same hD (by unfold keyL; trivial) _ _⟩
  · have hk : keyL s ≠ keyL (S k) := keyL_ne (fun h => e h.symm)
    rw [has_put_other hk, atKey_put_other hk]
    rcases findI_cases S s k with ⟨f1, f2⟩ | ⟨j, j1, f1, f2, f3⟩
    · have hf : findI S s (k + 1) = -1 := findI_none (fun j hj => by
        by_cases ej : j = k
        · subst ej; exact e
        · exact f2 j (by omega))
      exact ⟨fun _ => (h s).1 f1, fun j hj => by rw [hf] at hj; omega⟩
    · have hf : findI S s (k + 1) = j := findI_at f3 f2 (k + 1) (by omega)
      refine ⟨fun h => by rw [hf] at h; omega, fun i hi => ?_⟩
      obtain rfl : i = j := by rw [hf] at hi; omega
      exact (h s).2 i f1
set_option maxRecDepth 100000 in
set_option maxHeartbeats 2000000 in
theorem known_any (b off n cap c off' cap' : Nat) (S : Nat → ByteArray) (V E : Nat → Int) (w : World) (hb : b < w.heap.size) (hd : Decs w b off n S V) (hc : c < w.heap.size) (he : Ints w c off' n E) (hn : n ≤ 4) (hne : ∀ i, i < n → ∀ j, j < i → (S j).toList ≠ (S i).toList) (hs : ∀ i, i < n → (S i).size ≤ 1048576) :
    Calls Tryz.prog 90 #[.slice (some ⟨b, off, none⟩) n cap, .slice (some ⟨c, off', none⟩) n cap'] w fun e w' => (∃ B, e = .returned (.map (some B)) ∧ Known w' B n S V E) ∧ Below w.heap.size w w' := by
  have HD := hide hd
  have HE := hide he
  have HN := hide hne
  have HS := hide hs
  clear hd he hne hs
  have hmm := @run_makeMap Tryz.prog
  go_enter Tryz.func90, Tryz.ntmps90
  go_wp2
  clear hmm
  go_loopw [11] (fun i wr => ∃ k : Nat, k ≤ n ∧ i = .int .i64 k ∧ Known wr w.heap.size k S V E ∧ Below w.heap.size w wr) (fun i _ => n - (intOf i).toNat)
  case atStart =>
    refine ⟨0, by omega, rfl, ⟨.map [], 0, World.ownsMap_made _ _ _ _, Nat.le_refl _, fun s => ⟨fun _ => rfl, fun k hk => ?_⟩⟩, (by repeat (first | exact Below.refl _ _ | assumption | refine below_drewN ?_ _ | refine Below.drew ?_ | refine Below.alloc ?_ (by first | exact Nat.le_refl _ | exact Below.size (by assumption) | (simp; done) | (simp; omega)) _ | refine Below.setCell ?_ (by first | exact Nat.le_refl _ | exact Below.size (by assumption) | (simp; done) | (simp; omega)) _ | refine Below.trans ?_ (by assumption)))⟩
    simp only [findI] at hk
    omega
  case round =>
    obtain ⟨k, hk, rfl, hkn, hbel⟩ := hrel
    have hltB := hkn.lt
    have KN := hide hkn
    clear hkn
    by_cases hlt : k < n
    · have d0 := (hbel.cell (p := ⟨b, off + k * 2, none⟩) hb).trans (unhide HD k hlt).1
      have d1 := (hbel.cell (p := ⟨b, off + k * 2 + 1, none⟩) hb).trans (unhide HD k hlt).2
      have g0w := (hbel.cell (p := ⟨c, off' + k, none⟩) hc).trans (unhide HE k hlt)
      go_wp2
      obtain ⟨wz, hwz⟩ : ∃ wz, wz = wr.alloc (.cells #[.string (S k), .int .i64 (V k)] 40) := ⟨_, rfl⟩
      have bz : Below wr.heap.size wr wz := by rw [hwz]; exact (Below.refl _ _).alloc (Nat.le_refl _) _
      have q0 : wz.cell? ⟨wr.heap.size, 0, none⟩ = some (.string (S k)) := by rw [hwz]; simp [go_sem]
      have q1 : wz.cell? ⟨wr.heap.size, 1, none⟩ = some (.int .i64 (V k)) := by rw [hwz]; simp [go_sem]
      have g0 : wz.cell? ⟨c, off' + k, none⟩ = some (.int .i64 (E k)) := cell_later bz g0w
      rw [← hwz]
      have BZ := hbel.trans (bz.mono hbel.size)
      obtain ⟨D, m, ho, hm, hall⟩ := (unhide KN).later bz
      have hAl := World.block_lt_of_cell? _ _ q0
      have hAn : w.heap.size < wr.heap.size := hltB
      generalize wr.heap.size = A at *
      have hkey : keyOf Tryz.prog 9 (.string (S k)) = some (keyL (S k)) := Go.WideMaps.keyOf_string_mk Tryz.underlying9 (by have := unhide HS k hlt; unfold maxLen; omega)
      have hml : m < maxLen := by unfold maxLen; omega
      obtain ⟨w2, hrun, ho2, hg2⟩ := (show wz.drew.ownsMap Tryz.prog 9 vecElem w.heap.size m D from ho).update lawK Tryz.underlying121 hml hkey (vecElem_mk (V k) (E k))
      have kc : ∀ (p : Addr) (v : Value), wz.cell? p = some v → p.block ≠ w.heap.size → w2.cell? p = some v := by
        intro p v hp hne
        rw [World.cell?_of_block (w := wz.drew) (hg2.block p.block (World.block_lt_of_cell? _ _ hp) (by simp [hne]))]
        exact hp
      have HF := hide (known_put (E := E) (V := V) ho.isMap (unhide HN k hlt) hall)
      have HO := hide ho2
      have HG := hide hg2
      clear hwz bz d0 d1 g0w hall ho ho2 hg2 KN
      refine wp_region_held_drew (S := (fun w' => w'.cell? ⟨A, 0, none⟩ = some (.string (S k)) ∧ w'.cell? ⟨A, 1, none⟩ = some (.int .i64 (V k)) ∧ w'.cell? ⟨c, off' + k, none⟩ = some (.int .i64 (E k)))) (by kernel_rfl) ?_ (fun hHeld => ?_)
      · exact ⟨q0, q1, g0⟩
      refine wpAnyH_take (i := 0) (v := ?_) rfl (by kernel_rfl) (by kernel_rfl) (by kernel_rfl) (fun _ _ _ h => h) (Or.inl ⟨by rfl, ?_⟩) (by assumption) ?_
      rotate_left
      · (intro w hSw; (try dsimp only at hSw); first | (go_simp; done) | (go_simp; with_reducible rfl))
      try simp only [List.getElem_toArray, List.getElem_cons_succ, List.getElem_cons_zero, Act.put, List.setIfInBounds_toArray, List.set_cons_zero, List.set_cons_succ]
      refine wpAnyH_take (i := 1) (v := ?_) rfl (by kernel_rfl) (by kernel_rfl) (by kernel_rfl) (fun _ _ _ h => h) (Or.inl ⟨by rfl, ?_⟩) (by assumption) ?_
      rotate_left
      · (intro w hSw; (try dsimp only at hSw); first | (go_simp; done) | (go_simp; with_reducible rfl))
      try simp only [List.getElem_toArray, List.getElem_cons_succ, List.getElem_cons_zero, Act.put, List.setIfInBounds_toArray, List.set_cons_zero, List.set_cons_succ]
      refine wpAnyH_take (i := 2) (v := ?_) rfl (by kernel_rfl) (by kernel_rfl) (by kernel_rfl) (fun _ _ _ h => h) (Or.inl ⟨by rfl, ?_⟩) (by assumption) ?_
      rotate_left
      · (intro w hSw; (try dsimp only at hSw); first | (go_simp; done) | (go_simp; with_reducible rfl))
      try simp only [List.getElem_toArray, List.getElem_cons_succ, List.getElem_cons_zero, Act.put, List.setIfInBounds_toArray, List.set_cons_zero, List.set_cons_succ]
      refine wpAnyH_take (i := 3) (v := ?_) rfl (by kernel_rfl) (by kernel_rfl) (by kernel_rfl) (fun _ _ _ h => h) (Or.inl ⟨by rfl, ?_⟩) (by assumption) ?_
      rotate_left
      · (intro w hSw; (try dsimp only at hSw); first | (go_simp; done) | (go_simp; with_reducible rfl))
      try simp only [List.getElem_toArray, List.getElem_cons_succ, List.getElem_cons_zero, Act.put, List.setIfInBounds_toArray, List.set_cons_zero, List.set_cons_succ]
      refine wpAnyH_take (i := 4) (v := ?_) rfl (by kernel_rfl) (by kernel_rfl) (by kernel_rfl) (fun _ _ _ h => h) (Or.inl ⟨by rfl, ?_⟩) (by assumption) ?_
      rotate_left
      · (intro w hSw; (try dsimp only at hSw); first | (go_simp; done) | (go_simp; with_reducible rfl))
      try simp only [List.getElem_toArray, List.getElem_cons_succ, List.getElem_cons_zero, Act.put, List.setIfInBounds_toArray, List.set_cons_zero, List.set_cons_succ]
      refine wpAnyH_take (i := 5) (v := ?_) rfl (by kernel_rfl) (by kernel_rfl) (by kernel_rfl) (fun _ _ _ h => h) (Or.inl ⟨by rfl, ?_⟩) (by assumption) ?_
      rotate_left
      · (intro w hSw; (try dsimp only at hSw); first | (go_simp; done) | (go_simp; with_reducible rfl))
      try simp only [List.getElem_toArray, List.getElem_cons_succ, List.getElem_cons_zero, Act.put, List.setIfInBounds_toArray, List.set_cons_zero, List.set_cons_succ]
      refine wpAnyH_take (i := 6) (v := ?_) rfl (by kernel_rfl) (by kernel_rfl) (by kernel_rfl) (fun _ _ _ h => h) (Or.inl ⟨by rfl, ?_⟩) (by assumption) ?_
      rotate_left
      · (intro w hSw; (try dsimp only at hSw); first | (go_simp; done) | (go_simp; with_reducible rfl))
      try simp only [List.getElem_toArray, List.getElem_cons_succ, List.getElem_cons_zero, Act.put, List.setIfInBounds_toArray, List.set_cons_zero, List.set_cons_succ]
      refine wpAnyH_take (i := 7) (v := ?_) rfl (by kernel_rfl) (by kernel_rfl) (by kernel_rfl) (fun _ _ _ h => h) (Or.inl ⟨by rfl, ?_⟩) (by assumption) ?_
      rotate_left
      · (intro w hSw; (try dsimp only at hSw); first | (go_simp; done) | (go_simp; with_reducible rfl))
      try simp only [List.getElem_toArray, List.getElem_cons_succ, List.getElem_cons_zero, Act.put, List.setIfInBounds_toArray, List.set_cons_zero, List.set_cons_succ]
      refine wpAnyH_take (i := 8) (v := ?_) rfl (by kernel_rfl) (by kernel_rfl) (by kernel_rfl) (fun _ _ _ h => h) (Or.inl ⟨by rfl, ?_⟩) (by assumption) ?_
      rotate_left
      · (intro w hSw; (try dsimp only at hSw); first | (go_simp; done) | (go_simp; with_reducible rfl))
      try simp only [List.getElem_toArray, List.getElem_cons_succ, List.getElem_cons_zero, Act.put, List.setIfInBounds_toArray, List.set_cons_zero, List.set_cons_succ]
      refine wpAnyH_take (i := 9) (v := ?_) rfl (by kernel_rfl) (by kernel_rfl) (by kernel_rfl) (fun _ _ _ h => h) (Or.inl ⟨by rfl, ?_⟩) (by assumption) ?_
      rotate_left
      · (intro w hSw; (try dsimp only at hSw); first | (go_simp; done) | (go_simp; with_reducible rfl))
      try simp only [List.getElem_toArray, List.getElem_cons_succ, List.getElem_cons_zero, Act.put, List.setIfInBounds_toArray, List.set_cons_zero, List.set_cons_succ]
      refine wpAnyH_ready (rs := [10]) (by kernel_rfl) (by simp) ?_
      refine AllReadyH.cons rfl (fun K hK => ?_) AllReadyH.nil
      go_simp
      refine hK.out _ _ ?_ (fun hHeld => ?_)
      · exact ⟨kc _ _ q0 (by simp only; omega), kc _ _ q1 (by simp only; omega), kc _ _ g0 (by simp only; omega)⟩
      clear hK K
      try simp only [List.getElem_toArray, List.getElem_cons_succ, List.getElem_cons_zero, Act.put, List.setIfInBounds_toArray, List.set_cons_zero, List.set_cons_succ]
      refine wpAnyH_done (by kernel_rfl) ?_ _
      go_wp2
      go_roundw
      case rel =>
        refine ⟨k + 1, by omega, by go_num, ⟨_, m + 1, unhide HO, by omega, unhide HF⟩, ?_⟩
        exact (show Below w.heap.size w wz.drew from BZ.drew).grown (unhide HG) BZ.size (fun j hj => by simp at hj; omega)
      case measure => simp [intOf]; omega
    · have e : k = n := by omega
      subst e
      go_wp2
      go_ret
      exact ⟨⟨_, rfl, unhide KN⟩, hbel⟩
set_option maxRecDepth 100000 in
set_option maxHeartbeats 2000000 in
theorem worth_name (s : ByteArray) (B n : Nat) (S : Nat → ByteArray) (V E : Nat → Int) (kv : Value) (w : World) (hs : s.size ≤ 1048576) (hk : Known w B n S V E) :
    Calls Tryz.prog 121 #[.agg #[.string s], .map (some B), kv] w fun e w' => (findI S s n = -1 ∧ e = .returned (.tuple #[.agg #[.int .i64 0, .int .i64 0], .bool false]) ∨ ∃ k : Nat, findI S s n = k ∧ e = .returned (.tuple #[.agg #[.int .i64 (V k), .int .i64 (E k)], .bool true])) ∧ Below w.heap.size w w' := by
  have e1 : Below w.heap.size w ((w.alloc (.cells #[.string s] 142)).alloc (.cells #[.int .i64 0, .int .i64 0] 107)) := ((Below.refl w.heap.size w).alloc (Nat.le_refl _) _).alloc (by simp) _
  obtain ⟨D, m, ho, hm, hall⟩ := hk.later e1
  have hkey : keyOf Tryz.prog 9 (.string s) = some (keyL s) := Go.WideMaps.keyOf_string_mk Tryz.underlying9 (by unfold maxLen; omega)
  obtain ⟨v, ps, hrun, hv⟩ := ho.look_ok lawK Tryz.underlying121 (zeroVec _) (show vecElem (.agg #[.int .i64 0, .int .i64 0]) = some (zd, []) from rfl) hkey
  clear hk ho
  rcases findI_cases S s n with ⟨f1, f2⟩ | ⟨k, k1, f1, f2, f3⟩
  · have h0 := (hall s).1 f1
    rw [atKey_of_not_has h0] at hv
    have := vecElem_inv hv
    subst this
    rw [h0] at hrun
    have HF := hide f1
    clear hall hv h0 f1 f2
    go_enter Tryz.func121, Tryz.ntmps121
    go_wp2
    exact bodyPost_ret (v := .tuple #[.agg #[.int .i64 0, .int .i64 0], .bool false]) (by simp [results, Tryz.results121, go_sem]) rfl ⟨Or.inl ⟨unhide HF, rfl⟩, (by repeat (first | exact Below.refl _ _ | assumption | refine below_drewN ?_ _ | refine Below.drew ?_ | refine Below.alloc ?_ (by first | exact Nat.le_refl _ | exact Below.size (by assumption) | (simp; done) | (simp; omega)) _ | refine Below.setCell ?_ (by first | exact Nat.le_refl _ | exact Below.size (by assumption) | (simp; done) | (simp; omega)) _ | refine Below.trans ?_ (by assumption)))⟩
  · obtain ⟨h0, h1⟩ := (hall s).2 k f1
    rw [h1] at hv
    have := vecElem_inv hv
    subst this
    rw [h0] at hrun
    have HF := hide f1
    clear hall hv h0 h1 f1 f2 f3
    go_enter Tryz.func121, Tryz.ntmps121
    go_wp2
    exact bodyPost_ret (v := .tuple #[.agg #[.int .i64 (V k), .int .i64 (E k)], .bool true]) (by simp [results, Tryz.results121, go_sem]) rfl ⟨Or.inr ⟨k, unhide HF, rfl⟩, (by repeat (first | exact Below.refl _ _ | assumption | refine below_drewN ?_ _ | refine Below.drew ?_ | refine Below.alloc ?_ (by first | exact Nat.le_refl _ | exact Below.size (by assumption) | (simp; done) | (simp; omega)) _ | refine Below.setCell ?_ (by first | exact Nat.le_refl _ | exact Below.size (by assumption) | (simp; done) | (simp; omega)) _ | refine Below.trans ?_ (by assumption)))⟩
end Go.Proofs.YtfopmobopmdahaaGreat
