/- Numbers for names: copies, comparisons, and which are right, of the model and of the program. -/
import Derived.Test.YtbincnedkclfgaaGreatDecC
import Derived.Test.YtbincnedkclfgaaGreatDecD
namespace Go.Proofs.YtbincnedkclfgaaGreat
open Go.ChangeShapes Go.WideShapes Go.ChangeAt Go.RowKit Go.Joins
set_option linter.unusedVariables false

/-- Numbers in a row. -/
def Ints (w : World) (b off n : Nat) (V : Nat → Int) : Prop := ∀ i, i < n → w.cell? ⟨b, off + i, none⟩ = some (.int .i64 (V i))
theorem Ints.later {w w' : World} {b off n : Nat} {V : Nat → Int} (h : Ints w b off n V) (hb : Below w.heap.size w w') : Ints w' b off n V := fun i hi => cell_later hb (h i hi)
def IntsAt (w : World) (a : Option Addr) (n : Nat) (V : Nat → Int) : Prop := n = 0 ∨ ∃ b off, a = some ⟨b, off, none⟩ ∧ b < w.heap.size ∧ Ints w b off n V
theorem IntsAt.later {w w' : World} {a : Option Addr} {n : Nat} {V : Nat → Int} (h : IntsAt w a n V) (hb : Below w.heap.size w w') : IntsAt w' a n V := by
  rcases h with h | ⟨b, off, h1, h2, h3⟩
  · exact Or.inl h
  · exact Or.inr ⟨b, off, h1, Nat.lt_of_lt_of_le h2 hb.size, h3.later hb⟩
theorem ints_in {H : Type} {enc : TypeId × Value → H} {w : World} {a : Option Addr} {len cap : Nat} {d : DataW H} {p : List MemPlace} {sp : Nat → Bool} {held : Bool}
    (h : DataW.Trod enc Tryz.prog w 0 sp held 38 (.slice a len cap) d p) : len ≤ cap ∧ len ≤ maxLen ∧ ∃ V, IntsAt w a len V := by
  obtain ⟨fuel, hf⟩ := h
  rcases open_ints Tryz.underlying38 Tryz.underlying3 (by kernel_rfl) hf with ⟨hcs, _⟩ | ⟨x, l, c, zs, hcs, _, hl, hm, hz, _, hcell, hwz⟩
  · simp [Value.cells] at hcs
    obtain ⟨rfl, rfl, rfl⟩ := hcs
    exact ⟨Nat.le_refl _, by unfold maxLen; omega, fun _ => 0, Or.inl rfl⟩
  · simp [Value.cells] at hcs
    obtain ⟨rfl, rfl, rfl⟩ := hcs
    refine ⟨hl, by omega, fun i => zs.getD i 0, ?_⟩
    by_cases h0 : len = 0
    · exact Or.inl h0
    · have hlz : len ≤ zs.length := by rw [hz]; split <;> omega
      obtain ⟨b, off, rfl, hc⟩ := ints_at hcell (by omega)
      exact Or.inr ⟨b, off, rfl, World.block_lt_of_cell? _ _ (hc 0 (by omega)), fun i hi => hc i (by omega)⟩
theorem Ints.put {w : World} {B k : Nat} {V : Nat → Int} {u0 : Value} (h : Ints w B 0 k V) (q0 : w.cell? ⟨B, k, none⟩ = some u0) : Ints (w.setCell ⟨B, k, none⟩ (.int .i64 (V k))) B 0 (k + 1) V := by
  intro i hi
  simp only [Nat.zero_add]
  by_cases e : i = k
  · subst e; exact World.cell?_setCell_same _ _ _ q0
  · have hh := h i (by omega)
    simp only [Nat.zero_add] at hh
    rw [World.cell?_setCell_other _ _ _ _ (by simp <;> omega)]; exact hh
theorem infoInt : (Tryz.prog.info? 3).map (fun i => (i.zero, i.size, i.bytes)) = some (some (.int .i64 0), 1, 8) := by kernel_rfl
set_option maxRecDepth 100000 in
set_option maxHeartbeats 1000000 in
theorem toIntS_any (a : Option Addr) (n cap : Nat) (V : Nat → Int) (w : World) (hd : IntsAt w a n V) (hn : n ≤ 1048576) :
    Calls Tryz.prog 14 #[.slice a n cap] w fun e w' => e = .returned (.slice (some ⟨w.heap.size, 0, none⟩) n n) ∧ Ints w' w.heap.size 0 n V ∧ w.heap.size < w'.heap.size ∧ Below w.heap.size w w' := by
  have hmk := run_make_wide (P := Tryz.prog) 38 3 _ 1 8 Tryz.underlying38 infoInt .i64 .i64 n (by omega) (by omega)
  simp only [Nat.mul_one] at hmk
  rcases hd with rfl | ⟨b, off, rfl, hb, hd⟩
  · simp only [Int.natCast_zero] at hmk
    go_enter Tryz.func14, Tryz.ntmps14
    go_wp2
    go_loopw [4] (fun i wr => i = .int .i64 0 ∧ wr.heap.size = w.heap.size + 1 ∧ Below w.heap.size w wr) (fun _ _ => 0)
    case atStart => exact ⟨rfl, by simp, (by repeat (first | exact Below.refl _ _ | assumption | refine below_drewN ?_ _ | refine Below.drew ?_ | refine Below.alloc ?_ (by first | exact Nat.le_refl _ | exact Below.size (by assumption) | (simp; done) | (simp; omega)) _ | refine Below.setCell ?_ (by first | exact Nat.le_refl _ | exact Below.size (by assumption) | (simp; done) | (simp; omega)) _ | refine Below.trans ?_ (by assumption)))⟩
    case round =>
      obtain ⟨rfl, hsz, hbel⟩ := hrel
      go_wp2
      go_ret
      exact ⟨rfl, fun i hi => by omega, by omega, hbel⟩
  · have HD := hide hd
    clear hd
    go_enter Tryz.func14, Tryz.ntmps14
    go_wp2
    go_loopw [4] (fun i wr => ∃ k : Nat, k ≤ n ∧ i = .int .i64 k ∧ Ints wr w.heap.size 0 k V ∧ Made wr w.heap.size n ∧ Below w.heap.size w wr) (fun i _ => n - (intOf i).toNat)
    case atStart => exact ⟨0, by omega, rfl, fun i hi => by omega, Made.new _ _ _ _, (by repeat (first | exact Below.refl _ _ | assumption | refine below_drewN ?_ _ | refine Below.drew ?_ | refine Below.alloc ?_ (by first | exact Nat.le_refl _ | exact Below.size (by assumption) | (simp; done) | (simp; omega)) _ | refine Below.setCell ?_ (by first | exact Nat.le_refl _ | exact Below.size (by assumption) | (simp; done) | (simp; omega)) _ | refine Below.trans ?_ (by assumption)))⟩
    case round =>
      obtain ⟨k, hk, rfl, hdk, hmd, hbel⟩ := hrel
      have HK := hide hdk
      have HM := hide hmd
      clear hdk hmd
      have hlt0 := (unhide HM).1
      by_cases hlt : k < n
      · have d0 := (hbel.cell (p := ⟨b, off + k, none⟩) hb).trans (unhide HD k hlt)
        obtain ⟨⟨u0, q0⟩, f0⟩ := (unhide HM).2 k (by omega)
        go_wp2
        all_goals go_roundw
        all_goals first | exact ⟨k + 1, by omega, by go_num, (unhide HK).put q0, ((unhide HM).set _ _), (hbel.setCell (Nat.le_refl _) _)⟩ | exact ⟨k + 1, by omega, by go_num, Ints.put (w := wr.drew) (unhide HK) q0, (Made.set (w := wr.drew) (unhide HM) _ _), (hbel.drew.setCell (Nat.le_refl _) _)⟩ | (simp [intOf]; omega)
      · have e : k = n := by omega
        subst e
        go_wp2
        go_ret
        exact ⟨rfl, unhide HK, hlt0, hbel⟩
set_option maxRecDepth 100000 in
set_option maxHeartbeats 1000000 in
theorem eqIntS_same (b off c off' n cap cap' : Nat) (V : Nat → Int) (w : World) (hb : b < w.heap.size) (hc : c < w.heap.size) (hd : Ints w b off n V) (hd' : Ints w c off' n V) (hn : n ≤ 1048576) :
    Calls Tryz.prog 16 #[.slice (some ⟨b, off, none⟩) n cap, .slice (some ⟨c, off', none⟩) n cap'] w fun e w' => e = .returned (.bool true) ∧ Below w.heap.size w w' := by
  have HD := hide hd
  have HE := hide hd'
  clear hd hd'
  go_enter Tryz.func16, Tryz.ntmps16
  go_wp2
  go_loopw [5] (fun i wr => ∃ k : Nat, k ≤ n ∧ i = .int .i64 k ∧ Below w.heap.size w wr) (fun i _ => n - (intOf i).toNat)
  case atStart => exact ⟨0, by omega, rfl, (by repeat (first | exact Below.refl _ _ | assumption | refine below_drewN ?_ _ | refine Below.drew ?_ | refine Below.alloc ?_ (by first | exact Nat.le_refl _ | exact Below.size (by assumption) | (simp; done) | (simp; omega)) _ | refine Below.setCell ?_ (by first | exact Nat.le_refl _ | exact Below.size (by assumption) | (simp; done) | (simp; omega)) _ | refine Below.trans ?_ (by assumption)))⟩
  case round =>
    obtain ⟨k, hk, rfl, hbel⟩ := hrel
    by_cases hlt : k < n
    · have d0 := (hbel.cell (p := ⟨b, off + k, none⟩) hb).trans (unhide HD k hlt)
      have g0 := (hbel.cell (p := ⟨c, off' + k, none⟩) hc).trans (unhide HE k hlt)
      have kb : (V k != V k) = false := by simp
      go_wp2
      go_region
      all_goals go_wp2
      all_goals go_roundw
      all_goals first | exact ⟨k + 1, by omega, by go_num, (by first | exact hbel | exact hbel.drew)⟩ | (simp [intOf]; omega)
    · go_wp2
      go_ret
      exact ⟨rfl, hbel⟩
/-- Numbers that are right for names. -/
def EnvP (n m : Nat) (S : Nat → ByteArray) (V E : Nat → Int) : Prop := DeclP n S V ∧ n = m ∧ ∀ i, i < n → okB (V i) (E i) = true
noncomputable def envB (n m : Nat) (S : Nat → ByteArray) (V E : Nat → Int) : Bool := @decide (EnvP n m S V E) (Classical.propDecidable _)
theorem envB_iff (n m : Nat) (S : Nat → ByteArray) (V E : Nat → Int) : envB n m S V E = true ↔ EnvP n m S V E := by simp [envB]
theorem envB_yes {n m : Nat} {S : Nat → ByteArray} {V E : Nat → Int} (h : EnvP n m S V E) : envB n m S V E = true := (envB_iff _ _ _ _ _).2 h
theorem envB_no {n m : Nat} {S : Nat → ByteArray} {V E : Nat → Int} (h : ¬ EnvP n m S V E) : envB n m S V E = false := by simpa [envB] using h
set_option maxRecDepth 100000 in
set_option maxHeartbeats 2000000 in
theorem sEnvOk_any (b off n cap : Nat) (S : Nat → ByteArray) (V : Nat → Int) (c off' m cap' : Nat) (E : Nat → Int) (w : World) (hb : b < w.heap.size) (hd : Decs w b off n S V) (hnc : n ≤ cap) (hn : n ≤ 1048576) (hs : ∀ i, i < n → (S i).size ≤ 1048576)
    (hc : c < w.heap.size) (he : Ints w c off' m E) (hm : m ≤ 1048576) :
    Calls Tryz.prog 27 #[.slice (some ⟨b, off, none⟩) n cap, .slice (some ⟨c, off', none⟩) m cap'] w fun e w' => e = .returned (.bool (envB n m S V E)) ∧ Below w.heap.size w w' := by
  have HD := hide hd
  have HS := hide hs
  have HE := hide he
  clear hd hs he
  go_enter Tryz.func27, Tryz.ntmps27
  go_wp2_with fail
  refine (sDeclOk_any _ _ _ _ _ _ _ hb (unhide HD) hnc hn (unhide HS)).mono ?_
  rintro e w1 ⟨rfl, b1⟩
  by_cases hD : DeclP n S V
  · have hDb := declB_yes hD
    by_cases hnm : n = m
    · subst hnm
      have kb : ((n : Int) != (n : Int)) = false := by simp
      have HDP := hide hD
      clear hD
      go_wp2
      go_loopw [5] (fun i wr => ∃ k : Nat, k ≤ n ∧ i = .int .i64 k ∧ (∀ j, j < k → okB (V j) (E j) = true) ∧ Below w.heap.size w wr) (fun i _ => n - (intOf i).toNat)
      case atStart => exact ⟨0, by omega, rfl, fun j hj => by omega, b1⟩
      case round =>
        obtain ⟨k, hk, rfl, hok, hbel⟩ := hrel
        have HK := hide hok
        clear hok
        by_cases hlt : k < n
        · have d1 := (hbel.cell (p := ⟨b, off + k * 2 + 1, none⟩) hb).trans (unhide HD k hlt).2
          have g0 := (hbel.cell (p := ⟨c, off' + k, none⟩) hc).trans (unhide HE k hlt)
          cases hv : okB (V k) (E k)
          · have HN := hide (envB_no (n := n) (m := n) (S := S) (V := V) (E := E) (fun h => by have := h.2.2 k hlt; rw [hv] at this; cases this))
            go_wp2
            go_region_held3 (fun w' => w'.cell? ⟨b, off + k * 2 + 1, none⟩ = some (.int .i64 (V k)) ∧ w'.cell? ⟨c, off' + k, none⟩ = some (.int .i64 (E k))) (first | go_keep | exact ⟨d1, g0⟩)
            (first | (go_at_call 33; refine (sVecOk_any _ _ _).mono ?_; rintro e wq ⟨rfl, bq⟩; have BL := (by first | exact hbel.trans (bq.mono hbel.size) | exact hbel.drew.trans (bq.mono hbel.size)); have d1 := cell_later bq (by exact d1); have g0 := cell_later bq (by exact g0)))
            all_goals go_wp2
            all_goals rw [unhide HN]
            all_goals go_ret
            all_goals exact ⟨rfl, (by first | exact BL | exact BL.drew)⟩
          · have HK1 : Hid (∀ j, j < k + 1 → okB (V j) (E j) = true) := fun j hj => by
              by_cases e : j = k
              · subst e; exact hv
              · exact unhide HK j (by omega)
            go_wp2
            go_region_held3 (fun w' => w'.cell? ⟨b, off + k * 2 + 1, none⟩ = some (.int .i64 (V k)) ∧ w'.cell? ⟨c, off' + k, none⟩ = some (.int .i64 (E k))) (first | go_keep | exact ⟨d1, g0⟩)
            (first | (go_at_call 33; refine (sVecOk_any _ _ _).mono ?_; rintro e wq ⟨rfl, bq⟩; have BL := (by first | exact hbel.trans (bq.mono hbel.size) | exact hbel.drew.trans (bq.mono hbel.size)); have d1 := cell_later bq (by exact d1); have g0 := cell_later bq (by exact g0)))
            all_goals go_wp2
            all_goals go_roundw
            all_goals first | exact ⟨k + 1, by omega, by go_num, unhide HK1, (by first | exact BL | exact BL.drew)⟩ | (simp [intOf]; omega)
        · have e : k = n := by omega
          subst e
          have HN := hide (envB_yes (S := S) ⟨unhide HDP, rfl, unhide HK⟩)
          go_wp2
          rw [unhide HN]
          go_ret
          exact ⟨rfl, hbel⟩
    · have kb : ((m : Int) != (n : Int)) = true := by simp; omega
      have HN := hide (envB_no (n := n) (m := m) (S := S) (V := V) (E := E) (fun h => hnm h.2.1))
      go_wp2
      rw [unhide HN]
      go_ret
      exact ⟨rfl, b1⟩
  · have hDb := declB_no hD
    have HN := hide (envB_no (n := n) (m := m) (S := S) (V := V) (E := E) (fun h => hD h.1))
    go_wp2
    rw [unhide HN]
    go_ret
    exact ⟨rfl, b1⟩
set_option maxRecDepth 100000 in
set_option maxHeartbeats 2000000 in
theorem iEnvOk_any (b off n cap : Nat) (S : Nat → ByteArray) (V : Nat → Int) (c off' m cap' : Nat) (E : Nat → Int) (w : World) (hb : b < w.heap.size) (hd : Decs w b off n S V) (hnc : n ≤ cap) (hn : n ≤ 1048576) (hs : ∀ i, i < n → (S i).size ≤ 1048576)
    (hc : c < w.heap.size) (he : Ints w c off' m E) (hm : m ≤ 1048576) :
    Calls Tryz.prog 37 #[.slice (some ⟨b, off, none⟩) n cap, .slice (some ⟨c, off', none⟩) m cap'] w fun e w' => e = .returned (.bool (envB n m S V E)) ∧ Below w.heap.size w w' := by
  have HD := hide hd
  have HS := hide hs
  have HE := hide he
  clear hd hs he
  go_enter Tryz.func37, Tryz.ntmps37
  go_wp2_with fail
  refine (iDeclOk_any _ _ _ _ _ _ _ hb (unhide HD) hnc hn (unhide HS)).mono ?_
  rintro e w1 ⟨rfl, b1⟩
  by_cases hD : DeclP n S V
  · have hDb := declB_yes hD
    by_cases hnm : n = m
    · subst hnm
      have kb : ((n : Int) != (n : Int)) = false := by simp
      have HDP := hide hD
      clear hD
      go_wp2
      go_loopw [19] (fun i wr => ∃ k : Nat, k ≤ n ∧ i = .int .i64 k ∧ (∀ j, j < k → okB (V j) (E j) = true) ∧ Below w.heap.size w wr) (fun i _ => n - (intOf i).toNat)
      case atStart => exact ⟨0, by omega, rfl, fun j hj => by omega, b1⟩
      case round =>
        obtain ⟨k, hk, rfl, hok, hbel⟩ := hrel
        have HK := hide hok
        clear hok
        by_cases hlt : k < n
        · have d0 := (hbel.cell (p := ⟨b, off + k * 2, none⟩) hb).trans (unhide HD k hlt).1
          have d1 := (hbel.cell (p := ⟨b, off + k * 2 + 1, none⟩) hb).trans (unhide HD k hlt).2
          have g0 := (hbel.cell (p := ⟨c, off' + k, none⟩) hc).trans (unhide HE k hlt)
          cases hv : okB (V k) (E k)
          · have HN := hide (envB_no (n := n) (m := n) (S := S) (V := V) (E := E) (fun h => by have := h.2.2 k hlt; rw [hv] at this; cases this))
            go_wp2
            obtain ⟨wz, hwz⟩ : ∃ wz, wz = wr.alloc (.cells #[.string (S k), .int .i64 (V k)] 51) := ⟨_, rfl⟩
            have BZ : Below w.heap.size w wz := by rw [hwz]; exact hbel.alloc hbel.size _
            have P1 : wz.cell? ⟨wr.heap.size, 1, none⟩ = some (.int .i64 (V k)) := by rw [hwz]; simp [go_sem]
            have G0 : wz.cell? ⟨c, off' + k, none⟩ = some (.int .i64 (E k)) := by rw [hwz]; exact cell_later ((Below.refl _ _).alloc (Nat.le_refl _) _) g0
            rw [← hwz]
            clear hwz d0 d1 g0 hbel
            generalize wr.heap.size = B at *
            go_region_held3 (fun w' => w'.cell? ⟨B, 1, none⟩ = some (.int .i64 (V k)) ∧ w'.cell? ⟨c, off' + k, none⟩ = some (.int .i64 (E k))) (first | go_keep | exact ⟨P1, G0⟩)
              (first | (go_at_call 45; refine (iVecOk_any _ _ _).mono ?_; rintro e wq ⟨rfl, bq⟩; have BL := (by first | exact BZ.trans (bq.mono BZ.size) | exact BZ.drew.trans (bq.mono BZ.size)); have P1 := cell_later bq (by exact P1); have G0 := cell_later bq (by exact G0)))
            all_goals go_wp2
            all_goals rw [unhide HN]
            all_goals go_ret
            all_goals exact ⟨rfl, (by first | exact BL | exact BL.drew)⟩
          · have HK1 : Hid (∀ j, j < k + 1 → okB (V j) (E j) = true) := fun j hj => by
              by_cases e : j = k
              · subst e; exact hv
              · exact unhide HK j (by omega)
            go_wp2
            obtain ⟨wz, hwz⟩ : ∃ wz, wz = wr.alloc (.cells #[.string (S k), .int .i64 (V k)] 51) := ⟨_, rfl⟩
            have BZ : Below w.heap.size w wz := by rw [hwz]; exact hbel.alloc hbel.size _
            have P1 : wz.cell? ⟨wr.heap.size, 1, none⟩ = some (.int .i64 (V k)) := by rw [hwz]; simp [go_sem]
            have G0 : wz.cell? ⟨c, off' + k, none⟩ = some (.int .i64 (E k)) := by rw [hwz]; exact cell_later ((Below.refl _ _).alloc (Nat.le_refl _) _) g0
            rw [← hwz]
            clear hwz d0 d1 g0 hbel
            generalize wr.heap.size = B at *
            go_region_held3 (fun w' => w'.cell? ⟨B, 1, none⟩ = some (.int .i64 (V k)) ∧ w'.cell? ⟨c, off' + k, none⟩ = some (.int .i64 (E k))) (first | go_keep | exact ⟨P1, G0⟩)
              (first | (go_at_call 45; refine (iVecOk_any _ _ _).mono ?_; rintro e wq ⟨rfl, bq⟩; have BL := (by first | exact BZ.trans (bq.mono BZ.size) | exact BZ.drew.trans (bq.mono BZ.size)); have P1 := cell_later bq (by exact P1); have G0 := cell_later bq (by exact G0)))
            all_goals go_wp2
            all_goals go_roundw
            all_goals first | exact ⟨k + 1, by omega, by go_num, unhide HK1, (by first | exact BL | exact BL.drew)⟩ | (simp [intOf]; omega)
        · have e : k = n := by omega
          subst e
          have HN := hide (envB_yes (S := S) ⟨unhide HDP, rfl, unhide HK⟩)
          go_wp2
          rw [unhide HN]
          go_ret
          exact ⟨rfl, hbel⟩
    · have kb : ((n : Int) != (m : Int)) = true := by simp; omega
      have HN := hide (envB_no (n := n) (m := m) (S := S) (V := V) (E := E) (fun h => hnm h.2.1))
      go_wp2
      rw [unhide HN]
      go_ret
      exact ⟨rfl, b1⟩
  · have hDb := declB_no hD
    have HN := hide (envB_no (n := n) (m := m) (S := S) (V := V) (E := E) (fun h => hD h.1))
    go_wp2
    rw [unhide HN]
    go_ret
    exact ⟨rfl, b1⟩
end Go.Proofs.YtbincnedkclfgaaGreat
