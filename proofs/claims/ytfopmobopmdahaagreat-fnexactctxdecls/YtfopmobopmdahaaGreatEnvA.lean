/- Numbers for names: copies, comparisons, and which are right, of the model and of the program. -/
import Derived.Test.YtfopmobopmdahaaGreatDecC
import Derived.Test.YtfopmobopmdahaaGreatDecD
import Derived.Test.YtfopmobopmdahaaGreatIntA
namespace Go.Proofs.YtfopmobopmdahaaGreat
open Go.ChangeShapes Go.WideShapes Go.ChangeAt Go.RowKit Go.Joins
set_option linter.unusedVariables false

/-- Numbers that are right for names. -/
def EnvP (n m : Nat) (S : Nat → ByteArray) (V E : Nat → Int) : Prop := DeclP n S V ∧ n = m ∧ ∀ i, i < n → okB (V i) (E i) = true
noncomputable def envB (n m : Nat) (S : Nat → ByteArray) (V E : Nat → Int) : Bool := @decide (EnvP n m S V E) (Classical.propDecidable _)
theorem envB_iff (n m : Nat) (S : Nat → ByteArray) (V E : Nat → Int) : envB n m S V E = true ↔ EnvP n m S V E := by simp [envB]
theorem envB_yes {n m : Nat} {S : Nat → ByteArray} {V E : Nat → Int} (h : EnvP n m S V E) : envB n m S V E = true := (envB_iff _ _ _ _ _).2 h
theorem envB_no {n m : Nat} {S : Nat → ByteArray} {V E : Nat → Int} (h : ¬ EnvP n m S V E) : envB n m S V E = false := by simpa [envB] using h
set_option maxRecDepth 100000 in
set_option maxHeartbeats 2000000 in
theorem iEnvOk_any (b off n cap : Nat) (S : Nat → ByteArray) (V : Nat → Int) (c off' m cap' : Nat) (E : Nat → Int) (w : World) (hb : b < w.heap.size) (hd : Decs w b off n S V) (hnc : n ≤ cap) (hn : n ≤ 1048576) (hs : ∀ i, i < n → (S i).size ≤ 1048576)
    (hc : c < w.heap.size) (he : Ints w c off' m E) (hm : m ≤ 1048576) :
    Calls Tryz.prog 88 #[.slice (some ⟨b, off, none⟩) n cap, .slice (some ⟨c, off', none⟩) m cap'] w fun e w' => e = .returned (.bool (envB n m S V E)) ∧ Below w.heap.size w w' := by
  have HD := hide hd
  have HS := hide hs
  have HE := hide he
  clear hd hs he
  go_enter Tryz.func88, Tryz.ntmps88
  go_wp2_with fail
  refine (iDeclOk_any _ _ _ _ _ _ _ hb (unhide HD) hnc hn (unhide HS)).mono ?_
  rintro e w1 ⟨rfl, b1⟩
  by_cases hD : DeclP n S V
  · have hDb := declB_yes hD
    by_cases hnm : n = m
    · subst hnm
      have kb : ((n : Int) != (n : Int)) = false := by simp
      have HDP := hide hD
      clear hD
      go_wp2
      go_loopw [19] (fun i wr => ∃ k : Nat, k ≤ n ∧ i = .int .i64 k ∧ (∀ j, j < k → okB (V j) (E j) = true) ∧ Below w.heap.size w wr) (fun i _ => n - (intOf i).toNat)
      case atStart => exact ⟨0, by omega, rfl, fun j hj => by omega, b1⟩
      case round =>
        obtain ⟨k, hk, rfl, hok, hbel⟩ := hrel
        have HK := hide hok
        clear hok
        by_cases hlt : k < n
        · have d0 := (hbel.cell (p := ⟨b, off + k * 2, none⟩) hb).trans (unhide HD k hlt).1
          have d1 := (hbel.cell (p := ⟨b, off + k * 2 + 1, none⟩) hb).trans (unhide HD k hlt).2
          have g0 := (hbel.cell (p := ⟨c, off' + k, none⟩) hc).trans (unhide HE k hlt)
          cases hv : okB (V k) (E k)
          · have HN := hide (envB_no (n := n) (m := n) (S := S) (V := V) (E := E) (fun h => by have := h.2.2 k hlt; rw [hv] at this; cases this))
            go_wp2
            obtain ⟨wz, hwz⟩ : ∃ wz, wz = wr.alloc (.cells #[.string (S k), .int .i64 (V k)] 40) := ⟨_, rfl⟩
            have BZ : Below w.heap.size w wz := by rw [hwz]; exact hbel.alloc hbel.size _
            have P1 : wz.cell? ⟨wr.heap.size, 1, none⟩ = some (.int .i64 (V k)) := by rw [hwz]; simp [go_sem]
            have G0 : wz.cell? ⟨c, off' + k, none⟩ = some (.int .i64 (E k)) := by rw [hwz]; exact cell_later ((Below.refl _ _).alloc (Nat.le_refl _) _) g0
            rw [← hwz]
            clear hwz d0 d1 g0 hbel
            generalize wr.heap.size = B at *
            go_region_held3 (fun w' => w'.cell? ⟨B, 1, none⟩ = some (.int .i64 (V k)) ∧ w'.cell? ⟨c, off' + k, none⟩ = some (.int .i64 (E k))) (first | go_keep | exact ⟨P1, G0⟩)
              (first | (go_at_call 92; refine (iVecOk_any _ _ _).mono ?_; rintro e wq ⟨rfl, bq⟩; have BL := (by first | exact BZ.trans (bq.mono BZ.size) | exact BZ.drew.trans (bq.mono BZ.size)); have P1 := cell_later bq (by exact P1); have G0 := cell_later bq (by exact G0)))
            all_goals go_wp2
            all_goals rw [unhide HN]
            all_goals go_ret
            all_goals exact ⟨rfl, (by first | exact BL | exact BL.drew)⟩
          · have HK1 : Hid (∀ j, j < k + 1 → okB (V j) (E j) = true) := fun j hj => by
              by_cases e : j = k
              · subst e; exact hv
              · exact unhide HK j (by omega)
            go_wp2
            obtain ⟨wz, hwz⟩ : ∃ wz, wz = wr.alloc (.cells #[.string (S k), .int .i64 (V k)] 40) := ⟨_, rfl⟩
            have BZ : Below w.heap.size w wz := by rw [hwz]; exact hbel.alloc hbel.size _
            have P1 : wz.cell? ⟨wr.heap.size, 1, none⟩ = some (.int .i64 (V k)) := by rw [hwz]; simp [go_sem]
            have G0 : wz.cell? ⟨c, off' + k, none⟩ = some (.int .i64 (E k)) := by rw [hwz]; exact cell_later ((Below.refl _ _).alloc (Nat.le_refl _) _) g0
            rw [← hwz]
            clear hwz d0 d1 g0 hbel
            generalize wr.heap.size = B at *
            go_region_held3 (fun w' => w'.cell? ⟨B, 1, none⟩ = some (.int .i64 (V k)) ∧ w'.cell? ⟨c, off' + k, none⟩ = some (.int .i64 (E k))) (first | go_keep | exact ⟨P1, G0⟩)
              (first | (go_at_call 92; refine (iVecOk_any _ _ _).mono ?_; rintro e wq ⟨rfl, bq⟩; have BL := (by first | exact BZ.trans (bq.mono BZ.size) | exact BZ.drew.trans (bq.mono BZ.size)); have P1 := cell_later bq (by exact P1); have G0 := cell_later bq (by exact G0)))
            all_goals go_wp2
            all_goals go_roundw
            all_goals first | exact ⟨k + 1, by omega, by go_num, unhide HK1, (by first | exact BL | exact BL.drew)⟩ | (simp [intOf]; omega)
        · have e : k = n := by omega
          subst e
          have HN := hide (envB_yes (S := S) ⟨unhide HDP, rfl, unhide HK⟩)
          go_wp2
          rw [unhide HN]
          go_ret
          exact ⟨rfl, hbel⟩
    · have kb : ((n : Int) != (m : Int)) = true := by simp; omega
      have HN := hide (envB_no (n := n) (m := m) (S := S) (V := V) (E := E) (fun h => hnm h.2.1))
      go_wp2
      rw [unhide HN]
      go_ret
      exact ⟨rfl, b1⟩
  · have hDb := declB_no hD
    have HN := hide (envB_no (n := n) (m := m) (S := S) (V := V) (E := E) (fun h => hD h.1))
    go_wp2
    rw [unhide HN]
    go_ret
    exact ⟨rfl, b1⟩
end Go.Proofs.YtfopmobopmdahaaGreat
