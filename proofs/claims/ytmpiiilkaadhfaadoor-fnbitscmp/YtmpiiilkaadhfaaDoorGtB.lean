/- Gates, compared. -/
import Derived.Test.YtmpiiilkaadhfaaDoorGtA
import Derived.Laws.StructEq
namespace Go.Proofs.YtmpiiilkaadhfaaDoor
open Go.ChangeShapes Go.WideShapes Go.ChangeAt Go.RowKit Go.Joins
set_option linter.unusedVariables false
set_option maxRecDepth 100000

/-- Two gates are the same. -/
def geq (g h : Gt) : Bool := g.x == h.x && (g.a == h.a && g.b == h.b)
theorem geq_iff {g h : Gt} : geq g h = true ↔ g = h := by rw [Gt.ext_iff']; simp [geq]
theorem geq_no {g h : Gt} : geq g h = false ↔ g ≠ h := by
  cases e : geq g h
  · simp only [true_iff]; intro k; rw [geq_iff.2 k] at e; cases e
  · simp only [Bool.true_eq_false, false_iff]; exact fun k => k (geq_iff.1 e)
theorem eqIn (g h : Gt) (w : World) : (Op.equalIn 10000 76 (gv g) (gv h)).run Tryd.prog w = .ok (geq g h) w := by
  unfold gv
  show (Op.equalIn (9999 + 1) _ _ _).run _ w = _
  rw [run_equalIn_struct w 9999 _ _ _ (by kernel_rfl) (by kernel_rfl)]
  simp [go_sem]
  by_cases h1 : g.x = h.x
  · by_cases h2 : g.a = h.a
    · by_cases h3 : g.b = h.b
      · simp [geq, h1, h2, h3]
      · simp [geq, h1, h2, h3]
    · simp [geq, h1, h2]
  · simp [geq, h1]
theorem eqGate_eql (g h : Gt) (w : World) : (binOp .eql 76 (.agg #[.bool g.x, .int .i64 g.a, .int .i64 g.b]) (.agg #[.bool h.x, .int .i64 h.a, .int .i64 h.b])).run Tryd.prog w = .ok (.bool (geq g h)) w := by
  rw [run_eql_struct]
  have := eqIn g h w
  unfold gv at this
  rw [this]; rfl
theorem eqGate_neq (g h : Gt) (w : World) : (binOp .neq 76 (.agg #[.bool g.x, .int .i64 g.a, .int .i64 g.b]) (.agg #[.bool h.x, .int .i64 h.a, .int .i64 h.b])).run Tryd.prog w = .ok (.bool (!geq g h)) w := by
  rw [run_neq_struct]
  have := eqIn g h w
  unfold gv at this
  rw [this]; rfl
/-- Two lists of gates are one. -/
def GeP (l l' : Nat) (G G' : Nat → Gt) : Prop := l = l' ∧ ∀ k, k < l → G k = G' k
noncomputable def geB (l l' : Nat) (G G' : Nat → Gt) : Bool := @decide (GeP l l' G G') (Classical.propDecidable _)
theorem geB_iff {l l' : Nat} {G G' : Nat → Gt} : geB l l' G G' = true ↔ GeP l l' G G' := by simp [geB]
theorem geB_yes {l l' : Nat} {G G' : Nat → Gt} (h : GeP l l' G G') : geB l l' G G' = true := geB_iff.2 h
theorem geB_no {l l' : Nat} {G G' : Nat → Gt} (h : ¬ GeP l l' G G') : geB l l' G G' = false := by simpa [geB] using h
set_option maxRecDepth 100000 in
set_option maxHeartbeats 1000000 in
theorem gequal_any (a c : Option Addr) (l l' cap cap' : Nat) (V V' : Nat → Gt) (w : World) (hd : GtsAt w a l V) (hd' : GtsAt w c l' V') (hl : l ≤ 1048576) (hl' : l' ≤ 1048576) :
    Calls Tryd.prog 40 #[.slice a l cap, .slice c l' cap'] w fun e w' => e = .returned (.bool (geB l l' V V')) ∧ Below w.heap.size w w' := by
  have HD := hide hd
  have HE := hide hd'
  clear hd hd'
  by_cases hll : l = l'
  · subst hll
    have kb0 : ((l : Int) != (l : Int)) = false := by simp
    go_enter Tryd.func40, Tryd.ntmps40
    go_wp2
    go_loopw [13] (fun i wr => ∃ k : Nat, k ≤ l ∧ i = .int .i64 k ∧ (∀ j, j < k → V j = V' j) ∧ Below w.heap.size w wr) (fun i _ => l - (intOf i).toNat)
    case atStart => exact ⟨0, by omega, rfl, fun j hj => by omega, (by repeat (first | exact Below.refl _ _ | assumption | refine below_drewN ?_ _ | refine Below.drew ?_ | refine Below.alloc ?_ (by first | exact Nat.le_refl _ | exact Below.size (by assumption) | (simp; done) | (simp; omega)) _ | refine Below.setCell ?_ (by first | exact Nat.le_refl _ | exact Below.size (by assumption) | (simp; done) | (simp; omega)) _ | refine Below.trans ?_ (by assumption)))⟩
    case round =>
      obtain ⟨k, hk, rfl, hok, hbel⟩ := hrel
      have HK := hide hok
      clear hok
      by_cases hlt : k < l
      · obtain ⟨b, off, rfl, hb, hd⟩ := (unhide HD).ok hlt
        obtain ⟨c, off', rfl, hc, hd'⟩ := (unhide HE).ok hlt
        obtain ⟨c0, c1, c2⟩ := hd k hlt
        obtain ⟨e0, e1, e2⟩ := hd' k hlt
        have d0 := (hbel.cell (p := ⟨b, off + k * 3, none⟩) hb).trans c0
        have d1 := (hbel.cell (p := ⟨b, off + k * 3 + 1, none⟩) hb).trans c1
        have d2 := (hbel.cell (p := ⟨b, off + k * 3 + 2, none⟩) hb).trans c2
        have g0 := (hbel.cell (p := ⟨c, off' + k * 3, none⟩) hc).trans e0
        have g1 := (hbel.cell (p := ⟨c, off' + k * 3 + 1, none⟩) hc).trans e1
        have g2 := (hbel.cell (p := ⟨c, off' + k * 3 + 2, none⟩) hc).trans e2
        clear c0 c1 c2 e0 e1 e2 hd hd'
        have hn := eqGate_neq (V k) (V' k)
        by_cases he : V k = V' k
        · have HK1 : Hid (∀ j, j < k + 1 → V j = V' j) := fun j hj => by
            by_cases e : j = k
            · subst e; exact he
            · exact unhide HK j (by omega)
          rw [geq_iff.2 he] at hn
          clear he
          go_wp2
          go_region
          all_goals go_wp2
          all_goals go_roundw
          all_goals first | exact ⟨k + 1, by omega, by go_num, unhide HK1, (by first | exact hbel | exact hbel.drew)⟩ | (simp [intOf]; omega)
        · have HN := hide (geB_no (l := l) (l' := l) (G := V) (G' := V') (fun h => he (h.2 k hlt)))
          rw [geq_no.2 he] at hn
          clear he
          go_wp2
          go_region
          all_goals go_wp2
          all_goals rw [unhide HN]
          all_goals go_ret
          all_goals exact ⟨rfl, (by first | exact hbel | exact hbel.drew)⟩
      · have e : k = l := by omega
        subst e
        have HN := hide (geB_yes (l := k) (l' := k) (G := V) (G' := V') ⟨rfl, unhide HK⟩)
        go_wp2
        rw [unhide HN]
        go_ret
        exact ⟨rfl, hbel⟩
  · have HN := hide (geB_no (l := l) (l' := l') (G := V) (G' := V') (fun h => hll h.1))
    have kb : ((l : Int) != (l' : Int)) = true := by simp; omega
    go_enter Tryd.func40, Tryd.ntmps40
    go_wp2
    rw [unhide HN]
    go_ret
    exact ⟨rfl, (by repeat (first | exact Below.refl _ _ | assumption | refine below_drewN ?_ _ | refine Below.drew ?_ | refine Below.alloc ?_ (by first | exact Nat.le_refl _ | exact Below.size (by assumption) | (simp; done) | (simp; omega)) _ | refine Below.setCell ?_ (by first | exact Nat.le_refl _ | exact Below.size (by assumption) | (simp; done) | (simp; omega)) _ | refine Below.trans ?_ (by assumption)))⟩
end Go.Proofs.YtmpiiilkaadhfaaDoor
