/- Marks that are right; what is told; BitsIf of the model. -/
import Derived.Test.YtnjjobompjoigaaDoorBkU
namespace Go.Proofs.YtnjjobompjoigaaDoor
open Go.ChangeShapes Go.WideShapes Go.ChangeAt Go.RowKit Go.Joins
set_option linter.unusedVariables false
set_option maxRecDepth 100000
set_option linter.unusedSimpArgs false

/-- A row of marks of a net, of one bit at least and four at most. -/
def RgtP (m : Int) (n : Nat) (L : List Int) : Prop := (∀ i, i < L.length → mkP m n (at0 L i) = true) ∧ 1 ≤ L.length ∧ L.length ≤ 4
noncomputable def rgtB (m : Int) (n : Nat) (L : List Int) : Bool := @decide (RgtP m n L) (Classical.propDecidable _)
theorem rgtB_yes {m : Int} {n : Nat} {L : List Int} (h : RgtP m n L) : rgtB m n L = true := by simpa [rgtB] using h
theorem rgtB_no {m : Int} {n : Nat} {L : List Int} (h : ¬ RgtP m n L) : rgtB m n L = false := by simpa [rgtB] using h
theorem rgtB_iff {m : Int} {n : Nat} {L : List Int} : rgtB m n L = true ↔ RgtP m n L := by simp [rgtB]
/-- A net in the making at its beginning. -/
def kS (m : Int) (n : Nat) (G : Nat → Gt) : KS := ⟨m, n, G, true⟩
theorem kS_ok {m : Int} {n : Nat} {G : Nat → Gt} (h : netB m n G = true) : KOk (kS m n G) := by
  obtain ⟨h1, h2, h3, _⟩ := netB_iff.1 h
  exact ⟨h1, h2, h3, fun _ => h⟩
theorem kS_mk {m : Int} {n : Nat} {G : Nat → Gt} {k : Int} (h : netB m n G = true) (hk : mkP m n k = true) : Mk (kS m n G) k := by
  obtain ⟨h1, h2, h3, _⟩ := netB_iff.1 h
  have h' := mkP_iff.1 hk
  exact ⟨by omega, by omega, fun _ => hk⟩
theorem RgtP.mk {m : Int} {n : Nat} {G : Nat → Gt} {L : List Int} (h : netB m n G = true) (hL : RgtP m n L) : MkL (kS m n G) L := fun i hi => kS_mk h (hL.1 i hi)
/-- A net and marks, as they are handed back. -/
def Lo (a : Option Addr) (n base : Nat) : Prop := n = 0 ∨ ∀ b off, a = some ⟨b, off, none⟩ → base ≤ b
theorem Lo.ne {a : Option Addr} {n base B : Nat} (h : Lo a n base) (hB : B < base) : n = 0 ∨ ∀ b off, a = some ⟨b, off, none⟩ → b ≠ B := h.imp id (fun h b off e => by have := h b off e; omega)
theorem Lo.mono {a : Option Addr} {n base base' : Nat} (h : Lo a n base) (hB : base' ≤ base) : Lo a n base' := h.imp id (fun h b off e => Nat.le_trans hB (h b off e))
def BPost (r : BR) (base : Nat) (e : Ending) (w' : World) : Prop := ∃ a cap g cp, e = .returned (.tuple #[.agg #[.int .i64 r.m, .slice a r.n cap], .slice g r.L.length cp]) ∧ (GtsAt w' a r.n r.G ∧ Lo a r.n base) ∧ IntsAt w' g r.L.length (at0 r.L) ∧ Lo g r.L.length base
theorem IntsAt.mov {w w' : World} {a : Option Addr} {n B : Nat} {V : Nat → Int} (h : IntsAt w a n V) (hB : n = 0 ∨ ∀ b off, a = some ⟨b, off, none⟩ → b ≠ B) (hm : Mov B w w') : IntsAt w' a n V := by
  rcases h with h | ⟨b, off, rfl, h2, h3⟩
  · exact Or.inl h
  · rcases hB with hB | hB
    · exact Or.inl hB
    · exact Or.inr ⟨b, off, rfl, Nat.lt_of_lt_of_le h2 hm.size, fun i hi => hm.cell (h3 i hi) (by simp only; exact hB b off rfl)⟩
theorem mov2c (w : World) (B : Nat) (u v : Value) : Mov B w ((w.setCell ⟨B, 0, none⟩ u).setCell ⟨B, 1, none⟩ v) := (Mov.set _ _ _).trans (Mov.set _ _ _)
set_option maxRecDepth 100000 in
set_option maxHeartbeats 1000000 in
theorem l7Right_any (m : Int) (ad : Option Addr) (n cap : Nat) (la : Option Addr) (nl cl : Nat) (L : List Int) (w : World) (hm0 : 0 ≤ m) (hm1 : m ≤ 8) (hn : n ≤ 600) (hd : IntsAt w la nl (at0 L)) (hL : L.length = nl) (hl : nl ≤ 1048576) :
    Calls Tryd.prog 16 #[.agg #[.int .i64 m, .slice ad n cap], .slice la nl cl] w fun e w' => e = .returned (.bool (rgtB m n L)) ∧ Below w.heap.size w w' := by
  have HD := hide hd
  have HL := hide hL
  clear hd hL
  have BZ : Below w.heap.size w (w.alloc (.cells #[.int .i64 m, .slice ad n cap] 29)) := (Below.refl _ _).alloc (Nat.le_refl _) _
  go_enter Tryd.func16, Tryd.ntmps16
  go_wp2
  go_loopw [5] (fun i wr => ∃ j : Nat, j ≤ nl ∧ i = .int .i64 j ∧ (∀ i, i < j → mkP m n (at0 L i) = true) ∧ NBox wr w.heap.size m ad n cap ∧ Below w.heap.size w wr) (fun i _ => nl - (intOf i).toNat)
  case atStart => exact ⟨0, by omega, rfl, fun i hi => by omega, NBox.new _ _ _ _ _ _, BZ⟩
  case round =>
    obtain ⟨j, hj, rfl, hok, ⟨p0, p1⟩, hbel⟩ := hrel
    have HK := hide hok
    clear hok
    by_cases hlt : j < nl
    · obtain ⟨bL, oL, rfl, lL, dL⟩ := at0_in (unhide HD) hlt
      replace dL := (hbel.cell (p := ⟨bL, oL + j, none⟩) lL).trans dL
      have HX : Hid (at0 L j = at0 L j) := rfl
      obtain ⟨x, hx⟩ : ∃ x, x = at0 L j := ⟨_, rfl⟩
      rw [← hx] at dL
      have HE := hide hx
      clear hx HX
      cases hv : mkP m n x
      all_goals
        go_wp2
        go_region_held3 (fun w' => w'.cell? ⟨w.heap.size, 0, none⟩ = some (.int .i64 m) ∧ w'.cell? ⟨w.heap.size, 1, none⟩ = some (.slice ad n cap) ∧ w'.cell? ⟨bL, oL + j, none⟩ = some (.int .i64 x)) (first | exact ⟨p0, p1, dL⟩ | go_keep)
          (first | (go_at_call 28; refine (l6Mark_any _ _ _ _ _ _ hm0 hm1 (by omega)).mono ?_; rintro e wq ⟨rfl, bq⟩; rw [hv]; have p0 := cell_later bq (by exact p0); have p1 := cell_later bq (by exact p1); have dL := cell_later bq (by exact dL); have hbel := (by first | exact hbel.trans (bq.mono hbel.size) | exact hbel.drew.trans (bq.mono hbel.size))))
        all_goals go_wp2
      · go_ret
        refine ⟨?_, hbel⟩
        rw [rgtB_no (fun h => by have := h.1 j (by rw [unhide HL]; exact hlt); rw [← unhide HE, hv] at this; cases this)]
        rfl
      · go_roundw
        case rel => exact ⟨j + 1, by omega, by go_num, fun i hi => (by by_cases e : i = j; (· subst e; rw [← unhide HE]; exact hv); (· exact unhide HK i (by omega))), ⟨p0, p1⟩, hbel⟩
        case measure => simp [intOf]; omega
    · have ej : j = nl := by omega
      subst ej
      by_cases h1 : 1 ≤ j
      · by_cases h4 : j ≤ 4
        · have HB := hide (rgtB_yes (m := m) (n := n) (L := L) ⟨fun i hi => unhide HK i (by rw [← unhide HL]; exact hi), by rw [unhide HL]; exact h1, by rw [unhide HL]; exact h4⟩)
          go_wp2
          go_ret
          rw [unhide HB]
          exact ⟨ret_bool (by simp; omega), hbel⟩
        · have HB := hide (rgtB_no (m := m) (n := n) (L := L) (fun h => h4 (by have := h.2.2; rw [unhide HL] at this; exact this)))
          go_wp2
          go_ret
          rw [unhide HB]
          exact ⟨ret_bool (by simp; omega), hbel⟩
      · have HB := hide (rgtB_no (m := m) (n := n) (L := L) (fun h => h1 (by have := h.2.1; rw [unhide HL] at this; exact this)))
        have h0 : j = 0 := by omega
        subst h0
        go_wp2
        go_ret
        rw [unhide HB]
        exact ⟨ret_bool (by simp), hbel⟩
end Go.Proofs.YtnjjobompjoigaaDoor
