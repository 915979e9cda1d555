/- A net that gates may come into, of the program. -/
import Derived.Test.YtmpiiilkaadhfaaDoorNrC
import Derived.Test.YtmpiiilkaadhfaaDoorNvM
namespace Go.Proofs.YtmpiiilkaadhfaaDoor
open Go.ChangeShapes Go.WideShapes Go.ChangeAt Go.RowKit Go.Joins
set_option linter.unusedVariables false
set_option maxRecDepth 100000
set_option linter.unusedSimpArgs false

/-- A growth: a net, and the table of its gates. -/
def GrP (w : World) (gb : Nat) (m : Int) (g n c B : Nat) : Prop :=
  w.cell? ⟨gb, 0, none⟩ = some (.int .i64 m) ∧ w.cell? ⟨gb, 1, none⟩ = some (.slice (some ⟨g, 0, none⟩) n c) ∧ w.cell? ⟨gb, 2, none⟩ = some (.map (some B)) ∧ ∀ o, w.frozen? ⟨gb, o, none⟩ = false
theorem GrP.lt {w : World} {gb : Nat} {m : Int} {g n c B : Nat} (h : GrP w gb m g n c B) : gb < w.heap.size := World.block_lt_of_cell? _ _ h.1
theorem GrP.later {w w' : World} {gb : Nat} {m : Int} {g n c B : Nat} (h : GrP w gb m g n c B) (hb : Below w.heap.size w w') : GrP w' gb m g n c B :=
  ⟨cell_later hb h.1, cell_later hb h.2.1, cell_later hb h.2.2.1, fun o => (hb.frozen (p := ⟨gb, o, none⟩) h.lt).trans (h.2.2.2 o)⟩
/-- All that a growth is: its box, its gates and its table, each in memory of its own. -/
def Grow (w : World) (base gb : Nat) (m : Int) (g n c B : Nat) (G : Nat → Gt) : Prop :=
  GrP w gb m g n c B ∧ w.ownsRow base 76 3 (.slice (some ⟨g, 0, none⟩) n c) n (gcells G n) ∧ Tab w B n G m ∧ base ≤ gb ∧ base ≤ B ∧ gb ≠ g ∧ gb ≠ B ∧ g ≠ B
theorem Grow.later {w w' : World} {base gb : Nat} {m : Int} {g n c B : Nat} {G : Nat → Gt} (h : Grow w base gb m g n c B G) (hb : Below w.heap.size w w') : Grow w' base gb m g n c B G :=
  ⟨h.1.later hb, h.2.1.kept (grown_below hb) (Or.inr (by simp [Value.ownBlock])), h.2.2.1.later hb, h.2.2.2⟩
theorem mkP_among {m : Int} {n : Nat} {k : Int} {N : Nat} (hN : (N : Int) = 1 + m + n) (hw : W64 k) (hN2 : N ≤ 1048576) : amongB k N = mkP m n k := by
  rw [Bool.eq_iff_iff, among_iff hw hN2]
  unfold mkP
  simp
  omega
def V2 (a b : Int) (i : Nat) : Int := if i = 0 then a else b
set_option maxRecDepth 100000 in
set_option maxHeartbeats 800000 in
theorem grow_any (m : Int) (ad : Option Addr) (n cap : Nat) (G : Nat → Gt) (T : Nat) (a b : Int) (w : World) (hd : GtsAt w ad n G) (hw : WG n G) (hs : ∃ p, ad = some p ∧ p.spot = none) (hT : Ints w T 0 2 (V2 a b)) (hTw : T < w.heap.size) (ha : W64 a) (hb : W64 b) (hn : n ≤ 1048576) :
    Calls Tryd.prog 64 #[.agg #[.int .i64 m, .slice ad n cap], .slice (some ⟨T, 0, none⟩) 2 2] w fun e w' => (inB m n G a b ∧ (∃ gb g c B, e = .returned (.tuple #[.pointer (some ⟨gb, 0, none⟩), .bool true]) ∧ Grow w' w.heap.size gb m g n c B G) ∨ ¬ inB m n G a b ∧ e = .returned (.tuple #[.pointer none, .bool false])) ∧ Below w.heap.size w w' := by
  have HD := hide hd
  have HW := hide hw
  have HT := hide hT
  clear hd hw hT
  obtain ⟨wz, hwz⟩ : ∃ wz, wz = w.alloc (.cells #[.int .i64 m, .slice ad n cap] 25) := ⟨_, rfl⟩
  have BZ : Below w.heap.size w wz := by rw [hwz]; exact (Below.refl _ _).alloc (Nat.le_refl _) _
  have NB : NBox wz w.heap.size m ad n cap := by rw [hwz]; exact NBox.new _ _ _ _ _ _
  have NF : ∀ o, wz.frozen? ⟨w.heap.size, o, none⟩ = false := fun o => by rw [hwz]; simp [go_sem]
  have hsz : w.heap.size < wz.heap.size := by rw [hwz]; simp
  have HZ := hide hwz
  clear hwz
  go_enter Tryd.func64, Tryd.ntmps64
  go_wp2_with fail
  rw [← unhide HZ]
  refine (gateTable_any _ _ _ _ _ _ ((unhide HD).later BZ) (unhide HW) hn).mono ?_
  rintro e w1 ⟨⟨hP, B, rfl, hB, hTab⟩ | ⟨hP, rfl⟩, b1⟩
  · have NB1 := NB.later b1
    have NF1 : Hid (∀ o, w1.frozen? ⟨w.heap.size, o, none⟩ = false) := fun o => (b1.frozen (p := ⟨w.heap.size, o, none⟩) (by simp only; omega)).trans (NF o)
    have BL := BZ.trans (b1.mono BZ.size)
    have HTab := hide hTab
    have hPn := netB_yes hP
    obtain ⟨hm0, hm1, hn6, _⟩ := hP
    obtain ⟨M, rfl⟩ := Int.eq_ofNat_of_zero_le hm0
    have HPn := hide hPn
    have l1 := b1.size
    clear b1 BZ NB NF hTab hPn
    go_wp2
    go_loopw [19] (fun i wr => ∃ j : Nat, j ≤ 2 ∧ i = .int .i64 j ∧ (∀ i, i < j → mkP (M : Int) n (V2 a b i) = true) ∧ NBox wr w.heap.size M ad n cap ∧ (∀ o, wr.frozen? ⟨w.heap.size, o, none⟩ = false) ∧ Tab wr B n G M ∧ Below w.heap.size w wr) (fun i _ => 2 - (intOf i).toNat)
    case atStart => exact ⟨0, by omega, rfl, fun i hi => by omega, NB1, unhide NF1, unhide HTab, BL⟩
    case round =>
      obtain ⟨j, hj, rfl, hok, ⟨p0, p1⟩, hfz, hTb, hbel⟩ := hrel
      have HK := hide hok
      have HF := hide hfz
      have HB := hide hTb
      have lw : w.heap.size < wr.heap.size := World.block_lt_of_cell? _ _ p0
      clear hok hfz hTb
      by_cases hlt : j < 2
      · have d0 := (hbel.cell (p := ⟨T, 0 + j, none⟩) hTw).trans (unhide HT j hlt)
        rw [Nat.zero_add] at d0
        have hv : W64 (V2 a b j) := by unfold V2; split <;> assumption
        generalize hve : V2 a b j = v at *
        have HVE := hide hve
        clear hve
        obtain ⟨N, hNe⟩ : ∃ N : Nat, N = 1 + M + n := ⟨_, rfl⟩
        have hcast : (1 + (M : Int) + (n : Int)) = (N : Int) := by omega
        have hN7 : N ≤ 700 := by omega
        have HCS := hide hcast
        clear hcast hNe
        go_wp2_with fail
        refine (netMany_any _ _ _ _ _ hm0 hm1 (by omega)).mono ?_
        rintro e w2 ⟨rfl, b2⟩
        rw [unhide HCS]
        have p0 := cell_later b2 p0
        have p1 := cell_later b2 p1
        have HF2 : Hid (∀ o, w2.frozen? ⟨w.heap.size, o, none⟩ = false) := fun o => (b2.frozen (p := ⟨w.heap.size, o, none⟩) lw).trans (unhide HF o)
        have HB2 := hide ((unhide HB).later b2)
        have hbel2 := hbel.trans (b2.mono hbel.size)
        clear b2 d0
        go_wp2_with fail
        refine (among_any _ _ _ hv).mono ?_
        rintro e w3 ⟨rfl, rfl⟩
        rw [mkP_among (m := (M : Int)) (n := n) (unhide HCS).symm hv (by omega)]
        cases hk : mkP (M : Int) n v
        · have HN : Hid (¬ inB (M : Int) n G a b) := fun h => by
            have hva : v = a ∨ v = b := by have := unhide HVE; unfold V2 at this; split at this <;> simp [this]
            rcases hva with rfl | rfl
            · rw [h.2.1] at hk; cases hk
            · rw [h.2.2] at hk; cases hk
          go_wp2
          go_ret2
          exact ⟨Or.inr ⟨unhide HN, rfl⟩, hbel2⟩
        · have HK1 : Hid (∀ i, i < j + 1 → mkP (M : Int) n (V2 a b i) = true) := fun i hi => by
            by_cases e : i = j
            · subst e; rw [unhide HVE]; exact hk
            · exact unhide HK i (by omega)
          go_wp2
          go_roundw
          case rel => exact ⟨j + 1, by omega, by go_num, unhide HK1, ⟨p0, p1⟩, unhide HF2, unhide HB2, hbel2⟩
          case measure => simp [intOf]; omega
      · have ej : j = 2 := by omega
        subst ej
        have HI : Hid (inB (M : Int) n G a b) := ⟨unhide HPn, by simpa [V2] using unhide HK 0 (by omega), by simpa [V2] using unhide HK 1 (by omega)⟩
        obtain ⟨⟨ab, off, sp⟩, rfl, hsp⟩ := hs
        simp only at hsp
        subst hsp
        have hGr : Gts (wr.alloc (.cells #[] 76)) ab off n G := by
          have b4 : Below wr.heap.size wr (wr.alloc (.cells #[] 76)) := (Below.refl _ _).alloc (Nat.le_refl _) _
          rcases ((unhide HD).later hbel).later b4 with h | ⟨b', off', e, _, h⟩
          · subst h; exact fun i hi => by omega
          · cases e; exact h
        obtain ⟨g, c, w4, hrun, ow4, gr4, hg4⟩ := gat_app (wr.alloc (.cells #[] 76)) wr.heap.size wr.heap.size 0 0 23 [] ab off n cap G (own_new wr _ 3) hGr (by omega) (by simp)
        simp only [Nat.zero_add, List.nil_append] at hrun ow4
        have HR := hide hrun
        have b4 : Below wr.heap.size wr w4 := ((Below.refl _ _).alloc (Nat.le_refl _) _).trans ((mov_of_grown gr4).below (Nat.le_refl _) (by simp))
        have q0 := (b4.cell (p := ⟨w.heap.size, 0, none⟩) lw).trans p0
        have q1 := (b4.cell (p := ⟨w.heap.size, 1, none⟩) lw).trans p1
        have qf := (b4.frozen (p := ⟨w.heap.size, 1, none⟩) lw).trans (unhide HF 1)
        have gb4 := own_base ow4
        have gl4 := (own_cap ow4).2
        have hBl := (unhide HB).lt
        have HT4 := hide ((unhide HB).later b4)
        have HO4 := hide ow4
        have B4 := hbel.trans (b4.mono hbel.size)
        clear hrun ow4 gr4 hg4 hGr b4
        go_wp2_with (first | (at_builtin; refine wpList_append_run _ rfl (.tmp 29) (.tmp 31) 23 rfl _ _ _ _ rfl rfl (unhide HR) ?_))
        have lB4 := (unhide HT4).lt
        have s4 := B4.size
        have m5 : Mov w.heap.size w4 (w4.setCell ⟨w.heap.size, 1, none⟩ (.slice (some ⟨g, 0, none⟩) n c)) := Mov.set _ _ _
        have ow5 := (unhide HO4).kept (grown_mov m5) (Or.inr (by simp [Value.ownBlock]; omega))
        have T5 : Tab (w4.setCell ⟨w.heap.size, 1, none⟩ (.slice (some ⟨g, 0, none⟩) n c)) B n G M := (unhide HT4).keep (Below.heap_setCell _ _ _ _ (by simp only; omega))
        have B5 : Below w.heap.size w (w4.setCell ⟨w.heap.size, 1, none⟩ (.slice (some ⟨g, 0, none⟩) n c)) := B4.setCell (Nat.le_refl _) _
        have z5 : (w4.setCell ⟨w.heap.size, 1, none⟩ (.slice (some ⟨g, 0, none⟩) n c)).heap.size = w4.heap.size := by simp
        generalize w4.setCell ⟨w.heap.size, 1, none⟩ (.slice (some ⟨g, 0, none⟩) n c) = w5 at *
        have b6 : Below w5.heap.size w5 (w5.alloc (.cells #[.int .i64 M, .slice (some ⟨g, 0, none⟩) n c, .map (some B)] 117)) := (Below.refl _ _).alloc (Nat.le_refl _) _
        go_ret2
        refine ⟨Or.inl ⟨unhide HI, w4.heap.size, g, c, B, rfl, ⟨?_, ?_, ?_, fun o => ?_⟩, ?_, T5.later b6, by omega, by omega, by omega, by omega, by omega⟩, B5.trans (b6.mono (by omega))⟩
        · rw [← z5]; simp [go_sem]
        · rw [← z5]; simp [go_sem]
        · rw [← z5]; simp [go_sem]
        · rw [← z5]; simp [go_sem]
        · exact own_mono (ow5.kept (grown_below b6) (Or.inr (by simp [Value.ownBlock]))) (by omega)
  · have BL := BZ.trans (b1.mono BZ.size)
    have HN : Hid (¬ inB m n G a b) := fun h => hP (netB_iff.1 h.1)
    clear b1 BZ NB NF hP
    go_wp2
    go_ret2
    exact ⟨Or.inr ⟨unhide HN, rfl⟩, BL⟩
end Go.Proofs.YtmpiiilkaadhfaaDoor
