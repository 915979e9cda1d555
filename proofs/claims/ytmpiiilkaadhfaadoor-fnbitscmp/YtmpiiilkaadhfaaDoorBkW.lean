/- The builder of the program: how it begins, what it takes, what it tells. -/
import Derived.Test.YtmpiiilkaadhfaaDoorBkR
import Derived.Test.YtmpiiilkaadhfaaDoorBkV
namespace Go.Proofs.YtmpiiilkaadhfaaDoor
open Go.ChangeShapes Go.WideShapes Go.ChangeAt Go.RowKit Go.Joins
set_option linter.unusedVariables false
set_option maxRecDepth 100000
set_option linter.unusedSimpArgs false

set_option maxRecDepth 100000 in
set_option maxHeartbeats 800000 in
theorem grow0_any (m : Int) (ad : Option Addr) (n cap : Nat) (G : Nat → Gt) (w : World) (hd : GtsAt w ad n G) (hw : WG n G) (hs : ∃ p, ad = some p ∧ p.spot = none) (hn : n ≤ 1048576) :
    Calls Tryd.prog 64 #[.agg #[.int .i64 m, .slice ad n cap], .slice none 0 0] w fun e w' => (netB m n G = true ∧ (∃ gb g c B, e = .returned (.tuple #[.pointer (some ⟨gb, 0, none⟩), .bool true]) ∧ Grow w' w.heap.size gb m g n c B G) ∨ netB m n G = false ∧ e = .returned (.tuple #[.pointer none, .bool false])) ∧ Below w.heap.size w w' := by
  have HD := hide hd
  have HW := hide hw
  clear hd hw
  obtain ⟨wz, hwz⟩ : ∃ wz, wz = w.alloc (.cells #[.int .i64 m, .slice ad n cap] 25) := ⟨_, rfl⟩
  have BZ : Below w.heap.size w wz := by rw [hwz]; exact (Below.refl _ _).alloc (Nat.le_refl _) _
  have NB : NBox wz w.heap.size m ad n cap := by rw [hwz]; exact NBox.new _ _ _ _ _ _
  have NF : ∀ o, wz.frozen? ⟨w.heap.size, o, none⟩ = false := fun o => by rw [hwz]; simp [go_sem]
  have hsz : w.heap.size < wz.heap.size := by rw [hwz]; simp
  have HZ := hide hwz
  clear hwz
  go_enter Tryd.func64, Tryd.ntmps64
  go_wp2_with fail
  rw [← unhide HZ]
  refine (gateTable_any _ _ _ _ _ _ ((unhide HD).later BZ) (unhide HW) hn).mono ?_
  rintro e w1 ⟨⟨hP, B, rfl, hB, hTab⟩ | ⟨hP, rfl⟩, b1⟩
  · have NB1 := NB.later b1
    have NF1 : Hid (∀ o, w1.frozen? ⟨w.heap.size, o, none⟩ = false) := fun o => (b1.frozen (p := ⟨w.heap.size, o, none⟩) (by simp only; omega)).trans (NF o)
    have BL := BZ.trans (b1.mono BZ.size)
    have HTab := hide hTab
    have HI : Hid (netB m n G = true) := netB_yes hP
    obtain ⟨hm0, hm1, hn6, _⟩ := hP
    have l1 := b1.size
    clear b1 BZ NB NF hTab
    go_wp2
    go_loopw [19] (fun i wr => i = .int .i64 0 ∧ NBox wr w.heap.size m ad n cap ∧ (∀ o, wr.frozen? ⟨w.heap.size, o, none⟩ = false) ∧ Tab wr B n G m ∧ Below w.heap.size w wr) (fun i _ => 0)
    case atStart => exact ⟨rfl, NB1, unhide NF1, unhide HTab, BL⟩
    case round =>
      obtain ⟨rfl, ⟨p0, p1⟩, hfz, hTb, hbel⟩ := hrel
      have HF := hide hfz
      have HB := hide hTb
      have lw : w.heap.size < wr.heap.size := World.block_lt_of_cell? _ _ p0
      clear hfz hTb
      obtain ⟨⟨ab, off, sp⟩, rfl, hsp⟩ := hs
      simp only at hsp
      subst hsp
      have hGr : Gts (wr.alloc (.cells #[] 76)) ab off n G := by
        have b4 : Below wr.heap.size wr (wr.alloc (.cells #[] 76)) := (Below.refl _ _).alloc (Nat.le_refl _) _
        rcases ((unhide HD).later hbel).later b4 with h | ⟨b', off', e, _, h⟩
        · subst h; exact fun i hi => by omega
        · cases e; exact h
      obtain ⟨g, c, w4, hrun, ow4, gr4, hg4⟩ := gat_app (wr.alloc (.cells #[] 76)) wr.heap.size wr.heap.size 0 0 23 [] ab off n cap G (own_new wr _ 3) hGr (by omega) (by simp)
      simp only [Nat.zero_add, List.nil_append] at hrun ow4
      have HR := hide hrun
      have b4 : Below wr.heap.size wr w4 := ((Below.refl _ _).alloc (Nat.le_refl _) _).trans ((mov_of_grown gr4).below (Nat.le_refl _) (by simp))
      have q0 := (b4.cell (p := ⟨w.heap.size, 0, none⟩) lw).trans p0
      have q1 := (b4.cell (p := ⟨w.heap.size, 1, none⟩) lw).trans p1
      have qf := (b4.frozen (p := ⟨w.heap.size, 1, none⟩) lw).trans (unhide HF 1)
      have gb4 := own_base ow4
      have gl4 := (own_cap ow4).2
      have hBl := (unhide HB).lt
      have HT4 := hide ((unhide HB).later b4)
      have HO4 := hide ow4
      have B4 := hbel.trans (b4.mono hbel.size)
      clear hrun ow4 gr4 hg4 hGr b4
      go_wp2_with (first | (at_builtin; refine wpList_append_run _ rfl (.tmp 29) (.tmp 31) 23 rfl _ _ _ _ rfl rfl (unhide HR) ?_))
      have lB4 := (unhide HT4).lt
      have s4 := B4.size
      have m5 : Mov w.heap.size w4 (w4.setCell ⟨w.heap.size, 1, none⟩ (.slice (some ⟨g, 0, none⟩) n c)) := Mov.set _ _ _
      have ow5 := (unhide HO4).kept (grown_mov m5) (Or.inr (by simp [Value.ownBlock]; omega))
      have T5 : Tab (w4.setCell ⟨w.heap.size, 1, none⟩ (.slice (some ⟨g, 0, none⟩) n c)) B n G m := (unhide HT4).keep (Below.heap_setCell _ _ _ _ (by simp only; omega))
      have B5 : Below w.heap.size w (w4.setCell ⟨w.heap.size, 1, none⟩ (.slice (some ⟨g, 0, none⟩) n c)) := B4.setCell (Nat.le_refl _) _
      have z5 : (w4.setCell ⟨w.heap.size, 1, none⟩ (.slice (some ⟨g, 0, none⟩) n c)).heap.size = w4.heap.size := by simp
      generalize w4.setCell ⟨w.heap.size, 1, none⟩ (.slice (some ⟨g, 0, none⟩) n c) = w5 at *
      have b6 : Below w5.heap.size w5 (w5.alloc (.cells #[.int .i64 m, .slice (some ⟨g, 0, none⟩) n c, .map (some B)] 117)) := (Below.refl _ _).alloc (Nat.le_refl _) _
      go_ret2
      refine ⟨Or.inl ⟨unhide HI, w4.heap.size, g, c, B, rfl, ⟨?_, ?_, ?_, fun o => ?_⟩, ?_, T5.later b6, by omega, by omega, by omega, by omega, by omega⟩, B5.trans (b6.mono (by omega))⟩
      · rw [← z5]; simp [go_sem]
      · rw [← z5]; simp [go_sem]
      · rw [← z5]; simp [go_sem]
      · rw [← z5]; simp [go_sem]
      · exact own_mono (ow5.kept (grown_below b6) (Or.inr (by simp [Value.ownBlock]))) (by omega)
  · have BL := BZ.trans (b1.mono BZ.size)
    have HN : Hid (netB m n G = false) := netB_no hP
    clear b1 BZ NB NF hP
    go_wp2
    go_ret2
    exact ⟨Or.inr ⟨unhide HN, rfl⟩, BL⟩
/-- A builder that has stopped. -/
def Bad (w : World) (bb : Nat) : Prop := ∃ v, w.cell? ⟨bb, 1, none⟩ = some (.iface 168 (.pointer (some v)))
theorem Bad.later {w w' : World} {bb : Nat} (h : Bad w bb) (hb : Below w.heap.size w w') : Bad w' bb := by obtain ⟨v, h⟩ := h; exact ⟨v, cell_later hb h⟩
set_option maxRecDepth 100000 in
set_option maxHeartbeats 400000 in
theorem stopB_any (bb : Nat) (v aR : Addr) (w : World) (q1 : w.cell? ⟨bb, 1, none⟩ = some (.iface 168 (.pointer (some v)))) :
    Calls Tryd.prog 69 #[.pointer (some ⟨bb, 0, none⟩), .iface 168 (.pointer (some aR))] w fun e w' => e = .returned (.tuple #[]) ∧ w' = w := by
  go_enter Tryd.func69, Tryd.ntmps69
  go_wp2
  first | go_end0 | refine bodyPost_ret (results_none rfl _ _ _) rfl ?_
  exact ⟨rfl, rfl⟩
set_option maxRecDepth 100000 in
set_option maxHeartbeats 800000 in
theorem holdsG_any (bb : Nat) (aF : Addr) (is : Bool) (w : World) (q1 : w.cell? ⟨bb, 1, none⟩ = some .nilIface) (z1 : w.frozen? ⟨bb, 1, none⟩ = false) (f : w.cell? ⟨0, 0, none⟩ = some (.iface 168 (.pointer (some aF)))) :
    Calls Tryd.prog 65 #[.pointer (some ⟨bb, 0, none⟩), .bool is] w fun e w' => e = .returned (.bool is) ∧ (is = true ∧ w' = w ∨ is = false ∧ w' = w.setCell ⟨bb, 1, none⟩ (.iface 168 (.pointer (some aF)))) := by
  cases is
  · go_enter Tryd.func65, Tryd.ntmps65
    go_wp2_with fail
    refine (stop_any bb .nilIface aF _ q1 z1).mono ?_
    rintro e w1 ⟨rfl, rfl⟩
    go_wp2
    go_ret
    exact ⟨rfl, Or.inr ⟨by trivial, rfl⟩⟩
  · go_enter Tryd.func65, Tryd.ntmps65
    go_wp2
    go_ret
    exact ⟨rfl, Or.inl ⟨by trivial, rfl⟩⟩
set_option maxRecDepth 100000 in
set_option maxHeartbeats 800000 in
theorem holdsB_any (bb : Nat) (v aF : Addr) (is : Bool) (w : World) (q1 : w.cell? ⟨bb, 1, none⟩ = some (.iface 168 (.pointer (some v)))) (f : w.cell? ⟨0, 0, none⟩ = some (.iface 168 (.pointer (some aF)))) :
    Calls Tryd.prog 65 #[.pointer (some ⟨bb, 0, none⟩), .bool is] w fun e w' => e = .returned (.bool false) ∧ w' = w := by
  cases is
  · go_enter Tryd.func65, Tryd.ntmps65
    go_wp2_with fail
    refine (stopB_any bb v aF _ q1).mono ?_
    rintro e w1 ⟨rfl, rfl⟩
    go_wp2
    go_ret
    exact ⟨rfl, rfl⟩
  · go_enter Tryd.func65, Tryd.ntmps65
    go_wp2
    go_ret
    exact ⟨rfl, rfl⟩
set_option maxRecDepth 100000 in
set_option maxHeartbeats 1500000 in
theorem newB_any (m : Int) (ad : Option Addr) (n cap : Nat) (G : Nat → Gt) (base : Nat) (aF aR : Addr) (w : World) (hd : GtsAt w ad n G) (hw : WG n G) (hsp : ∃ p, ad = some p ∧ p.spot = none) (hn : n ≤ 1048576) (hs : Sent w base aF aR) (hbase : base ≤ w.heap.size) :
    Calls Tryd.prog 32 #[.agg #[.int .i64 m, .slice ad n cap]] w fun e w' => (∃ bb, e = .returned (.pointer (some ⟨bb, 0, none⟩)) ∧ w.heap.size ≤ bb ∧ bb < w'.heap.size ∧ (netB m n G = true ∧ (∃ gb B g, Bld w' w.heap.size bb gb B g aR (kS m n G)) ∨ netB m n G = false ∧ Bad w' bb)) ∧ Below w.heap.size w w' := by
  obtain ⟨wz, hwz⟩ : ∃ wz, wz = w.alloc (.cells #[.int .i64 m, .slice ad n cap] 25) := ⟨_, rfl⟩
  have BZ : Below w.heap.size w wz := by rw [hwz]; exact (Below.refl _ _).alloc (Nat.le_refl _) _
  have p0 : wz.cell? ⟨w.heap.size, 0, none⟩ = some (.int .i64 m) := by rw [hwz]; simp [go_sem]
  have p1 : wz.cell? ⟨w.heap.size, 1, none⟩ = some (.slice ad n cap) := by rw [hwz]; simp [go_sem]
  have hc := grow0_any m ad n cap G wz (hd.later BZ) hw hsp hn
  have hsz := BZ.size
  have HC := hide hc
  have HS := hide (hs.below BZ hbase)
  have HZ := hide hwz
  clear hc hd hw hsp hs hwz
  go_enter Tryd.func32, Tryd.ntmps32
  go_wp2_with fail
  rw [← unhide HZ]
  refine (unhide HC).mono ?_
  rintro e w1 ⟨⟨hP, gb, g, c, B, rfl, hG⟩ | ⟨hP, rfl⟩, b1⟩
  · have l1 := b1.size
    have lgb := hG.1.lt
    have lB := hG.2.2.1.lt
    have lg := (own_cap hG.2.1).2
    obtain ⟨wy, hwy⟩ : ∃ wy, wy = w1.alloc (.cells #[.pointer (some ⟨gb, 0, none⟩), .nilIface] 113) := ⟨_, rfl⟩
    have by1 : Below w1.heap.size w1 wy := by rw [hwy]; exact (Below.refl _ _).alloc (Nat.le_refl _) _
    have q0 : wy.cell? ⟨w1.heap.size, 0, none⟩ = some (.pointer (some ⟨gb, 0, none⟩)) := by rw [hwy]; simp [go_sem]
    have q1 : wy.cell? ⟨w1.heap.size, 1, none⟩ = some .nilIface := by rw [hwy]; simp [go_sem]
    have qz : Hid (∀ o, wy.frozen? ⟨w1.heap.size, o, none⟩ = false) := fun o => by rw [hwy]; simp [go_sem]
    have hlast : w1.heap.size < wy.heap.size := by rw [hwy]; simp
    have z1 := unhide qz 1
    have hbs := hG.2.2.2
    have hgb := own_base hG.2.1
    have HB : Hid (Bld wy w.heap.size w1.heap.size gb B g aR (kS m n G)) := ⟨q0, fun _ => q1, fun e => (by cases e), unhide qz, fun _ => ⟨c, by obtain ⟨h1, h2, h3, h4, h5, h6⟩ := hG.later by1; exact ⟨h1, own_mono h2 hsz, h3, by omega, by omega, h6⟩⟩, by omega, by omega, by omega, by omega, by omega⟩
    have f := ((unhide HS).below (b1.trans (by1.mono l1)) (by omega)).f
    have HBL := hide (BZ.trans ((b1.trans (by1.mono l1)).mono hsz))
    have HY := hide hwy
    have HP := hide hP
    clear hG b1 by1 q0 hwy hP hbs hgb
    go_wp2_with fail
    rw [← unhide HY]
    refine (holdsG_any w1.heap.size aF true _ q1 z1 f).mono ?_
    rintro e w2 ⟨rfl, ⟨_, rfl⟩ | ⟨h, _⟩⟩
    · go_wp2
      go_ret
      exact ⟨⟨w1.heap.size, rfl, by omega, hlast, Or.inl ⟨unhide HP, gb, B, g, unhide HB⟩⟩, unhide HBL⟩
    · cases h
  · have l1 := b1.size
    obtain ⟨wy, hwy⟩ : ∃ wy, wy = w1.alloc (.cells #[.pointer none, .nilIface] 113) := ⟨_, rfl⟩
    have by1 : Below w1.heap.size w1 wy := by rw [hwy]; exact (Below.refl _ _).alloc (Nat.le_refl _) _
    have q1 : wy.cell? ⟨w1.heap.size, 1, none⟩ = some .nilIface := by rw [hwy]; simp [go_sem]
    have z1 : wy.frozen? ⟨w1.heap.size, 1, none⟩ = false := by rw [hwy]; simp [go_sem]
    have hlast : w1.heap.size < wy.heap.size := by rw [hwy]; simp
    have f := ((unhide HS).below (b1.trans (by1.mono l1)) (by omega)).f
    have HBL := hide (BZ.trans ((b1.trans (by1.mono l1)).mono hsz))
    have HY := hide hwy
    have HP := hide hP
    clear b1 by1 hwy hP
    go_wp2_with fail
    rw [← unhide HY]
    refine (holdsG_any w1.heap.size aF false _ q1 z1 f).mono ?_
    rintro e w2 ⟨rfl, ⟨h, _⟩ | ⟨_, rfl⟩⟩
    · cases h
    · have qv := World.cell?_setCell_same (u := .nilIface) wy ⟨w1.heap.size, 1, none⟩ (.iface 168 (.pointer (some aF))) q1
      have HQV := hide qv
      clear qv
      go_wp2
      go_ret
      exact ⟨⟨w1.heap.size, rfl, by omega, by simp; omega, Or.inr ⟨unhide HP, aF, unhide HQV⟩⟩, (unhide HBL).setCell (by simp only; omega) _⟩
end Go.Proofs.YtmpiiilkaadhfaaDoor
