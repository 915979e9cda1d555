/- What is asked of two rows, of the builder. -/
import Derived.Test.YtnjjobompjoigaaDoorCpQ
namespace Go.Proofs.YtnjjobompjoigaaDoor
open Go.ChangeShapes Go.WideShapes Go.ChangeAt Go.RowKit Go.Joins
set_option linter.unusedVariables false
set_option maxRecDepth 100000
set_option linter.unusedSimpArgs false

theorem BI.row {w w1 : World} {base bb gb B g g' : Nat} {aF aR : Addr} {s : KS} (h : BI w w1 base bb gb B g g' aF aR s) (hbase : base ≤ w.heap.size) (v : Int) : RowP w (w1.alloc (.cells #[.int .i64 v] 72)) base bb gb B g g' aF aR s [v] 1 1 w1.heap.size := by
  have ba : Below w1.heap.size w1 (w1.alloc (.cells #[.int .i64 v] 72)) := (Below.refl _ _).alloc (Nat.le_refl _) _
  have lg := h.b.lg
  have lt := h.b.lt
  refine ⟨h.b.later ba, h.s.below ba (Nat.le_trans hbase h.o.size), h.gs, fun e => by rcases e with e | e | e | e <;> omega, h.o.below ba, fun i hi => ?_, ?_⟩
  · obtain rfl : i = 0 := by omega
    simp [go_sem, at0]
  · refine ⟨by simp, fun j hj => ⟨?_, by simp [go_sem]⟩⟩
    obtain rfl : j = 0 := by omega
    exact ⟨_, by simp [go_sem]; rfl⟩
set_option maxRecDepth 100000 in
set_option maxHeartbeats 2000000 in
theorem cmpG_any (base bb gb B g : Nat) (aF aR : Addr) (s : KS) (hok : s.ok = true) (op : Int) (rx cx nx ry cy ny : Nat) (L M : List Int) (w : World) (hb : Bld w base bb gb B g aR s) (hs : Sent w base aF aR) (hbase : base ≤ w.heap.size) (hk : KOk s) (hL : L.length = nx) (hM : M.length = ny) (h1 : 1 ≤ nx) (hn : nx ≤ 100) (hn' : ny ≤ 100) (hcx : nx ≤ cx) (hcy : ny ≤ cy) (dx : Ints w rx 0 nx (at0 L)) (dy : Ints w ry 0 ny (at0 M)) (nx' : ¬ S4 bb gb B g rx ∧ rx < w.heap.size) (ny' : ¬ S4 bb gb B g ry ∧ ry < w.heap.size) (mL : MkL s L) (mM : MkL s M) :
    Calls Tryd.prog 22 #[.pointer (some ⟨bb, 0, none⟩), .int .i64 op, .slice (some ⟨rx, 0, none⟩) nx cx, .slice (some ⟨ry, 0, none⟩) ny cy] w fun e w' => ((nx = ny ∧ (op = 15 ∨ op = 16 ∨ op = 17)) ∧ ∃ row, e = .returned (.slice (some ⟨row, 0, none⟩) 1 1) ∧ w.heap.size ≤ row ∧ row < w'.heap.size ∧ ∃ g', RowP w w' base bb gb B g g' aF aR (cmpK 0 op s L M).1 [(cmpK 0 op s L M).2] 1 1 row) ∨ (¬ (nx = ny ∧ (op = 15 ∨ op = 16 ∨ op = 17)) ∧ e = .returned (.slice none 0 0) ∧ Bad w' bb ∧ OutS (S4 bb gb B g) w w') := by
  have q1 := hb.f1 hok
  have z1 := hb.z 1
  have f := hs.f
  by_cases he : nx = ny
  · subst he
    have keyg : ∀ (u : KS × Int) (e : Ending) (w1 : World), (e = .returned (.int .i64 u.2) ∧ ∃ g', BI w w1 base bb gb B g g' aF aR u.1) → ∃ g', e = .returned (.int .i64 u.2) ∧ w.heap.size ≤ w1.heap.size ∧ RowP w (w1.alloc (.cells #[.int .i64 u.2] 72)) base bb gb B g g' aF aR u.1 [u.2] 1 1 w1.heap.size := fun u e w1 ⟨h1, g', h2⟩ => ⟨g', h1, h2.o.size, h2.row hbase u.2⟩
    have HKEY := hide keyg
    clear keyg
    by_cases o15 : op = 15
    · subst o15
      obtain ⟨u, hu⟩ : ∃ u, u = foldK (sameR 0) s 1 L M nx := ⟨_, rfl⟩
      have HC := hide (bsame_any base bb gb B g aF aR s rx 0 cx ry 0 cy nx L M w hb hs hbase hk hL hM hn dx dy nx' ny' mL mM)
      rw [← hu] at HC
      have HU : Hid (cmpK 0 15 s L M = u) := by show _ = _; rw [hu, ← hL]; rfl
      clear hb hs hk hL hM dx dy nx' ny' mL mM hu
      go_enter Tryd.func22, Tryd.ntmps22
      go_wp2_with fail
      refine (holdsG_any bb aF _ _ q1 z1 f).mono ?_
      rintro e w2 ⟨rfl, ⟨_, h⟩ | ⟨h, _⟩⟩
      rotate_left
      · simp at h
      subst h
      go_wp2_with fail
      refine (unhide HC).mono ?_
      rintro e w1 hp
      obtain ⟨g', rfl, l1, hR⟩ := unhide HKEY u e w1 hp
      have HR := hide hR
      clear hR hp
      go_wp2
      go_ret
      rw [unhide HU]
      exact Or.inl ⟨by simp, _, rfl, l1, (unhide HR).m.1, g', unhide HR⟩
    · have k15 : (op == 15) = false := by simp [o15]
      by_cases o16 : op = 16
      · subst o16
        obtain ⟨u, hu⟩ : ∃ u, u = foldK (lessR 0) s (-1) L M nx := ⟨_, rfl⟩
        have HC := hide (bless_any base bb gb B g aF aR s rx 0 cx ry 0 cy nx L M w hb hs hbase hk hL hM hn dx dy nx' ny' mL mM)
        rw [← hu] at HC
        have HU : Hid (cmpK 0 16 s L M = u) := by show _ = _; rw [hu, ← hL]; rfl
        clear hb hs hk hL hM dx dy nx' ny' mL mM hu
        go_enter Tryd.func22, Tryd.ntmps22
        go_wp2_with fail
        refine (holdsG_any bb aF _ _ q1 z1 f).mono ?_
        rintro e w2 ⟨rfl, ⟨_, h⟩ | ⟨h, _⟩⟩
        rotate_left
        · simp at h
        subst h
        go_wp2_with fail
        refine (unhide HC).mono ?_
        rintro e w1 hp
        obtain ⟨g', rfl, l1, hR⟩ := unhide HKEY u e w1 hp
        have HR := hide hR
        clear hR hp
        go_wp2
        go_ret
        rw [unhide HU]
        exact Or.inl ⟨by simp, _, rfl, l1, (unhide HR).m.1, g', unhide HR⟩
      · have k16 : (op == 16) = false := by simp [o16]
        by_cases o17 : op = 17
        · subst o17
          obtain ⟨u, hu⟩ : ∃ u, u = foldK (lessR 0) s (-1) (topL L M) (topL M L) nx := ⟨_, rfl⟩
          have HC := hide (bunder_any base bb gb B g aF aR s rx cx ry cy nx L M w hb hs hbase hk hL hM h1 hn hcx hcy dx dy nx' ny' mL mM)
          rw [← hu] at HC
          have HU : Hid (cmpK 0 17 s L M = u) := by show _ = _; rw [hu, ← hL]; rfl
          clear hb hs hk hL hM dx dy nx' ny' mL mM hu
          go_enter Tryd.func22, Tryd.ntmps22
          go_wp2_with fail
          refine (holdsG_any bb aF _ _ q1 z1 f).mono ?_
          rintro e w2 ⟨rfl, ⟨_, h⟩ | ⟨h, _⟩⟩
          rotate_left
          · simp at h
          subst h
          go_wp2_with fail
          refine (unhide HC).mono ?_
          rintro e w1 hp
          obtain ⟨g', rfl, l1, hR⟩ := unhide HKEY u e w1 hp
          have HR := hide hR
          clear hR hp
          go_wp2
          go_ret
          rw [unhide HU]
          exact Or.inl ⟨by simp, _, rfl, l1, (unhide HR).m.1, g', unhide HR⟩
        · have k17 : (op == 17) = false := by simp [o17]
          have HO : Hid (¬ (op = 15 ∨ op = 16 ∨ op = 17)) := fun h => by rcases h with e | e | e; exact o15 e; exact o16 e; exact o17 e
          have HQ := hide q1
          have HZ := hide z1
          clear hb hs hk hL hM dx dy nx' ny' mL mM o15 o16 o17
          go_enter Tryd.func22, Tryd.ntmps22
          go_wp2_with fail
          refine (holdsG_any bb aF _ _ q1 z1 f).mono ?_
          rintro e w2 ⟨rfl, ⟨_, h⟩ | ⟨h, _⟩⟩
          rotate_left
          · simp at h
          subst h
          go_wp2_with fail
          refine (stop_any bb (.int .i64 0) aF _ (unhide HQ) (unhide HZ)).mono ?_
          rintro e w1 ⟨rfl, rfl⟩
          go_wp2
          go_ret
          exact Or.inr ⟨fun h => unhide HO h.2, rfl, ⟨aF, World.cell?_setCell_same _ _ _ (unhide HQ)⟩, (OutS.refl _ _).mov (Mov.set (R := bb) _ _ _) (fun _ => Or.inl rfl)⟩
  · have HE := hide he
    have k1 : ((nx : Int) == (ny : Int)) = false := by simp; omega
    have HQ := hide q1
    clear hb hs hk hL hM dx dy nx' ny' mL mM
    go_enter Tryd.func22, Tryd.ntmps22
    go_wp2_with fail
    refine (holdsG_any bb aF _ _ q1 z1 f).mono ?_
    rintro e w1 ⟨rfl, ⟨h, _⟩ | ⟨_, h⟩⟩
    · simp at h; try omega
    · subst h
      go_wp2
      go_ret
      exact Or.inr ⟨fun h => unhide HE h.1, rfl, ⟨aF, World.cell?_setCell_same _ _ _ (unhide HQ)⟩, (OutS.refl _ _).mov (Mov.set (R := bb) _ _ _) (fun _ => Or.inl rfl)⟩
set_option maxRecDepth 100000 in
set_option maxHeartbeats 1000000 in
theorem cmpB_any (bb : Nat) (v aF : Addr) (op : Int) (ax : Option Addr) (nx cx : Nat) (ay : Option Addr) (ny cy : Nat) (w : World) (q1 : w.cell? ⟨bb, 1, none⟩ = some (.iface 114 (.pointer (some v)))) (f : w.cell? ⟨0, 0, none⟩ = some (.iface 114 (.pointer (some aF)))) (hx : nx ≤ 1048576) (hy : ny ≤ 1048576) :
    Calls Tryd.prog 22 #[.pointer (some ⟨bb, 0, none⟩), .int .i64 op, .slice ax nx cx, .slice ay ny cy] w fun e w' => e = .returned (.slice none 0 0) ∧ w' = w := by
  go_enter Tryd.func22, Tryd.ntmps22
  go_wp2_with fail
  refine (holdsB_any bb v aF _ _ q1 f).mono ?_
  rintro e w ⟨rfl, rfl⟩
  go_wp2
  go_ret
  exact ⟨rfl, rfl⟩
end Go.Proofs.YtnjjobompjoigaaDoor
