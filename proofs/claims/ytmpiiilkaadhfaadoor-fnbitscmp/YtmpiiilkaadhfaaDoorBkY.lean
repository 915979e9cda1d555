/- The builder of the program: what it tells; one or the other. -/
import Derived.Test.YtmpiiilkaadhfaaDoorBkX
namespace Go.Proofs.YtmpiiilkaadhfaaDoor
open Go.ChangeShapes Go.WideShapes Go.ChangeAt Go.RowKit Go.Joins
set_option linter.unusedVariables false
set_option maxRecDepth 100000
set_option linter.unusedSimpArgs false

set_option maxRecDepth 100000 in
set_option maxHeartbeats 800000 in
theorem toldB_any (bb : Nat) (v : Addr) (a : Option Addr) (nl cl : Nat) (w : World) (q1 : w.cell? ⟨bb, 1, none⟩ = some (.iface 168 (.pointer (some v)))) :
    Calls Tryd.prog 33 #[.pointer (some ⟨bb, 0, none⟩), .slice a nl cl] w fun e w' => e = .returned (.tuple #[.agg #[.int .i64 0, .slice none 0 0], .slice none 0 0]) ∧ Below w.heap.size w w' := by
  have lb := World.block_lt_of_cell? _ _ q1
  go_enter Tryd.func33, Tryd.ntmps33
  go_wp2
  refine bodyPost_ret (v := .tuple #[.agg #[.int .i64 0, .slice none 0 0], .slice none 0 0]) (by simp [results, Tryd.results33, go_sem]) rfl ⟨rfl, (by repeat (first | exact Below.refl _ _ | assumption | refine below_drewN ?_ _ | refine Below.drew ?_ | refine Below.alloc ?_ (by first | exact Nat.le_refl _ | exact Below.size (by assumption) | (simp; done) | (simp; omega)) _ | refine Below.setCell ?_ (by first | exact Nat.le_refl _ | exact Below.size (by assumption) | (simp; done) | (simp; omega)) _ | refine Below.trans ?_ (by assumption)))⟩
set_option maxRecDepth 100000 in
set_option maxHeartbeats 1500000 in
theorem toldG_any (base bb gb B g : Nat) (aR : Addr) (s : KS) (r nl cl : Nat) (R : List Int) (w : World) (hb : Bld w base bb gb B g aR s) (hok : s.ok = true) (hd : Ints w r 0 nl (at0 R)) (hr : r < w.heap.size) (hl : nl ≤ 100) (hbb : base ≤ w.heap.size) :
    Calls Tryd.prog 33 #[.pointer (some ⟨bb, 0, none⟩), .slice (some ⟨r, 0, none⟩) nl cl] w fun e w' => ∃ c, e = .returned (.tuple #[.agg #[.int .i64 s.m, .slice (some ⟨g, 0, none⟩) s.n c], .slice (some ⟨w.heap.size + 1, 0, none⟩) nl nl]) ∧ Grow w' base gb s.m g s.n c B s.G ∧ Ints w' (w.heap.size + 1) 0 nl (at0 R) ∧ Made w' (w.heap.size + 1) nl ∧ Below w.heap.size w w' := by
  have hmk := run_make_wide (P := Tryd.prog) 26 3 _ 1 8 Tryd.underlying26 infoInt .i64 .i64 nl (by omega) (by omega)
  simp only [Nat.mul_one] at hmk
  obtain ⟨c, hG⟩ := hb.gr hok
  have HG := hide hG
  have HD := hide hd
  have b0 := hb.p
  have b1 := hb.f1 hok
  have g0 := hG.1.1
  have g1 := hG.1.2.1
  have lbb := hb.lt
  have lgb := hG.1.lt
  have lz : ((w.alloc (.cells #[.int .i64 0, .slice none 0 0] 25)).alloc (.cells (madeCells #[.int .i64 0] nl) 3)).heap.size = w.heap.size + 2 := by simp
  clear hb hd hG
  go_enter Tryd.func33, Tryd.ntmps33
  go_wp2
  go_loopw [20] (fun i wr => ∃ j : Nat, j ≤ nl ∧ i = .int .i64 j ∧ Ints wr (w.heap.size + 1) 0 j (at0 R) ∧ Made wr (w.heap.size + 1) nl ∧ wr.cell? ⟨w.heap.size, 0, none⟩ = some (.int .i64 0) ∧ wr.cell? ⟨w.heap.size, 1, none⟩ = some (.slice none 0 0) ∧ (∀ o, wr.frozen? ⟨w.heap.size, o, none⟩ = false) ∧ Below w.heap.size w wr) (fun i _ => nl - (intOf i).toNat)
  case atStart =>
    refine ⟨0, by omega, rfl, fun i hi => by omega, ?_, by simp [go_sem], by simp [go_sem], fun o => by simp [go_sem], (by repeat (first | exact Below.refl _ _ | assumption | refine below_drewN ?_ _ | refine Below.drew ?_ | refine Below.alloc ?_ (by first | exact Nat.le_refl _ | exact Below.size (by assumption) | (simp; done) | (simp; omega)) _ | refine Below.setCell ?_ (by first | exact Nat.le_refl _ | exact Below.size (by assumption) | (simp; done) | (simp; omega)) _ | refine Below.trans ?_ (by assumption)))⟩
    simpa using Made.new (w.alloc (.cells #[.int .i64 0, .slice none 0 0] 25)) _ _ _
  case round =>
    obtain ⟨j, hj, rfl, hin, hmd, s0, s1, hfz, hbel⟩ := hrel
    have HI := hide hin
    have HM := hide hmd
    have HF := hide hfz
    clear hin hmd hfz
    by_cases hlt : j < nl
    · have dL := (hbel.cell (p := ⟨r, 0 + j, none⟩) hr).trans (unhide HD j hlt)
      rw [Nat.zero_add] at dL
      obtain ⟨⟨u0, m0⟩, mf⟩ := (unhide HM).2 j hlt
      have HP := hide ((unhide HI).put m0)
      obtain ⟨x, hx⟩ : ∃ x, x = at0 R j := ⟨_, rfl⟩
      rw [← hx] at dL HP
      have HX := hide hx
      clear hx
      go_wp2
      go_roundw
      case rel => exact ⟨j + 1, by omega, by go_num, unhide HP, (unhide HM).set _ _, by rw [World.cell?_setCell_other _ _ _ _ (by simp)]; exact s0, by rw [World.cell?_setCell_other _ _ _ _ (by simp)]; exact s1, fun o => by simp [go_sem]; exact unhide HF o, hbel.setCell (by simp only; omega) _⟩
      case measure => simp [intOf]; omega
    · have ej : j = nl := by omega
      subst ej
      replace b0 := (hbel.cell (p := ⟨bb, 0, none⟩) lbb).trans b0
      replace g0 := (hbel.cell (p := ⟨gb, 0, none⟩) lgb).trans g0
      replace g1 := (hbel.cell (p := ⟨gb, 1, none⟩) lgb).trans g1
      have f0 := unhide HF 0
      have f1 := unhide HF 1
      have lm := (unhide HM).1
      clear b1
      go_wp2
      refine bodyPost_ret (v := .tuple #[.agg #[.int .i64 s.m, .slice (some ⟨g, 0, none⟩) s.n c], .slice (some ⟨w.heap.size + 1, 0, none⟩) j j]) (by simp [results, Tryd.results33, go_sem, s0, s1]) rfl ?_
      have mv : Mov w.heap.size wr ((wr.setCell ⟨w.heap.size, 0, none⟩ (.int .i64 s.m)).setCell ⟨w.heap.size, 1, none⟩ (.slice (some ⟨g, 0, none⟩) s.n c)) := mov2c _ _ _ _
      have hb2 := (unhide HG).2.2.1.lt
      have hg2 := (own_cap (unhide HG).2.1).2
      exact ⟨c, rfl, ((unhide HG).later hbel).mov mv (by omega) (by omega) (by omega), fun i hi => mv.cell (unhide HI i hi) (by simp), (unhide HM).mov mv (by omega), hbel.trans (mv.below (Nat.le_refl _) hbel.size)⟩
set_option maxRecDepth 100000 in
set_option maxHeartbeats 1500000 in
theorem choiceB_any (bb : Nat) (v aF : Addr) (ac : Option Addr) (nc cc : Nat) (ax : Option Addr) (nx cx : Nat) (ay : Option Addr) (ny cy : Nat) (w : World) (q1 : w.cell? ⟨bb, 1, none⟩ = some (.iface 168 (.pointer (some v)))) (f : w.cell? ⟨0, 0, none⟩ = some (.iface 168 (.pointer (some aF)))) (hc : nc ≤ 1048576) (hx : nx ≤ 1048576) (hy : ny ≤ 1048576) :
    Calls Tryd.prog 53 #[.pointer (some ⟨bb, 0, none⟩), .slice ac nc cc, .slice ax nx cx, .slice ay ny cy] w fun e w' => e = .returned (.slice none 0 0) ∧ w' = w := by
  by_cases h1 : (nc : Int) = 1
  · have k1 : ((nc : Int) == 1) = true := by simp [h1]
    go_enter Tryd.func53, Tryd.ntmps53
    go_wp2_with fail
    refine (holdsB_any bb v aF _ _ q1 f).mono ?_
    rintro e w ⟨rfl, rfl⟩
    go_wp2
    go_ret
    exact ⟨rfl, rfl⟩
  · have k1 : ((nc : Int) == 1) = false := by simp; omega
    go_enter Tryd.func53, Tryd.ntmps53
    go_wp2_with fail
    refine (holdsB_any bb v aF _ _ q1 f).mono ?_
    rintro e w ⟨rfl, rfl⟩
    go_wp2
    go_ret
    exact ⟨rfl, rfl⟩
set_option maxRecDepth 100000 in
set_option maxHeartbeats 1500000 in
theorem choiceG_any (base bb gb B g : Nat) (aF aR : Addr) (s : KS) (hok : s.ok = true) (c : Int) (rc rx cx nx ry cy ny : Nat) (L M : List Int) (w : World) (hb : Bld w base bb gb B g aR s) (hs : Sent w base aF aR) (hbase : base ≤ w.heap.size) (hk : KOk s) (hc : Mk s c) (hL : L.length = nx) (hM : M.length = ny) (hn : nx ≤ 100) (hn' : ny ≤ 100) (q2 : w.cell? ⟨rc, 0, none⟩ = some (.int .i64 c)) (dx : Ints w rx 0 nx (at0 L)) (dy : Ints w ry 0 ny (at0 M)) (nx' : ¬ S4 bb gb B g rx ∧ rx < w.heap.size) (ny' : ¬ S4 bb gb B g ry ∧ ry < w.heap.size) (mL : MkL s L) (mM : MkL s M) :
    Calls Tryd.prog 53 #[.pointer (some ⟨bb, 0, none⟩), .slice (some ⟨rc, 0, none⟩) 1 1, .slice (some ⟨rx, 0, none⟩) nx cx, .slice (some ⟨ry, 0, none⟩) ny cy] w fun e w' => (nx = ny ∧ e = .returned (.slice (some ⟨w.heap.size + 2, 0, none⟩) nx nx) ∧ (∃ g', RowP w w' base bb gb B g g' aF aR (ifsK 0 c s L M nx).1 (ifsK 0 c s L M nx).2 nx nx (w.heap.size + 2))) ∨ (nx ≠ ny ∧ e = .returned (.slice none 0 0) ∧ Bad w' bb ∧ OutS (S4 bb gb B g) w w') := by
  have q1 := hb.f1 hok
  have z1 := hb.z 1
  have f := hs.f
  by_cases he : nx = ny
  · subst he
    have HC := hide (bchoose_any base bb gb B g aF aR s c rx 0 cx ry 0 cy nx L M w hb hs hbase hk hc hL hM hn dx dy nx' ny' mL mM)
    clear hb hs hk hc hL hM dx dy nx' ny' mL mM
    go_enter Tryd.func53, Tryd.ntmps53
    go_wp2_with fail
    refine (holdsG_any bb aF _ _ q1 z1 f).mono ?_
    rintro e w2 ⟨rfl, ⟨_, h⟩ | ⟨h, _⟩⟩
    rotate_left
    · simp at h
    subst h
    go_wp2_with fail
    refine (unhide HC).mono ?_
    rintro e w1 ⟨rfl, hp⟩
    have HP := hide hp
    clear hp
    go_wp2
    go_ret
    exact Or.inl ⟨by trivial, rfl, unhide HP⟩
  · have HE := hide he
    have k1 : ((nx : Int) == (ny : Int)) = false := by simp; omega
    have HQ := hide q1
    clear hb hs hk hc hL hM dx dy nx' ny' mL mM
    go_enter Tryd.func53, Tryd.ntmps53
    go_wp2_with fail
    refine (holdsG_any bb aF _ _ q1 z1 f).mono ?_
    rintro e w1 ⟨rfl, ⟨h, _⟩ | ⟨_, h⟩⟩
    · simp at h; try omega
    · subst h
      go_wp2
      go_ret
      exact Or.inr ⟨unhide HE, rfl, ⟨aF, World.cell?_setCell_same _ _ _ (unhide HQ)⟩, (OutS.refl _ _).mov (Mov.set (R := bb) _ _ _) (fun _ => Or.inl rfl)⟩
end Go.Proofs.YtmpiiilkaadhfaaDoor
