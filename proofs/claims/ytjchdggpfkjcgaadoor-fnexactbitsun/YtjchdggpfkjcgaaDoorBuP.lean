/- Adding and turning, of the builder. -/
import Derived.Test.YtjchdggpfkjcgaaDoorBkY
import Derived.Test.YtjchdggpfkjcgaaDoorBuM
namespace Go.Proofs.YtjchdggpfkjcgaaDoor
open Go.ChangeShapes Go.WideShapes Go.ChangeAt Go.RowKit Go.Joins
set_option linter.unusedVariables false
set_option maxRecDepth 100000
set_option linter.unusedSimpArgs false

set_option maxRecDepth 100000 in
set_option maxHeartbeats 1500000 in
theorem bsum_any (base bb gb B g : Nat) (aF aR : Addr) (s : KS) (c : Int) (rx ox cx ry oy cy n : Nat) (L M : List Int) (w : World) (hb : Bld w base bb gb B g aR s) (hs : Sent w base aF aR) (hbase : base ≤ w.heap.size) (hk : KOk s) (hc : Mk s c) (hL : L.length = n) (hM : M.length = n) (hn : n ≤ 100) (dx : Ints w rx ox n (at0 L)) (dy : Ints w ry oy n (at0 M)) (nx : ¬ S4 bb gb B g rx ∧ rx < w.heap.size) (ny : ¬ S4 bb gb B g ry ∧ ry < w.heap.size) (mL : MkL s L) (mM : MkL s M) :
    Calls Tryd.prog 48 #[.pointer (some ⟨bb, 0, none⟩), .slice (some ⟨rx, ox, none⟩) n cx, .slice (some ⟨ry, oy, none⟩) n cy, .int .i64 c] w fun e w' => e = .returned (.slice (some ⟨w.heap.size, 0, none⟩) n n) ∧ ∃ g', RowP w w' base bb gb B g g' aF aR (addS 0 L M s c n).1.1 (addS 0 L M s c n).2 n n w.heap.size := by
  have hmk := run_make_wide (P := Tryd.prog) 56 82 _ 1 8 Tryd.underlying56 infoMark .i64 .i64 n (by omega) (by omega)
  simp only [Nat.mul_one] at hmk
  have HGD : Hid (∀ i, i ≤ n → KOk (addS 0 L M s c i).1.1 ∧ Mk (addS 0 L M s c i).1.1 (addS 0 L M s c i).1.2 ∧ MkL (addS 0 L M s c i).1.1 (addS 0 L M s c i).2 ∧ Le s (addS 0 L M s c i).1.1) := fun i hi => addS_good (by omega) hk hc mL mM i (by omega) (by omega)
  have b0 : Below w.heap.size w (w.alloc (.cells (madeCells #[.int .i64 0] n) 82)) := (Below.refl _ _).alloc (Nat.le_refl _) _
  have hlg := hb.lg
  have hlt := hb.lt
  have H0 : Hid (RowP w (w.alloc (.cells (madeCells #[.int .i64 0] n) 82)) base bb gb B g g aF aR s [] n 0 w.heap.size) :=
    ⟨hb.later b0, hs.below b0 (by omega), Or.inl rfl, fun e => by rcases e with e | e | e | e <;> omega, OutS.of b0, fun i hi => by omega, Made.new _ _ _ _⟩
  have HX := hide dx
  have HY := hide dy
  have HNX := hide nx
  have HNY := hide ny
  have HmL := hide mL
  have HmM := hide mM
  have HeL := hide hL
  have HeM := hide hM
  clear hb hs hk hc hL hM dx dy nx ny mL mM b0 hlg hlt
  go_enter Tryd.func48, Tryd.ntmps48
  go_wp2
  go_loopw [18, 3] (fun i k wr => ∃ j : Nat, j ≤ n ∧ i = .int .i64 j ∧ k = .int .i64 (addS 0 L M s c j).1.2 ∧ ∃ g', RowP w wr base bb gb B g g' aF aR (addS 0 L M s c j).1.1 (addS 0 L M s c j).2 n j w.heap.size) (fun i _ _ => n - (intOf i).toNat)
  case atStart => exact ⟨0, by omega, rfl, rfl, g, unhide H0⟩
  case round =>
    obtain ⟨j, hj, rfl, rfl, g', hI⟩ := hrel
    have HR := hide hI
    have HGj := unhide HGD j hj
    by_cases hlt : j < n
    · have mx := ((unhide HmL) j (by rw [unhide HeL]; exact hlt)).le HGj.2.2.2
      have my := ((unhide HmM) j (by rw [unhide HeM]; exact hlt)).le HGj.2.2.2
      have HN : Hid (addS 0 L M s c (j + 1) = ((addR 0 (addS 0 L M s c j).1.1 (at0 L j) (at0 M j) (addS 0 L M s c j).1.2).1, (addS 0 L M s c j).2 ++ [(addR 0 (addS 0 L M s c j).1.1 (at0 L j) (at0 M j) (addS 0 L M s c j).1.2).2])) := rfl
      have HLEN : Hid ((addS 0 L M s c j).2.length = j) := addS_len _ _ _ _ _ _
      have gS := HGj.1
      have mC := HGj.2.1
      have lrx := (unhide HNX).2
      have lry := (unhide HNY).2
      clear hI HGj
      obtain ⟨x, hx⟩ : ∃ x, x = at0 L j := ⟨_, rfl⟩
      obtain ⟨y, hy⟩ : ∃ y, y = at0 M j := ⟨_, rfl⟩
      have dx0 : Hid (w.cell? ⟨rx, ox + j, none⟩ = some (.int .i64 x)) := by rw [hx]; exact unhide HX j hlt
      have dy0 : Hid (w.cell? ⟨ry, oy + j, none⟩ = some (.int .i64 y)) := by rw [hy]; exact unhide HY j hlt
      rw [← hx] at mx HN
      rw [← hy] at my HN
      clear hx hy
      generalize (addS 0 L M s c j).1.1 = S at *
      generalize (addS 0 L M s c j).1.2 = C at *
      generalize (addS 0 L M s c j).2 = R at *
      have Clo := mC.1
      have Chi := mC.2.1
      obtain ⟨u1, hu1⟩ : ∃ u, u = xorK 0 S x y := ⟨_, rfl⟩
      have k1 : Good S u1 := by rw [hu1]; exact xorK_good (by omega) gS mx my
      obtain ⟨u2, hu2⟩ : ∃ u, u = xorK 0 u1.1 u1.2 C := ⟨_, rfl⟩
      have k2 : Good u1.1 u2 := by rw [hu2]; exact xorK_good (by omega) k1.1 k1.2.1 (mC.le k1.2.2)
      obtain ⟨u3, hu3⟩ : ∃ u, u = andK 0 u2.1 x y := ⟨_, rfl⟩
      have k3 : Good u2.1 u3 := by rw [hu3]; exact andK_good (by omega) k2.1 ((mx.le k1.2.2).le k2.2.2) ((my.le k1.2.2).le k2.2.2)
      obtain ⟨u4, hu4⟩ : ∃ u, u = andK 0 u3.1 u1.2 C := ⟨_, rfl⟩
      have k4 : Good u3.1 u4 := by rw [hu4]; exact andK_good (by omega) k3.1 ((k1.2.1.le k2.2.2).le k3.2.2) (((mC.le k1.2.2).le k2.2.2).le k3.2.2)
      obtain ⟨u5, hu5⟩ : ∃ u, u = orK 0 u4.1 u3.2 u4.2 := ⟨_, rfl⟩
      have HN2 : Hid (addS 0 L M s c (j + 1) = (u5, R ++ [u2.2])) := by rw [unhide HN, hu5, hu4, hu3, hu2, hu1]; rfl
      have HU1 := hide hu1
      have HU2 := hide hu2
      have HU3 := hide hu3
      have HU4 := hide hu4
      have HU5 := hide hu5
      have ub1 := k1.2.1.1
      have uc1 := k1.2.1.2.1
      have ub2 := k2.2.1.1
      have uc2 := k2.2.1.2.1
      have ub3 := k3.2.1.1
      have uc3 := k3.2.1.2.1
      have ub4 := k4.2.1.1
      have uc4 := k4.2.1.2.1
      clear hu1 hu2 hu3 hu4 hu5 HN
      have HC1 : Hid (∀ w', RowP w w' base bb gb B g g' aF aR S R n j w.heap.size → Calls Tryd.prog 67 #[.pointer (some ⟨bb, 0, none⟩), .int .i64 x, .int .i64 y] w' fun e w'' => e = .returned (.int .i64 u1.2) ∧ BStep w' w'' base bb gb B g' aR u1.1) := fun w' hw' => by have h := bxor_any base bb gb B g' aF aR S x y w' hw'.b hw'.s (Nat.le_trans hbase hw'.o.size) gS mx my; rw [← unhide HU1] at h; exact h
      have dL := (unhide HR).o.cell (unhide dx0) (unhide HNX).1
      have dM := (unhide HR).o.cell (unhide dy0) (unhide HNY).1
      go_wp2
      go_region_held3 (fun w' => w'.cell? ⟨rx, ox + j, none⟩ = some (.int .i64 x) ∧ w'.cell? ⟨ry, oy + j, none⟩ = some (.int .i64 y)) (first | exact ⟨dL, dM⟩ | go_keep)
        (first | (go_at_call 67; refine (unhide HC1 _ (by first | exact unhide HR | exact (unhide HR).drew)).mono ?_; rintro e w1 ⟨rfl, st⟩; obtain ⟨g1, hr2, _⟩ := RowP.call (by first | exact unhide HR | exact (unhide HR).drew) st; clear st; have dL := hr2.o.cell (unhide dx0) (unhide HNX).1; have dM := hr2.o.cell (unhide dy0) (unhide HNY).1; have HR := hide hr2; clear hr2))
      clear dL dM
      have HC2 : Hid (∀ w', RowP w w' base bb gb B g g1 aF aR u1.1 R n j w.heap.size → Calls Tryd.prog 67 #[.pointer (some ⟨bb, 0, none⟩), .int .i64 u1.2, .int .i64 C] w' fun e w'' => e = .returned (.int .i64 u2.2) ∧ BStep w' w'' base bb gb B g1 aR u2.1) := fun w' hw' => by have h := bxor_any base bb gb B g1 aF aR u1.1 u1.2 C w' hw'.b hw'.s (Nat.le_trans hbase hw'.o.size) k1.1 k1.2.1 (mC.le k1.2.2); rw [← unhide HU2] at h; exact h
      obtain ⟨⟨uz, mz⟩, mfz⟩ := (unhide HR).m.2 j hlt
      have hbw := (unhide HR).o.size
      go_wp2_with fail
      refine (unhide HC2 _ (by first | exact unhide HR | exact (unhide HR).drew)).mono ?_
      rintro e w2 ⟨rfl, st⟩
      obtain ⟨g2, hr2, _⟩ := RowP.call (by first | exact unhide HR | exact (unhide HR).drew) st
      clear st
      have HR := hide hr2
      clear hr2
      obtain ⟨⟨u0, m0⟩, mf⟩ := (unhide HR).m.2 j hlt
      replace HR := hide ((unhide HR).put (x := u2.2) hlt (unhide HLEN) (Nat.le_refl _) hbase)
      clear mz mfz uz hbw
      have HC3 : Hid (∀ w', RowP w w' base bb gb B g g2 aF aR u2.1 (R ++ [u2.2]) n (j + 1) w.heap.size → Calls Tryd.prog 68 #[.pointer (some ⟨bb, 0, none⟩), .int .i64 x, .int .i64 y] w' fun e w'' => e = .returned (.int .i64 u3.2) ∧ BStep w' w'' base bb gb B g2 aR u3.1) := fun w' hw' => by have h := band_any base bb gb B g2 aF aR u2.1 x y w' hw'.b hw'.s (Nat.le_trans hbase hw'.o.size) k2.1 ((mx.le k1.2.2).le k2.2.2) ((my.le k1.2.2).le k2.2.2); rw [← unhide HU3] at h; exact h
      have dL := (unhide HR).o.cell (unhide dx0) (unhide HNX).1
      have dM := (unhide HR).o.cell (unhide dy0) (unhide HNY).1
      go_wp2
      clear m0 mf u0
      go_region_held3 (fun w' => w'.cell? ⟨rx, ox + j, none⟩ = some (.int .i64 x) ∧ w'.cell? ⟨ry, oy + j, none⟩ = some (.int .i64 y)) (first | exact ⟨dL, dM⟩ | go_keep)
        (first | (go_at_call 68; refine (unhide HC3 _ (by first | exact unhide HR | exact (unhide HR).drew)).mono ?_; rintro e w3 ⟨rfl, st⟩; obtain ⟨g3, hr2, _⟩ := RowP.call (by first | exact unhide HR | exact (unhide HR).drew) st; clear st; have dL := hr2.o.cell (unhide dx0) (unhide HNX).1; have dM := hr2.o.cell (unhide dy0) (unhide HNY).1; have HR := hide hr2; clear hr2))
      clear dL dM
      have HC4 : Hid (∀ w', RowP w w' base bb gb B g g3 aF aR u3.1 (R ++ [u2.2]) n (j + 1) w.heap.size → Calls Tryd.prog 68 #[.pointer (some ⟨bb, 0, none⟩), .int .i64 u1.2, .int .i64 C] w' fun e w'' => e = .returned (.int .i64 u4.2) ∧ BStep w' w'' base bb gb B g3 aR u4.1) := fun w' hw' => by have h := band_any base bb gb B g3 aF aR u3.1 u1.2 C w' hw'.b hw'.s (Nat.le_trans hbase hw'.o.size) k3.1 ((k1.2.1.le k2.2.2).le k3.2.2) (((mC.le k1.2.2).le k2.2.2).le k3.2.2); rw [← unhide HU4] at h; exact h
      go_wp2_with fail
      refine (unhide HC4 _ (by first | exact unhide HR | exact (unhide HR).drew)).mono ?_
      rintro e w4 ⟨rfl, st⟩
      obtain ⟨g4, hr2, _⟩ := RowP.call (by first | exact unhide HR | exact (unhide HR).drew) st
      clear st
      have HR := hide hr2
      clear hr2
      have HC5 : Hid (∀ w', RowP w w' base bb gb B g g4 aF aR u4.1 (R ++ [u2.2]) n (j + 1) w.heap.size → Calls Tryd.prog 69 #[.pointer (some ⟨bb, 0, none⟩), .int .i64 u3.2, .int .i64 u4.2] w' fun e w'' => e = .returned (.int .i64 u5.2) ∧ BStep w' w'' base bb gb B g4 aR u5.1) := fun w' hw' => by have h := bor_any base bb gb B g4 aF aR u4.1 u3.2 u4.2 w' hw'.b hw'.s (Nat.le_trans hbase hw'.o.size) k4.1 (k3.2.1.le k4.2.2) k4.2.1; rw [← unhide HU5] at h; exact h
      go_wp2_with fail
      refine (unhide HC5 _ (by first | exact unhide HR | exact (unhide HR).drew)).mono ?_
      rintro e w5 ⟨rfl, st⟩
      obtain ⟨g5, hr2, _⟩ := RowP.call (by first | exact unhide HR | exact (unhide HR).drew) st
      clear st
      have HR := hide hr2
      clear hr2
      go_wp2
      go_roundw
      case rel => exact ⟨j + 1, by omega, by go_num, by rw [unhide HN2], g5, by rw [unhide HN2]; exact unhide HR⟩
      case measure => simp [intOf]; omega
    · have ej : j = n := by omega
      subst ej
      clear hI HGj
      go_wp2
      go_ret
      exact ⟨rfl, g', unhide HR⟩
set_option maxRecDepth 100000 in
set_option maxHeartbeats 1500000 in
theorem turned_any (rx cx n : Nat) (L : List Int) (w : World) (hL : L.length = n) (hn : n ≤ 100) (dx : Ints w rx 0 n (at0 L)) (lx : rx < w.heap.size) (hb : ∀ i, i < n → -700 ≤ at0 L i ∧ at0 L i ≤ 700) :
    Calls Tryd.prog 47 #[.slice (some ⟨rx, 0, none⟩) n cx] w fun e w' => e = .returned (.slice (some ⟨w.heap.size, 0, none⟩) n n) ∧ Ints w' w.heap.size 0 n (at0 (ngL L)) ∧ Made w' w.heap.size n ∧ Below w.heap.size w w' := by
  have hmk := run_make_wide (P := Tryd.prog) 56 82 _ 1 8 Tryd.underlying56 infoMark .i64 .i64 n (by omega) (by omega)
  simp only [Nat.mul_one] at hmk
  have HX := hide dx
  have HB := hide hb
  have HL := hide hL
  clear dx hb hL
  go_enter Tryd.func47, Tryd.ntmps47
  go_wp2
  go_loopw [11] (fun i wr => ∃ j : Nat, j ≤ n ∧ i = .int .i64 j ∧ Ints wr w.heap.size 0 j (at0 (ngL L)) ∧ Made wr w.heap.size n ∧ Below w.heap.size w wr) (fun i _ => n - (intOf i).toNat)
  case atStart => exact ⟨0, by omega, rfl, fun i hi => by omega, Made.new _ _ _ _, (by repeat (first | exact Below.refl _ _ | assumption | refine below_drewN ?_ _ | refine Below.drew ?_ | refine Below.alloc ?_ (by first | exact Nat.le_refl _ | exact Below.size (by assumption) | (simp; done) | (simp; omega)) _ | refine Below.setCell ?_ (by first | exact Nat.le_refl _ | exact Below.size (by assumption) | (simp; done) | (simp; omega)) _ | refine Below.trans ?_ (by assumption)))⟩
  case round =>
    obtain ⟨j, hj, rfl, hin, hmd, hbel⟩ := hrel
    have HI := hide hin
    have HM := hide hmd
    clear hin hmd
    by_cases hlt : j < n
    · have dL := (hbel.cell (p := ⟨rx, 0 + j, none⟩) lx).trans (unhide HX j hlt)
      rw [Nat.zero_add] at dL
      have hx := unhide HB j hlt
      obtain ⟨⟨u0, m0⟩, mf⟩ := (unhide HM).2 j hlt
      have hp := (unhide HI).put m0
      rw [ngL_at (by rw [unhide HL]; exact hlt)] at hp
      obtain ⟨x, hxe⟩ : ∃ x, x = at0 L j := ⟨_, rfl⟩
      rw [← hxe] at dL hx hp
      obtain ⟨hx1, hx2⟩ := hx
      have HP := hide hp
      clear hxe hp
      go_wp2
      go_roundw
      case rel => exact ⟨j + 1, by omega, by go_num, unhide HP, (unhide HM).set _ _, hbel.setCell (Nat.le_refl _) _⟩
      case measure => simp [intOf]; omega
    · have ej : j = n := by omega
      subst ej
      go_wp2
      go_ret
      exact ⟨rfl, unhide HI, unhide HM, hbel⟩
end Go.Proofs.YtjchdggpfkjcgaaDoor
