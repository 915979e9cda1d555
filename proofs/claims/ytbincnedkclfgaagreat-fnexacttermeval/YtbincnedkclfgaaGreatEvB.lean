/- What a right term is, of the model. -/
import Derived.Test.YtbincnedkclfgaaGreatEvA
namespace Go.Proofs.YtbincnedkclfgaaGreat
open Go.ChangeShapes Go.WideShapes Go.ChangeAt Go.RowKit Go.Joins
set_option linter.unusedVariables false
set_option linter.unusedSimpArgs false

set_option maxRecDepth 100000 in
set_option maxHeartbeats 4000000 in
theorem ev_20 (bd offd n cap c offe cape hi : Nat) (S : Nat → ByteArray) (V E : Nat → Int) (hV : ∀ i, i < n → 1 ≤ V i ∧ V i ≤ 4) (hn : n ≤ 1048576) (a b : Int) (s : ByteArray) (kid : Nat → TT) (ad : Option Addr) (cp : Nat) (w : World) (hin : (TT.node 20 a b s 0 kid).In w 0 hi ad) (hhi : hi ≤ w.heap.size) (hbd : bd < w.heap.size) (hc : c < w.heap.size) (hd : Decs w bd offd n S V) (he : Ints w c offe n E) :
    Calls Tryz.prog 28 #[.slice (some ⟨bd, offd, none⟩) n cap, .agg #[.int .i64 20, .int .i64 a, .int .i64 b, .string s, .slice ad 0 cp], .slice (some ⟨c, offe, none⟩) n cape] w fun e w' => e = .returned (.int .i64 (b)) ∧ Below w.heap.size w w' := by
  go_enter Tryz.func28, Tryz.ntmps28
  go_wp2
  go_ret
  exact ⟨rfl, (by repeat (first | exact Below.refl _ _ | assumption | refine below_drewN ?_ _ | refine Below.drew ?_ | refine Below.alloc ?_ (by first | exact Nat.le_refl _ | exact Below.size (by assumption) | (simp; done) | (simp; omega)) _ | refine Below.setCell ?_ (by first | exact Nat.le_refl _ | exact Below.size (by assumption) | (simp; done) | (simp; omega)) _ | refine Below.trans ?_ (by assumption)))⟩
set_option maxRecDepth 100000 in
set_option maxHeartbeats 4000000 in
theorem ev_24 (bd offd n cap c offe cape hi : Nat) (S : Nat → ByteArray) (V E : Nat → Int) (hV : ∀ i, i < n → 1 ≤ V i ∧ V i ≤ 4) (hn : n ≤ 1048576) (a b : Int) (s : ByteArray) (kid : Nat → TT) (ad : Option Addr) (cp : Nat) (w : World) (hin : (TT.node 24 a b s 0 kid).In w 0 hi ad) (hhi : hi ≤ w.heap.size) (hbd : bd < w.heap.size) (hc : c < w.heap.size) (hd : Decs w bd offd n S V) (he : Ints w c offe n E) :
    Calls Tryz.prog 28 #[.slice (some ⟨bd, offd, none⟩) n cap, .agg #[.int .i64 24, .int .i64 a, .int .i64 b, .string s, .slice ad 0 cp], .slice (some ⟨c, offe, none⟩) n cape] w fun e w' => e = .returned (.int .i64 (1)) ∧ Below w.heap.size w w' := by
  go_enter Tryz.func28, Tryz.ntmps28
  go_wp2
  go_ret
  exact ⟨rfl, (by repeat (first | exact Below.refl _ _ | assumption | refine below_drewN ?_ _ | refine Below.drew ?_ | refine Below.alloc ?_ (by first | exact Nat.le_refl _ | exact Below.size (by assumption) | (simp; done) | (simp; omega)) _ | refine Below.setCell ?_ (by first | exact Nat.le_refl _ | exact Below.size (by assumption) | (simp; done) | (simp; omega)) _ | refine Below.trans ?_ (by assumption)))⟩
set_option maxRecDepth 100000 in
set_option maxHeartbeats 4000000 in
theorem ev_21 (bd offd n cap c offe cape hi : Nat) (S : Nat → ByteArray) (V E : Nat → Int) (hV : ∀ i, i < n → 1 ≤ V i ∧ V i ≤ 4) (hn : n ≤ 1048576) (a b : Int) (s : ByteArray) (kid : Nat → TT) (k : Nat) (hk : k < n) (hf : findI S s n = k) (ad : Option Addr) (cp : Nat) (w : World) (hin : (TT.node 21 a b s 0 kid).In w 0 hi ad) (hhi : hi ≤ w.heap.size) (hbd : bd < w.heap.size) (hc : c < w.heap.size) (hd : Decs w bd offd n S V) (he : Ints w c offe n E) :
    Calls Tryz.prog 28 #[.slice (some ⟨bd, offd, none⟩) n cap, .agg #[.int .i64 21, .int .i64 a, .int .i64 b, .string s, .slice ad 0 cp], .slice (some ⟨c, offe, none⟩) n cape] w fun e w' => e = .returned (.int .i64 (E k)) ∧ Below w.heap.size w w' := by
  have HD := hide hd
  have HE := hide he
  clear hd he
  have BL := (Below.refl w.heap.size w).alloc (Nat.le_refl _) (.cells #[.int .i64 21, .int .i64 a, .int .i64 b, .string s, .slice ad 0 cp] 33)
  have HD2 := hide ((unhide HD).later BL)
  have g0 := unhide HE k hk
  have kb : bd < (w.alloc (.cells #[.int .i64 21, .int .i64 a, .int .i64 b, .string s, .slice ad 0 cp] 33)).heap.size := Nat.lt_of_lt_of_le hbd BL.size
  have hq := fun w (h1 : bd < w.heap.size) (h2 : Decs w bd offd n S V) => l2Find_any bd offd n cap S V s w h1 h2 hn
  simp only [hf] at hq
  have HQ := hide hq
  clear hq
  go_enter Tryz.func28, Tryz.ntmps28
  go_wp2_with fail
  refine (unhide HQ _ kb (unhide HD2)).mono ?_
  rintro e w2 ⟨rfl, rfl⟩
  go_wp2
  go_ret
  exact ⟨rfl, (by repeat (first | exact Below.refl _ _ | assumption | refine below_drewN ?_ _ | refine Below.drew ?_ | refine Below.alloc ?_ (by first | exact Nat.le_refl _ | exact Below.size (by assumption) | (simp; done) | (simp; omega)) _ | refine Below.setCell ?_ (by first | exact Nat.le_refl _ | exact Below.size (by assumption) | (simp; done) | (simp; omega)) _ | refine Below.trans ?_ (by assumption)))⟩
set_option maxRecDepth 100000 in
set_option maxHeartbeats 4000000 in
theorem ev_25 (bd offd n cap c offe cape hi : Nat) (S : Nat → ByteArray) (V E : Nat → Int) (hV : ∀ i, i < n → 1 ≤ V i ∧ V i ≤ 4) (hn : n ≤ 1048576) (a b : Int) (s : ByteArray) (kid : Nat → TT) (ih : ∀ i, i < 1 → ∀ (ad : Option Addr) (cp : Nat) (w : World), (kid i).In w 0 hi ad → hi ≤ w.heap.size → bd < w.heap.size → c < w.heap.size → Decs w bd offd n S V → Ints w c offe n E → Calls Tryz.prog 28 #[.slice (some ⟨bd, offd, none⟩) n cap, .agg #[.int .i64 (kid i).op, .int .i64 (kid i).a, .int .i64 (kid i).b, .string (kid i).s, .slice ad (kid i).n cp], .slice (some ⟨c, offe, none⟩) n cape] w fun e w' => e = .returned ((.int .i64 ((kid i).ev n S V E))) ∧ Below w.heap.size w w') (h01 : ((kid 0).ev n S V E) = 0 ∨ ((kid 0).ev n S V E) = 1) (ad : Option Addr) (cp : Nat) (w : World) (hin : (TT.node 25 a b s 1 kid).In w 0 hi ad) (hhi : hi ≤ w.heap.size) (hbd : bd < w.heap.size) (hc : c < w.heap.size) (hd : Decs w bd offd n S V) (he : Ints w c offe n E) :
    Calls Tryz.prog 28 #[.slice (some ⟨bd, offd, none⟩) n cap, .agg #[.int .i64 25, .int .i64 a, .int .i64 b, .string s, .slice ad 1 cp], .slice (some ⟨c, offe, none⟩) n cape] w fun e w' => e = .returned (.int .i64 (1 - ((kid 0).ev n S V E))) ∧ Below w.heap.size w w' := by
  have HD := hide hd
  have HE := hide he
  clear hd he
  have HIH := hide ih
  clear ih
  obtain ⟨bl, off, rfl, hlo, hbl, AD, CP, hk⟩ := hin.resolve_left (by omega)
  obtain ⟨K0w, _, I0w⟩ := hk 0 (by omega)
  replace K0w : Five w bl off (kid 0) (AD 0) (CP 0) := by simpa using K0w
  clear hk
  obtain ⟨c00, c01, c02, c03, c04⟩ := id K0w
  have lbl : bl < w.heap.size := Nat.lt_of_lt_of_le hbl hhi
  go_enter Tryz.func28, Tryz.ntmps28
  go_wp2_with fail
  have BL := (Below.refl w.heap.size w).alloc (Nat.le_refl _) (.cells #[.int .i64 25, .int .i64 a, .int .i64 b, .string s, .slice (some ⟨bl, off, none⟩) 1 cp] 33)
  obtain ⟨wa, hwa⟩ : ∃ v, v = w.alloc (.cells #[.int .i64 25, .int .i64 a, .int .i64 b, .string s, .slice (some ⟨bl, off, none⟩) 1 cp] 33) := ⟨_, rfl⟩
  have P : Box5 wa w.heap.size 25 a b s (some ⟨bl, off, none⟩) 1 cp := by rw [hwa]; exact ⟨by simp [go_sem], by simp [go_sem], by simp [go_sem], by simp [go_sem], by simp [go_sem]⟩
  have kz : w.heap.size + 1 ≤ wa.heap.size := by rw [hwa]; simp
  rw [← hwa] at BL
  try rw [← hwa]
  clear hwa c00 c01 c02 c03 c04
  have D := hide ((unhide HD).later BL)
  have EE := hide ((unhide HE).later BL)
  have kb := Nat.lt_of_lt_of_le hbd BL.size
  have kc := Nat.lt_of_lt_of_le hc BL.size
  have K0 := (K0w).keep (w' := wa) (fun o => BL.cell (p := ⟨bl, o, none⟩) (Nat.lt_of_lt_of_le hbl hhi))
  have I0 := hide (I0w.later (BL.mono hhi))
  obtain ⟨p0, p1, p2, p3, p4⟩ := id P
  have pl := World.block_lt_of_cell? _ _ p0
  simp only at pl
  obtain ⟨c00, c01, c02, c03, c04⟩ := id K0
  have kl := World.block_lt_of_cell? _ _ c00
  simp only at kl
  refine (unhide HIH 0 (by omega) _ _ _ (unhide I0) (by omega) kb kc (unhide D) (unhide EE)).mono ?_
  rintro e w2 ⟨rfl, b2⟩
  clear p0 p1 p2 p3 p4 pl kl c00 c01 c02 c03 c04
  replace P := P.later b2
  replace K0 := K0.later b2
  replace I0 := hide ((unhide I0).later (b2.mono (by omega)))
  replace D := hide ((unhide D).later b2)
  replace EE := hide ((unhide EE).later b2)
  replace kb := Nat.lt_of_lt_of_le kb b2.size
  replace kc := Nat.lt_of_lt_of_le kc b2.size
  replace BL := BL.trans (b2.mono (by omega))
  replace kz := Nat.le_trans kz b2.size
  clear b2
  obtain ⟨p0, p1, p2, p3, p4⟩ := id P
  have pl := World.block_lt_of_cell? _ _ p0
  simp only at pl
  obtain ⟨c00, c01, c02, c03, c04⟩ := id K0
  have kl := World.block_lt_of_cell? _ _ c00
  simp only at kl
  have l0 : 0 ≤ ((kid 0).ev n S V E) := by omega
  have l1 : ((kid 0).ev n S V E) ≤ 1 := by omega
  clear h01
  go_wp2
  go_ret
  exact ⟨by first | rfl | go_num, BL⟩
set_option maxRecDepth 100000 in
set_option maxHeartbeats 4000000 in
theorem ev_23 (bd offd n cap c offe cape hi : Nat) (S : Nat → ByteArray) (V E : Nat → Int) (hV : ∀ i, i < n → 1 ≤ V i ∧ V i ≤ 4) (hn : n ≤ 1048576) (a b : Int) (s : ByteArray) (kid : Nat → TT) (ih : ∀ i, i < 3 → ∀ (ad : Option Addr) (cp : Nat) (w : World), (kid i).In w 0 hi ad → hi ≤ w.heap.size → bd < w.heap.size → c < w.heap.size → Decs w bd offd n S V → Ints w c offe n E → Calls Tryz.prog 28 #[.slice (some ⟨bd, offd, none⟩) n cap, .agg #[.int .i64 (kid i).op, .int .i64 (kid i).a, .int .i64 (kid i).b, .string (kid i).s, .slice ad (kid i).n cp], .slice (some ⟨c, offe, none⟩) n cape] w fun e w' => e = .returned ((.int .i64 ((kid i).ev n S V E))) ∧ Below w.heap.size w w') (ad : Option Addr) (cp : Nat) (w : World) (hin : (TT.node 23 a b s 3 kid).In w 0 hi ad) (hhi : hi ≤ w.heap.size) (hbd : bd < w.heap.size) (hc : c < w.heap.size) (hd : Decs w bd offd n S V) (he : Ints w c offe n E) :
    Calls Tryz.prog 28 #[.slice (some ⟨bd, offd, none⟩) n cap, .agg #[.int .i64 23, .int .i64 a, .int .i64 b, .string s, .slice ad 3 cp], .slice (some ⟨c, offe, none⟩) n cape] w fun e w' => e = .returned (.int .i64 (if ((kid 0).ev n S V E) = 1 then ((kid 1).ev n S V E) else ((kid 2).ev n S V E))) ∧ Below w.heap.size w w' := by
  have HD := hide hd
  have HE := hide he
  clear hd he
  have HIH := hide ih
  clear ih
  obtain ⟨bl, off, rfl, hlo, hbl, AD, CP, hk⟩ := hin.resolve_left (by omega)
  obtain ⟨K0w, _, I0w⟩ := hk 0 (by omega)
  replace K0w : Five w bl off (kid 0) (AD 0) (CP 0) := by simpa using K0w
  obtain ⟨K1w, _, I1w⟩ := hk 1 (by omega)
  replace K1w : Five w bl (off + 5) (kid 1) (AD 1) (CP 1) := by simpa using K1w
  obtain ⟨K2w, _, I2w⟩ := hk 2 (by omega)
  replace K2w : Five w bl (off + 10) (kid 2) (AD 2) (CP 2) := by simpa using K2w
  clear hk
  by_cases h1 : ((kid 0).ev n S V E) = 1
  · skip
    have q1 : (((kid 0).ev n S V E) == 1) = true := by simp [h1]
    rw [if_pos h1]
    clear h1
    obtain ⟨c00, c01, c02, c03, c04⟩ := id K0w
    obtain ⟨c10, c11, c12, c13, c14⟩ := id K1w
    obtain ⟨c20, c21, c22, c23, c24⟩ := id K2w
    have lbl : bl < w.heap.size := Nat.lt_of_lt_of_le hbl hhi
    go_enter Tryz.func28, Tryz.ntmps28
    go_wp2_with fail
    have BL := (Below.refl w.heap.size w).alloc (Nat.le_refl _) (.cells #[.int .i64 23, .int .i64 a, .int .i64 b, .string s, .slice (some ⟨bl, off, none⟩) 3 cp] 33)
    obtain ⟨wa, hwa⟩ : ∃ v, v = w.alloc (.cells #[.int .i64 23, .int .i64 a, .int .i64 b, .string s, .slice (some ⟨bl, off, none⟩) 3 cp] 33) := ⟨_, rfl⟩
    have P : Box5 wa w.heap.size 23 a b s (some ⟨bl, off, none⟩) 3 cp := by rw [hwa]; exact ⟨by simp [go_sem], by simp [go_sem], by simp [go_sem], by simp [go_sem], by simp [go_sem]⟩
    have kz : w.heap.size + 1 ≤ wa.heap.size := by rw [hwa]; simp
    rw [← hwa] at BL
    try rw [← hwa]
    clear hwa c00 c01 c02 c03 c04 c10 c11 c12 c13 c14 c20 c21 c22 c23 c24
    have D := hide ((unhide HD).later BL)
    have EE := hide ((unhide HE).later BL)
    have kb := Nat.lt_of_lt_of_le hbd BL.size
    have kc := Nat.lt_of_lt_of_le hc BL.size
    have K0 := (K0w).keep (w' := wa) (fun o => BL.cell (p := ⟨bl, o, none⟩) (Nat.lt_of_lt_of_le hbl hhi))
    have I0 := hide (I0w.later (BL.mono hhi))
    have K1 := (K1w).keep (w' := wa) (fun o => BL.cell (p := ⟨bl, o, none⟩) (Nat.lt_of_lt_of_le hbl hhi))
    have I1 := hide (I1w.later (BL.mono hhi))
    have K2 := (K2w).keep (w' := wa) (fun o => BL.cell (p := ⟨bl, o, none⟩) (Nat.lt_of_lt_of_le hbl hhi))
    have I2 := hide (I2w.later (BL.mono hhi))
    obtain ⟨p0, p1, p2, p3, p4⟩ := id P
    have pl := World.block_lt_of_cell? _ _ p0
    simp only at pl
    obtain ⟨c00, c01, c02, c03, c04⟩ := id K0
    obtain ⟨c10, c11, c12, c13, c14⟩ := id K1
    obtain ⟨c20, c21, c22, c23, c24⟩ := id K2
    have kl := World.block_lt_of_cell? _ _ c00
    simp only at kl
    refine (unhide HIH 0 (by omega) _ _ _ (unhide I0) (by omega) kb kc (unhide D) (unhide EE)).mono ?_
    rintro e w2 ⟨rfl, b2⟩
    clear p0 p1 p2 p3 p4 pl kl c00 c01 c02 c03 c04 c10 c11 c12 c13 c14 c20 c21 c22 c23 c24
    replace P := P.later b2
    replace K0 := K0.later b2
    replace I0 := hide ((unhide I0).later (b2.mono (by omega)))
    replace K1 := K1.later b2
    replace I1 := hide ((unhide I1).later (b2.mono (by omega)))
    replace K2 := K2.later b2
    replace I2 := hide ((unhide I2).later (b2.mono (by omega)))
    replace D := hide ((unhide D).later b2)
    replace EE := hide ((unhide EE).later b2)
    replace kb := Nat.lt_of_lt_of_le kb b2.size
    replace kc := Nat.lt_of_lt_of_le kc b2.size
    replace BL := BL.trans (b2.mono (by omega))
    replace kz := Nat.le_trans kz b2.size
    clear b2
    obtain ⟨p0, p1, p2, p3, p4⟩ := id P
    have pl := World.block_lt_of_cell? _ _ p0
    simp only at pl
    obtain ⟨c00, c01, c02, c03, c04⟩ := id K0
    obtain ⟨c10, c11, c12, c13, c14⟩ := id K1
    obtain ⟨c20, c21, c22, c23, c24⟩ := id K2
    have kl := World.block_lt_of_cell? _ _ c00
    simp only at kl
    go_wp2_with fail
    refine (unhide HIH 1 (by omega) _ _ _ (unhide I1) (by omega) kb kc (unhide D) (unhide EE)).mono ?_
    rintro e w3 ⟨rfl, b3⟩
    clear p0 p1 p2 p3 p4 pl kl c00 c01 c02 c03 c04 c10 c11 c12 c13 c14 c20 c21 c22 c23 c24
    replace P := P.later b3
    replace K0 := K0.later b3
    replace I0 := hide ((unhide I0).later (b3.mono (by omega)))
    replace K1 := K1.later b3
    replace I1 := hide ((unhide I1).later (b3.mono (by omega)))
    replace K2 := K2.later b3
    replace I2 := hide ((unhide I2).later (b3.mono (by omega)))
    replace D := hide ((unhide D).later b3)
    replace EE := hide ((unhide EE).later b3)
    replace kb := Nat.lt_of_lt_of_le kb b3.size
    replace kc := Nat.lt_of_lt_of_le kc b3.size
    replace BL := BL.trans (b3.mono (by omega))
    replace kz := Nat.le_trans kz b3.size
    clear b3
    obtain ⟨p0, p1, p2, p3, p4⟩ := id P
    have pl := World.block_lt_of_cell? _ _ p0
    simp only at pl
    obtain ⟨c00, c01, c02, c03, c04⟩ := id K0
    obtain ⟨c10, c11, c12, c13, c14⟩ := id K1
    obtain ⟨c20, c21, c22, c23, c24⟩ := id K2
    have kl := World.block_lt_of_cell? _ _ c00
    simp only at kl
    go_wp2
    go_ret
    exact ⟨rfl, BL⟩
  · skip
    have q1 : (((kid 0).ev n S V E) == 1) = false := by simp [h1]
    rw [if_neg h1]
    clear h1
    obtain ⟨c00, c01, c02, c03, c04⟩ := id K0w
    obtain ⟨c10, c11, c12, c13, c14⟩ := id K1w
    obtain ⟨c20, c21, c22, c23, c24⟩ := id K2w
    have lbl : bl < w.heap.size := Nat.lt_of_lt_of_le hbl hhi
    go_enter Tryz.func28, Tryz.ntmps28
    go_wp2_with fail
    have BL := (Below.refl w.heap.size w).alloc (Nat.le_refl _) (.cells #[.int .i64 23, .int .i64 a, .int .i64 b, .string s, .slice (some ⟨bl, off, none⟩) 3 cp] 33)
    obtain ⟨wa, hwa⟩ : ∃ v, v = w.alloc (.cells #[.int .i64 23, .int .i64 a, .int .i64 b, .string s, .slice (some ⟨bl, off, none⟩) 3 cp] 33) := ⟨_, rfl⟩
    have P : Box5 wa w.heap.size 23 a b s (some ⟨bl, off, none⟩) 3 cp := by rw [hwa]; exact ⟨by simp [go_sem], by simp [go_sem], by simp [go_sem], by simp [go_sem], by simp [go_sem]⟩
    have kz : w.heap.size + 1 ≤ wa.heap.size := by rw [hwa]; simp
    rw [← hwa] at BL
    try rw [← hwa]
    clear hwa c00 c01 c02 c03 c04 c10 c11 c12 c13 c14 c20 c21 c22 c23 c24
    have D := hide ((unhide HD).later BL)
    have EE := hide ((unhide HE).later BL)
    have kb := Nat.lt_of_lt_of_le hbd BL.size
    have kc := Nat.lt_of_lt_of_le hc BL.size
    have K0 := (K0w).keep (w' := wa) (fun o => BL.cell (p := ⟨bl, o, none⟩) (Nat.lt_of_lt_of_le hbl hhi))
    have I0 := hide (I0w.later (BL.mono hhi))
    have K1 := (K1w).keep (w' := wa) (fun o => BL.cell (p := ⟨bl, o, none⟩) (Nat.lt_of_lt_of_le hbl hhi))
    have I1 := hide (I1w.later (BL.mono hhi))
    have K2 := (K2w).keep (w' := wa) (fun o => BL.cell (p := ⟨bl, o, none⟩) (Nat.lt_of_lt_of_le hbl hhi))
    have I2 := hide (I2w.later (BL.mono hhi))
    obtain ⟨p0, p1, p2, p3, p4⟩ := id P
    have pl := World.block_lt_of_cell? _ _ p0
    simp only at pl
    obtain ⟨c00, c01, c02, c03, c04⟩ := id K0
    obtain ⟨c10, c11, c12, c13, c14⟩ := id K1
    obtain ⟨c20, c21, c22, c23, c24⟩ := id K2
    have kl := World.block_lt_of_cell? _ _ c00
    simp only at kl
    refine (unhide HIH 0 (by omega) _ _ _ (unhide I0) (by omega) kb kc (unhide D) (unhide EE)).mono ?_
    rintro e w2 ⟨rfl, b2⟩
    clear p0 p1 p2 p3 p4 pl kl c00 c01 c02 c03 c04 c10 c11 c12 c13 c14 c20 c21 c22 c23 c24
    replace P := P.later b2
    replace K0 := K0.later b2
    replace I0 := hide ((unhide I0).later (b2.mono (by omega)))
    replace K1 := K1.later b2
    replace I1 := hide ((unhide I1).later (b2.mono (by omega)))
    replace K2 := K2.later b2
    replace I2 := hide ((unhide I2).later (b2.mono (by omega)))
    replace D := hide ((unhide D).later b2)
    replace EE := hide ((unhide EE).later b2)
    replace kb := Nat.lt_of_lt_of_le kb b2.size
    replace kc := Nat.lt_of_lt_of_le kc b2.size
    replace BL := BL.trans (b2.mono (by omega))
    replace kz := Nat.le_trans kz b2.size
    clear b2
    obtain ⟨p0, p1, p2, p3, p4⟩ := id P
    have pl := World.block_lt_of_cell? _ _ p0
    simp only at pl
    obtain ⟨c00, c01, c02, c03, c04⟩ := id K0
    obtain ⟨c10, c11, c12, c13, c14⟩ := id K1
    obtain ⟨c20, c21, c22, c23, c24⟩ := id K2
    have kl := World.block_lt_of_cell? _ _ c00
    simp only at kl
    go_wp2_with fail
    refine (unhide HIH 2 (by omega) _ _ _ (unhide I2) (by omega) kb kc (unhide D) (unhide EE)).mono ?_
    rintro e w3 ⟨rfl, b3⟩
    clear p0 p1 p2 p3 p4 pl kl c00 c01 c02 c03 c04 c10 c11 c12 c13 c14 c20 c21 c22 c23 c24
    replace P := P.later b3
    replace K0 := K0.later b3
    replace I0 := hide ((unhide I0).later (b3.mono (by omega)))
    replace K1 := K1.later b3
    replace I1 := hide ((unhide I1).later (b3.mono (by omega)))
    replace K2 := K2.later b3
    replace I2 := hide ((unhide I2).later (b3.mono (by omega)))
    replace D := hide ((unhide D).later b3)
    replace EE := hide ((unhide EE).later b3)
    replace kb := Nat.lt_of_lt_of_le kb b3.size
    replace kc := Nat.lt_of_lt_of_le kc b3.size
    replace BL := BL.trans (b3.mono (by omega))
    replace kz := Nat.le_trans kz b3.size
    clear b3
    obtain ⟨p0, p1, p2, p3, p4⟩ := id P
    have pl := World.block_lt_of_cell? _ _ p0
    simp only at pl
    obtain ⟨c00, c01, c02, c03, c04⟩ := id K0
    obtain ⟨c10, c11, c12, c13, c14⟩ := id K1
    obtain ⟨c20, c21, c22, c23, c24⟩ := id K2
    have kl := World.block_lt_of_cell? _ _ c00
    simp only at kl
    go_wp2
    go_ret
    exact ⟨rfl, BL⟩
set_option maxRecDepth 100000 in
set_option maxHeartbeats 4000000 in
theorem ev_26 (bd offd n cap c offe cape hi : Nat) (S : Nat → ByteArray) (V E : Nat → Int) (hV : ∀ i, i < n → 1 ≤ V i ∧ V i ≤ 4) (hn : n ≤ 1048576) (a b : Int) (s : ByteArray) (kid : Nat → TT) (ih : ∀ i, i < 2 → ∀ (ad : Option Addr) (cp : Nat) (w : World), (kid i).In w 0 hi ad → hi ≤ w.heap.size → bd < w.heap.size → c < w.heap.size → Decs w bd offd n S V → Ints w c offe n E → Calls Tryz.prog 28 #[.slice (some ⟨bd, offd, none⟩) n cap, .agg #[.int .i64 (kid i).op, .int .i64 (kid i).a, .int .i64 (kid i).b, .string (kid i).s, .slice ad (kid i).n cp], .slice (some ⟨c, offe, none⟩) n cape] w fun e w' => e = .returned ((.int .i64 ((kid i).ev n S V E))) ∧ Below w.heap.size w w') (h0 : ((kid 0).ev n S V E) = 0 ∨ ((kid 0).ev n S V E) = 1) (h1 : ((kid 1).ev n S V E) = 0 ∨ ((kid 1).ev n S V E) = 1) (ad : Option Addr) (cp : Nat) (w : World) (hin : (TT.node 26 a b s 2 kid).In w 0 hi ad) (hhi : hi ≤ w.heap.size) (hbd : bd < w.heap.size) (hc : c < w.heap.size) (hd : Decs w bd offd n S V) (he : Ints w c offe n E) :
    Calls Tryz.prog 28 #[.slice (some ⟨bd, offd, none⟩) n cap, .agg #[.int .i64 26, .int .i64 a, .int .i64 b, .string s, .slice ad 2 cp], .slice (some ⟨c, offe, none⟩) n cape] w fun e w' => e = .returned (.int .i64 (((kid 0).ev n S V E) * ((kid 1).ev n S V E))) ∧ Below w.heap.size w w' := by
  have HD := hide hd
  have HE := hide he
  clear hd he
  have HIH := hide ih
  clear ih
  obtain ⟨bl, off, rfl, hlo, hbl, AD, CP, hk⟩ := hin.resolve_left (by omega)
  obtain ⟨K0w, _, I0w⟩ := hk 0 (by omega)
  replace K0w : Five w bl off (kid 0) (AD 0) (CP 0) := by simpa using K0w
  obtain ⟨K1w, _, I1w⟩ := hk 1 (by omega)
  replace K1w : Five w bl (off + 5) (kid 1) (AD 1) (CP 1) := by simpa using K1w
  clear hk
  obtain ⟨c00, c01, c02, c03, c04⟩ := id K0w
  obtain ⟨c10, c11, c12, c13, c14⟩ := id K1w
  have lbl : bl < w.heap.size := Nat.lt_of_lt_of_le hbl hhi
  go_enter Tryz.func28, Tryz.ntmps28
  go_wp2_with fail
  have BL := (Below.refl w.heap.size w).alloc (Nat.le_refl _) (.cells #[.int .i64 26, .int .i64 a, .int .i64 b, .string s, .slice (some ⟨bl, off, none⟩) 2 cp] 33)
  obtain ⟨wa, hwa⟩ : ∃ v, v = w.alloc (.cells #[.int .i64 26, .int .i64 a, .int .i64 b, .string s, .slice (some ⟨bl, off, none⟩) 2 cp] 33) := ⟨_, rfl⟩
  have P : Box5 wa w.heap.size 26 a b s (some ⟨bl, off, none⟩) 2 cp := by rw [hwa]; exact ⟨by simp [go_sem], by simp [go_sem], by simp [go_sem], by simp [go_sem], by simp [go_sem]⟩
  have kz : w.heap.size + 1 ≤ wa.heap.size := by rw [hwa]; simp
  rw [← hwa] at BL
  try rw [← hwa]
  clear hwa c00 c01 c02 c03 c04 c10 c11 c12 c13 c14
  have D := hide ((unhide HD).later BL)
  have EE := hide ((unhide HE).later BL)
  have kb := Nat.lt_of_lt_of_le hbd BL.size
  have kc := Nat.lt_of_lt_of_le hc BL.size
  have K0 := (K0w).keep (w' := wa) (fun o => BL.cell (p := ⟨bl, o, none⟩) (Nat.lt_of_lt_of_le hbl hhi))
  have I0 := hide (I0w.later (BL.mono hhi))
  have K1 := (K1w).keep (w' := wa) (fun o => BL.cell (p := ⟨bl, o, none⟩) (Nat.lt_of_lt_of_le hbl hhi))
  have I1 := hide (I1w.later (BL.mono hhi))
  obtain ⟨p0, p1, p2, p3, p4⟩ := id P
  have pl := World.block_lt_of_cell? _ _ p0
  simp only at pl
  obtain ⟨c00, c01, c02, c03, c04⟩ := id K0
  obtain ⟨c10, c11, c12, c13, c14⟩ := id K1
  have kl := World.block_lt_of_cell? _ _ c00
  simp only at kl
  clear p0 p1 p2 p3 p4 pl kl c00 c01 c02 c03 c04 c10 c11 c12 c13 c14
  refine wp_region_held_drew (S := (fun w' => w'.cell? ⟨w.heap.size, 0, none⟩ = some (.int .i64 26) ∧ w'.cell? ⟨w.heap.size, 1, none⟩ = some (.int .i64 a) ∧ w'.cell? ⟨w.heap.size, 2, none⟩ = some (.int .i64 b) ∧ w'.cell? ⟨w.heap.size, 3, none⟩ = some (.string s) ∧ w'.cell? ⟨w.heap.size, 4, none⟩ = some (.slice (some ⟨bl, off, none⟩) 2 cp) ∧ w'.cell? ⟨bl, off, none⟩ = some (.int .i64 (kid 0).op) ∧ w'.cell? ⟨bl, off + 1, none⟩ = some (.int .i64 (kid 0).a) ∧ w'.cell? ⟨bl, off + 2, none⟩ = some (.int .i64 (kid 0).b) ∧ w'.cell? ⟨bl, off + 3, none⟩ = some (.string (kid 0).s) ∧ w'.cell? ⟨bl, off + 4, none⟩ = some (.slice (AD 0) (kid 0).n (CP 0)) ∧ w'.cell? ⟨bl, off + 5, none⟩ = some (.int .i64 (kid 1).op) ∧ w'.cell? ⟨bl, off + 5 + 1, none⟩ = some (.int .i64 (kid 1).a) ∧ w'.cell? ⟨bl, off + 5 + 2, none⟩ = some (.int .i64 (kid 1).b) ∧ w'.cell? ⟨bl, off + 5 + 3, none⟩ = some (.string (kid 1).s) ∧ w'.cell? ⟨bl, off + 5 + 4, none⟩ = some (.slice (AD 1) (kid 1).n (CP 1)))) (by kernel_rfl) ?_ (fun hHeld => ?_)
  · exact ⟨P.1, P.2.1, P.2.2.1, P.2.2.2.1, P.2.2.2.2, K0.1, K0.2.1, K0.2.2.1, K0.2.2.2.1, K0.2.2.2.2, K1.1, K1.2.1, K1.2.2.1, K1.2.2.2.1, K1.2.2.2.2⟩
  replace P : Box5 wa.drew w.heap.size 26 a b s (some ⟨bl, off, none⟩) 2 cp := P
  replace K0 : Five wa.drew bl off (kid 0) (AD 0) (CP 0) := K0
  replace K1 : Five wa.drew bl (off + 5) (kid 1) (AD 1) (CP 1) := K1
  replace I0 := hide (unhide I0).drew
  replace I1 := hide (unhide I1).drew
  replace D : Hid (Decs wa.drew bd offd n S V) := D
  replace EE : Hid (Ints wa.drew c offe n E) := EE
  replace BL : Below w.heap.size w wa.drew := BL.drew
  replace kb : bd < wa.drew.heap.size := kb
  replace kc : c < wa.drew.heap.size := kc
  replace kz : w.heap.size + 1 ≤ wa.drew.heap.size := kz
  generalize wa.drew = wb at *
  have m0 : 0 ≤ ((kid 0).ev n S V E) := by omega
  have m1 : ((kid 0).ev n S V E) ≤ 1 := by omega
  have m2 : 0 ≤ ((kid 1).ev n S V E) := by omega
  have m3 : ((kid 1).ev n S V E) ≤ 1 := by omega
  have mw : IntKind.i64.wrap (((kid 0).ev n S V E) * ((kid 1).ev n S V E)) = ((kid 0).ev n S V E) * ((kid 1).ev n S V E) := by rcases h0 with h | h <;> rcases h1 with k | k <;> rw [h, k] <;> rfl
  clear h0 h1
  refine wpAnyH_take (i := 0) (v := ?_) rfl (by kernel_rfl) (by kernel_rfl) (by kernel_rfl) (fun _ _ _ h => h) (Or.inl ⟨by rfl, ?_⟩) (by assumption) ?_
  rotate_left
  · (intro w hSw; (try dsimp only at hSw); first | (go_simp; done) | (go_simp; with_reducible rfl))
  try simp only [List.getElem_toArray, List.getElem_cons_succ, List.getElem_cons_zero, Act.put, List.setIfInBounds_toArray, List.set_cons_zero, List.set_cons_succ]
  refine wpAnyH_take (i := 1) (v := ?_) rfl (by kernel_rfl) (by kernel_rfl) (by kernel_rfl) (fun _ _ _ h => h) (Or.inl ⟨by rfl, ?_⟩) (by assumption) ?_
  rotate_left
  · (intro w hSw; (try dsimp only at hSw); first | (go_simp; done) | (go_simp; with_reducible rfl))
  try simp only [List.getElem_toArray, List.getElem_cons_succ, List.getElem_cons_zero, Act.put, List.setIfInBounds_toArray, List.set_cons_zero, List.set_cons_succ]
  refine wpAnyH_take (i := 2) (v := ?_) rfl (by kernel_rfl) (by kernel_rfl) (by kernel_rfl) (fun _ _ _ h => h) (Or.inl ⟨by rfl, ?_⟩) (by assumption) ?_
  rotate_left
  · (intro w hSw; (try dsimp only at hSw); first | (go_simp; done) | (go_simp; with_reducible rfl))
  try simp only [List.getElem_toArray, List.getElem_cons_succ, List.getElem_cons_zero, Act.put, List.setIfInBounds_toArray, List.set_cons_zero, List.set_cons_succ]
  refine wpAnyH_take (i := 3) (v := ?_) rfl (by kernel_rfl) (by kernel_rfl) (by kernel_rfl) (fun _ _ _ h => h) (Or.inl ⟨by rfl, ?_⟩) (by assumption) ?_
  rotate_left
  · (intro w hSw; (try dsimp only at hSw); first | (go_simp; done) | (go_simp; with_reducible rfl))
  try simp only [List.getElem_toArray, List.getElem_cons_succ, List.getElem_cons_zero, Act.put, List.setIfInBounds_toArray, List.set_cons_zero, List.set_cons_succ]
  refine wpAnyH_take (i := 4) (v := ?_) rfl (by kernel_rfl) (by kernel_rfl) (by kernel_rfl) (fun _ _ _ h => h) (Or.inl ⟨by rfl, ?_⟩) (by assumption) ?_
  rotate_left
  · (intro w hSw; (try dsimp only at hSw); first | (go_simp; done) | (go_simp; with_reducible rfl))
  try simp only [List.getElem_toArray, List.getElem_cons_succ, List.getElem_cons_zero, Act.put, List.setIfInBounds_toArray, List.set_cons_zero, List.set_cons_succ]
  refine wpAnyH_take (i := 5) (v := ?_) rfl (by kernel_rfl) (by kernel_rfl) (by kernel_rfl) (fun _ _ _ h => h) (Or.inl ⟨by rfl, ?_⟩) (by assumption) ?_
  rotate_left
  · (intro w hSw; (try dsimp only at hSw); first | (go_simp; done) | (go_simp; with_reducible rfl))
  try simp only [List.getElem_toArray, List.getElem_cons_succ, List.getElem_cons_zero, Act.put, List.setIfInBounds_toArray, List.set_cons_zero, List.set_cons_succ]
  refine wpAnyH_take (i := 7) (v := ?_) rfl (by kernel_rfl) (by kernel_rfl) (by kernel_rfl) (fun _ _ _ h => h) (Or.inl ⟨by rfl, ?_⟩) (by assumption) ?_
  rotate_left
  · (intro w hSw; (try dsimp only at hSw); first | (go_simp; done) | (go_simp; with_reducible rfl))
  try simp only [List.getElem_toArray, List.getElem_cons_succ, List.getElem_cons_zero, Act.put, List.setIfInBounds_toArray, List.set_cons_zero, List.set_cons_succ]
  refine wpAnyH_take (i := 8) (v := ?_) rfl (by kernel_rfl) (by kernel_rfl) (by kernel_rfl) (fun _ _ _ h => h) (Or.inl ⟨by rfl, ?_⟩) (by assumption) ?_
  rotate_left
  · (intro w hSw; (try dsimp only at hSw); first | (go_simp; done) | (go_simp; with_reducible rfl))
  try simp only [List.getElem_toArray, List.getElem_cons_succ, List.getElem_cons_zero, Act.put, List.setIfInBounds_toArray, List.set_cons_zero, List.set_cons_succ]
  refine wpAnyH_take (i := 9) (v := ?_) rfl (by kernel_rfl) (by kernel_rfl) (by kernel_rfl) (fun _ _ _ h => h) (Or.inl ⟨by rfl, ?_⟩) (by assumption) ?_
  rotate_left
  · (intro w hSw; (try dsimp only at hSw); first | (go_simp; done) | (go_simp; with_reducible rfl))
  try simp only [List.getElem_toArray, List.getElem_cons_succ, List.getElem_cons_zero, Act.put, List.setIfInBounds_toArray, List.set_cons_zero, List.set_cons_succ]
  refine wpAnyH_take (i := 10) (v := ?_) rfl (by kernel_rfl) (by kernel_rfl) (by kernel_rfl) (fun _ _ _ h => h) (Or.inl ⟨by rfl, ?_⟩) (by assumption) ?_
  rotate_left
  · (intro w hSw; (try dsimp only at hSw); first | (go_simp; done) | (go_simp; with_reducible rfl))
  try simp only [List.getElem_toArray, List.getElem_cons_succ, List.getElem_cons_zero, Act.put, List.setIfInBounds_toArray, List.set_cons_zero, List.set_cons_succ]
  refine wpAnyH_take (i := 11) (v := ?_) rfl (by kernel_rfl) (by kernel_rfl) (by kernel_rfl) (fun _ _ _ h => h) (Or.inl ⟨by rfl, ?_⟩) (by assumption) ?_
  rotate_left
  · (intro w hSw; (try dsimp only at hSw); first | (go_simp; done) | (go_simp; with_reducible rfl))
  try simp only [List.getElem_toArray, List.getElem_cons_succ, List.getElem_cons_zero, Act.put, List.setIfInBounds_toArray, List.set_cons_zero, List.set_cons_succ]
  refine wpAnyH_take (i := 12) (v := ?_) rfl (by kernel_rfl) (by kernel_rfl) (by kernel_rfl) (fun _ _ _ h => h) (Or.inl ⟨by rfl, ?_⟩) (by assumption) ?_
  rotate_left
  · (intro w hSw; (try dsimp only at hSw); first | (go_simp; done) | (go_simp; with_reducible rfl))
  try simp only [List.getElem_toArray, List.getElem_cons_succ, List.getElem_cons_zero, Act.put, List.setIfInBounds_toArray, List.set_cons_zero, List.set_cons_succ]
  refine wpAnyH_ready (rs := [6]) (by kernel_rfl) (by simp) ?_
  refine AllReadyH.cons rfl (fun K hK => ?_) AllReadyH.nil
  go_simp
  refine (unhide HIH 0 (by omega) _ _ _ (unhide I0) (by omega) kb kc (unhide D) (unhide EE)).mono ?_
  rintro e w2 ⟨rfl, b2⟩
  replace P := P.later b2
  replace K0 := K0.later b2
  replace I0 := hide ((unhide I0).later (b2.mono (by omega)))
  replace K1 := K1.later b2
  replace I1 := hide ((unhide I1).later (b2.mono (by omega)))
  replace D := hide ((unhide D).later b2)
  replace EE := hide ((unhide EE).later b2)
  replace kb := Nat.lt_of_lt_of_le kb b2.size
  replace kc := Nat.lt_of_lt_of_le kc b2.size
  replace BL := BL.trans (b2.mono (by omega))
  replace kz := Nat.le_trans kz b2.size
  clear b2
  go_wp2_with fail
  refine hK.out _ _ ?_ (fun hHeld => ?_)
  · exact ⟨P.1, P.2.1, P.2.2.1, P.2.2.2.1, P.2.2.2.2, K0.1, K0.2.1, K0.2.2.1, K0.2.2.2.1, K0.2.2.2.2, K1.1, K1.2.1, K1.2.2.1, K1.2.2.2.1, K1.2.2.2.2⟩
  clear hK K
  try simp only [List.getElem_toArray, List.getElem_cons_succ, List.getElem_cons_zero, Act.put, List.setIfInBounds_toArray, List.set_cons_zero, List.set_cons_succ]
  refine wpAnyH_ready (rs := [13]) (by kernel_rfl) (by simp) ?_
  refine AllReadyH.cons rfl (fun K hK => ?_) AllReadyH.nil
  go_simp
  refine (unhide HIH 1 (by omega) _ _ _ (unhide I1) (by omega) kb kc (unhide D) (unhide EE)).mono ?_
  rintro e w3 ⟨rfl, b3⟩
  replace P := P.later b3
  replace K0 := K0.later b3
  replace I0 := hide ((unhide I0).later (b3.mono (by omega)))
  replace K1 := K1.later b3
  replace I1 := hide ((unhide I1).later (b3.mono (by omega)))
  replace D := hide ((unhide D).later b3)
  replace EE := hide ((unhide EE).later b3)
  replace kb := Nat.lt_of_lt_of_le kb b3.size
  replace kc := Nat.lt_of_lt_of_le kc b3.size
  replace BL := BL.trans (b3.mono (by omega))
  replace kz := Nat.le_trans kz b3.size
  clear b3
  go_wp2_with fail
  refine hK.out _ _ ?_ (fun hHeld => ?_)
  · exact ⟨P.1, P.2.1, P.2.2.1, P.2.2.2.1, P.2.2.2.2, K0.1, K0.2.1, K0.2.2.1, K0.2.2.2.1, K0.2.2.2.2, K1.1, K1.2.1, K1.2.2.1, K1.2.2.2.1, K1.2.2.2.2⟩
  clear hK K
  try simp only [List.getElem_toArray, List.getElem_cons_succ, List.getElem_cons_zero, Act.put, List.setIfInBounds_toArray, List.set_cons_zero, List.set_cons_succ]
  refine wpAnyH_take (i := 14) (v := ?_) rfl (by kernel_rfl) (by kernel_rfl) (by kernel_rfl) (fun _ _ _ h => h) (Or.inl ⟨by rfl, ?_⟩) (by assumption) ?_
  rotate_left
  · (intro w hSw; (try dsimp only at hSw); first | (go_simp; done) | (go_simp; with_reducible rfl))
  try simp only [List.getElem_toArray, List.getElem_cons_succ, List.getElem_cons_zero, Act.put, List.setIfInBounds_toArray, List.set_cons_zero, List.set_cons_succ]
  refine wpAnyH_take (i := 15) (v := ?_) rfl (by kernel_rfl) (by kernel_rfl) (by kernel_rfl) (fun _ _ _ h => h) (Or.inl ⟨by rfl, ?_⟩) (by assumption) ?_
  rotate_left
  · (intro w hSw; (try dsimp only at hSw); first | (go_simp; done) | (go_simp; with_reducible rfl))
  try simp only [List.getElem_toArray, List.getElem_cons_succ, List.getElem_cons_zero, Act.put, List.setIfInBounds_toArray, List.set_cons_zero, List.set_cons_succ]
  refine wpAnyH_done (by kernel_rfl) ?_ _
  go_wp2
  go_ret
  exact ⟨by first | rfl | go_num | simp [*], BL⟩
set_option maxRecDepth 100000 in
set_option maxHeartbeats 4000000 in
theorem ev_27 (bd offd n cap c offe cape hi : Nat) (S : Nat → ByteArray) (V E : Nat → Int) (hV : ∀ i, i < n → 1 ≤ V i ∧ V i ≤ 4) (hn : n ≤ 1048576) (a b : Int) (s : ByteArray) (kid : Nat → TT) (ih : ∀ i, i < 2 → ∀ (ad : Option Addr) (cp : Nat) (w : World), (kid i).In w 0 hi ad → hi ≤ w.heap.size → bd < w.heap.size → c < w.heap.size → Decs w bd offd n S V → Ints w c offe n E → Calls Tryz.prog 28 #[.slice (some ⟨bd, offd, none⟩) n cap, .agg #[.int .i64 (kid i).op, .int .i64 (kid i).a, .int .i64 (kid i).b, .string (kid i).s, .slice ad (kid i).n cp], .slice (some ⟨c, offe, none⟩) n cape] w fun e w' => e = .returned ((.int .i64 ((kid i).ev n S V E))) ∧ Below w.heap.size w w') (h0 : ((kid 0).ev n S V E) = 0 ∨ ((kid 0).ev n S V E) = 1) (h1 : ((kid 1).ev n S V E) = 0 ∨ ((kid 1).ev n S V E) = 1) (ad : Option Addr) (cp : Nat) (w : World) (hin : (TT.node 27 a b s 2 kid).In w 0 hi ad) (hhi : hi ≤ w.heap.size) (hbd : bd < w.heap.size) (hc : c < w.heap.size) (hd : Decs w bd offd n S V) (he : Ints w c offe n E) :
    Calls Tryz.prog 28 #[.slice (some ⟨bd, offd, none⟩) n cap, .agg #[.int .i64 27, .int .i64 a, .int .i64 b, .string s, .slice ad 2 cp], .slice (some ⟨c, offe, none⟩) n cape] w fun e w' => e = .returned (.int .i64 (max ((kid 0).ev n S V E) ((kid 1).ev n S V E))) ∧ Below w.heap.size w w' := by
  have HD := hide hd
  have HE := hide he
  clear hd he
  have HIH := hide ih
  clear ih
  obtain ⟨bl, off, rfl, hlo, hbl, AD, CP, hk⟩ := hin.resolve_left (by omega)
  obtain ⟨K0w, _, I0w⟩ := hk 0 (by omega)
  replace K0w : Five w bl off (kid 0) (AD 0) (CP 0) := by simpa using K0w
  obtain ⟨K1w, _, I1w⟩ := hk 1 (by omega)
  replace K1w : Five w bl (off + 5) (kid 1) (AD 1) (CP 1) := by simpa using K1w
  clear hk
  obtain ⟨c00, c01, c02, c03, c04⟩ := id K0w
  obtain ⟨c10, c11, c12, c13, c14⟩ := id K1w
  have lbl : bl < w.heap.size := Nat.lt_of_lt_of_le hbl hhi
  go_enter Tryz.func28, Tryz.ntmps28
  go_wp2_with fail
  have BL := (Below.refl w.heap.size w).alloc (Nat.le_refl _) (.cells #[.int .i64 27, .int .i64 a, .int .i64 b, .string s, .slice (some ⟨bl, off, none⟩) 2 cp] 33)
  obtain ⟨wa, hwa⟩ : ∃ v, v = w.alloc (.cells #[.int .i64 27, .int .i64 a, .int .i64 b, .string s, .slice (some ⟨bl, off, none⟩) 2 cp] 33) := ⟨_, rfl⟩
  have P : Box5 wa w.heap.size 27 a b s (some ⟨bl, off, none⟩) 2 cp := by rw [hwa]; exact ⟨by simp [go_sem], by simp [go_sem], by simp [go_sem], by simp [go_sem], by simp [go_sem]⟩
  have kz : w.heap.size + 1 ≤ wa.heap.size := by rw [hwa]; simp
  rw [← hwa] at BL
  try rw [← hwa]
  clear hwa c00 c01 c02 c03 c04 c10 c11 c12 c13 c14
  have D := hide ((unhide HD).later BL)
  have EE := hide ((unhide HE).later BL)
  have kb := Nat.lt_of_lt_of_le hbd BL.size
  have kc := Nat.lt_of_lt_of_le hc BL.size
  have K0 := (K0w).keep (w' := wa) (fun o => BL.cell (p := ⟨bl, o, none⟩) (Nat.lt_of_lt_of_le hbl hhi))
  have I0 := hide (I0w.later (BL.mono hhi))
  have K1 := (K1w).keep (w' := wa) (fun o => BL.cell (p := ⟨bl, o, none⟩) (Nat.lt_of_lt_of_le hbl hhi))
  have I1 := hide (I1w.later (BL.mono hhi))
  obtain ⟨p0, p1, p2, p3, p4⟩ := id P
  have pl := World.block_lt_of_cell? _ _ p0
  simp only at pl
  obtain ⟨c00, c01, c02, c03, c04⟩ := id K0
  obtain ⟨c10, c11, c12, c13, c14⟩ := id K1
  have kl := World.block_lt_of_cell? _ _ c00
  simp only at kl
  clear p0 p1 p2 p3 p4 pl kl c00 c01 c02 c03 c04 c10 c11 c12 c13 c14
  refine wp_region_held_drew (S := (fun w' => w'.cell? ⟨w.heap.size, 0, none⟩ = some (.int .i64 27) ∧ w'.cell? ⟨w.heap.size, 1, none⟩ = some (.int .i64 a) ∧ w'.cell? ⟨w.heap.size, 2, none⟩ = some (.int .i64 b) ∧ w'.cell? ⟨w.heap.size, 3, none⟩ = some (.string s) ∧ w'.cell? ⟨w.heap.size, 4, none⟩ = some (.slice (some ⟨bl, off, none⟩) 2 cp) ∧ w'.cell? ⟨bl, off, none⟩ = some (.int .i64 (kid 0).op) ∧ w'.cell? ⟨bl, off + 1, none⟩ = some (.int .i64 (kid 0).a) ∧ w'.cell? ⟨bl, off + 2, none⟩ = some (.int .i64 (kid 0).b) ∧ w'.cell? ⟨bl, off + 3, none⟩ = some (.string (kid 0).s) ∧ w'.cell? ⟨bl, off + 4, none⟩ = some (.slice (AD 0) (kid 0).n (CP 0)) ∧ w'.cell? ⟨bl, off + 5, none⟩ = some (.int .i64 (kid 1).op) ∧ w'.cell? ⟨bl, off + 5 + 1, none⟩ = some (.int .i64 (kid 1).a) ∧ w'.cell? ⟨bl, off + 5 + 2, none⟩ = some (.int .i64 (kid 1).b) ∧ w'.cell? ⟨bl, off + 5 + 3, none⟩ = some (.string (kid 1).s) ∧ w'.cell? ⟨bl, off + 5 + 4, none⟩ = some (.slice (AD 1) (kid 1).n (CP 1)))) (by kernel_rfl) ?_ (fun hHeld => ?_)
  · exact ⟨P.1, P.2.1, P.2.2.1, P.2.2.2.1, P.2.2.2.2, K0.1, K0.2.1, K0.2.2.1, K0.2.2.2.1, K0.2.2.2.2, K1.1, K1.2.1, K1.2.2.1, K1.2.2.2.1, K1.2.2.2.2⟩
  replace P : Box5 wa.drew w.heap.size 27 a b s (some ⟨bl, off, none⟩) 2 cp := P
  replace K0 : Five wa.drew bl off (kid 0) (AD 0) (CP 0) := K0
  replace K1 : Five wa.drew bl (off + 5) (kid 1) (AD 1) (CP 1) := K1
  replace I0 := hide (unhide I0).drew
  replace I1 := hide (unhide I1).drew
  replace D : Hid (Decs wa.drew bd offd n S V) := D
  replace EE : Hid (Ints wa.drew c offe n E) := EE
  replace BL : Below w.heap.size w wa.drew := BL.drew
  replace kb : bd < wa.drew.heap.size := kb
  replace kc : c < wa.drew.heap.size := kc
  replace kz : w.heap.size + 1 ≤ wa.drew.heap.size := kz
  generalize wa.drew = wb at *
  have m0 : 0 ≤ ((kid 0).ev n S V E) := by omega
  have m1 : ((kid 0).ev n S V E) ≤ 1 := by omega
  have m2 : 0 ≤ ((kid 1).ev n S V E) := by omega
  have m3 : ((kid 1).ev n S V E) ≤ 1 := by omega
  clear h0 h1
  refine wpAnyH_take (i := 0) (v := ?_) rfl (by kernel_rfl) (by kernel_rfl) (by kernel_rfl) (fun _ _ _ h => h) (Or.inl ⟨by rfl, ?_⟩) (by assumption) ?_
  rotate_left
  · (intro w hSw; (try dsimp only at hSw); first | (go_simp; done) | (go_simp; with_reducible rfl))
  try simp only [List.getElem_toArray, List.getElem_cons_succ, List.getElem_cons_zero, Act.put, List.setIfInBounds_toArray, List.set_cons_zero, List.set_cons_succ]
  refine wpAnyH_take (i := 1) (v := ?_) rfl (by kernel_rfl) (by kernel_rfl) (by kernel_rfl) (fun _ _ _ h => h) (Or.inl ⟨by rfl, ?_⟩) (by assumption) ?_
  rotate_left
  · (intro w hSw; (try dsimp only at hSw); first | (go_simp; done) | (go_simp; with_reducible rfl))
  try simp only [List.getElem_toArray, List.getElem_cons_succ, List.getElem_cons_zero, Act.put, List.setIfInBounds_toArray, List.set_cons_zero, List.set_cons_succ]
  refine wpAnyH_take (i := 2) (v := ?_) rfl (by kernel_rfl) (by kernel_rfl) (by kernel_rfl) (fun _ _ _ h => h) (Or.inl ⟨by rfl, ?_⟩) (by assumption) ?_
  rotate_left
  · (intro w hSw; (try dsimp only at hSw); first | (go_simp; done) | (go_simp; with_reducible rfl))
  try simp only [List.getElem_toArray, List.getElem_cons_succ, List.getElem_cons_zero, Act.put, List.setIfInBounds_toArray, List.set_cons_zero, List.set_cons_succ]
  refine wpAnyH_take (i := 3) (v := ?_) rfl (by kernel_rfl) (by kernel_rfl) (by kernel_rfl) (fun _ _ _ h => h) (Or.inl ⟨by rfl, ?_⟩) (by assumption) ?_
  rotate_left
  · (intro w hSw; (try dsimp only at hSw); first | (go_simp; done) | (go_simp; with_reducible rfl))
  try simp only [List.getElem_toArray, List.getElem_cons_succ, List.getElem_cons_zero, Act.put, List.setIfInBounds_toArray, List.set_cons_zero, List.set_cons_succ]
  refine wpAnyH_take (i := 4) (v := ?_) rfl (by kernel_rfl) (by kernel_rfl) (by kernel_rfl) (fun _ _ _ h => h) (Or.inl ⟨by rfl, ?_⟩) (by assumption) ?_
  rotate_left
  · (intro w hSw; (try dsimp only at hSw); first | (go_simp; done) | (go_simp; with_reducible rfl))
  try simp only [List.getElem_toArray, List.getElem_cons_succ, List.getElem_cons_zero, Act.put, List.setIfInBounds_toArray, List.set_cons_zero, List.set_cons_succ]
  refine wpAnyH_take (i := 5) (v := ?_) rfl (by kernel_rfl) (by kernel_rfl) (by kernel_rfl) (fun _ _ _ h => h) (Or.inl ⟨by rfl, ?_⟩) (by assumption) ?_
  rotate_left
  · (intro w hSw; (try dsimp only at hSw); first | (go_simp; done) | (go_simp; with_reducible rfl))
  try simp only [List.getElem_toArray, List.getElem_cons_succ, List.getElem_cons_zero, Act.put, List.setIfInBounds_toArray, List.set_cons_zero, List.set_cons_succ]
  refine wpAnyH_take (i := 7) (v := ?_) rfl (by kernel_rfl) (by kernel_rfl) (by kernel_rfl) (fun _ _ _ h => h) (Or.inl ⟨by rfl, ?_⟩) (by assumption) ?_
  rotate_left
  · (intro w hSw; (try dsimp only at hSw); first | (go_simp; done) | (go_simp; with_reducible rfl))
  try simp only [List.getElem_toArray, List.getElem_cons_succ, List.getElem_cons_zero, Act.put, List.setIfInBounds_toArray, List.set_cons_zero, List.set_cons_succ]
  refine wpAnyH_take (i := 8) (v := ?_) rfl (by kernel_rfl) (by kernel_rfl) (by kernel_rfl) (fun _ _ _ h => h) (Or.inl ⟨by rfl, ?_⟩) (by assumption) ?_
  rotate_left
  · (intro w hSw; (try dsimp only at hSw); first | (go_simp; done) | (go_simp; with_reducible rfl))
  try simp only [List.getElem_toArray, List.getElem_cons_succ, List.getElem_cons_zero, Act.put, List.setIfInBounds_toArray, List.set_cons_zero, List.set_cons_succ]
  refine wpAnyH_take (i := 9) (v := ?_) rfl (by kernel_rfl) (by kernel_rfl) (by kernel_rfl) (fun _ _ _ h => h) (Or.inl ⟨by rfl, ?_⟩) (by assumption) ?_
  rotate_left
  · (intro w hSw; (try dsimp only at hSw); first | (go_simp; done) | (go_simp; with_reducible rfl))
  try simp only [List.getElem_toArray, List.getElem_cons_succ, List.getElem_cons_zero, Act.put, List.setIfInBounds_toArray, List.set_cons_zero, List.set_cons_succ]
  refine wpAnyH_take (i := 10) (v := ?_) rfl (by kernel_rfl) (by kernel_rfl) (by kernel_rfl) (fun _ _ _ h => h) (Or.inl ⟨by rfl, ?_⟩) (by assumption) ?_
  rotate_left
  · (intro w hSw; (try dsimp only at hSw); first | (go_simp; done) | (go_simp; with_reducible rfl))
  try simp only [List.getElem_toArray, List.getElem_cons_succ, List.getElem_cons_zero, Act.put, List.setIfInBounds_toArray, List.set_cons_zero, List.set_cons_succ]
  refine wpAnyH_take (i := 11) (v := ?_) rfl (by kernel_rfl) (by kernel_rfl) (by kernel_rfl) (fun _ _ _ h => h) (Or.inl ⟨by rfl, ?_⟩) (by assumption) ?_
  rotate_left
  · (intro w hSw; (try dsimp only at hSw); first | (go_simp; done) | (go_simp; with_reducible rfl))
  try simp only [List.getElem_toArray, List.getElem_cons_succ, List.getElem_cons_zero, Act.put, List.setIfInBounds_toArray, List.set_cons_zero, List.set_cons_succ]
  refine wpAnyH_take (i := 12) (v := ?_) rfl (by kernel_rfl) (by kernel_rfl) (by kernel_rfl) (fun _ _ _ h => h) (Or.inl ⟨by rfl, ?_⟩) (by assumption) ?_
  rotate_left
  · (intro w hSw; (try dsimp only at hSw); first | (go_simp; done) | (go_simp; with_reducible rfl))
  try simp only [List.getElem_toArray, List.getElem_cons_succ, List.getElem_cons_zero, Act.put, List.setIfInBounds_toArray, List.set_cons_zero, List.set_cons_succ]
  refine wpAnyH_ready (rs := [6]) (by kernel_rfl) (by simp) ?_
  refine AllReadyH.cons rfl (fun K hK => ?_) AllReadyH.nil
  go_simp
  refine (unhide HIH 0 (by omega) _ _ _ (unhide I0) (by omega) kb kc (unhide D) (unhide EE)).mono ?_
  rintro e w2 ⟨rfl, b2⟩
  replace P := P.later b2
  replace K0 := K0.later b2
  replace I0 := hide ((unhide I0).later (b2.mono (by omega)))
  replace K1 := K1.later b2
  replace I1 := hide ((unhide I1).later (b2.mono (by omega)))
  replace D := hide ((unhide D).later b2)
  replace EE := hide ((unhide EE).later b2)
  replace kb := Nat.lt_of_lt_of_le kb b2.size
  replace kc := Nat.lt_of_lt_of_le kc b2.size
  replace BL := BL.trans (b2.mono (by omega))
  replace kz := Nat.le_trans kz b2.size
  clear b2
  go_wp2_with fail
  refine hK.out _ _ ?_ (fun hHeld => ?_)
  · exact ⟨P.1, P.2.1, P.2.2.1, P.2.2.2.1, P.2.2.2.2, K0.1, K0.2.1, K0.2.2.1, K0.2.2.2.1, K0.2.2.2.2, K1.1, K1.2.1, K1.2.2.1, K1.2.2.2.1, K1.2.2.2.2⟩
  clear hK K
  try simp only [List.getElem_toArray, List.getElem_cons_succ, List.getElem_cons_zero, Act.put, List.setIfInBounds_toArray, List.set_cons_zero, List.set_cons_succ]
  refine wpAnyH_ready (rs := [13]) (by kernel_rfl) (by simp) ?_
  refine AllReadyH.cons rfl (fun K hK => ?_) AllReadyH.nil
  go_simp
  refine (unhide HIH 1 (by omega) _ _ _ (unhide I1) (by omega) kb kc (unhide D) (unhide EE)).mono ?_
  rintro e w3 ⟨rfl, b3⟩
  replace P := P.later b3
  replace K0 := K0.later b3
  replace I0 := hide ((unhide I0).later (b3.mono (by omega)))
  replace K1 := K1.later b3
  replace I1 := hide ((unhide I1).later (b3.mono (by omega)))
  replace D := hide ((unhide D).later b3)
  replace EE := hide ((unhide EE).later b3)
  replace kb := Nat.lt_of_lt_of_le kb b3.size
  replace kc := Nat.lt_of_lt_of_le kc b3.size
  replace BL := BL.trans (b3.mono (by omega))
  replace kz := Nat.le_trans kz b3.size
  clear b3
  go_wp2_with fail
  refine hK.out _ _ ?_ (fun hHeld => ?_)
  · exact ⟨P.1, P.2.1, P.2.2.1, P.2.2.2.1, P.2.2.2.2, K0.1, K0.2.1, K0.2.2.1, K0.2.2.2.1, K0.2.2.2.2, K1.1, K1.2.1, K1.2.2.1, K1.2.2.2.1, K1.2.2.2.2⟩
  clear hK K
  try simp only [List.getElem_toArray, List.getElem_cons_succ, List.getElem_cons_zero, Act.put, List.setIfInBounds_toArray, List.set_cons_zero, List.set_cons_succ]
  refine wpAnyH_ready (rs := [14]) (by kernel_rfl) (by simp) ?_
  refine AllReadyH.cons rfl (fun K hK => ?_) AllReadyH.nil
  go_simp
  refine (l1Max_any _ _ _).mono ?_
  rintro e w4 ⟨rfl, rfl⟩
  go_wp2_with fail
  refine hK.out _ _ ?_ (fun hHeld => ?_)
  · exact ⟨P.1, P.2.1, P.2.2.1, P.2.2.2.1, P.2.2.2.2, K0.1, K0.2.1, K0.2.2.1, K0.2.2.2.1, K0.2.2.2.2, K1.1, K1.2.1, K1.2.2.1, K1.2.2.2.1, K1.2.2.2.2⟩
  clear hK K
  try simp only [List.getElem_toArray, List.getElem_cons_succ, List.getElem_cons_zero, Act.put, List.setIfInBounds_toArray, List.set_cons_zero, List.set_cons_succ]
  refine wpAnyH_take (i := 15) (v := ?_) rfl (by kernel_rfl) (by kernel_rfl) (by kernel_rfl) (fun _ _ _ h => h) (Or.inl ⟨by rfl, ?_⟩) (by assumption) ?_
  rotate_left
  · (intro w hSw; (try dsimp only at hSw); first | (go_simp; done) | (go_simp; with_reducible rfl))
  try simp only [List.getElem_toArray, List.getElem_cons_succ, List.getElem_cons_zero, Act.put, List.setIfInBounds_toArray, List.set_cons_zero, List.set_cons_succ]
  refine wpAnyH_done (by kernel_rfl) ?_ _
  go_wp2
  go_ret
  exact ⟨by first | rfl | go_num | simp [*], BL⟩
set_option maxRecDepth 100000 in
set_option maxHeartbeats 4000000 in
theorem ev_cut (bd offd n cap c offe cape hi : Nat) (S : Nat → ByteArray) (V E : Nat → Int) (hV : ∀ i, i < n → 1 ≤ V i ∧ V i ≤ 4) (hn : n ≤ 1048576) (a b : Int) (s : ByteArray) (kid : Nat → TT) (hv : ∀ i, i < 1 → ∀ (ad : Option Addr) (cp : Nat) (w : World), (kid i).In w 0 hi ad → hi ≤ w.heap.size → bd < w.heap.size → c < w.heap.size → Decs w bd offd n S V → Ints w c offe n E → Calls Tryz.prog 48 #[.slice (some ⟨bd, offd, none⟩) n cap, .agg #[.int .i64 (kid i).op, .int .i64 (kid i).a, .int .i64 (kid i).b, .string (kid i).s, .slice ad (kid i).n cp], .slice (some ⟨c, offe, none⟩) n cape] w fun e w' => e = .returned ((.agg #[.int .i64 ((kid i).sort n S V), .int .i64 ((kid i).ev n S V E)])) ∧ Below w.heap.size w w') (ad : Option Addr) (cp : Nat) (w : World) (hin : (TT.node 22 a b s 1 kid).In w 0 hi ad) (hhi : hi ≤ w.heap.size) (hbd : bd < w.heap.size) (hc : c < w.heap.size) (hd : Decs w bd offd n S V) (he : Ints w c offe n E) :
    Calls Tryz.prog 28 #[.slice (some ⟨bd, offd, none⟩) n cap, .agg #[.int .i64 22, .int .i64 a, .int .i64 b, .string s, .slice ad 1 cp], .slice (some ⟨c, offe, none⟩) n cape] w fun e w' => e = .returned (.int .i64 (cutE ((kid 0).sort n S V) ((kid 0).ev n S V E) a b)) ∧ Below w.heap.size w w' := by
  have HIN := hide hin
  clear hin
  have HD := hide hd
  have HE := hide he
  clear hd he
  have HVC := hide hv
  clear hv
  have BL := (Below.refl w.heap.size w).alloc (Nat.le_refl _) (.cells #[.int .i64 22, .int .i64 a, .int .i64 b, .string s, .slice ad 1 cp] 33)
  go_enter Tryz.func28, Tryz.ntmps28
  go_wp2_with fail
  refine (l2Do_cut bd offd n cap c offe cape hi S V E hV hn a b s kid (unhide HVC) ad cp _ ((unhide HIN).later (BL.mono hhi)) (by simp; omega) (Nat.lt_of_lt_of_le hbd BL.size) (Nat.lt_of_lt_of_le hc BL.size) ((unhide HD).later BL) ((unhide HE).later BL)).mono ?_
  rintro e w2 ⟨rfl, b2⟩
  go_wp2
  go_ret
  exact ⟨rfl, BL.trans (b2.mono (by simp))⟩
set_option maxRecDepth 100000 in
set_option maxHeartbeats 4000000 in
theorem ev_un (bd offd n cap c offe cape hi : Nat) (S : Nat → ByteArray) (V E : Nat → Int) (hV : ∀ i, i < n → 1 ≤ V i ∧ V i ≤ 4) (hn : n ≤ 1048576) (op : Int) (a b : Int) (s : ByteArray) (kid : Nat → TT) (hop : op = 1 ∨ op = 2) (hv : ∀ i, i < 1 → ∀ (ad : Option Addr) (cp : Nat) (w : World), (kid i).In w 0 hi ad → hi ≤ w.heap.size → bd < w.heap.size → c < w.heap.size → Decs w bd offd n S V → Ints w c offe n E → Calls Tryz.prog 48 #[.slice (some ⟨bd, offd, none⟩) n cap, .agg #[.int .i64 (kid i).op, .int .i64 (kid i).a, .int .i64 (kid i).b, .string (kid i).s, .slice ad (kid i).n cp], .slice (some ⟨c, offe, none⟩) n cape] w fun e w' => e = .returned ((.agg #[.int .i64 ((kid i).sort n S V), .int .i64 ((kid i).ev n S V E)])) ∧ Below w.heap.size w w') (ad : Option Addr) (cp : Nat) (w : World) (hin : (TT.node op a b s 1 kid).In w 0 hi ad) (hhi : hi ≤ w.heap.size) (hbd : bd < w.heap.size) (hc : c < w.heap.size) (hd : Decs w bd offd n S V) (he : Ints w c offe n E) :
    Calls Tryz.prog 28 #[.slice (some ⟨bd, offd, none⟩) n cap, .agg #[.int .i64 op, .int .i64 a, .int .i64 b, .string s, .slice ad 1 cp], .slice (some ⟨c, offe, none⟩) n cape] w fun e w' => e = .returned (.int .i64 (unE op ((kid 0).sort n S V) ((kid 0).ev n S V E))) ∧ Below w.heap.size w w' := by
  have HIN := hide hin
  clear hin
  have HD := hide hd
  have HE := hide he
  clear hd he
  have HVC := hide hv
  clear hv
  have n20 : (op == 20) = false := by simp; omega
  have n21 : (op == 21) = false := by simp; omega
  have n24 : (op == 24) = false := by simp; omega
  have n25 : (op == 25) = false := by simp; omega
  have n26 : (op == 26) = false := by simp; omega
  have n27 : (op == 27) = false := by simp; omega
  have n23 : (op == 23) = false := by simp; omega
  have BL := (Below.refl w.heap.size w).alloc (Nat.le_refl _) (.cells #[.int .i64 op, .int .i64 a, .int .i64 b, .string s, .slice ad 1 cp] 33)
  go_enter Tryz.func28, Tryz.ntmps28
  go_wp2_with fail
  refine (l2Do_un bd offd n cap c offe cape hi S V E hV hn op a b s kid hop (unhide HVC) ad cp _ ((unhide HIN).later (BL.mono hhi)) (by simp; omega) (Nat.lt_of_lt_of_le hbd BL.size) (Nat.lt_of_lt_of_le hc BL.size) ((unhide HD).later BL) ((unhide HE).later BL)).mono ?_
  rintro e w2 ⟨rfl, b2⟩
  go_wp2
  go_ret
  exact ⟨rfl, BL.trans (b2.mono (by simp))⟩
set_option maxRecDepth 100000 in
set_option maxHeartbeats 4000000 in
theorem ev_cmp (bd offd n cap c offe cape hi : Nat) (S : Nat → ByteArray) (V E : Nat → Int) (hV : ∀ i, i < n → 1 ≤ V i ∧ V i ≤ 4) (hn : n ≤ 1048576) (op : Int) (a b : Int) (s : ByteArray) (kid : Nat → TT) (h15 : 15 ≤ op) (h17 : op ≤ 17) (hv : ∀ i, i < 2 → ∀ (ad : Option Addr) (cp : Nat) (w : World), (kid i).In w 0 hi ad → hi ≤ w.heap.size → bd < w.heap.size → c < w.heap.size → Decs w bd offd n S V → Ints w c offe n E → Calls Tryz.prog 48 #[.slice (some ⟨bd, offd, none⟩) n cap, .agg #[.int .i64 (kid i).op, .int .i64 (kid i).a, .int .i64 (kid i).b, .string (kid i).s, .slice ad (kid i).n cp], .slice (some ⟨c, offe, none⟩) n cape] w fun e w' => e = .returned ((.agg #[.int .i64 ((kid i).sort n S V), .int .i64 ((kid i).ev n S V E)])) ∧ Below w.heap.size w w') (ad : Option Addr) (cp : Nat) (w : World) (hin : (TT.node op a b s 2 kid).In w 0 hi ad) (hhi : hi ≤ w.heap.size) (hbd : bd < w.heap.size) (hc : c < w.heap.size) (hd : Decs w bd offd n S V) (he : Ints w c offe n E) :
    Calls Tryz.prog 28 #[.slice (some ⟨bd, offd, none⟩) n cap, .agg #[.int .i64 op, .int .i64 a, .int .i64 b, .string s, .slice ad 2 cp], .slice (some ⟨c, offe, none⟩) n cape] w fun e w' => e = .returned (.int .i64 (b01 (cmpR op ((kid 0).sort n S V) ((kid 0).ev n S V E) ((kid 1).sort n S V) ((kid 1).ev n S V E)))) ∧ Below w.heap.size w w' := by
  have HIN := hide hin
  clear hin
  have HD := hide hd
  have HE := hide he
  clear hd he
  have HVC := hide hv
  clear hv
  have n20 : (op == 20) = false := by simp; omega
  have n21 : (op == 21) = false := by simp; omega
  have n24 : (op == 24) = false := by simp; omega
  have n25 : (op == 25) = false := by simp; omega
  have n26 : (op == 26) = false := by simp; omega
  have n27 : (op == 27) = false := by simp; omega
  have n23 : (op == 23) = false := by simp; omega
  have BL := (Below.refl w.heap.size w).alloc (Nat.le_refl _) (.cells #[.int .i64 op, .int .i64 a, .int .i64 b, .string s, .slice ad 2 cp] 33)
  go_enter Tryz.func28, Tryz.ntmps28
  go_wp2_with fail
  refine (l2Do_cmp bd offd n cap c offe cape hi S V E hV hn op a b s kid h15 h17 (unhide HVC) ad cp _ ((unhide HIN).later (BL.mono hhi)) (by simp; omega) (Nat.lt_of_lt_of_le hbd BL.size) (Nat.lt_of_lt_of_le hc BL.size) ((unhide HD).later BL) ((unhide HE).later BL)).mono ?_
  rintro e w2 ⟨rfl, b2⟩
  go_wp2
  go_ret
  exact ⟨rfl, BL.trans (b2.mono (by simp))⟩
set_option maxRecDepth 100000 in
set_option maxHeartbeats 4000000 in
theorem ev_bin (bd offd n cap c offe cape hi : Nat) (S : Nat → ByteArray) (V E : Nat → Int) (hV : ∀ i, i < n → 1 ≤ V i ∧ V i ≤ 4) (hn : n ≤ 1048576) (op : Int) (a b : Int) (s : ByteArray) (kid : Nat → TT) (h3 : 3 ≤ op) (h14 : op ≤ 14) (hv : ∀ i, i < 2 → ∀ (ad : Option Addr) (cp : Nat) (w : World), (kid i).In w 0 hi ad → hi ≤ w.heap.size → bd < w.heap.size → c < w.heap.size → Decs w bd offd n S V → Ints w c offe n E → Calls Tryz.prog 48 #[.slice (some ⟨bd, offd, none⟩) n cap, .agg #[.int .i64 (kid i).op, .int .i64 (kid i).a, .int .i64 (kid i).b, .string (kid i).s, .slice ad (kid i).n cp], .slice (some ⟨c, offe, none⟩) n cape] w fun e w' => e = .returned ((.agg #[.int .i64 ((kid i).sort n S V), .int .i64 ((kid i).ev n S V E)])) ∧ Below w.heap.size w w') (ad : Option Addr) (cp : Nat) (w : World) (hin : (TT.node op a b s 2 kid).In w 0 hi ad) (hhi : hi ≤ w.heap.size) (hbd : bd < w.heap.size) (hc : c < w.heap.size) (hd : Decs w bd offd n S V) (he : Ints w c offe n E) :
    Calls Tryz.prog 28 #[.slice (some ⟨bd, offd, none⟩) n cap, .agg #[.int .i64 op, .int .i64 a, .int .i64 b, .string s, .slice ad 2 cp], .slice (some ⟨c, offe, none⟩) n cape] w fun e w' => e = .returned (.int .i64 (binE op ((kid 0).sort n S V) ((kid 0).ev n S V E) ((kid 1).sort n S V) ((kid 1).ev n S V E))) ∧ Below w.heap.size w w' := by
  have HIN := hide hin
  clear hin
  have HD := hide hd
  have HE := hide he
  clear hd he
  have HVC := hide hv
  clear hv
  have n20 : (op == 20) = false := by simp; omega
  have n21 : (op == 21) = false := by simp; omega
  have n24 : (op == 24) = false := by simp; omega
  have n25 : (op == 25) = false := by simp; omega
  have n26 : (op == 26) = false := by simp; omega
  have n27 : (op == 27) = false := by simp; omega
  have n23 : (op == 23) = false := by simp; omega
  have BL := (Below.refl w.heap.size w).alloc (Nat.le_refl _) (.cells #[.int .i64 op, .int .i64 a, .int .i64 b, .string s, .slice ad 2 cp] 33)
  go_enter Tryz.func28, Tryz.ntmps28
  go_wp2_with fail
  refine (l2Do_bin bd offd n cap c offe cape hi S V E hV hn op a b s kid h3 h14 (unhide HVC) ad cp _ ((unhide HIN).later (BL.mono hhi)) (by simp; omega) (Nat.lt_of_lt_of_le hbd BL.size) (Nat.lt_of_lt_of_le hc BL.size) ((unhide HD).later BL) ((unhide HE).later BL)).mono ?_
  rintro e w2 ⟨rfl, b2⟩
  go_wp2
  go_ret
  exact ⟨rfl, BL.trans (b2.mono (by simp))⟩
theorem good01 {y : Int} (h : Good 0 y) : y = 0 ∨ y = 1 := by
  rcases h with ⟨_, h⟩ | h
  · exact h
  · rw [okB_zero] at h; cases h
theorem l2Eval_any (bd offd n cap c offe cape hi : Nat) (S : Nat → ByteArray) (V E : Nat → Int) (hV : ∀ i, i < n → 1 ≤ V i ∧ V i ≤ 4) (hn : n ≤ 1048576) (hEnv : ∀ i, i < n → okB (V i) (E i) = true) (t : TT) : 0 ≤ t.sort n S V → ∀ (ad : Option Addr) (cp : Nat) (w : World), t.In w 0 hi ad → hi ≤ w.heap.size → bd < w.heap.size → c < w.heap.size → Decs w bd offd n S V → Ints w c offe n E → Calls Tryz.prog 28 #[.slice (some ⟨bd, offd, none⟩) n cap, .agg #[.int .i64 t.op, .int .i64 t.a, .int .i64 t.b, .string t.s, .slice ad t.n cp], .slice (some ⟨c, offe, none⟩) n cape] w fun e w' => e = .returned ((.int .i64 (t.ev n S V E))) ∧ Below w.heap.size w w' := by
  induction t with
  | nil => intro h; simp [TT.sort] at h
  | node op a b s m kid ih =>
    intro h ad cp w hin hhi hbd hc hd he
    by_cases hpl : PlainP op a b s m
    · have har := hpl.2.2
      have hsv := sort_plain (n := n) (S := S) (V := V) (kid := kid) hpl
      show Calls Tryz.prog 28 #[.slice (some ⟨bd, offd, none⟩) n cap, .agg #[.int .i64 op, .int .i64 a, .int .i64 b, .string s, .slice ad m cp], .slice (some ⟨c, offe, none⟩) n cape] w _
      rcases arity_cases op with ⟨ho, e⟩ | ⟨ho, e⟩ | ⟨ho, e⟩ | ⟨ho, e⟩ | ⟨ho, e⟩ | ⟨ho, e⟩
      · obtain rfl : m = 0 := by omega
        rcases ho with rfl | rfl | rfl
        · have hev : (TT.node 20 a b s 0 kid).ev n S V E = b := by simp only [TT.ev]; rw [if_pos (by trivial)]
          rw [hev]
          exact ev_20 bd offd n cap c offe cape hi S V E hV hn a b s kid ad cp w hin hhi hbd hc hd he
        · have hev : (TT.node 21 a b s 0 kid).ev n S V E = E (findI S s n).toNat := by simp only [TT.ev]; rw [if_neg (by omega), if_pos (by trivial)]
          rw [if_neg (by omega), if_pos rfl] at hsv
          rw [hsv] at h
          rw [hev]
          rcases findI_cases S s n with ⟨f1, _⟩ | ⟨k, k1, f1, _, _⟩
          · rw [f1, if_pos (by omega)] at h; omega
          · rw [f1, Int.toNat_natCast]
            exact ev_21 bd offd n cap c offe cape hi S V E hV hn a b s kid k k1 f1 ad cp w hin hhi hbd hc hd he
        · have hev : (TT.node 24 a b s 0 kid).ev n S V E = 1 := by simp only [TT.ev]; rw [if_neg (by omega), if_neg (by omega), if_pos (by trivial)]
          rw [hev]
          exact ev_24 bd offd n cap c offe cape hi S V E hV hn a b s kid ad cp w hin hhi hbd hc hd he
      · obtain rfl : m = 1 := by omega
        rw [if_neg (by omega), if_neg (by omega), if_neg (by omega), if_pos rfl] at hsv
        rw [hsv] at h
        have k0 := one_sub h
        have ihe := ih 0 k0
        have ihv : ∀ i, i < 1 → ∀ (ad : Option Addr) (cp : Nat) (w : World), (kid i).In w 0 hi ad → hi ≤ w.heap.size → bd < w.heap.size → c < w.heap.size → Decs w bd offd n S V → Ints w c offe n E → Calls Tryz.prog 48 #[.slice (some ⟨bd, offd, none⟩) n cap, .agg #[.int .i64 (kid i).op, .int .i64 (kid i).a, .int .i64 (kid i).b, .string (kid i).s, .slice ad (kid i).n cp], .slice (some ⟨c, offe, none⟩) n cape] w fun e w' => e = .returned ((.agg #[.int .i64 ((kid i).sort n S V), .int .i64 ((kid i).ev n S V E)])) ∧ Below w.heap.size w w' := fun i hi' => by
          obtain rfl : i = 0 := by omega
          exact l2Vec_of bd offd n cap c offe cape hi S V E hV hn (kid 0) ihe
        have ihe1 : ∀ i, i < 1 → ∀ (ad : Option Addr) (cp : Nat) (w : World), (kid i).In w 0 hi ad → hi ≤ w.heap.size → bd < w.heap.size → c < w.heap.size → Decs w bd offd n S V → Ints w c offe n E → Calls Tryz.prog 28 #[.slice (some ⟨bd, offd, none⟩) n cap, .agg #[.int .i64 (kid i).op, .int .i64 (kid i).a, .int .i64 (kid i).b, .string (kid i).s, .slice ad (kid i).n cp], .slice (some ⟨c, offe, none⟩) n cape] w fun e w' => e = .returned ((.int .i64 ((kid i).ev n S V E))) ∧ Below w.heap.size w w' := fun i hi' => by
          obtain rfl : i = 0 := by omega
          exact ihe
        rcases ho with ho | ho | rfl | rfl
        · have hev : (TT.node op a b s 1 kid).ev n S V E = unE op ((kid 0).sort n S V) ((kid 0).ev n S V E) := by simp only [TT.ev]; rw [if_neg (by omega), if_neg (by omega), if_neg (by omega), if_neg (by omega), if_neg (by omega), if_neg (by omega), if_neg (by omega), if_neg (by omega), if_pos (by trivial)]
          rw [hev]
          exact ev_un bd offd n cap c offe cape hi S V E hV hn op a b s kid (Or.inl ho) ihv ad cp w hin hhi hbd hc hd he
        · have hev : (TT.node op a b s 1 kid).ev n S V E = unE op ((kid 0).sort n S V) ((kid 0).ev n S V E) := by simp only [TT.ev]; rw [if_neg (by omega), if_neg (by omega), if_neg (by omega), if_neg (by omega), if_neg (by omega), if_neg (by omega), if_neg (by omega), if_neg (by omega), if_pos (by trivial)]
          rw [hev]
          exact ev_un bd offd n cap c offe cape hi S V E hV hn op a b s kid (Or.inr ho) ihv ad cp w hin hhi hbd hc hd he
        · have hev : (TT.node 22 a b s 1 kid).ev n S V E = cutE ((kid 0).sort n S V) ((kid 0).ev n S V E) a b := by simp only [TT.ev]; rw [if_neg (by omega), if_neg (by omega), if_neg (by omega), if_neg (by omega), if_neg (by omega), if_neg (by omega), if_neg (by omega), if_pos (by trivial)]
          rw [hev]
          exact ev_cut bd offd n cap c offe cape hi S V E hV hn a b s kid ihv ad cp w hin hhi hbd hc hd he
        · have hev : (TT.node 25 a b s 1 kid).ev n S V E = 1 - ((kid 0).ev n S V E) := by simp only [TT.ev]; rw [if_neg (by omega), if_neg (by omega), if_neg (by omega), if_pos (by trivial)]
          rw [hev]
          have s00 : ((kid 0).sort n S V) = 0 := by unfold oneS at h; rw [if_pos rfl] at h; split at h <;> omega
          have g := good_all hEnv (kid 0) k0
          rw [s00] at g
          exact ev_25 bd offd n cap c offe cape hi S V E hV hn a b s kid ihe1 (good01 g) ad cp w hin hhi hbd hc hd he
      · subst ho
        obtain rfl : m = 3 := by omega
        rw [if_neg (by omega), if_neg (by omega), if_neg (by omega), if_neg (by omega), if_neg (by omega)] at hsv
        have hev : (TT.node 23 a b s 3 kid).ev n S V E = if ((kid 0).ev n S V E) = 1 then ((kid 1).ev n S V E) else ((kid 2).ev n S V E) := by simp only [TT.ev]; rw [if_neg (by omega), if_neg (by omega), if_neg (by omega), if_neg (by omega), if_neg (by omega), if_neg (by omega), if_pos (by trivial)]
        rw [hsv] at h
        rw [hev]
        by_cases hcc : ((kid 0).sort n S V) ≠ 0 ∨ ((kid 1).sort n S V) ≠ ((kid 2).sort n S V)
        · rw [if_pos hcc] at h; omega
        · rw [if_neg hcc] at h
          refine ev_23 bd offd n cap c offe cape hi S V E hV hn a b s kid (fun i hi' => ?_) ad cp w hin hhi hbd hc hd he
          have : i = 0 ∨ i = 1 ∨ i = 2 := by omega
          rcases this with rfl | rfl | rfl
          · exact ih 0 (by omega)
          · exact ih 1 (by omega)
          · exact ih 2 (by omega)
      all_goals try (exfalso; omega)
      all_goals
        obtain rfl : m = 2 := by omega
        rw [if_neg (by omega), if_neg (by omega), if_neg (by omega), if_neg (by omega), if_pos rfl] at hsv
        rw [hsv] at h
        have k0 := (both_sub h).1
        have k1 := (both_sub h).2
        have ihe : ∀ i, i < 2 → ∀ (ad : Option Addr) (cp : Nat) (w : World), (kid i).In w 0 hi ad → hi ≤ w.heap.size → bd < w.heap.size → c < w.heap.size → Decs w bd offd n S V → Ints w c offe n E → Calls Tryz.prog 28 #[.slice (some ⟨bd, offd, none⟩) n cap, .agg #[.int .i64 (kid i).op, .int .i64 (kid i).a, .int .i64 (kid i).b, .string (kid i).s, .slice ad (kid i).n cp], .slice (some ⟨c, offe, none⟩) n cape] w fun e w' => e = .returned ((.int .i64 ((kid i).ev n S V E))) ∧ Below w.heap.size w w' := fun i hi' => by
          have : i = 0 ∨ i = 1 := by omega
          rcases this with rfl | rfl
          · exact ih 0 k0
          · exact ih 1 k1
        have ihv : ∀ i, i < 2 → ∀ (ad : Option Addr) (cp : Nat) (w : World), (kid i).In w 0 hi ad → hi ≤ w.heap.size → bd < w.heap.size → c < w.heap.size → Decs w bd offd n S V → Ints w c offe n E → Calls Tryz.prog 48 #[.slice (some ⟨bd, offd, none⟩) n cap, .agg #[.int .i64 (kid i).op, .int .i64 (kid i).a, .int .i64 (kid i).b, .string (kid i).s, .slice ad (kid i).n cp], .slice (some ⟨c, offe, none⟩) n cape] w fun e w' => e = .returned ((.agg #[.int .i64 ((kid i).sort n S V), .int .i64 ((kid i).ev n S V E)])) ∧ Below w.heap.size w w' := fun i hi' => l2Vec_of bd offd n cap c offe cape hi S V E hV hn (kid i) (ihe i hi')
      · have s00 : ((kid 0).sort n S V) = 0 ∧ ((kid 1).sort n S V) = 0 := by unfold bothS at h; rw [if_pos ho] at h; split at h <;> omega
        have g0 := good_all hEnv (kid 0) k0
        have g1 := good_all hEnv (kid 1) k1
        rw [s00.1] at g0
        rw [s00.2] at g1
        rcases ho with rfl | rfl
        · have hev : (TT.node 26 a b s 2 kid).ev n S V E = ((kid 0).ev n S V E) * ((kid 1).ev n S V E) := by simp only [TT.ev]; rw [if_neg (by omega), if_neg (by omega), if_neg (by omega), if_neg (by omega), if_pos (by trivial)]
          rw [hev]
          exact ev_26 bd offd n cap c offe cape hi S V E hV hn a b s kid ihe (good01 g0) (good01 g1) ad cp w hin hhi hbd hc hd he
        · have hev : (TT.node 27 a b s 2 kid).ev n S V E = max ((kid 0).ev n S V E) ((kid 1).ev n S V E) := by simp only [TT.ev]; rw [if_neg (by omega), if_neg (by omega), if_neg (by omega), if_neg (by omega), if_neg (by omega), if_pos (by trivial)]
          rw [hev]
          exact ev_27 bd offd n cap c offe cape hi S V E hV hn a b s kid ihe (good01 g0) (good01 g1) ad cp w hin hhi hbd hc hd he
      · by_cases h15 : 15 ≤ op
        · have hev : (TT.node op a b s 2 kid).ev n S V E = b01 (cmpR op ((kid 0).sort n S V) ((kid 0).ev n S V E) ((kid 1).sort n S V) ((kid 1).ev n S V E)) := by simp only [TT.ev]; rw [if_neg (by omega), if_neg (by omega), if_neg (by omega), if_neg (by omega), if_neg (by omega), if_neg (by omega), if_neg (by omega), if_neg (by omega), if_neg (by omega), if_pos h15]
          rw [hev]
          exact ev_cmp bd offd n cap c offe cape hi S V E hV hn op a b s kid h15 (by omega) ihv ad cp w hin hhi hbd hc hd he
        · have hev : (TT.node op a b s 2 kid).ev n S V E = binE op ((kid 0).sort n S V) ((kid 0).ev n S V E) ((kid 1).sort n S V) ((kid 1).ev n S V E) := by simp only [TT.ev]; rw [if_neg (by omega), if_neg (by omega), if_neg (by omega), if_neg (by omega), if_neg (by omega), if_neg (by omega), if_neg (by omega), if_neg (by omega), if_neg (by omega), if_neg h15]
          rw [hev]
          exact ev_bin bd offd n cap c offe cape hi S V E hV hn op a b s kid (by omega) (by omega) ihv ad cp w hin hhi hbd hc hd he
    · rw [sort_no hpl] at h; omega
end Go.Proofs.YtbincnedkclfgaaGreat
