/- What a term is, of the model. -/
import Derived.Test.YtbincnedkclfgaaGreatEvM
namespace Go.Proofs.YtbincnedkclfgaaGreat
open Go.ChangeShapes Go.WideShapes Go.ChangeAt Go.RowKit Go.Joins
set_option linter.unusedVariables false
set_option linter.unusedSimpArgs false

theorem l2Bool_any (x : Bool) (w : World) : Calls Tryz.prog 52 #[.bool x] w fun e w' => e = .returned (.int .i64 (b01 x)) ∧ w' = w := by
  cases x
  all_goals
    go_enter Tryz.func52, Tryz.ntmps52
    go_wp2
    go_ret
    exact ⟨rfl, rfl⟩
set_option maxRecDepth 100000 in
set_option maxHeartbeats 4000000 in
theorem l2Vec_of (bd offd n cap c offe cape hi : Nat) (S : Nat → ByteArray) (V E : Nat → Int) (hV : ∀ i, i < n → 1 ≤ V i ∧ V i ≤ 4) (hn : n ≤ 1048576) (t : TT) (hev : ∀ (ad : Option Addr) (cp : Nat) (w : World), t.In w 0 hi ad → hi ≤ w.heap.size → bd < w.heap.size → c < w.heap.size → Decs w bd offd n S V → Ints w c offe n E → Calls Tryz.prog 28 #[.slice (some ⟨bd, offd, none⟩) n cap, .agg #[.int .i64 t.op, .int .i64 t.a, .int .i64 t.b, .string t.s, .slice ad t.n cp], .slice (some ⟨c, offe, none⟩) n cape] w fun e w' => e = .returned ((.int .i64 (t.ev n S V E))) ∧ Below w.heap.size w w') : ∀ (ad : Option Addr) (cp : Nat) (w : World), t.In w 0 hi ad → hi ≤ w.heap.size → bd < w.heap.size → c < w.heap.size → Decs w bd offd n S V → Ints w c offe n E → Calls Tryz.prog 48 #[.slice (some ⟨bd, offd, none⟩) n cap, .agg #[.int .i64 t.op, .int .i64 t.a, .int .i64 t.b, .string t.s, .slice ad t.n cp], .slice (some ⟨c, offe, none⟩) n cape] w fun e w' => e = .returned ((.agg #[.int .i64 (t.sort n S V), .int .i64 (t.ev n S V E)])) ∧ Below w.heap.size w w' := by
  intro ad cp w hin hhi hbd hc hd he
  have HEV := hide hev
  have HI := hide hin
  have HD := hide hd
  have HE := hide he
  have HVV := hide hV
  clear hev hin hd he hV
  go_enter Tryz.func48, Tryz.ntmps48
  go_wp2_with fail
  have BL := ((Below.refl w.heap.size w).alloc (Nat.le_refl _) (.cells #[.int .i64 t.op, .int .i64 t.a, .int .i64 t.b, .string t.s, .slice ad t.n cp] 33)).alloc (by simp) (.cells #[.int .i64 0, .int .i64 0] 55)
  obtain ⟨wa, hwa⟩ : ∃ v, v = ((w.alloc (.cells #[.int .i64 t.op, .int .i64 t.a, .int .i64 t.b, .string t.s, .slice ad t.n cp] 33)).alloc (.cells #[.int .i64 0, .int .i64 0] 55)) := ⟨_, rfl⟩
  have P : Five wa w.heap.size 0 t ad cp := by rw [hwa]; exact ⟨by simp [go_sem], by simp [go_sem], by simp [go_sem], by simp [go_sem], by simp [go_sem]⟩
  have r0 : wa.cell? ⟨w.heap.size + 1, 0, none⟩ = some (.int .i64 0) := by rw [hwa]; simp [go_sem]
  have r1 : wa.cell? ⟨w.heap.size + 1, 1, none⟩ = some (.int .i64 0) := by rw [hwa]; simp [go_sem]
  have f0 : wa.frozen? ⟨w.heap.size + 1, 0, none⟩ = false := by rw [hwa]; simp [go_sem]
  have f1 : wa.frozen? ⟨w.heap.size + 1, 1, none⟩ = false := by rw [hwa]; simp [go_sem]
  have kz : w.heap.size + 2 ≤ wa.heap.size := by rw [hwa]; simp
  rw [← hwa] at BL ⊢
  clear hwa
  replace HI := hide ((unhide HI).later (BL.mono hhi))
  replace HD := hide ((unhide HD).later BL)
  replace HE := hide ((unhide HE).later BL)
  have kb := Nat.lt_of_lt_of_le hbd BL.size
  have kc := Nat.lt_of_lt_of_le hc BL.size
  have nb : ¬ w.heap.size + 1 = w.heap.size := by omega
  refine wp_region_held_drew (S := (fun w' => w'.cell? ⟨w.heap.size, 0, none⟩ = some (.int .i64 t.op) ∧ w'.cell? ⟨w.heap.size, 1, none⟩ = some (.int .i64 t.a) ∧ w'.cell? ⟨w.heap.size, 2, none⟩ = some (.int .i64 t.b) ∧ w'.cell? ⟨w.heap.size, 3, none⟩ = some (.string t.s) ∧ w'.cell? ⟨w.heap.size, 4, none⟩ = some (.slice ad t.n cp))) (by kernel_rfl) ?_ (fun hHeld => ?_)
  · exact ⟨P.1, P.2.1, P.2.2.1, P.2.2.2.1, P.2.2.2.2⟩
  replace P : Five wa.drew w.heap.size 0 t ad cp := P
  replace HI := hide (unhide HI).drew
  replace HD : Hid (Decs wa.drew bd offd n S V) := HD
  replace HE : Hid (Ints wa.drew c offe n E) := HE
  replace BL : Below w.heap.size w wa.drew := BL.drew
  replace kb : bd < wa.drew.heap.size := kb
  replace kc : c < wa.drew.heap.size := kc
  replace kz : w.heap.size + 2 ≤ wa.drew.heap.size := kz
  replace r0 : wa.drew.cell? ⟨w.heap.size + 1, 0, none⟩ = some (.int .i64 0) := r0
  replace r1 : wa.drew.cell? ⟨w.heap.size + 1, 1, none⟩ = some (.int .i64 0) := r1
  replace f0 : wa.drew.frozen? ⟨w.heap.size + 1, 0, none⟩ = false := f0
  replace f1 : wa.drew.frozen? ⟨w.heap.size + 1, 1, none⟩ = false := f1
  generalize wa.drew = wb at *
  refine wpAnyH_take (i := 0) (v := ?_) rfl (by kernel_rfl) (by kernel_rfl) (by kernel_rfl) (fun _ _ _ h => h) (Or.inl ⟨by rfl, ?_⟩) (by assumption) ?_
  rotate_left
  · (intro w hSw; (try dsimp only at hSw); first | (go_simp; done) | (go_simp; with_reducible rfl))
  try simp only [List.getElem_toArray, List.getElem_cons_succ, List.getElem_cons_zero, Act.put, List.setIfInBounds_toArray, List.set_cons_zero, List.set_cons_succ]
  refine wpAnyH_take (i := 1) (v := ?_) rfl (by kernel_rfl) (by kernel_rfl) (by kernel_rfl) (fun _ _ _ h => h) (Or.inl ⟨by rfl, ?_⟩) (by assumption) ?_
  rotate_left
  · (intro w hSw; (try dsimp only at hSw); first | (go_simp; done) | (go_simp; with_reducible rfl))
  try simp only [List.getElem_toArray, List.getElem_cons_succ, List.getElem_cons_zero, Act.put, List.setIfInBounds_toArray, List.set_cons_zero, List.set_cons_succ]
  refine wpAnyH_take (i := 3) (v := ?_) rfl (by kernel_rfl) (by kernel_rfl) (by kernel_rfl) (fun _ _ _ h => h) (Or.inl ⟨by rfl, ?_⟩) (by assumption) ?_
  rotate_left
  · (intro w hSw; (try dsimp only at hSw); first | (go_simp; done) | (go_simp; with_reducible rfl))
  try simp only [List.getElem_toArray, List.getElem_cons_succ, List.getElem_cons_zero, Act.put, List.setIfInBounds_toArray, List.set_cons_zero, List.set_cons_succ]
  refine wpAnyH_take (i := 4) (v := ?_) rfl (by kernel_rfl) (by kernel_rfl) (by kernel_rfl) (fun _ _ _ h => h) (Or.inl ⟨by rfl, ?_⟩) (by assumption) ?_
  rotate_left
  · (intro w hSw; (try dsimp only at hSw); first | (go_simp; done) | (go_simp; with_reducible rfl))
  try simp only [List.getElem_toArray, List.getElem_cons_succ, List.getElem_cons_zero, Act.put, List.setIfInBounds_toArray, List.set_cons_zero, List.set_cons_succ]
  refine wpAnyH_take (i := 5) (v := ?_) rfl (by kernel_rfl) (by kernel_rfl) (by kernel_rfl) (fun _ _ _ h => h) (Or.inl ⟨by rfl, ?_⟩) (by assumption) ?_
  rotate_left
  · (intro w hSw; (try dsimp only at hSw); first | (go_simp; done) | (go_simp; with_reducible rfl))
  try simp only [List.getElem_toArray, List.getElem_cons_succ, List.getElem_cons_zero, Act.put, List.setIfInBounds_toArray, List.set_cons_zero, List.set_cons_succ]
  refine wpAnyH_ready (rs := [2]) (by kernel_rfl) (by simp) ?_
  refine AllReadyH.cons rfl (fun K hK => ?_) AllReadyH.nil
  go_simp
  refine (l2Sort_any bd offd n cap hi S V (unhide HVV) hn t _ _ _ (unhide HI) (by omega) kb (unhide HD)).mono ?_
  rintro e w2 ⟨rfl, b2⟩
  replace P := P.later b2
  replace HI := hide ((unhide HI).later (b2.mono (by omega)))
  replace HD := hide ((unhide HD).later b2)
  replace HE := hide ((unhide HE).later b2)
  replace kb := Nat.lt_of_lt_of_le kb b2.size
  replace kc := Nat.lt_of_lt_of_le kc b2.size
  replace f0 := fz_later b2 r0 f0
  replace f1 := fz_later b2 r1 f1
  replace r0 := cell_later b2 r0
  replace r1 := cell_later b2 r1
  replace BL := BL.trans (b2.mono (by omega))
  replace kz := Nat.le_trans kz b2.size
  clear b2
  go_wp2_with fail
  refine hK.out _ _ ?_ (fun hHeld => ?_)
  · exact ⟨P.1, P.2.1, P.2.2.1, P.2.2.2.1, P.2.2.2.2⟩
  clear hK K
  try simp only [List.getElem_toArray, List.getElem_cons_succ, List.getElem_cons_zero, Act.put, List.setIfInBounds_toArray, List.set_cons_zero, List.set_cons_succ]
  refine wpAnyH_ready (rs := [6]) (by kernel_rfl) (by simp) ?_
  refine AllReadyH.cons rfl (fun K hK => ?_) AllReadyH.nil
  go_simp
  refine (unhide HEV _ _ _ (unhide HI) (by omega) kb kc (unhide HD) (unhide HE)).mono ?_
  rintro e w3 ⟨rfl, b3⟩
  replace P := P.later b3
  replace HI := hide ((unhide HI).later (b3.mono (by omega)))
  replace HD := hide ((unhide HD).later b3)
  replace HE := hide ((unhide HE).later b3)
  replace kb := Nat.lt_of_lt_of_le kb b3.size
  replace kc := Nat.lt_of_lt_of_le kc b3.size
  replace f0 := fz_later b3 r0 f0
  replace f1 := fz_later b3 r1 f1
  replace r0 := cell_later b3 r0
  replace r1 := cell_later b3 r1
  replace BL := BL.trans (b3.mono (by omega))
  replace kz := Nat.le_trans kz b3.size
  clear b3
  go_wp2_with fail
  refine hK.out _ _ ?_ (fun hHeld => ?_)
  · exact ⟨P.1, P.2.1, P.2.2.1, P.2.2.2.1, P.2.2.2.2⟩
  clear hK K
  try simp only [List.getElem_toArray, List.getElem_cons_succ, List.getElem_cons_zero, Act.put, List.setIfInBounds_toArray, List.set_cons_zero, List.set_cons_succ]
  refine wpAnyH_take (i := 7) (v := ?_) rfl (by kernel_rfl) (by kernel_rfl) (by kernel_rfl) (fun _ _ _ h => h) (Or.inl ⟨by rfl, ?_⟩) (by assumption) ?_
  rotate_left
  · (intro w hSw; (try dsimp only at hSw); first | (go_simp; done) | (go_simp; with_reducible rfl))
  try simp only [List.getElem_toArray, List.getElem_cons_succ, List.getElem_cons_zero, Act.put, List.setIfInBounds_toArray, List.set_cons_zero, List.set_cons_succ]
  refine wpAnyH_ready (rs := [8]) (by kernel_rfl) (by simp) ?_
  refine AllReadyH.cons rfl (fun K hK => ?_) AllReadyH.nil
  go_simp
  refine hK.out _ _ ?_ (fun hHeld => ?_)
  · exact (by simp only [World.cell?_setCell_far, nb, ne_eq, not_false_eq_true]; exact ⟨P.1, P.2.1, P.2.2.1, P.2.2.2.1, P.2.2.2.2⟩)
  clear hK K
  try simp only [List.getElem_toArray, List.getElem_cons_succ, List.getElem_cons_zero, Act.put, List.setIfInBounds_toArray, List.set_cons_zero, List.set_cons_succ]
  refine wpAnyH_done (by kernel_rfl) ?_ _
  go_wp2
  exact bodyPost_ret (v := (.agg #[.int .i64 (t.sort n S V), .int .i64 (t.ev n S V E)])) (by simp [results, Tryz.results48, go_sem, r0, r1]) rfl ⟨rfl, (BL.setCell (by simp) _).setCell (by simp) _⟩
set_option maxRecDepth 100000 in
set_option maxHeartbeats 4000000 in
theorem l2Do_cut (bd offd n cap c offe cape hi : Nat) (S : Nat → ByteArray) (V E : Nat → Int) (hV : ∀ i, i < n → 1 ≤ V i ∧ V i ≤ 4) (hn : n ≤ 1048576) (a b : Int) (s : ByteArray) (kid : Nat → TT) (hv : ∀ i, i < 1 → ∀ (ad : Option Addr) (cp : Nat) (w : World), (kid i).In w 0 hi ad → hi ≤ w.heap.size → bd < w.heap.size → c < w.heap.size → Decs w bd offd n S V → Ints w c offe n E → Calls Tryz.prog 48 #[.slice (some ⟨bd, offd, none⟩) n cap, .agg #[.int .i64 (kid i).op, .int .i64 (kid i).a, .int .i64 (kid i).b, .string (kid i).s, .slice ad (kid i).n cp], .slice (some ⟨c, offe, none⟩) n cape] w fun e w' => e = .returned ((.agg #[.int .i64 ((kid i).sort n S V), .int .i64 ((kid i).ev n S V E)])) ∧ Below w.heap.size w w') (ad : Option Addr) (cp : Nat) (w : World) (hin : (TT.node 22 a b s 1 kid).In w 0 hi ad) (hhi : hi ≤ w.heap.size) (hbd : bd < w.heap.size) (hc : c < w.heap.size) (hd : Decs w bd offd n S V) (he : Ints w c offe n E) :
    Calls Tryz.prog 40 #[.slice (some ⟨bd, offd, none⟩) n cap, .agg #[.int .i64 22, .int .i64 a, .int .i64 b, .string s, .slice ad 1 cp], .slice (some ⟨c, offe, none⟩) n cape] w fun e w' => e = .returned (.int .i64 (cutE ((kid 0).sort n S V) ((kid 0).ev n S V E) a b)) ∧ Below w.heap.size w w' := by
  have HVC := hide hv
  have HD := hide hd
  have HE := hide he
  clear hv hd he
  obtain ⟨bl, off, rfl, hlo, hbl, AD, CP, hk⟩ := hin.resolve_left (by omega)
  obtain ⟨K0w, _, I0w⟩ := hk 0 (by omega)
  replace K0w : Five w bl off (kid 0) (AD 0) (CP 0) := by simpa using K0w
  clear hk
  obtain ⟨c00, c01, c02, c03, c04⟩ := id K0w
  have lbl : bl < w.heap.size := Nat.lt_of_lt_of_le hbl hhi
  go_enter Tryz.func40, Tryz.ntmps40
  go_wp2_with fail
  have BL := (Below.refl w.heap.size w).alloc (Nat.le_refl _) (.cells #[.int .i64 22, .int .i64 a, .int .i64 b, .string s, .slice (some ⟨bl, off, none⟩) 1 cp] 33)
  obtain ⟨wa, hwa⟩ : ∃ v, v = w.alloc (.cells #[.int .i64 22, .int .i64 a, .int .i64 b, .string s, .slice (some ⟨bl, off, none⟩) 1 cp] 33) := ⟨_, rfl⟩
  have P : Box5 wa w.heap.size 22 a b s (some ⟨bl, off, none⟩) 1 cp := by rw [hwa]; exact ⟨by simp [go_sem], by simp [go_sem], by simp [go_sem], by simp [go_sem], by simp [go_sem]⟩
  have kz : w.heap.size + 1 ≤ wa.heap.size := by rw [hwa]; simp
  rw [← hwa] at BL
  try rw [← hwa]
  clear hwa c00 c01 c02 c03 c04
  have D := hide ((unhide HD).later BL)
  have EE := hide ((unhide HE).later BL)
  have kb := Nat.lt_of_lt_of_le hbd BL.size
  have kc := Nat.lt_of_lt_of_le hc BL.size
  have K0 := (K0w).keep (w' := wa) (fun o => BL.cell (p := ⟨bl, o, none⟩) (Nat.lt_of_lt_of_le hbl hhi))
  have I0 := hide (I0w.later (BL.mono hhi))
  obtain ⟨p0, p1, p2, p3, p4⟩ := id P
  have pl := World.block_lt_of_cell? _ _ p0
  simp only at pl
  obtain ⟨c00, c01, c02, c03, c04⟩ := id K0
  have kl := World.block_lt_of_cell? _ _ c00
  simp only at kl
  refine (unhide HVC 0 (by omega) _ _ _ (unhide I0) (by omega) kb kc (unhide D) (unhide EE)).mono ?_
  rintro e w2 ⟨rfl, b2⟩
  clear p0 p1 p2 p3 p4 pl kl c00 c01 c02 c03 c04
  replace P := P.later b2
  replace K0 := K0.later b2
  replace I0 := hide ((unhide I0).later (b2.mono (by omega)))
  replace D := hide ((unhide D).later b2)
  replace EE := hide ((unhide EE).later b2)
  replace kb := Nat.lt_of_lt_of_le kb b2.size
  replace kc := Nat.lt_of_lt_of_le kc b2.size
  replace BL := BL.trans (b2.mono (by omega))
  replace kz := Nat.le_trans kz b2.size
  clear b2
  obtain ⟨p0, p1, p2, p3, p4⟩ := id P
  have pl := World.block_lt_of_cell? _ _ p0
  simp only at pl
  obtain ⟨c00, c01, c02, c03, c04⟩ := id K0
  have kl := World.block_lt_of_cell? _ _ c00
  simp only at kl
  go_wp2_with fail
  obtain ⟨x, y, r, hV2⟩ := cutV_form ((kid 0).sort n S V) ((kid 0).ev n S V E) a b
  have HN := hide (cutV_N (show _ = tup x y r from hV2))
  have hI := fun w => sVecCut_any ((kid 0).sort n S V) ((kid 0).ev n S V E) a b w
  simp only [hV2] at hI
  have HCU := hide hI
  clear hI hV2
  obtain ⟨w2b, hw2b⟩ : ∃ v, v = w2.alloc (.cells #[.int .i64 ((kid 0).sort n S V), .int .i64 ((kid 0).ev n S V E)] 55) := ⟨_, rfl⟩
  have bw2b : Below w2.heap.size w2 w2b := by rw [hw2b]; exact (Below.refl _ _).alloc (Nat.le_refl _) _
  have A0 : w2b.cell? ⟨w2.heap.size, 0, none⟩ = some (.int .i64 ((kid 0).sort n S V)) := by rw [hw2b]; simp [go_sem]
  have A1 : w2b.cell? ⟨w2.heap.size, 1, none⟩ = some (.int .i64 ((kid 0).ev n S V E)) := by rw [hw2b]; simp [go_sem]
  rw [← hw2b]
  clear hw2b
  clear p0 p1 p2 p3 p4 pl kl c00 c01 c02 c03 c04
  replace P := P.later bw2b
  replace K0 := K0.later bw2b
  replace I0 := hide ((unhide I0).later (bw2b.mono (by omega)))
  replace D := hide ((unhide D).later bw2b)
  replace EE := hide ((unhide EE).later bw2b)
  replace kb := Nat.lt_of_lt_of_le kb bw2b.size
  replace kc := Nat.lt_of_lt_of_le kc bw2b.size
  replace BL := BL.trans (bw2b.mono (by omega))
  replace kz := Nat.le_trans kz bw2b.size
  clear bw2b
  obtain ⟨p0, p1, p2, p3, p4⟩ := id P
  have pl := World.block_lt_of_cell? _ _ p0
  simp only at pl
  obtain ⟨c00, c01, c02, c03, c04⟩ := id K0
  have kl := World.block_lt_of_cell? _ _ c00
  simp only at kl
  have Al := World.block_lt_of_cell? _ _ A0
  simp only at Al
  refine (unhide HCU _).mono ?_
  rintro e wz ⟨rfl, bz⟩
  have BZ := BL.trans (bz.mono (by omega))
  go_wp2
  rw [← unhide HN]
  go_ret
  exact ⟨rfl, (by repeat (first | exact Below.refl _ _ | assumption | refine below_drewN ?_ _ | refine Below.drew ?_ | refine Below.alloc ?_ (by first | exact Nat.le_refl _ | exact Below.size (by assumption) | (simp; done) | (simp; omega)) _ | refine Below.setCell ?_ (by first | exact Nat.le_refl _ | exact Below.size (by assumption) | (simp; done) | (simp; omega)) _ | refine Below.trans ?_ (by assumption)))⟩
set_option maxRecDepth 100000 in
set_option maxHeartbeats 4000000 in
theorem l2Do_un (bd offd n cap c offe cape hi : Nat) (S : Nat → ByteArray) (V E : Nat → Int) (hV : ∀ i, i < n → 1 ≤ V i ∧ V i ≤ 4) (hn : n ≤ 1048576) (op : Int) (a b : Int) (s : ByteArray) (kid : Nat → TT) (hop : op = 1 ∨ op = 2) (hv : ∀ i, i < 1 → ∀ (ad : Option Addr) (cp : Nat) (w : World), (kid i).In w 0 hi ad → hi ≤ w.heap.size → bd < w.heap.size → c < w.heap.size → Decs w bd offd n S V → Ints w c offe n E → Calls Tryz.prog 48 #[.slice (some ⟨bd, offd, none⟩) n cap, .agg #[.int .i64 (kid i).op, .int .i64 (kid i).a, .int .i64 (kid i).b, .string (kid i).s, .slice ad (kid i).n cp], .slice (some ⟨c, offe, none⟩) n cape] w fun e w' => e = .returned ((.agg #[.int .i64 ((kid i).sort n S V), .int .i64 ((kid i).ev n S V E)])) ∧ Below w.heap.size w w') (ad : Option Addr) (cp : Nat) (w : World) (hin : (TT.node op a b s 1 kid).In w 0 hi ad) (hhi : hi ≤ w.heap.size) (hbd : bd < w.heap.size) (hc : c < w.heap.size) (hd : Decs w bd offd n S V) (he : Ints w c offe n E) :
    Calls Tryz.prog 40 #[.slice (some ⟨bd, offd, none⟩) n cap, .agg #[.int .i64 op, .int .i64 a, .int .i64 b, .string s, .slice ad 1 cp], .slice (some ⟨c, offe, none⟩) n cape] w fun e w' => e = .returned (.int .i64 (unE op ((kid 0).sort n S V) ((kid 0).ev n S V E))) ∧ Below w.heap.size w w' := by
  have HVC := hide hv
  have HD := hide hd
  have HE := hide he
  clear hv hd he
  obtain ⟨bl, off, rfl, hlo, hbl, AD, CP, hk⟩ := hin.resolve_left (by omega)
  obtain ⟨K0w, _, I0w⟩ := hk 0 (by omega)
  replace K0w : Five w bl off (kid 0) (AD 0) (CP 0) := by simpa using K0w
  clear hk
  have n22 : (op == 22) = false := by simp; omega
  obtain ⟨c00, c01, c02, c03, c04⟩ := id K0w
  have lbl : bl < w.heap.size := Nat.lt_of_lt_of_le hbl hhi
  go_enter Tryz.func40, Tryz.ntmps40
  go_wp2_with fail
  have BL := (Below.refl w.heap.size w).alloc (Nat.le_refl _) (.cells #[.int .i64 op, .int .i64 a, .int .i64 b, .string s, .slice (some ⟨bl, off, none⟩) 1 cp] 33)
  obtain ⟨wa, hwa⟩ : ∃ v, v = w.alloc (.cells #[.int .i64 op, .int .i64 a, .int .i64 b, .string s, .slice (some ⟨bl, off, none⟩) 1 cp] 33) := ⟨_, rfl⟩
  have P : Box5 wa w.heap.size op a b s (some ⟨bl, off, none⟩) 1 cp := by rw [hwa]; exact ⟨by simp [go_sem], by simp [go_sem], by simp [go_sem], by simp [go_sem], by simp [go_sem]⟩
  have kz : w.heap.size + 1 ≤ wa.heap.size := by rw [hwa]; simp
  rw [← hwa] at BL
  try rw [← hwa]
  clear hwa c00 c01 c02 c03 c04
  have D := hide ((unhide HD).later BL)
  have EE := hide ((unhide HE).later BL)
  have kb := Nat.lt_of_lt_of_le hbd BL.size
  have kc := Nat.lt_of_lt_of_le hc BL.size
  have K0 := (K0w).keep (w' := wa) (fun o => BL.cell (p := ⟨bl, o, none⟩) (Nat.lt_of_lt_of_le hbl hhi))
  have I0 := hide (I0w.later (BL.mono hhi))
  obtain ⟨p0, p1, p2, p3, p4⟩ := id P
  have pl := World.block_lt_of_cell? _ _ p0
  simp only at pl
  obtain ⟨c00, c01, c02, c03, c04⟩ := id K0
  have kl := World.block_lt_of_cell? _ _ c00
  simp only at kl
  refine (unhide HVC 0 (by omega) _ _ _ (unhide I0) (by omega) kb kc (unhide D) (unhide EE)).mono ?_
  rintro e w2 ⟨rfl, b2⟩
  clear p0 p1 p2 p3 p4 pl kl c00 c01 c02 c03 c04
  replace P := P.later b2
  replace K0 := K0.later b2
  replace I0 := hide ((unhide I0).later (b2.mono (by omega)))
  replace D := hide ((unhide D).later b2)
  replace EE := hide ((unhide EE).later b2)
  replace kb := Nat.lt_of_lt_of_le kb b2.size
  replace kc := Nat.lt_of_lt_of_le kc b2.size
  replace BL := BL.trans (b2.mono (by omega))
  replace kz := Nat.le_trans kz b2.size
  clear b2
  obtain ⟨p0, p1, p2, p3, p4⟩ := id P
  have pl := World.block_lt_of_cell? _ _ p0
  simp only at pl
  obtain ⟨c00, c01, c02, c03, c04⟩ := id K0
  have kl := World.block_lt_of_cell? _ _ c00
  simp only at kl
  go_wp2_with fail
  obtain ⟨x, y, r, hV2⟩ := unV_form op ((kid 0).sort n S V) ((kid 0).ev n S V E)
  have HN := hide (unV_N (show _ = tup x y r from hV2))
  have hI := fun w => sVecUn_any op ((kid 0).sort n S V) ((kid 0).ev n S V E) w
  simp only [hV2] at hI
  have HCU := hide hI
  clear hI hV2
  obtain ⟨w2b, hw2b⟩ : ∃ v, v = w2.alloc (.cells #[.int .i64 ((kid 0).sort n S V), .int .i64 ((kid 0).ev n S V E)] 55) := ⟨_, rfl⟩
  have bw2b : Below w2.heap.size w2 w2b := by rw [hw2b]; exact (Below.refl _ _).alloc (Nat.le_refl _) _
  have A0 : w2b.cell? ⟨w2.heap.size, 0, none⟩ = some (.int .i64 ((kid 0).sort n S V)) := by rw [hw2b]; simp [go_sem]
  have A1 : w2b.cell? ⟨w2.heap.size, 1, none⟩ = some (.int .i64 ((kid 0).ev n S V E)) := by rw [hw2b]; simp [go_sem]
  rw [← hw2b]
  clear hw2b
  clear p0 p1 p2 p3 p4 pl kl c00 c01 c02 c03 c04
  replace P := P.later bw2b
  replace K0 := K0.later bw2b
  replace I0 := hide ((unhide I0).later (bw2b.mono (by omega)))
  replace D := hide ((unhide D).later bw2b)
  replace EE := hide ((unhide EE).later bw2b)
  replace kb := Nat.lt_of_lt_of_le kb bw2b.size
  replace kc := Nat.lt_of_lt_of_le kc bw2b.size
  replace BL := BL.trans (bw2b.mono (by omega))
  replace kz := Nat.le_trans kz bw2b.size
  clear bw2b
  obtain ⟨p0, p1, p2, p3, p4⟩ := id P
  have pl := World.block_lt_of_cell? _ _ p0
  simp only at pl
  obtain ⟨c00, c01, c02, c03, c04⟩ := id K0
  have kl := World.block_lt_of_cell? _ _ c00
  simp only at kl
  have Al := World.block_lt_of_cell? _ _ A0
  simp only at Al
  refine (unhide HCU _).mono ?_
  rintro e wz ⟨rfl, bz⟩
  have BZ := BL.trans (bz.mono (by omega))
  go_wp2
  rw [← unhide HN]
  go_ret
  exact ⟨rfl, (by repeat (first | exact Below.refl _ _ | assumption | refine below_drewN ?_ _ | refine Below.drew ?_ | refine Below.alloc ?_ (by first | exact Nat.le_refl _ | exact Below.size (by assumption) | (simp; done) | (simp; omega)) _ | refine Below.setCell ?_ (by first | exact Nat.le_refl _ | exact Below.size (by assumption) | (simp; done) | (simp; omega)) _ | refine Below.trans ?_ (by assumption)))⟩
set_option maxRecDepth 100000 in
set_option maxHeartbeats 4000000 in
theorem l2Do_cmp (bd offd n cap c offe cape hi : Nat) (S : Nat → ByteArray) (V E : Nat → Int) (hV : ∀ i, i < n → 1 ≤ V i ∧ V i ≤ 4) (hn : n ≤ 1048576) (op : Int) (a b : Int) (s : ByteArray) (kid : Nat → TT) (h15 : 15 ≤ op) (h17 : op ≤ 17) (hv : ∀ i, i < 2 → ∀ (ad : Option Addr) (cp : Nat) (w : World), (kid i).In w 0 hi ad → hi ≤ w.heap.size → bd < w.heap.size → c < w.heap.size → Decs w bd offd n S V → Ints w c offe n E → Calls Tryz.prog 48 #[.slice (some ⟨bd, offd, none⟩) n cap, .agg #[.int .i64 (kid i).op, .int .i64 (kid i).a, .int .i64 (kid i).b, .string (kid i).s, .slice ad (kid i).n cp], .slice (some ⟨c, offe, none⟩) n cape] w fun e w' => e = .returned ((.agg #[.int .i64 ((kid i).sort n S V), .int .i64 ((kid i).ev n S V E)])) ∧ Below w.heap.size w w') (ad : Option Addr) (cp : Nat) (w : World) (hin : (TT.node op a b s 2 kid).In w 0 hi ad) (hhi : hi ≤ w.heap.size) (hbd : bd < w.heap.size) (hc : c < w.heap.size) (hd : Decs w bd offd n S V) (he : Ints w c offe n E) :
    Calls Tryz.prog 40 #[.slice (some ⟨bd, offd, none⟩) n cap, .agg #[.int .i64 op, .int .i64 a, .int .i64 b, .string s, .slice ad 2 cp], .slice (some ⟨c, offe, none⟩) n cape] w fun e w' => e = .returned (.int .i64 (b01 (cmpR op ((kid 0).sort n S V) ((kid 0).ev n S V E) ((kid 1).sort n S V) ((kid 1).ev n S V E)))) ∧ Below w.heap.size w w' := by
  have HVC := hide hv
  have HD := hide hd
  have HE := hide he
  clear hv hd he
  obtain ⟨bl, off, rfl, hlo, hbl, AD, CP, hk⟩ := hin.resolve_left (by omega)
  obtain ⟨K0w, _, I0w⟩ := hk 0 (by omega)
  replace K0w : Five w bl off (kid 0) (AD 0) (CP 0) := by simpa using K0w
  obtain ⟨K1w, _, I1w⟩ := hk 1 (by omega)
  replace K1w : Five w bl (off + 5) (kid 1) (AD 1) (CP 1) := by simpa using K1w
  clear hk
  have n22 : (op == 22) = false := by simp; omega
  have d15 : decide (15 ≤ op) = true := by simp; omega
  obtain ⟨c00, c01, c02, c03, c04⟩ := id K0w
  obtain ⟨c10, c11, c12, c13, c14⟩ := id K1w
  have lbl : bl < w.heap.size := Nat.lt_of_lt_of_le hbl hhi
  go_enter Tryz.func40, Tryz.ntmps40
  go_wp2_with fail
  have BL := (Below.refl w.heap.size w).alloc (Nat.le_refl _) (.cells #[.int .i64 op, .int .i64 a, .int .i64 b, .string s, .slice (some ⟨bl, off, none⟩) 2 cp] 33)
  obtain ⟨wa, hwa⟩ : ∃ v, v = w.alloc (.cells #[.int .i64 op, .int .i64 a, .int .i64 b, .string s, .slice (some ⟨bl, off, none⟩) 2 cp] 33) := ⟨_, rfl⟩
  have P : Box5 wa w.heap.size op a b s (some ⟨bl, off, none⟩) 2 cp := by rw [hwa]; exact ⟨by simp [go_sem], by simp [go_sem], by simp [go_sem], by simp [go_sem], by simp [go_sem]⟩
  have kz : w.heap.size + 1 ≤ wa.heap.size := by rw [hwa]; simp
  rw [← hwa] at BL
  try rw [← hwa]
  clear hwa c00 c01 c02 c03 c04 c10 c11 c12 c13 c14
  have D := hide ((unhide HD).later BL)
  have EE := hide ((unhide HE).later BL)
  have kb := Nat.lt_of_lt_of_le hbd BL.size
  have kc := Nat.lt_of_lt_of_le hc BL.size
  have K0 := (K0w).keep (w' := wa) (fun o => BL.cell (p := ⟨bl, o, none⟩) (Nat.lt_of_lt_of_le hbl hhi))
  have I0 := hide (I0w.later (BL.mono hhi))
  have K1 := (K1w).keep (w' := wa) (fun o => BL.cell (p := ⟨bl, o, none⟩) (Nat.lt_of_lt_of_le hbl hhi))
  have I1 := hide (I1w.later (BL.mono hhi))
  obtain ⟨p0, p1, p2, p3, p4⟩ := id P
  have pl := World.block_lt_of_cell? _ _ p0
  simp only at pl
  obtain ⟨c00, c01, c02, c03, c04⟩ := id K0
  obtain ⟨c10, c11, c12, c13, c14⟩ := id K1
  have kl := World.block_lt_of_cell? _ _ c00
  simp only at kl
  refine (unhide HVC 0 (by omega) _ _ _ (unhide I0) (by omega) kb kc (unhide D) (unhide EE)).mono ?_
  rintro e w2 ⟨rfl, b2⟩
  clear p0 p1 p2 p3 p4 pl kl c00 c01 c02 c03 c04 c10 c11 c12 c13 c14
  replace P := P.later b2
  replace K0 := K0.later b2
  replace I0 := hide ((unhide I0).later (b2.mono (by omega)))
  replace K1 := K1.later b2
  replace I1 := hide ((unhide I1).later (b2.mono (by omega)))
  replace D := hide ((unhide D).later b2)
  replace EE := hide ((unhide EE).later b2)
  replace kb := Nat.lt_of_lt_of_le kb b2.size
  replace kc := Nat.lt_of_lt_of_le kc b2.size
  replace BL := BL.trans (b2.mono (by omega))
  replace kz := Nat.le_trans kz b2.size
  clear b2
  obtain ⟨p0, p1, p2, p3, p4⟩ := id P
  have pl := World.block_lt_of_cell? _ _ p0
  simp only at pl
  obtain ⟨c00, c01, c02, c03, c04⟩ := id K0
  obtain ⟨c10, c11, c12, c13, c14⟩ := id K1
  have kl := World.block_lt_of_cell? _ _ c00
  simp only at kl
  go_wp2_with fail
  obtain ⟨w2b, hw2b⟩ : ∃ v, v = w2.alloc (.cells #[.int .i64 ((kid 0).sort n S V), .int .i64 ((kid 0).ev n S V E)] 55) := ⟨_, rfl⟩
  have bw2b : Below w2.heap.size w2 w2b := by rw [hw2b]; exact (Below.refl _ _).alloc (Nat.le_refl _) _
  have A0 : w2b.cell? ⟨w2.heap.size, 0, none⟩ = some (.int .i64 ((kid 0).sort n S V)) := by rw [hw2b]; simp [go_sem]
  have A1 : w2b.cell? ⟨w2.heap.size, 1, none⟩ = some (.int .i64 ((kid 0).ev n S V E)) := by rw [hw2b]; simp [go_sem]
  rw [← hw2b]
  clear hw2b
  clear p0 p1 p2 p3 p4 pl kl c00 c01 c02 c03 c04 c10 c11 c12 c13 c14
  replace P := P.later bw2b
  replace K0 := K0.later bw2b
  replace I0 := hide ((unhide I0).later (bw2b.mono (by omega)))
  replace K1 := K1.later bw2b
  replace I1 := hide ((unhide I1).later (bw2b.mono (by omega)))
  replace D := hide ((unhide D).later bw2b)
  replace EE := hide ((unhide EE).later bw2b)
  replace kb := Nat.lt_of_lt_of_le kb bw2b.size
  replace kc := Nat.lt_of_lt_of_le kc bw2b.size
  replace BL := BL.trans (bw2b.mono (by omega))
  replace kz := Nat.le_trans kz bw2b.size
  clear bw2b
  obtain ⟨p0, p1, p2, p3, p4⟩ := id P
  have pl := World.block_lt_of_cell? _ _ p0
  simp only at pl
  obtain ⟨c00, c01, c02, c03, c04⟩ := id K0
  obtain ⟨c10, c11, c12, c13, c14⟩ := id K1
  have kl := World.block_lt_of_cell? _ _ c00
  simp only at kl
  have Al := World.block_lt_of_cell? _ _ A0
  simp only at Al
  refine (unhide HVC 1 (by omega) _ _ _ (unhide I1) (by omega) kb kc (unhide D) (unhide EE)).mono ?_
  rintro e w3 ⟨rfl, b3⟩
  clear p0 p1 p2 p3 p4 pl kl c00 c01 c02 c03 c04 c10 c11 c12 c13 c14
  replace P := P.later b3
  replace A0 := cell_later b3 A0
  replace A1 := cell_later b3 A1
  replace Al := Nat.lt_of_lt_of_le Al b3.size
  replace K0 := K0.later b3
  replace I0 := hide ((unhide I0).later (b3.mono (by omega)))
  replace K1 := K1.later b3
  replace I1 := hide ((unhide I1).later (b3.mono (by omega)))
  replace D := hide ((unhide D).later b3)
  replace EE := hide ((unhide EE).later b3)
  replace kb := Nat.lt_of_lt_of_le kb b3.size
  replace kc := Nat.lt_of_lt_of_le kc b3.size
  replace BL := BL.trans (b3.mono (by omega))
  replace kz := Nat.le_trans kz b3.size
  clear b3
  obtain ⟨p0, p1, p2, p3, p4⟩ := id P
  have pl := World.block_lt_of_cell? _ _ p0
  simp only at pl
  obtain ⟨c00, c01, c02, c03, c04⟩ := id K0
  obtain ⟨c10, c11, c12, c13, c14⟩ := id K1
  have kl := World.block_lt_of_cell? _ _ c00
  simp only at kl
  go_wp2_with fail
  obtain ⟨w3b, hw3b⟩ : ∃ v, v = w3.alloc (.cells #[.int .i64 ((kid 1).sort n S V), .int .i64 ((kid 1).ev n S V E)] 55) := ⟨_, rfl⟩
  have bw3b : Below w3.heap.size w3 w3b := by rw [hw3b]; exact (Below.refl _ _).alloc (Nat.le_refl _) _
  have B0 : w3b.cell? ⟨w3.heap.size, 0, none⟩ = some (.int .i64 ((kid 1).sort n S V)) := by rw [hw3b]; simp [go_sem]
  have B1 : w3b.cell? ⟨w3.heap.size, 1, none⟩ = some (.int .i64 ((kid 1).ev n S V E)) := by rw [hw3b]; simp [go_sem]
  rw [← hw3b]
  clear hw3b
  clear p0 p1 p2 p3 p4 pl kl c00 c01 c02 c03 c04 c10 c11 c12 c13 c14
  replace P := P.later bw3b
  replace A0 := cell_later bw3b A0
  replace A1 := cell_later bw3b A1
  replace Al := Nat.lt_of_lt_of_le Al bw3b.size
  replace K0 := K0.later bw3b
  replace I0 := hide ((unhide I0).later (bw3b.mono (by omega)))
  replace K1 := K1.later bw3b
  replace I1 := hide ((unhide I1).later (bw3b.mono (by omega)))
  replace D := hide ((unhide D).later bw3b)
  replace EE := hide ((unhide EE).later bw3b)
  replace kb := Nat.lt_of_lt_of_le kb bw3b.size
  replace kc := Nat.lt_of_lt_of_le kc bw3b.size
  replace BL := BL.trans (bw3b.mono (by omega))
  replace kz := Nat.le_trans kz bw3b.size
  clear bw3b
  obtain ⟨p0, p1, p2, p3, p4⟩ := id P
  have pl := World.block_lt_of_cell? _ _ p0
  simp only at pl
  obtain ⟨c00, c01, c02, c03, c04⟩ := id K0
  obtain ⟨c10, c11, c12, c13, c14⟩ := id K1
  have kl := World.block_lt_of_cell? _ _ c00
  simp only at kl
  have Bl := World.block_lt_of_cell? _ _ B0
  simp only at Bl
  refine (sVecCmp_any op ((kid 0).sort n S V) ((kid 0).ev n S V E) ((kid 1).sort n S V) ((kid 1).ev n S V E) _).mono ?_
  rintro e w4 ⟨rfl, b4⟩
  clear p0 p1 p2 p3 p4 pl kl c00 c01 c02 c03 c04 c10 c11 c12 c13 c14
  replace P := P.later b4
  replace A0 := cell_later b4 A0
  replace A1 := cell_later b4 A1
  replace Al := Nat.lt_of_lt_of_le Al b4.size
  replace B0 := cell_later b4 B0
  replace B1 := cell_later b4 B1
  replace Bl := Nat.lt_of_lt_of_le Bl b4.size
  replace K0 := K0.later b4
  replace I0 := hide ((unhide I0).later (b4.mono (by omega)))
  replace K1 := K1.later b4
  replace I1 := hide ((unhide I1).later (b4.mono (by omega)))
  replace D := hide ((unhide D).later b4)
  replace EE := hide ((unhide EE).later b4)
  replace kb := Nat.lt_of_lt_of_le kb b4.size
  replace kc := Nat.lt_of_lt_of_le kc b4.size
  replace BL := BL.trans (b4.mono (by omega))
  replace kz := Nat.le_trans kz b4.size
  clear b4
  obtain ⟨p0, p1, p2, p3, p4⟩ := id P
  have pl := World.block_lt_of_cell? _ _ p0
  simp only at pl
  obtain ⟨c00, c01, c02, c03, c04⟩ := id K0
  obtain ⟨c10, c11, c12, c13, c14⟩ := id K1
  have kl := World.block_lt_of_cell? _ _ c00
  simp only at kl
  go_wp2_with fail
  refine (l2Bool_any _ _).mono ?_
  rintro e wz ⟨rfl, rfl⟩
  go_wp2
  go_ret
  exact ⟨rfl, (by repeat (first | exact Below.refl _ _ | assumption | refine below_drewN ?_ _ | refine Below.drew ?_ | refine Below.alloc ?_ (by first | exact Nat.le_refl _ | exact Below.size (by assumption) | (simp; done) | (simp; omega)) _ | refine Below.setCell ?_ (by first | exact Nat.le_refl _ | exact Below.size (by assumption) | (simp; done) | (simp; omega)) _ | refine Below.trans ?_ (by assumption)))⟩
set_option maxRecDepth 100000 in
set_option maxHeartbeats 4000000 in
theorem l2Do_bin (bd offd n cap c offe cape hi : Nat) (S : Nat → ByteArray) (V E : Nat → Int) (hV : ∀ i, i < n → 1 ≤ V i ∧ V i ≤ 4) (hn : n ≤ 1048576) (op : Int) (a b : Int) (s : ByteArray) (kid : Nat → TT) (h3 : 3 ≤ op) (h14 : op ≤ 14) (hv : ∀ i, i < 2 → ∀ (ad : Option Addr) (cp : Nat) (w : World), (kid i).In w 0 hi ad → hi ≤ w.heap.size → bd < w.heap.size → c < w.heap.size → Decs w bd offd n S V → Ints w c offe n E → Calls Tryz.prog 48 #[.slice (some ⟨bd, offd, none⟩) n cap, .agg #[.int .i64 (kid i).op, .int .i64 (kid i).a, .int .i64 (kid i).b, .string (kid i).s, .slice ad (kid i).n cp], .slice (some ⟨c, offe, none⟩) n cape] w fun e w' => e = .returned ((.agg #[.int .i64 ((kid i).sort n S V), .int .i64 ((kid i).ev n S V E)])) ∧ Below w.heap.size w w') (ad : Option Addr) (cp : Nat) (w : World) (hin : (TT.node op a b s 2 kid).In w 0 hi ad) (hhi : hi ≤ w.heap.size) (hbd : bd < w.heap.size) (hc : c < w.heap.size) (hd : Decs w bd offd n S V) (he : Ints w c offe n E) :
    Calls Tryz.prog 40 #[.slice (some ⟨bd, offd, none⟩) n cap, .agg #[.int .i64 op, .int .i64 a, .int .i64 b, .string s, .slice ad 2 cp], .slice (some ⟨c, offe, none⟩) n cape] w fun e w' => e = .returned (.int .i64 (binE op ((kid 0).sort n S V) ((kid 0).ev n S V E) ((kid 1).sort n S V) ((kid 1).ev n S V E))) ∧ Below w.heap.size w w' := by
  have HVC := hide hv
  have HD := hide hd
  have HE := hide he
  clear hv hd he
  obtain ⟨bl, off, rfl, hlo, hbl, AD, CP, hk⟩ := hin.resolve_left (by omega)
  obtain ⟨K0w, _, I0w⟩ := hk 0 (by omega)
  replace K0w : Five w bl off (kid 0) (AD 0) (CP 0) := by simpa using K0w
  obtain ⟨K1w, _, I1w⟩ := hk 1 (by omega)
  replace K1w : Five w bl (off + 5) (kid 1) (AD 1) (CP 1) := by simpa using K1w
  clear hk
  have n22 : (op == 22) = false := by simp; omega
  have d15 : decide (15 ≤ op) = false := by simp; omega
  obtain ⟨c00, c01, c02, c03, c04⟩ := id K0w
  obtain ⟨c10, c11, c12, c13, c14⟩ := id K1w
  have lbl : bl < w.heap.size := Nat.lt_of_lt_of_le hbl hhi
  go_enter Tryz.func40, Tryz.ntmps40
  go_wp2_with fail
  have BL := (Below.refl w.heap.size w).alloc (Nat.le_refl _) (.cells #[.int .i64 op, .int .i64 a, .int .i64 b, .string s, .slice (some ⟨bl, off, none⟩) 2 cp] 33)
  obtain ⟨wa, hwa⟩ : ∃ v, v = w.alloc (.cells #[.int .i64 op, .int .i64 a, .int .i64 b, .string s, .slice (some ⟨bl, off, none⟩) 2 cp] 33) := ⟨_, rfl⟩
  have P : Box5 wa w.heap.size op a b s (some ⟨bl, off, none⟩) 2 cp := by rw [hwa]; exact ⟨by simp [go_sem], by simp [go_sem], by simp [go_sem], by simp [go_sem], by simp [go_sem]⟩
  have kz : w.heap.size + 1 ≤ wa.heap.size := by rw [hwa]; simp
  rw [← hwa] at BL
  try rw [← hwa]
  clear hwa c00 c01 c02 c03 c04 c10 c11 c12 c13 c14
  have D := hide ((unhide HD).later BL)
  have EE := hide ((unhide HE).later BL)
  have kb := Nat.lt_of_lt_of_le hbd BL.size
  have kc := Nat.lt_of_lt_of_le hc BL.size
  have K0 := (K0w).keep (w' := wa) (fun o => BL.cell (p := ⟨bl, o, none⟩) (Nat.lt_of_lt_of_le hbl hhi))
  have I0 := hide (I0w.later (BL.mono hhi))
  have K1 := (K1w).keep (w' := wa) (fun o => BL.cell (p := ⟨bl, o, none⟩) (Nat.lt_of_lt_of_le hbl hhi))
  have I1 := hide (I1w.later (BL.mono hhi))
  obtain ⟨p0, p1, p2, p3, p4⟩ := id P
  have pl := World.block_lt_of_cell? _ _ p0
  simp only at pl
  obtain ⟨c00, c01, c02, c03, c04⟩ := id K0
  obtain ⟨c10, c11, c12, c13, c14⟩ := id K1
  have kl := World.block_lt_of_cell? _ _ c00
  simp only at kl
  refine (unhide HVC 0 (by omega) _ _ _ (unhide I0) (by omega) kb kc (unhide D) (unhide EE)).mono ?_
  rintro e w2 ⟨rfl, b2⟩
  clear p0 p1 p2 p3 p4 pl kl c00 c01 c02 c03 c04 c10 c11 c12 c13 c14
  replace P := P.later b2
  replace K0 := K0.later b2
  replace I0 := hide ((unhide I0).later (b2.mono (by omega)))
  replace K1 := K1.later b2
  replace I1 := hide ((unhide I1).later (b2.mono (by omega)))
  replace D := hide ((unhide D).later b2)
  replace EE := hide ((unhide EE).later b2)
  replace kb := Nat.lt_of_lt_of_le kb b2.size
  replace kc := Nat.lt_of_lt_of_le kc b2.size
  replace BL := BL.trans (b2.mono (by omega))
  replace kz := Nat.le_trans kz b2.size
  clear b2
  obtain ⟨p0, p1, p2, p3, p4⟩ := id P
  have pl := World.block_lt_of_cell? _ _ p0
  simp only at pl
  obtain ⟨c00, c01, c02, c03, c04⟩ := id K0
  obtain ⟨c10, c11, c12, c13, c14⟩ := id K1
  have kl := World.block_lt_of_cell? _ _ c00
  simp only at kl
  go_wp2_with fail
  obtain ⟨w2b, hw2b⟩ : ∃ v, v = w2.alloc (.cells #[.int .i64 ((kid 0).sort n S V), .int .i64 ((kid 0).ev n S V E)] 55) := ⟨_, rfl⟩
  have bw2b : Below w2.heap.size w2 w2b := by rw [hw2b]; exact (Below.refl _ _).alloc (Nat.le_refl _) _
  have A0 : w2b.cell? ⟨w2.heap.size, 0, none⟩ = some (.int .i64 ((kid 0).sort n S V)) := by rw [hw2b]; simp [go_sem]
  have A1 : w2b.cell? ⟨w2.heap.size, 1, none⟩ = some (.int .i64 ((kid 0).ev n S V E)) := by rw [hw2b]; simp [go_sem]
  rw [← hw2b]
  clear hw2b
  clear p0 p1 p2 p3 p4 pl kl c00 c01 c02 c03 c04 c10 c11 c12 c13 c14
  replace P := P.later bw2b
  replace K0 := K0.later bw2b
  replace I0 := hide ((unhide I0).later (bw2b.mono (by omega)))
  replace K1 := K1.later bw2b
  replace I1 := hide ((unhide I1).later (bw2b.mono (by omega)))
  replace D := hide ((unhide D).later bw2b)
  replace EE := hide ((unhide EE).later bw2b)
  replace kb := Nat.lt_of_lt_of_le kb bw2b.size
  replace kc := Nat.lt_of_lt_of_le kc bw2b.size
  replace BL := BL.trans (bw2b.mono (by omega))
  replace kz := Nat.le_trans kz bw2b.size
  clear bw2b
  obtain ⟨p0, p1, p2, p3, p4⟩ := id P
  have pl := World.block_lt_of_cell? _ _ p0
  simp only at pl
  obtain ⟨c00, c01, c02, c03, c04⟩ := id K0
  obtain ⟨c10, c11, c12, c13, c14⟩ := id K1
  have kl := World.block_lt_of_cell? _ _ c00
  simp only at kl
  have Al := World.block_lt_of_cell? _ _ A0
  simp only at Al
  refine (unhide HVC 1 (by omega) _ _ _ (unhide I1) (by omega) kb kc (unhide D) (unhide EE)).mono ?_
  rintro e w3 ⟨rfl, b3⟩
  clear p0 p1 p2 p3 p4 pl kl c00 c01 c02 c03 c04 c10 c11 c12 c13 c14
  replace P := P.later b3
  replace A0 := cell_later b3 A0
  replace A1 := cell_later b3 A1
  replace Al := Nat.lt_of_lt_of_le Al b3.size
  replace K0 := K0.later b3
  replace I0 := hide ((unhide I0).later (b3.mono (by omega)))
  replace K1 := K1.later b3
  replace I1 := hide ((unhide I1).later (b3.mono (by omega)))
  replace D := hide ((unhide D).later b3)
  replace EE := hide ((unhide EE).later b3)
  replace kb := Nat.lt_of_lt_of_le kb b3.size
  replace kc := Nat.lt_of_lt_of_le kc b3.size
  replace BL := BL.trans (b3.mono (by omega))
  replace kz := Nat.le_trans kz b3.size
  clear b3
  obtain ⟨p0, p1, p2, p3, p4⟩ := id P
  have pl := World.block_lt_of_cell? _ _ p0
  simp only at pl
  obtain ⟨c00, c01, c02, c03, c04⟩ := id K0
  obtain ⟨c10, c11, c12, c13, c14⟩ := id K1
  have kl := World.block_lt_of_cell? _ _ c00
  simp only at kl
  go_wp2_with fail
  obtain ⟨w3b, hw3b⟩ : ∃ v, v = w3.alloc (.cells #[.int .i64 ((kid 1).sort n S V), .int .i64 ((kid 1).ev n S V E)] 55) := ⟨_, rfl⟩
  have bw3b : Below w3.heap.size w3 w3b := by rw [hw3b]; exact (Below.refl _ _).alloc (Nat.le_refl _) _
  have B0 : w3b.cell? ⟨w3.heap.size, 0, none⟩ = some (.int .i64 ((kid 1).sort n S V)) := by rw [hw3b]; simp [go_sem]
  have B1 : w3b.cell? ⟨w3.heap.size, 1, none⟩ = some (.int .i64 ((kid 1).ev n S V E)) := by rw [hw3b]; simp [go_sem]
  rw [← hw3b]
  clear hw3b
  clear p0 p1 p2 p3 p4 pl kl c00 c01 c02 c03 c04 c10 c11 c12 c13 c14
  replace P := P.later bw3b
  replace A0 := cell_later bw3b A0
  replace A1 := cell_later bw3b A1
  replace Al := Nat.lt_of_lt_of_le Al bw3b.size
  replace K0 := K0.later bw3b
  replace I0 := hide ((unhide I0).later (bw3b.mono (by omega)))
  replace K1 := K1.later bw3b
  replace I1 := hide ((unhide I1).later (bw3b.mono (by omega)))
  replace D := hide ((unhide D).later bw3b)
  replace EE := hide ((unhide EE).later bw3b)
  replace kb := Nat.lt_of_lt_of_le kb bw3b.size
  replace kc := Nat.lt_of_lt_of_le kc bw3b.size
  replace BL := BL.trans (bw3b.mono (by omega))
  replace kz := Nat.le_trans kz bw3b.size
  clear bw3b
  obtain ⟨p0, p1, p2, p3, p4⟩ := id P
  have pl := World.block_lt_of_cell? _ _ p0
  simp only at pl
  obtain ⟨c00, c01, c02, c03, c04⟩ := id K0
  obtain ⟨c10, c11, c12, c13, c14⟩ := id K1
  have kl := World.block_lt_of_cell? _ _ c00
  simp only at kl
  have Bl := World.block_lt_of_cell? _ _ B0
  simp only at Bl
  obtain ⟨x, y, r, hV2⟩ := binV_form op ((kid 0).sort n S V) ((kid 0).ev n S V E) ((kid 1).sort n S V) ((kid 1).ev n S V E)
  have HN := hide (binV_N (show _ = tup x y r from hV2))
  have hI := fun w => sVecBin_any op ((kid 0).sort n S V) ((kid 0).ev n S V E) ((kid 1).sort n S V) ((kid 1).ev n S V E) w
  simp only [hV2] at hI
  have HCU := hide hI
  clear hI hV2
  refine (unhide HCU _).mono ?_
  rintro e wz ⟨rfl, bz⟩
  have BZ := BL.trans (bz.mono (by omega))
  go_wp2
  rw [← unhide HN]
  go_ret
  exact ⟨rfl, (by repeat (first | exact Below.refl _ _ | assumption | refine below_drewN ?_ _ | refine Below.drew ?_ | refine Below.alloc ?_ (by first | exact Nat.le_refl _ | exact Below.size (by assumption) | (simp; done) | (simp; omega)) _ | refine Below.setCell ?_ (by first | exact Nat.le_refl _ | exact Below.size (by assumption) | (simp; done) | (simp; omega)) _ | refine Below.trans ?_ (by assumption)))⟩
end Go.Proofs.YtbincnedkclfgaaGreat
