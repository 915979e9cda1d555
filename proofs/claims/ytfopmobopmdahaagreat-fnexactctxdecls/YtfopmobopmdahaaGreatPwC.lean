/- What the program's partWorth, termWorth and TermSort return. -/
import Derived.Test.YtfopmobopmdahaaGreatPwB
namespace Go.Proofs.YtfopmobopmdahaaGreat
open Go.ChangeShapes Go.WideShapes Go.ChangeAt Go.RowKit Go.Joins
set_option linter.unusedVariables false
set_option linter.unusedSimpArgs false

set_option maxRecDepth 100000 in
set_option maxHeartbeats 2000000 in
theorem pw_none (B n : Nat) (S : Nat → ByteArray) (V E : Nat → Int) (op a b : Int) (s : ByteArray) (m : Nat) (kid : Nat → TT) (hop : op < 1 ∨ 27 < op ∨ op = 18 ∨ op = 19) (har : arity op = -1) (mv : Value) (ad : Option Addr) (cp : Nat) (w : World) :
    Calls Tryz.prog 89 #[mv, .agg #[.int .i64 op, .int .i64 a, .int .i64 b, .string s, .slice ad m cp]] w fun e w' => PwAns n S V E (.node op a b s m kid) e ∧ Below w.heap.size w w' := by
  have HS := hide (show (TT.node op a b s m kid).sort n S V = -1 from sort_no (fun h => by have := h.2.2; omega))
  go_enter Tryz.func89, Tryz.ntmps89
  go_wp2_with fail
  have e1 := ((Below.refl w.heap.size w).alloc (Nat.le_refl _) (.cells #[.int .i64 op, .int .i64 a, .int .i64 b, .string s, .slice ad m cp] 50)).alloc (by simp) (.cells #[.int .i64 0, .int .i64 0] 107)
  refine (kind_none _ _ _ _ _ _ _ _ hop).mono ?_
  rintro e w1 ⟨rfl, b1⟩
  have r0 : w1.cell? ⟨w.heap.size + 1, 0, none⟩ = some (.int .i64 0) := cell_later b1 (by simp [go_sem])
  have r1 : w1.cell? ⟨w.heap.size + 1, 1, none⟩ = some (.int .i64 0) := cell_later b1 (by simp [go_sem])
  have f0 : w1.frozen? ⟨w.heap.size + 1, 0, none⟩ = false := by rw [b1.frozen (by simp)]; simp [go_sem]
  have f1 : w1.frozen? ⟨w.heap.size + 1, 1, none⟩ = false := by rw [b1.frozen (by simp)]; simp [go_sem]
  have BL := e1.trans (b1.mono (by simp; omega))
  clear b1 e1
  go_wp2_with fail
  refine wp_region_held_drew (S := (fun _ => True)) (by kernel_rfl) ?_ (fun hHeld => ?_)
  · exact trivial
  refine wpAnyH_take (i := 0) (v := ?_) rfl (by kernel_rfl) (by kernel_rfl) (by kernel_rfl) (fun _ _ _ h => h) (Or.inl ⟨by rfl, ?_⟩) (by assumption) ?_
  rotate_left
  · (intro w hSw; (try dsimp only at hSw); first | (go_simp; done) | (go_simp; with_reducible rfl))
  try simp only [List.getElem_toArray, List.getElem_cons_succ, List.getElem_cons_zero, Act.put, List.setIfInBounds_toArray, List.set_cons_zero, List.set_cons_succ]
  refine wpAnyH_take (i := 1) (v := ?_) rfl (by kernel_rfl) (by kernel_rfl) (by kernel_rfl) (fun _ _ _ h => h) (Or.inl ⟨by rfl, ?_⟩) (by assumption) ?_
  rotate_left
  · (intro w hSw; (try dsimp only at hSw); first | (go_simp; done) | (go_simp; with_reducible rfl))
  try simp only [List.getElem_toArray, List.getElem_cons_succ, List.getElem_cons_zero, Act.put, List.setIfInBounds_toArray, List.set_cons_zero, List.set_cons_succ]
  refine wpAnyH_take (i := 2) (v := ?_) rfl (by kernel_rfl) (by kernel_rfl) (by kernel_rfl) (fun _ _ _ h => h) (Or.inl ⟨by rfl, ?_⟩) (by assumption) ?_
  rotate_left
  · (intro w hSw; (try dsimp only at hSw); first | (go_simp; done) | (go_simp; with_reducible rfl))
  try simp only [List.getElem_toArray, List.getElem_cons_succ, List.getElem_cons_zero, Act.put, List.setIfInBounds_toArray, List.set_cons_zero, List.set_cons_succ]
  refine wpAnyH_take (i := 3) (v := undef) rfl (by kernel_rfl) (by kernel_rfl) (by kernel_rfl) (fun _ _ _ h => h) (Or.inr ⟨by rfl, rfl⟩) (by assumption) ?_
  try simp only [List.getElem_toArray, List.getElem_cons_succ, List.getElem_cons_zero, Act.put, List.setIfInBounds_toArray, List.set_cons_zero, List.set_cons_succ]
  refine wpAnyH_take (i := 4) (v := undef) rfl (by kernel_rfl) (by kernel_rfl) (by kernel_rfl) (fun _ _ _ h => h) (Or.inr ⟨by rfl, rfl⟩) (by assumption) ?_
  try simp only [List.getElem_toArray, List.getElem_cons_succ, List.getElem_cons_zero, Act.put, List.setIfInBounds_toArray, List.set_cons_zero, List.set_cons_succ]
  refine wpAnyH_take (i := 5) (v := undef) rfl (by kernel_rfl) (by kernel_rfl) (by kernel_rfl) (fun _ _ _ h => h) (Or.inr ⟨by rfl, rfl⟩) (by assumption) ?_
  try simp only [List.getElem_toArray, List.getElem_cons_succ, List.getElem_cons_zero, Act.put, List.setIfInBounds_toArray, List.set_cons_zero, List.set_cons_succ]
  refine wpAnyH_take (i := 6) (v := undef) rfl (by kernel_rfl) (by kernel_rfl) (by kernel_rfl) (fun _ _ _ h => h) (Or.inr ⟨by rfl, rfl⟩) (by assumption) ?_
  try simp only [List.getElem_toArray, List.getElem_cons_succ, List.getElem_cons_zero, Act.put, List.setIfInBounds_toArray, List.set_cons_zero, List.set_cons_succ]
  refine wpAnyH_take (i := 7) (v := undef) rfl (by kernel_rfl) (by kernel_rfl) (by kernel_rfl) (fun _ _ _ h => h) (Or.inr ⟨by rfl, rfl⟩) (by assumption) ?_
  try simp only [List.getElem_toArray, List.getElem_cons_succ, List.getElem_cons_zero, Act.put, List.setIfInBounds_toArray, List.set_cons_zero, List.set_cons_succ]
  refine wpAnyH_take (i := 8) (v := ?_) rfl (by kernel_rfl) (by kernel_rfl) (by kernel_rfl) (fun _ _ _ h => h) (Or.inl ⟨by rfl, ?_⟩) (by assumption) ?_
  rotate_left
  · (intro w hSw; (try dsimp only at hSw); first | (go_simp; done) | (go_simp; with_reducible rfl))
  try simp only [List.getElem_toArray, List.getElem_cons_succ, List.getElem_cons_zero, Act.put, List.setIfInBounds_toArray, List.set_cons_zero, List.set_cons_succ]
  refine wpAnyH_take (i := 9) (v := ?_) rfl (by kernel_rfl) (by kernel_rfl) (by kernel_rfl) (fun _ _ _ h => h) (Or.inl ⟨by rfl, ?_⟩) (by assumption) ?_
  rotate_left
  · (intro w hSw; (try dsimp only at hSw); first | (go_simp; done) | (go_simp; with_reducible rfl))
  try simp only [List.getElem_toArray, List.getElem_cons_succ, List.getElem_cons_zero, Act.put, List.setIfInBounds_toArray, List.set_cons_zero, List.set_cons_succ]
  refine wpAnyH_take (i := 10) (v := undef) rfl (by kernel_rfl) (by kernel_rfl) (by kernel_rfl) (fun _ _ _ h => h) (Or.inr ⟨by rfl, rfl⟩) (by assumption) ?_
  try simp only [List.getElem_toArray, List.getElem_cons_succ, List.getElem_cons_zero, Act.put, List.setIfInBounds_toArray, List.set_cons_zero, List.set_cons_succ]
  refine wpAnyH_take (i := 11) (v := undef) rfl (by kernel_rfl) (by kernel_rfl) (by kernel_rfl) (fun _ _ _ h => h) (Or.inr ⟨by rfl, rfl⟩) (by assumption) ?_
  try simp only [List.getElem_toArray, List.getElem_cons_succ, List.getElem_cons_zero, Act.put, List.setIfInBounds_toArray, List.set_cons_zero, List.set_cons_succ]
  refine wpAnyH_take (i := 12) (v := undef) rfl (by kernel_rfl) (by kernel_rfl) (by kernel_rfl) (fun _ _ _ h => h) (Or.inr ⟨by rfl, rfl⟩) (by assumption) ?_
  try simp only [List.getElem_toArray, List.getElem_cons_succ, List.getElem_cons_zero, Act.put, List.setIfInBounds_toArray, List.set_cons_zero, List.set_cons_succ]
  refine wpAnyH_take (i := 13) (v := undef) rfl (by kernel_rfl) (by kernel_rfl) (by kernel_rfl) (fun _ _ _ h => h) (Or.inr ⟨by rfl, rfl⟩) (by assumption) ?_
  try simp only [List.getElem_toArray, List.getElem_cons_succ, List.getElem_cons_zero, Act.put, List.setIfInBounds_toArray, List.set_cons_zero, List.set_cons_succ]
  refine wpAnyH_take (i := 14) (v := undef) rfl (by kernel_rfl) (by kernel_rfl) (by kernel_rfl) (fun _ _ _ h => h) (Or.inr ⟨by rfl, rfl⟩) (by assumption) ?_
  try simp only [List.getElem_toArray, List.getElem_cons_succ, List.getElem_cons_zero, Act.put, List.setIfInBounds_toArray, List.set_cons_zero, List.set_cons_succ]
  refine wpAnyH_take (i := 15) (v := undef) rfl (by kernel_rfl) (by kernel_rfl) (by kernel_rfl) (fun _ _ _ h => h) (Or.inr ⟨by rfl, rfl⟩) (by assumption) ?_
  try simp only [List.getElem_toArray, List.getElem_cons_succ, List.getElem_cons_zero, Act.put, List.setIfInBounds_toArray, List.set_cons_zero, List.set_cons_succ]
  refine wpAnyH_take (i := 16) (v := ?_) rfl (by kernel_rfl) (by kernel_rfl) (by kernel_rfl) (fun _ _ _ h => h) (Or.inl ⟨by rfl, ?_⟩) (by assumption) ?_
  rotate_left
  · (intro w hSw; (try dsimp only at hSw); first | (go_simp; done) | (go_simp; with_reducible rfl))
  try simp only [List.getElem_toArray, List.getElem_cons_succ, List.getElem_cons_zero, Act.put, List.setIfInBounds_toArray, List.set_cons_zero, List.set_cons_succ]
  refine wpAnyH_done (by kernel_rfl) ?_ _
  go_wp2
  exact bodyPost_ret (v := .tuple #[.agg #[.int .i64 0, .int .i64 0], .bool false]) (by simp [results, Tryz.results89, go_sem, r0, r1]) rfl ⟨⟨_, _, _, rfl, Ans.no rfl (unhide HS)⟩, by first | exact (BL.setCell (by simp) _).setCell (by simp) _ | exact ((BL.drew).setCell (by simp) _).setCell (by simp) _⟩

theorem partWorth_any (hi B n : Nat) (S : Nat → ByteArray) (V E : Nat → Int) (hEnv : ∀ i, i < n → okB (V i) (E i) = true) (t : TT) : ∀ (ad : Option Addr) (cp : Nat) (w : World), t.In w 0 hi ad → t.Fit 1048576 → hi ≤ w.heap.size → Known w B n S V E →
    Calls Tryz.prog 89 #[.map (some B), .agg #[.int .i64 t.op, .int .i64 t.a, .int .i64 t.b, .string t.s, .slice ad t.n cp]] w fun e w' => PwAns n S V E t e ∧ Below w.heap.size w w' := by
  induction t with
  | nil => intro ad cp w hin; exact hin.elim
  | node op a b s m kid ih =>
    intro ad cp w hin hft hhi hkn
    obtain ⟨fm, fs, fk⟩ := hft
    have ih' : ∀ i, i < m → ∀ (ad : Option Addr) (cp : Nat) (w : World), (kid i).In w 0 hi ad → hi ≤ w.heap.size → Known w B n S V E → Calls Tryz.prog 89 #[.map (some B), .agg #[.int .i64 (kid i).op, .int .i64 (kid i).a, .int .i64 (kid i).b, .string (kid i).s, .slice ad (kid i).n cp]] w fun e w' => PwAns n S V E (kid i) e ∧ Below w.heap.size w w' :=
      fun i hi' ad cp w h1 h2 h3 => ih i ad cp w h1 (fk i hi') h2 h3
    show Calls Tryz.prog 89 #[.map (some B), .agg #[.int .i64 op, .int .i64 a, .int .i64 b, .string s, .slice ad m cp]] w _
    rcases arity_cases op with ⟨h, e⟩ | ⟨h, e⟩ | ⟨h, e⟩ | ⟨h, e⟩ | ⟨h, e⟩ | ⟨h, e⟩
    · rcases h with h | h | h
      · exact pw_vec hi B n S V E hEnv op a b s m kid h fs fm ih' ad cp w hin hhi hkn
      · exact pw_name hi B n S V E hEnv op a b s m kid h fs fm ih' ad cp w hin hhi hkn
      · exact pw_tru hi B n S V E hEnv op a b s m kid h fs fm ih' ad cp w hin hhi hkn
    · rcases h with h | h | h | h
      · exact pw_un hi B n S V E hEnv op a b s m kid (Or.inl h) fs fm ih' ad cp w hin hhi hkn
      · exact pw_un hi B n S V E hEnv op a b s m kid (Or.inr h) fs fm ih' ad cp w hin hhi hkn
      · exact pw_cut hi B n S V E hEnv op a b s m kid h fs fm ih' ad cp w hin hhi hkn
      · exact pw_no hi B n S V E hEnv op a b s m kid h fs fm ih' ad cp w hin hhi hkn
    · exact pw_iff hi B n S V E hEnv op a b s m kid h fs fm ih' ad cp w hin hhi hkn
    · rcases h with h | h
      · exact pw_both hi B n S V E hEnv op a b s m kid h fs fm ih' ad cp w hin hhi hkn
      · exact pw_any hi B n S V E hEnv op a b s m kid h fs fm ih' ad cp w hin hhi hkn
    · by_cases h14 : op ≤ 14
      · exact pw_bin hi B n S V E hEnv op a b s m kid (by omega) fs fm ih' ad cp w hin hhi hkn
      · exact pw_cmp hi B n S V E hEnv op a b s m kid (by omega) fs fm ih' ad cp w hin hhi hkn
    · exact pw_none B n S V E op a b s m kid h e _ ad cp w

/-- A term that is not too great, with numbers that are right. -/
def RightAll (n l : Nat) (S : Nat → ByteArray) (V E : Nat → Int) (t : TT) : Prop := (t.N ≤ 20 ∧ t.D ≤ 7) ∧ EnvP n l S V E
set_option maxRecDepth 100000 in
set_option maxHeartbeats 4000000 in
theorem termWorth_any (bd offd n cap c offe l cape hi : Nat) (S : Nat → ByteArray) (V E : Nat → Int) (hn : n ≤ 1048576) (hnc : n ≤ cap) (hl : l ≤ 1048576) (hs : ∀ i, i < n → (S i).size ≤ 1048576) (t : TT) (ad : Option Addr) (cp : Nat) (w : World)
    (hin : t.In w 0 hi ad) (hft : t.Fit 1048576) (hhi : hi ≤ w.heap.size) (hbd : bd < w.heap.size) (hd : Decs w bd offd n S V) (hc : c < w.heap.size) (he : Ints w c offe l E) :
    Calls Tryz.prog 82 #[.slice (some ⟨bd, offd, none⟩) n cap, .agg #[.int .i64 t.op, .int .i64 t.a, .int .i64 t.b, .string t.s, .slice ad t.n cp], .slice (some ⟨c, offe, none⟩) l cape] w fun e w' =>
      (∃ x y r, e = .returned (.tuple #[.agg #[.int .i64 x, .int .i64 y], .bool r]) ∧ (RightAll n l S V E t → Ans (t.sort n S V) (t.ev n S V E) x y r) ∧ (¬ RightAll n l S V E t → r = false)) ∧ Below w.heap.size w w' := by
  have HS := hide hs
  have HD := hide hd
  have HE := hide he
  have HI := hide hin
  have HF := hide hft
  clear hs hd hin hft he
  go_enter Tryz.func82, Tryz.ntmps82
  go_wp2_with fail
  have e1 := ((Below.refl w.heap.size w).alloc (Nat.le_refl _) (.cells #[.int .i64 t.op, .int .i64 t.a, .int .i64 t.b, .string t.s, .slice ad t.n cp] 50)).alloc (by simp) (.cells #[.int .i64 0, .int .i64 0] 107)
  refine (iMany_any hi t _ _ _ ((unhide HI).later (e1.mono hhi)) (unhide HF) (by simp; omega)).mono ?_
  rintro e w1 ⟨rfl, b1⟩
  have P : Five w1 w.heap.size 0 t ad cp := ⟨cell_later b1 (by simp [go_sem]), cell_later b1 (by simp [go_sem]), cell_later b1 (by simp [go_sem]), cell_later b1 (by simp [go_sem]), cell_later b1 (by simp [go_sem])⟩
  have r0 : w1.cell? ⟨w.heap.size + 1, 0, none⟩ = some (.int .i64 0) := cell_later b1 (by simp [go_sem])
  have r1 : w1.cell? ⟨w.heap.size + 1, 1, none⟩ = some (.int .i64 0) := cell_later b1 (by simp [go_sem])
  have f0 : w1.frozen? ⟨w.heap.size + 1, 0, none⟩ = false := by rw [b1.frozen (by simp)]; simp [go_sem]
  have f1 : w1.frozen? ⟨w.heap.size + 1, 1, none⟩ = false := by rw [b1.frozen (by simp)]; simp [go_sem]
  have BL := e1.trans (b1.mono (by simp; omega))
  have kz : w.heap.size + 2 ≤ w1.heap.size := by have := b1.size; simp at this; omega
  replace HI := hide ((unhide HI).later (BL.mono hhi))
  replace HD := hide ((unhide HD).later BL)
  replace HE := hide ((unhide HE).later BL)
  have kb := Nat.lt_of_lt_of_le hbd BL.size
  have kc := Nat.lt_of_lt_of_le hc BL.size
  clear b1 e1
  by_cases hm : t.N ≤ 20 ∧ t.D ≤ 7
  · rw [manyV_yes hm]
    have HM := hide hm
    obtain ⟨m1, m2⟩ := hm
    obtain ⟨p0, p1, p2, p3, p4⟩ := id P
    go_wp2_with fail
    refine (iEnvOk_any _ _ _ _ _ _ _ _ _ _ _ _ kb (unhide HD) hnc hn (unhide HS) kc (unhide HE) hl).mono ?_
    rintro e w2 ⟨rfl, b2⟩
    clear p0 p1 p2 p3 p4
    replace P := P.later b2
    replace f0 := fz_later b2 r0 f0
    replace f1 := fz_later b2 r1 f1
    replace r0 := cell_later b2 r0
    replace r1 := cell_later b2 r1
    replace HI := hide ((unhide HI).later (b2.mono (by omega)))
    replace HD := hide ((unhide HD).later b2)
    replace HE := hide ((unhide HE).later b2)
    replace BL := BL.trans (b2.mono BL.size)
    replace kz := Nat.le_trans kz b2.size
    replace kb := Nat.lt_of_lt_of_le kb b2.size
    replace kc := Nat.lt_of_lt_of_le kc b2.size
    clear b2
    obtain ⟨p0, p1, p2, p3, p4⟩ := id P
    by_cases hE : EnvP n l S V E
    · have heb := envB_yes hE
      have HR : Hid (RightAll n l S V E t) := ⟨unhide HM, hE⟩
      obtain ⟨hDP, hnl, hok⟩ := hE
      subst hnl
      have HOK := hide hok
      have HNE : Hid (∀ i, i < n → ∀ j, j < i → (S j).toList ≠ (S i).toList) := fun i hi => (hDP.2.1 i hi).2.2.2
      have hn4 := hDP.1
      clear hok hDP
      go_wp2_with fail
      have nb : ¬ w.heap.size + 1 = w.heap.size := by omega
      refine wp_region_held_drew (S := (fun w' => w'.cell? ⟨w.heap.size, 0, none⟩ = some (.int .i64 t.op) ∧ w'.cell? ⟨w.heap.size, 1, none⟩ = some (.int .i64 t.a) ∧ w'.cell? ⟨w.heap.size, 2, none⟩ = some (.int .i64 t.b) ∧ w'.cell? ⟨w.heap.size, 3, none⟩ = some (.string t.s) ∧ w'.cell? ⟨w.heap.size, 4, none⟩ = some (.slice ad t.n cp))) (by kernel_rfl) ?_ (fun hHeld => ?_)
      · exact ⟨p0, p1, p2, p3, p4⟩
      refine wpAnyH_take (i := 0) (v := ?_) rfl (by kernel_rfl) (by kernel_rfl) (by kernel_rfl) (fun _ _ _ h => h) (Or.inl ⟨by rfl, ?_⟩) (by assumption) ?_
      rotate_left
      · (intro w hSw; (try dsimp only at hSw); first | (go_simp; done) | (go_simp; with_reducible rfl))
      try simp only [List.getElem_toArray, List.getElem_cons_succ, List.getElem_cons_zero, Act.put, List.setIfInBounds_toArray, List.set_cons_zero, List.set_cons_succ]
      refine wpAnyH_take (i := 1) (v := ?_) rfl (by kernel_rfl) (by kernel_rfl) (by kernel_rfl) (fun _ _ _ h => h) (Or.inl ⟨by rfl, ?_⟩) (by assumption) ?_
      rotate_left
      · (intro w hSw; (try dsimp only at hSw); first | (go_simp; done) | (go_simp; with_reducible rfl))
      try simp only [List.getElem_toArray, List.getElem_cons_succ, List.getElem_cons_zero, Act.put, List.setIfInBounds_toArray, List.set_cons_zero, List.set_cons_succ]
      refine wpAnyH_take (i := 3) (v := ?_) rfl (by kernel_rfl) (by kernel_rfl) (by kernel_rfl) (fun _ _ _ h => h) (Or.inl ⟨by rfl, ?_⟩) (by assumption) ?_
      rotate_left
      · (intro w hSw; (try dsimp only at hSw); first | (go_simp; done) | (go_simp; with_reducible rfl))
      try simp only [List.getElem_toArray, List.getElem_cons_succ, List.getElem_cons_zero, Act.put, List.setIfInBounds_toArray, List.set_cons_zero, List.set_cons_succ]
      refine wpAnyH_ready (rs := [2]) (by kernel_rfl) (by simp) ?_
      refine AllReadyH.cons rfl (fun K hK => ?_) AllReadyH.nil
      go_simp
      refine (known_any bd offd n cap c offe cape S V E _ (by exact kb) (by exact unhide HD) (by exact kc) (by exact unhide HE) hn4 (unhide HNE) (unhide HS)).mono ?_
      rintro e w3 ⟨⟨B, rfl, hkn⟩, b3⟩
      have HK := hide hkn
      clear hkn
      replace P := Five.later (by exact P) b3
      replace f0 := fzl b3 (World.block_lt_of_cell? _ _ (by exact r0)) (by exact f0)
      replace f1 := fzl b3 (World.block_lt_of_cell? _ _ (by exact r1)) (by exact f1)
      replace r0 := cell_later b3 (by exact r0)
      replace r1 := cell_later b3 (by exact r1)
      replace HI := hide (show t.In _ 0 hi ad from by first | exact (unhide HI).later (b3.mono (by exact Nat.le_trans hhi (Nat.le_trans (Nat.le_add_right _ _) kz))) | exact (unhide HI).drew.later (b3.mono (by exact Nat.le_trans hhi (Nat.le_trans (Nat.le_add_right _ _) kz))))
      replace BL := (show Below w.heap.size w _ from by first | exact BL.trans (b3.mono (by exact Nat.le_trans (Nat.le_add_right _ _) kz)) | exact BL.drew.trans (b3.mono (by exact Nat.le_trans (Nat.le_add_right _ _) kz)))
      replace kz := Nat.le_trans kz b3.size
      clear b3
      go_wp2_with fail
      refine hK.out _ _ ?_ (fun hHeld => ?_)
      · exact ⟨P.1, P.2.1, P.2.2.1, P.2.2.2.1, P.2.2.2.2⟩
      clear hK K
      try simp only [List.getElem_toArray, List.getElem_cons_succ, List.getElem_cons_zero, Act.put, List.setIfInBounds_toArray, List.set_cons_zero, List.set_cons_succ]
      refine wpAnyH_ready (rs := [4]) (by kernel_rfl) (by simp) ?_
      refine AllReadyH.cons rfl (fun K hK => ?_) AllReadyH.nil
      go_simp
      refine (partWorth_any hi B n S V E (unhide HOK) t _ _ _ (unhide HI) (unhide HF) (by omega) (unhide HK)).mono ?_
      rintro e w4 ⟨⟨x, y, r, rfl, hans⟩, b4⟩
      have HA := hide hans
      clear hans
      replace P := Five.later (by exact P) b4
      replace f0 := fzl b4 (World.block_lt_of_cell? _ _ (by exact r0)) (by exact f0)
      replace f1 := fzl b4 (World.block_lt_of_cell? _ _ (by exact r1)) (by exact f1)
      replace r0 := cell_later b4 (by exact r0)
      replace r1 := cell_later b4 (by exact r1)
      replace HI := hide (show t.In _ 0 hi ad from by first | exact (unhide HI).later (b4.mono (by exact Nat.le_trans hhi (Nat.le_trans (Nat.le_add_right _ _) kz))) | exact (unhide HI).drew.later (b4.mono (by exact Nat.le_trans hhi (Nat.le_trans (Nat.le_add_right _ _) kz))))
      replace BL := (show Below w.heap.size w _ from by first | exact BL.trans (b4.mono (by exact Nat.le_trans (Nat.le_add_right _ _) kz)) | exact BL.drew.trans (b4.mono (by exact Nat.le_trans (Nat.le_add_right _ _) kz)))
      replace kz := Nat.le_trans kz b4.size
      clear b4
      go_wp2_with fail
      refine hK.out _ _ ?_ (fun hHeld => ?_)
      · exact ⟨P.1, P.2.1, P.2.2.1, P.2.2.2.1, P.2.2.2.2⟩
      clear hK K
      try simp only [List.getElem_toArray, List.getElem_cons_succ, List.getElem_cons_zero, Act.put, List.setIfInBounds_toArray, List.set_cons_zero, List.set_cons_succ]
      refine wpAnyH_take (i := 5) (v := ?_) rfl (by kernel_rfl) (by kernel_rfl) (by kernel_rfl) (fun _ _ _ h => h) (Or.inl ⟨by rfl, ?_⟩) (by assumption) ?_
      rotate_left
      · (intro w hSw; (try dsimp only at hSw); first | (go_simp; done) | (go_simp; with_reducible rfl))
      try simp only [List.getElem_toArray, List.getElem_cons_succ, List.getElem_cons_zero, Act.put, List.setIfInBounds_toArray, List.set_cons_zero, List.set_cons_succ]
      refine wpAnyH_take (i := 6) (v := ?_) rfl (by kernel_rfl) (by kernel_rfl) (by kernel_rfl) (fun _ _ _ h => h) (Or.inl ⟨by rfl, ?_⟩) (by assumption) ?_
      rotate_left
      · (intro w hSw; (try dsimp only at hSw); first | (go_simp; done) | (go_simp; with_reducible rfl))
      try simp only [List.getElem_toArray, List.getElem_cons_succ, List.getElem_cons_zero, Act.put, List.setIfInBounds_toArray, List.set_cons_zero, List.set_cons_succ]
      refine wpAnyH_ready (rs := [7]) (by kernel_rfl) (by simp) ?_
      refine AllReadyH.cons rfl (fun K hK => ?_) AllReadyH.nil
      go_simp
      refine hK.out _ _ ?_ (fun hHeld => ?_)
      · exact (by simp only [World.cell?_setCell_far, nb, ne_eq, not_false_eq_true]; exact ⟨P.1, P.2.1, P.2.2.1, P.2.2.2.1, P.2.2.2.2⟩)
      clear hK K
      try simp only [List.getElem_toArray, List.getElem_cons_succ, List.getElem_cons_zero, Act.put, List.setIfInBounds_toArray, List.set_cons_zero, List.set_cons_succ]
      refine wpAnyH_take (i := 8) (v := ?_) rfl (by kernel_rfl) (by kernel_rfl) (by kernel_rfl) (fun _ _ _ h => h) (Or.inl ⟨by rfl, ?_⟩) (by assumption) ?_
      rotate_left
      · (intro w hSw; (try dsimp only at hSw); first | (go_simp; done) | (go_simp; with_reducible rfl))
      try simp only [List.getElem_toArray, List.getElem_cons_succ, List.getElem_cons_zero, Act.put, List.setIfInBounds_toArray, List.set_cons_zero, List.set_cons_succ]
      refine wpAnyH_done (by kernel_rfl) ?_ _
      go_wp2
      exact bodyPost_ret (v := .tuple #[.agg #[.int .i64 x, .int .i64 y], .bool r]) (by simp [results, Tryz.results82, go_sem, r0, r1]) rfl ⟨⟨_, _, _, rfl, fun _ => unhide HA, fun h => (h (unhide HR)).elim⟩, (BL.setCell (by simp) _).setCell (by simp) _⟩
    · have heb := envB_no hE
      have HR : Hid (¬ RightAll n l S V E t) := fun h => hE h.2
      clear hE
      go_wp2
      exact bodyPost_ret (v := .tuple #[.agg #[.int .i64 0, .int .i64 0], .bool false]) (by simp [results, Tryz.results82, go_sem, r0, r1]) rfl ⟨⟨_, _, _, rfl, fun h => (unhide HR h).elim, fun _ => rfl⟩, (BL.setCell (by simp) _).setCell (by simp) _⟩
  · rw [manyV_no hm]
    have HR : Hid (¬ RightAll n l S V E t) := fun h => hm h.1
    clear hm
    obtain ⟨p0, p1, p2, p3, p4⟩ := id P
    go_wp2
    exact bodyPost_ret (v := .tuple #[.agg #[.int .i64 0, .int .i64 0], .bool false]) (by simp [results, Tryz.results82, go_sem, r0, r1]) rfl ⟨⟨_, _, _, rfl, fun h => (unhide HR h).elim, fun _ => rfl⟩, (BL.setCell (by simp) _).setCell (by simp) _⟩
end Go.Proofs.YtfopmobopmdahaaGreat
