/- What TermEval of the model and of the program return. -/
import Derived.Test.YtbincnedkclfgaaGreatEvB
namespace Go.Proofs.YtbincnedkclfgaaGreat
open Go.ChangeShapes Go.WideShapes Go.ChangeAt Go.RowKit Go.Joins
set_option linter.unusedVariables false
set_option linter.unusedSimpArgs false

/-- What TermEval answers. -/
def EvalP (n l : Nat) (S : Nat → ByteArray) (V E : Nat → Int) (t : TT) : Prop := 0 ≤ tsort n S V t ∧ EnvP n l S V E
noncomputable def evalV (n l : Nat) (S : Nat → ByteArray) (V E : Nat → Int) (t : TT) : Value := @ite _ (EvalP n l S V E t) (Classical.propDecidable _) (.tuple #[.int .i64 (t.ev n S V E), .bool true]) (.tuple #[.int .i64 0, .bool false])
theorem evalV_yes {n l : Nat} {S : Nat → ByteArray} {V E : Nat → Int} {t : TT} (h : EvalP n l S V E t) : evalV n l S V E t = .tuple #[.int .i64 (t.ev n S V E), .bool true] := if_pos h
theorem evalV_no {n l : Nat} {S : Nat → ByteArray} {V E : Nat → Int} {t : TT} (h : ¬ EvalP n l S V E t) : evalV n l S V E t = .tuple #[.int .i64 0, .bool false] := if_neg h
theorem tsort_right {n : Nat} {S : Nat → ByteArray} {V : Nat → Int} {t : TT} (h : 0 ≤ tsort n S V t) : (DeclP n S V ∧ t.N ≤ 20 ∧ t.D ≤ 7) ∧ 0 ≤ t.sort n S V := by
  by_cases hc : DeclP n S V ∧ t.N ≤ 20 ∧ t.D ≤ 7
  · rw [tsort_yes hc] at h; exact ⟨hc, h⟩
  · rw [tsort_no hc] at h; omega
set_option maxRecDepth 100000 in
set_option maxHeartbeats 4000000 in
theorem iTermEval_any (bd offd n cap c offe l cape hi : Nat) (S : Nat → ByteArray) (V E : Nat → Int) (hn : n ≤ 1048576) (hnc : n ≤ cap) (hl : l ≤ 1048576) (hs : ∀ i, i < n → (S i).size ≤ 1048576) (t : TT) (ad : Option Addr) (cp : Nat) (w : World)
    (hin : t.In w 0 hi ad) (hft : t.Fit 1048576) (hhi : hi ≤ w.heap.size) (hbd : bd < w.heap.size) (hd : Decs w bd offd n S V) (hc : c < w.heap.size) (he : Ints w c offe l E) :
    Calls Tryz.prog 15 #[.slice (some ⟨bd, offd, none⟩) n cap, .agg #[.int .i64 t.op, .int .i64 t.a, .int .i64 t.b, .string t.s, .slice ad t.n cp], .slice (some ⟨c, offe, none⟩) l cape] w fun e w' => e = .returned (evalV n l S V E t) ∧ Below w.heap.size w w' := by
  have e1 := (Below.refl w.heap.size w).alloc (Nat.le_refl _) (.cells #[.int .i64 t.op, .int .i64 t.a, .int .i64 t.b, .string t.s, .slice ad t.n cp] 33)
  have HC := hide (termWorth_any bd offd n cap c offe l cape hi S V E hn hnc hl hs t ad cp _ (hin.later (e1.mono hhi)) hft (by simp; omega) (Nat.lt_of_lt_of_le hbd e1.size) (hd.later e1) (Nat.lt_of_lt_of_le hc e1.size) (he.later e1))
  clear hin hft hd he hs
  go_enter Tryz.func15, Tryz.ntmps15
  go_wp2_with fail
  refine (unhide HC).mono ?_
  rintro e w2 ⟨⟨x, y, r, rfl, hA, hN⟩, b2⟩
  have BL := e1.trans (b2.mono (by simp))
  clear HC e1 b2
  cases r
  · have HE : Hid (evalV n l S V E t = .tuple #[.int .i64 0, .bool false]) := evalV_no (fun h => by
      obtain ⟨hc, hsn⟩ := tsort_right h.1
      have := (hA ⟨hc.2, h.2⟩).2 rfl
      omega)
    clear hA hN
    go_wp2
    exact bodyPost_ret (v := .tuple #[.int .i64 0, .bool false]) (by simp [results, Tryz.results15, go_sem]) rfl ⟨by rw [unhide HE], (by repeat (first | exact Below.refl _ _ | assumption | refine below_drewN ?_ _ | refine Below.drew ?_ | refine Below.alloc ?_ (by first | exact Nat.le_refl _ | exact Below.size (by assumption) | (simp; done) | (simp; omega)) _ | refine Below.setCell ?_ (by first | exact Nat.le_refl _ | exact Below.size (by assumption) | (simp; done) | (simp; omega)) _ | refine Below.trans ?_ (by assumption)))⟩
  · have HE : Hid (evalV n l S V E t = .tuple #[.int .i64 y, .bool true]) := by
      by_cases hR : RightAll n l S V E t
      · obtain ⟨h1, h2, h3⟩ := (hA hR).1 rfl
        have hnn : 0 ≤ t.sort n S V := by
          rw [← h1]
          rcases h3.cases with ⟨k, _⟩ | ⟨k, _⟩ <;> omega
        have := evalV_yes (show EvalP n l S V E t from ⟨by rw [tsort_yes ⟨hR.2.1, hR.1⟩]; exact hnn, hR.2⟩)
        rw [← h2] at this
        exact this
      · have := hN hR
        cases this
    clear hA hN
    go_wp2
    exact bodyPost_ret (v := .tuple #[.int .i64 y, .bool true]) (by simp [results, Tryz.results15, go_sem]) rfl ⟨by rw [unhide HE], (by repeat (first | exact Below.refl _ _ | assumption | refine below_drewN ?_ _ | refine Below.drew ?_ | refine Below.alloc ?_ (by first | exact Nat.le_refl _ | exact Below.size (by assumption) | (simp; done) | (simp; omega)) _ | refine Below.setCell ?_ (by first | exact Nat.le_refl _ | exact Below.size (by assumption) | (simp; done) | (simp; omega)) _ | refine Below.trans ?_ (by assumption)))⟩
set_option maxRecDepth 100000 in
set_option maxHeartbeats 4000000 in
theorem sTermEval_any (bd offd n cap c offe l cape hi : Nat) (S : Nat → ByteArray) (V E : Nat → Int) (hn : n ≤ 1048576) (hnc : n ≤ cap) (hl : l ≤ 1048576) (hs : ∀ i, i < n → (S i).size ≤ 1048576) (t : TT) (ad : Option Addr) (cp : Nat) (w : World)
    (hin : t.In w 0 hi ad) (hft : t.Fit 1048576) (hhi : hi ≤ w.heap.size) (hbd : bd < w.heap.size) (hd : Decs w bd offd n S V) (hc : c < w.heap.size) (he : Ints w c offe l E) :
    Calls Tryz.prog 13 #[.slice (some ⟨bd, offd, none⟩) n cap, .agg #[.int .i64 t.op, .int .i64 t.a, .int .i64 t.b, .string t.s, .slice ad t.n cp], .slice (some ⟨c, offe, none⟩) l cape] w fun e w' => e = .returned (evalV n l S V E t) ∧ Below w.heap.size w w' := by
  have HI := hide hin
  have HD := hide hd
  have HE := hide he
  have HS := hide hs
  have HF := hide hft
  clear hin hd he hs hft
  go_enter Tryz.func13, Tryz.ntmps13
  go_wp2_with fail
  have e1 := (Below.refl w.heap.size w).alloc (Nat.le_refl _) (.cells #[.int .i64 t.op, .int .i64 t.a, .int .i64 t.b, .string t.s, .slice ad t.n cp] 33)
  refine (sTermSort_any bd offd n cap hi S V hn hnc (unhide HS) t ad cp _ ((unhide HI).later (e1.mono hhi)) (unhide HF) (by simp; omega) (Nat.lt_of_lt_of_le hbd e1.size) ((unhide HD).later e1)).mono ?_
  rintro e w1 ⟨rfl, b1⟩
  have P : Five w1 w.heap.size 0 t ad cp := ⟨cell_later b1 (by simp [go_sem]), cell_later b1 (by simp [go_sem]), cell_later b1 (by simp [go_sem]), cell_later b1 (by simp [go_sem]), cell_later b1 (by simp [go_sem])⟩
  have BL := e1.trans (b1.mono (by simp))
  replace HI := hide ((unhide HI).later (BL.mono hhi))
  replace HD := hide ((unhide HD).later BL)
  replace HE := hide ((unhide HE).later BL)
  have kb := Nat.lt_of_lt_of_le hbd BL.size
  have kc := Nat.lt_of_lt_of_le hc BL.size
  have kz := Nat.le_trans hhi BL.size
  clear b1 e1
  obtain ⟨p0, p1, p2, p3, p4⟩ := id P
  by_cases h0 : 0 ≤ tsort n S V t
  · go_wp2_with fail
    refine (sEnvOk_any _ _ _ _ _ _ _ _ _ _ _ _ kb (unhide HD) hnc hn (unhide HS) kc (unhide HE) hl).mono ?_
    rintro e w2 ⟨rfl, b2⟩
    clear p0 p1 p2 p3 p4
    replace P := P.later b2
    replace HI := hide ((unhide HI).later (b2.mono kz))
    replace HD := hide ((unhide HD).later b2)
    replace HE := hide ((unhide HE).later b2)
    replace BL := BL.trans (b2.mono BL.size)
    replace kb := Nat.lt_of_lt_of_le kb b2.size
    replace kc := Nat.lt_of_lt_of_le kc b2.size
    replace kz := Nat.le_trans kz b2.size
    clear b2
    obtain ⟨p0, p1, p2, p3, p4⟩ := id P
    by_cases hE : EnvP n l S V E
    · have heb := envB_yes hE
      have HV : Hid (evalV n l S V E t = .tuple #[.int .i64 (t.ev n S V E), .bool true]) := evalV_yes ⟨h0, hE⟩
      have HR := hide (tsort_right h0).2
      obtain ⟨hDP, hnl, hok⟩ := hE
      subst hnl
      have HOK := hide hok
      have HVV : Hid (∀ i, i < n → 1 ≤ V i ∧ V i ≤ 4) := fun i hi => by obtain ⟨h1, h2, h3, _⟩ := hDP.2.1 i hi; exact ⟨by omega, by omega⟩
      clear hok hDP
      go_wp2_with fail
      refine (l2Eval_any _ _ _ _ _ _ _ hi S V E (unhide HVV) hn (unhide HOK) t (unhide HR) _ _ _ (unhide HI) kz kb kc (unhide HD) (unhide HE)).mono ?_
      rintro e w3 ⟨rfl, b3⟩
      replace BL := BL.trans (b3.mono BL.size)
      clear b3 p0 p1 p2 p3 p4
      go_wp2
      exact bodyPost_ret (v := .tuple #[.int .i64 (t.ev n S V E), .bool true]) (by simp [results, Tryz.results13, go_sem]) rfl ⟨by rw [unhide HV], (by repeat (first | exact Below.refl _ _ | assumption | refine below_drewN ?_ _ | refine Below.drew ?_ | refine Below.alloc ?_ (by first | exact Nat.le_refl _ | exact Below.size (by assumption) | (simp; done) | (simp; omega)) _ | refine Below.setCell ?_ (by first | exact Nat.le_refl _ | exact Below.size (by assumption) | (simp; done) | (simp; omega)) _ | refine Below.trans ?_ (by assumption)))⟩
    · have heb := envB_no hE
      have HV : Hid (evalV n l S V E t = .tuple #[.int .i64 0, .bool false]) := evalV_no (fun h => hE h.2)
      clear hE
      go_wp2
      exact bodyPost_ret (v := .tuple #[.int .i64 0, .bool false]) (by simp [results, Tryz.results13, go_sem]) rfl ⟨by rw [unhide HV], (by repeat (first | exact Below.refl _ _ | assumption | refine below_drewN ?_ _ | refine Below.drew ?_ | refine Below.alloc ?_ (by first | exact Nat.le_refl _ | exact Below.size (by assumption) | (simp; done) | (simp; omega)) _ | refine Below.setCell ?_ (by first | exact Nat.le_refl _ | exact Below.size (by assumption) | (simp; done) | (simp; omega)) _ | refine Below.trans ?_ (by assumption)))⟩
  · have HV : Hid (evalV n l S V E t = .tuple #[.int .i64 0, .bool false]) := evalV_no (fun h => h0 h.1)
    go_wp2
    exact bodyPost_ret (v := .tuple #[.int .i64 0, .bool false]) (by simp [results, Tryz.results13, go_sem]) rfl ⟨by rw [unhide HV], (by repeat (first | exact Below.refl _ _ | assumption | refine below_drewN ?_ _ | refine Below.drew ?_ | refine Below.alloc ?_ (by first | exact Nat.le_refl _ | exact Below.size (by assumption) | (simp; done) | (simp; omega)) _ | refine Below.setCell ?_ (by first | exact Nat.le_refl _ | exact Below.size (by assumption) | (simp; done) | (simp; omega)) _ | refine Below.trans ?_ (by assumption)))⟩
end Go.Proofs.YtbincnedkclfgaaGreat
