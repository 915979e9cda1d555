/- The sort of a term, of the model. -/
import Derived.Test.YtfopmobopmdahaaGreatSrtB
namespace Go.Proofs.YtfopmobopmdahaaGreat
open Go.ChangeShapes Go.WideShapes Go.ChangeAt Go.RowKit Go.Joins
set_option linter.unusedVariables false

/-- The sort of a term, with these names; -1 of one that is not right. -/
noncomputable def TT.sort (n : Nat) (S : Nat → ByteArray) (V : Nat → Int) : TT → Int
  | .nil => -1
  | .node op a b s m kid =>
    @ite _ (PlainP op a b s m) (Classical.propDecidable _)
      (if op = 20 then (if okB a b = true then a else -1) else if op = 21 then (if findI S s n < 0 then -1 else V (findI S s n).toNat) else if op = 24 then 0
        else if m = 1 then oneS op a b ((kid 0).sort n S V) else if m = 2 then bothS op ((kid 0).sort n S V) ((kid 1).sort n S V)
        else if (kid 0).sort n S V ≠ 0 ∨ (kid 1).sort n S V ≠ (kid 2).sort n S V then -1 else (kid 1).sort n S V)
      (-1)
theorem sort_no {n : Nat} {S : Nat → ByteArray} {V : Nat → Int} {op a b : Int} {s : ByteArray} {m : Nat} {kid : Nat → TT} (h : ¬ PlainP op a b s m) : (TT.node op a b s m kid).sort n S V = -1 := by simp [TT.sort, h]
theorem sort_plain {n : Nat} {S : Nat → ByteArray} {V : Nat → Int} {op a b : Int} {s : ByteArray} {m : Nat} {kid : Nat → TT} (h : PlainP op a b s m) : (TT.node op a b s m kid).sort n S V =
      (if op = 20 then (if okB a b = true then a else -1) else if op = 21 then (if findI S s n < 0 then -1 else V (findI S s n).toNat) else if op = 24 then 0
        else if m = 1 then oneS op a b ((kid 0).sort n S V) else if m = 2 then bothS op ((kid 0).sort n S V) ((kid 1).sort n S V)
        else if (kid 0).sort n S V ≠ 0 ∨ (kid 1).sort n S V ≠ (kid 2).sort n S V then -1 else (kid 1).sort n S V) := by
  rw [TT.sort]
  exact if_pos h
theorem one_bd (op A B a : Int) (ha : -1 ≤ a) (ha4 : a ≤ 4) : -1 ≤ oneS op A B a ∧ oneS op A B a ≤ 4 := by
  unfold oneS
  repeat' split
  all_goals omega
theorem both_bd (op a b : Int) (ha : -1 ≤ a) (ha4 : a ≤ 4) : -1 ≤ bothS op a b ∧ bothS op a b ≤ 4 := by
  unfold bothS
  repeat' split
  all_goals omega
theorem sort_bd {n : Nat} {S : Nat → ByteArray} {V : Nat → Int} (hV : ∀ i, i < n → 1 ≤ V i ∧ V i ≤ 4) : ∀ t : TT, -1 ≤ t.sort n S V ∧ t.sort n S V ≤ 4 := by
  intro t
  induction t with
  | nil => simp [TT.sort]
  | node op a b s m kid ih =>
    by_cases h : PlainP op a b s m
    · rw [sort_plain h]
      split
      · split
        · rename_i hok
          have := hok
          simp [okB] at this
          omega
        · omega
      · split
        · split
          · omega
          · rename_i hf
            rcases findI_cases S s n with ⟨f1, _⟩ | ⟨k, hk, f1, _, _⟩
            · omega
            · rw [f1]
              have := hV k hk
              simp only [Int.toNat_natCast]
              omega
        · split
          · omega
          · split
            · exact one_bd _ _ _ _ (ih 0).1 (ih 0).2
            · split
              · exact both_bd _ _ _ (ih 0).1 (ih 0).2
              · split
                · omega
                · exact ih 1
    · rw [sort_no h]; omega
/-- The five cells of a term's box. -/
def Box5 (w : World) (bl : Nat) (op a b : Int) (s : ByteArray) (ad : Option Addr) (m cp : Nat) : Prop :=
  w.cell? ⟨bl, 0, none⟩ = some (.int .i64 op) ∧ w.cell? ⟨bl, 1, none⟩ = some (.int .i64 a) ∧ w.cell? ⟨bl, 2, none⟩ = some (.int .i64 b) ∧ w.cell? ⟨bl, 3, none⟩ = some (.string s) ∧ w.cell? ⟨bl, 4, none⟩ = some (.slice ad m cp)
theorem Box5.later {w w' : World} {bl : Nat} {op a b : Int} {s : ByteArray} {ad : Option Addr} {m cp : Nat} (h : Box5 w bl op a b s ad m cp) (hb : Below w.heap.size w w') : Box5 w' bl op a b s ad m cp :=
  ⟨cell_later hb h.1, cell_later hb h.2.1, cell_later hb h.2.2.1, cell_later hb h.2.2.2.1, cell_later hb h.2.2.2.2⟩
set_option maxRecDepth 100000 in
set_option maxHeartbeats 4000000 in
theorem l2Sort_any (bd offd n cap hi : Nat) (S : Nat → ByteArray) (V : Nat → Int) (hV : ∀ i, i < n → 1 ≤ V i ∧ V i ≤ 4) (hn : n ≤ 1048576) (t : TT) : ∀ (ad : Option Addr) (cp : Nat) (w : World), t.In w 0 hi ad → hi ≤ w.heap.size → bd < w.heap.size → Decs w bd offd n S V →
    Calls Tryz.prog 65 #[.slice (some ⟨bd, offd, none⟩) n cap, .agg #[.int .i64 t.op, .int .i64 t.a, .int .i64 t.b, .string t.s, .slice ad t.n cp]] w fun e w' => e = .returned (.int .i64 (t.sort n S V)) ∧ Below w.heap.size w w' := by
  induction t with
  | nil => intro ad cp w hin; exact hin.elim
  | node op a b s m kid ih =>
    intro ad cp w hin hhi hbd hd
    show Calls Tryz.prog 65 #[.slice (some ⟨bd, offd, none⟩) n cap, .agg #[.int .i64 op, .int .i64 a, .int .i64 b, .string s, .slice ad m cp]] w _
    have IH := hide ih
    have HD := hide hd
    have HV := hide hV
    have HB := hide (fun i => sort_bd (n := n) (S := S) hV (kid i))
    clear ih hd hV
    by_cases hpl : PlainP op a b s m
    · have hpb := plainB_yes hpl
      have hso := sort_plain (n := n) (S := S) (V := V) (kid := kid) hpl
      have har := hpl.2.2
      have HP := hide hpl
      clear hpl
      rcases arity_cases op with ⟨h, e⟩ | ⟨h, e⟩ | ⟨h, e⟩ | ⟨h, e⟩ | ⟨h, e⟩ | ⟨h, e⟩
      · rcases h with rfl | rfl | rfl
        · have hm : m = 0 := by omega
          subst hm
          clear hin
          cases hv : okB a b
          · rw [if_pos rfl, hv, if_neg (by simp)] at hso
            rw [hso]
            clear hso HB
            go_enter Tryz.func65, Tryz.ntmps65
            go_wp2_with fail
            have e1 := (Below.refl w.heap.size w).alloc (Nat.le_refl _) (.cells #[.int .i64 20, .int .i64 a, .int .i64 b, .string s, .slice ad 0 cp] 50)
            refine (plain_any _ _ _ _ _ _ _ _).mono ?_
            rintro e w1 ⟨rfl, b1⟩
            have P : Box5 w1 w.heap.size 20 a b s ad 0 cp := ⟨cell_later b1 (by simp [go_sem]), cell_later b1 (by simp [go_sem]), cell_later b1 (by simp [go_sem]), cell_later b1 (by simp [go_sem]), cell_later b1 (by simp [go_sem])⟩
            have BL := e1.trans (b1.mono (by simp))
            have kz := Nat.le_trans hhi BL.size
            have D := hide ((unhide HD).later BL)
            have bd1 := Nat.lt_of_lt_of_le hbd BL.size
            clear e1 b1 HD
            obtain ⟨p0, p1, p2, p3, p4⟩ := id P
            go_wp2_with fail
            refine (sVecOk_any _ _ _).mono ?_
            rintro e w2 ⟨rfl, b2⟩
            clear p0 p1 p2 p3 p4
            replace P := P.later b2
            replace D := hide ((unhide D).later b2)
            replace bd1 := Nat.lt_of_lt_of_le bd1 b2.size
            replace BL := BL.trans (b2.mono BL.size)
            replace kz := Nat.le_trans hhi BL.size
            clear b2
            obtain ⟨p0, p1, p2, p3, p4⟩ := id P
            rw [hv]
            go_wp2
            go_ret
            exact ⟨rfl, BL⟩
          · rw [if_pos rfl, hv, if_pos rfl] at hso
            rw [hso]
            clear hso HB
            go_enter Tryz.func65, Tryz.ntmps65
            go_wp2_with fail
            have e1 := (Below.refl w.heap.size w).alloc (Nat.le_refl _) (.cells #[.int .i64 20, .int .i64 a, .int .i64 b, .string s, .slice ad 0 cp] 50)
            refine (plain_any _ _ _ _ _ _ _ _).mono ?_
            rintro e w1 ⟨rfl, b1⟩
            have P : Box5 w1 w.heap.size 20 a b s ad 0 cp := ⟨cell_later b1 (by simp [go_sem]), cell_later b1 (by simp [go_sem]), cell_later b1 (by simp [go_sem]), cell_later b1 (by simp [go_sem]), cell_later b1 (by simp [go_sem])⟩
            have BL := e1.trans (b1.mono (by simp))
            have kz := Nat.le_trans hhi BL.size
            have D := hide ((unhide HD).later BL)
            have bd1 := Nat.lt_of_lt_of_le hbd BL.size
            clear e1 b1 HD
            obtain ⟨p0, p1, p2, p3, p4⟩ := id P
            go_wp2_with fail
            refine (sVecOk_any _ _ _).mono ?_
            rintro e w2 ⟨rfl, b2⟩
            clear p0 p1 p2 p3 p4
            replace P := P.later b2
            replace D := hide ((unhide D).later b2)
            replace bd1 := Nat.lt_of_lt_of_le bd1 b2.size
            replace BL := BL.trans (b2.mono BL.size)
            replace kz := Nat.le_trans hhi BL.size
            clear b2
            obtain ⟨p0, p1, p2, p3, p4⟩ := id P
            rw [hv]
            go_wp2
            go_ret
            exact ⟨rfl, BL⟩
        · have hm : m = 0 := by omega
          subst hm
          clear hin HB
          rw [if_neg (by omega), if_pos rfl] at hso
          rcases findI_cases S s n with ⟨f1, f2⟩ | ⟨k, k1, f1, f2, f3⟩
          · rw [f1, if_pos (by omega)] at hso
            rw [hso]
            clear hso f2
            go_enter Tryz.func65, Tryz.ntmps65
            go_wp2_with fail
            have e1 := (Below.refl w.heap.size w).alloc (Nat.le_refl _) (.cells #[.int .i64 21, .int .i64 a, .int .i64 b, .string s, .slice ad 0 cp] 50)
            refine (plain_any _ _ _ _ _ _ _ _).mono ?_
            rintro e w1 ⟨rfl, b1⟩
            have P : Box5 w1 w.heap.size 21 a b s ad 0 cp := ⟨cell_later b1 (by simp [go_sem]), cell_later b1 (by simp [go_sem]), cell_later b1 (by simp [go_sem]), cell_later b1 (by simp [go_sem]), cell_later b1 (by simp [go_sem])⟩
            have BL := e1.trans (b1.mono (by simp))
            have kz := Nat.le_trans hhi BL.size
            have D := hide ((unhide HD).later BL)
            have bd1 := Nat.lt_of_lt_of_le hbd BL.size
            clear e1 b1 HD
            obtain ⟨p0, p1, p2, p3, p4⟩ := id P
            go_wp2_with fail
            refine (l2Find_any bd offd n cap S V _ _ bd1 (unhide D) hn).mono ?_
            rintro e w2 ⟨rfl, rfl⟩
            rw [f1]
            go_wp2
            go_ret
            exact ⟨rfl, BL⟩
          · rw [f1, if_neg (by omega), Int.toNat_natCast] at hso
            rw [hso]
            clear hso f2 f3
            go_enter Tryz.func65, Tryz.ntmps65
            go_wp2_with fail
            have e1 := (Below.refl w.heap.size w).alloc (Nat.le_refl _) (.cells #[.int .i64 21, .int .i64 a, .int .i64 b, .string s, .slice ad 0 cp] 50)
            refine (plain_any _ _ _ _ _ _ _ _).mono ?_
            rintro e w1 ⟨rfl, b1⟩
            have P : Box5 w1 w.heap.size 21 a b s ad 0 cp := ⟨cell_later b1 (by simp [go_sem]), cell_later b1 (by simp [go_sem]), cell_later b1 (by simp [go_sem]), cell_later b1 (by simp [go_sem]), cell_later b1 (by simp [go_sem])⟩
            have BL := e1.trans (b1.mono (by simp))
            have kz := Nat.le_trans hhi BL.size
            have D := hide ((unhide HD).later BL)
            have bd1 := Nat.lt_of_lt_of_le hbd BL.size
            clear e1 b1 HD
            obtain ⟨p0, p1, p2, p3, p4⟩ := id P
            go_wp2_with fail
            refine (l2Find_any bd offd n cap S V _ _ bd1 (unhide D) hn).mono ?_
            rintro e w2 ⟨rfl, rfl⟩
            rw [f1]
            have d1 := (unhide D k k1).2
            go_wp2
            go_ret
            exact ⟨rfl, BL⟩
        · have hm : m = 0 := by omega
          subst hm
          clear hin HB
          rw [if_neg (by omega), if_neg (by omega), if_pos rfl] at hso
          rw [hso]
          clear hso
          go_enter Tryz.func65, Tryz.ntmps65
          go_wp2_with fail
          have e1 := (Below.refl w.heap.size w).alloc (Nat.le_refl _) (.cells #[.int .i64 24, .int .i64 a, .int .i64 b, .string s, .slice ad 0 cp] 50)
          refine (plain_any _ _ _ _ _ _ _ _).mono ?_
          rintro e w1 ⟨rfl, b1⟩
          have P : Box5 w1 w.heap.size 24 a b s ad 0 cp := ⟨cell_later b1 (by simp [go_sem]), cell_later b1 (by simp [go_sem]), cell_later b1 (by simp [go_sem]), cell_later b1 (by simp [go_sem]), cell_later b1 (by simp [go_sem])⟩
          have BL := e1.trans (b1.mono (by simp))
          have kz := Nat.le_trans hhi BL.size
          have D := hide ((unhide HD).later BL)
          have bd1 := Nat.lt_of_lt_of_le hbd BL.size
          clear e1 b1 HD
          obtain ⟨p0, p1, p2, p3, p4⟩ := id P
          go_wp2
          go_ret
          exact ⟨rfl, BL⟩
      · have hm : m = 1 := by omega
        subst hm
        obtain ⟨bl, off, rfl, hlo, hbl, AD, CP, hk⟩ := hin.resolve_left (by omega)
        obtain ⟨K0w, _, I0w⟩ := hk 0 (by omega)
        have hb0 := unhide HB 0
        replace K0w : Five w bl off (kid 0) (AD 0) (CP 0) := by simpa using K0w
        clear hk HB
        rw [if_neg (by omega), if_neg (by omega), if_neg (by omega), if_pos rfl] at hso
        rw [hso]
        clear hso
        have n20 : (op == 20) = false := by simp; omega
        have n21 : (op == 21) = false := by simp; omega
        have n24 : (op == 24) = false := by simp; omega
        go_enter Tryz.func65, Tryz.ntmps65
        go_wp2_with fail
        have e1 := (Below.refl w.heap.size w).alloc (Nat.le_refl _) (.cells #[.int .i64 op, .int .i64 a, .int .i64 b, .string s, .slice (some ⟨bl, off, none⟩) 1 cp] 50)
        refine (plain_any _ _ _ _ _ _ _ _).mono ?_
        rintro e w1 ⟨rfl, b1⟩
        have P : Box5 w1 w.heap.size op a b s (some ⟨bl, off, none⟩) 1 cp := ⟨cell_later b1 (by simp [go_sem]), cell_later b1 (by simp [go_sem]), cell_later b1 (by simp [go_sem]), cell_later b1 (by simp [go_sem]), cell_later b1 (by simp [go_sem])⟩
        have BL := e1.trans (b1.mono (by simp))
        have kz := Nat.le_trans hhi BL.size
        have D := hide ((unhide HD).later BL)
        have bd1 := Nat.lt_of_lt_of_le hbd BL.size
        have K0 := (K0w).keep (w' := w1) (fun o => BL.cell (p := ⟨bl, o, none⟩) (Nat.lt_of_lt_of_le hbl hhi))
        have I0 := hide (I0w.later (BL.mono hhi))
        clear e1 b1 HD
        clear K0w I0w
        obtain ⟨p0, p1, p2, p3, p4⟩ := id P
        obtain ⟨c00, c01, c02, c03, c04⟩ := id K0
        go_wp2_with fail
        refine (unhide IH 0 _ _ _ (unhide I0) kz bd1 (unhide D)).mono ?_
        rintro e w2 ⟨rfl, b2⟩
        clear p0 p1 p2 p3 p4 c00 c01 c02 c03 c04
        replace P := P.later b2
        replace K0 := K0.later b2
        replace I0 := hide ((unhide I0).later (b2.mono kz))
        replace D := hide ((unhide D).later b2)
        replace bd1 := Nat.lt_of_lt_of_le bd1 b2.size
        replace BL := BL.trans (b2.mono BL.size)
        replace kz := Nat.le_trans hhi BL.size
        clear b2
        obtain ⟨p0, p1, p2, p3, p4⟩ := id P
        obtain ⟨c00, c01, c02, c03, c04⟩ := id K0
        go_wp2_with fail
        refine (one_any _ _ _ _ _ _ _ _ _ hb0.1 hb0.2).mono ?_
        rintro e w3 ⟨rfl, b3⟩
        clear p0 p1 p2 p3 p4 c00 c01 c02 c03 c04
        replace P := P.later b3
        replace K0 := K0.later b3
        replace I0 := hide ((unhide I0).later (b3.mono kz))
        replace D := hide ((unhide D).later b3)
        replace bd1 := Nat.lt_of_lt_of_le bd1 b3.size
        replace BL := BL.trans (b3.mono BL.size)
        replace kz := Nat.le_trans hhi BL.size
        clear b3
        obtain ⟨p0, p1, p2, p3, p4⟩ := id P
        obtain ⟨c00, c01, c02, c03, c04⟩ := id K0
        go_wp2
        go_ret
        exact ⟨rfl, BL⟩
      · subst h
        have hm : m = 3 := by omega
        subst hm
        obtain ⟨bl, off, rfl, hlo, hbl, AD, CP, hk⟩ := hin.resolve_left (by omega)
        obtain ⟨K0w, _, I0w⟩ := hk 0 (by omega)
        have hb0 := unhide HB 0
        replace K0w : Five w bl off (kid 0) (AD 0) (CP 0) := by simpa using K0w
        obtain ⟨K1w, _, I1w⟩ := hk 1 (by omega)
        have hb1 := unhide HB 1
        replace K1w : Five w bl (off + 5) (kid 1) (AD 1) (CP 1) := by simpa using K1w
        obtain ⟨K2w, _, I2w⟩ := hk 2 (by omega)
        have hb2 := unhide HB 2
        replace K2w : Five w bl (off + 10) (kid 2) (AD 2) (CP 2) := by simpa using K2w
        clear hk HB
        rw [if_neg (by omega), if_neg (by omega), if_neg (by omega), if_neg (by omega), if_neg (by omega)] at hso
        by_cases h0 : (kid 0).sort n S V = 0
        · have z0 : ((kid 0).sort n S V != 0) = false := by simp [h0]
          by_cases h12 : (kid 1).sort n S V = (kid 2).sort n S V
          · rw [if_neg (by simp [h0, h12])] at hso
            have z1 : ((kid 1).sort n S V != (kid 2).sort n S V) = false := by simp [h12]
            rw [hso]
            clear hso h0 h12
            go_enter Tryz.func65, Tryz.ntmps65
            go_wp2_with fail
            have e1 := (Below.refl w.heap.size w).alloc (Nat.le_refl _) (.cells #[.int .i64 23, .int .i64 a, .int .i64 b, .string s, .slice (some ⟨bl, off, none⟩) 3 cp] 50)
            refine (plain_any _ _ _ _ _ _ _ _).mono ?_
            rintro e w1 ⟨rfl, b1⟩
            have P : Box5 w1 w.heap.size 23 a b s (some ⟨bl, off, none⟩) 3 cp := ⟨cell_later b1 (by simp [go_sem]), cell_later b1 (by simp [go_sem]), cell_later b1 (by simp [go_sem]), cell_later b1 (by simp [go_sem]), cell_later b1 (by simp [go_sem])⟩
            have BL := e1.trans (b1.mono (by simp))
            have kz := Nat.le_trans hhi BL.size
            have D := hide ((unhide HD).later BL)
            have bd1 := Nat.lt_of_lt_of_le hbd BL.size
            have K0 := (K0w).keep (w' := w1) (fun o => BL.cell (p := ⟨bl, o, none⟩) (Nat.lt_of_lt_of_le hbl hhi))
            have I0 := hide (I0w.later (BL.mono hhi))
            have K1 := (K1w).keep (w' := w1) (fun o => BL.cell (p := ⟨bl, o, none⟩) (Nat.lt_of_lt_of_le hbl hhi))
            have I1 := hide (I1w.later (BL.mono hhi))
            have K2 := (K2w).keep (w' := w1) (fun o => BL.cell (p := ⟨bl, o, none⟩) (Nat.lt_of_lt_of_le hbl hhi))
            have I2 := hide (I2w.later (BL.mono hhi))
            clear e1 b1 HD
            clear K0w I0w
            clear K1w I1w
            clear K2w I2w
            obtain ⟨p0, p1, p2, p3, p4⟩ := id P
            obtain ⟨c00, c01, c02, c03, c04⟩ := id K0
            obtain ⟨c10, c11, c12, c13, c14⟩ := id K1
            obtain ⟨c20, c21, c22, c23, c24⟩ := id K2
            go_wp2_with fail
            refine (unhide IH 0 _ _ _ (unhide I0) kz bd1 (unhide D)).mono ?_
            rintro e w2 ⟨rfl, b2⟩
            clear p0 p1 p2 p3 p4 c00 c01 c02 c03 c04 c10 c11 c12 c13 c14 c20 c21 c22 c23 c24
            replace P := P.later b2
            replace K0 := K0.later b2
            replace I0 := hide ((unhide I0).later (b2.mono kz))
            replace K1 := K1.later b2
            replace I1 := hide ((unhide I1).later (b2.mono kz))
            replace K2 := K2.later b2
            replace I2 := hide ((unhide I2).later (b2.mono kz))
            replace D := hide ((unhide D).later b2)
            replace bd1 := Nat.lt_of_lt_of_le bd1 b2.size
            replace BL := BL.trans (b2.mono BL.size)
            replace kz := Nat.le_trans hhi BL.size
            clear b2
            obtain ⟨p0, p1, p2, p3, p4⟩ := id P
            obtain ⟨c00, c01, c02, c03, c04⟩ := id K0
            obtain ⟨c10, c11, c12, c13, c14⟩ := id K1
            obtain ⟨c20, c21, c22, c23, c24⟩ := id K2
            go_wp2_with fail
            refine (unhide IH 1 _ _ _ (unhide I1) kz bd1 (unhide D)).mono ?_
            rintro e w3 ⟨rfl, b3⟩
            clear p0 p1 p2 p3 p4 c00 c01 c02 c03 c04 c10 c11 c12 c13 c14 c20 c21 c22 c23 c24
            replace P := P.later b3
            replace K0 := K0.later b3
            replace I0 := hide ((unhide I0).later (b3.mono kz))
            replace K1 := K1.later b3
            replace I1 := hide ((unhide I1).later (b3.mono kz))
            replace K2 := K2.later b3
            replace I2 := hide ((unhide I2).later (b3.mono kz))
            replace D := hide ((unhide D).later b3)
            replace bd1 := Nat.lt_of_lt_of_le bd1 b3.size
            replace BL := BL.trans (b3.mono BL.size)
            replace kz := Nat.le_trans hhi BL.size
            clear b3
            obtain ⟨p0, p1, p2, p3, p4⟩ := id P
            obtain ⟨c00, c01, c02, c03, c04⟩ := id K0
            obtain ⟨c10, c11, c12, c13, c14⟩ := id K1
            obtain ⟨c20, c21, c22, c23, c24⟩ := id K2
            go_wp2_with fail
            refine (unhide IH 2 _ _ _ (unhide I2) kz bd1 (unhide D)).mono ?_
            rintro e w4 ⟨rfl, b4⟩
            clear p0 p1 p2 p3 p4 c00 c01 c02 c03 c04 c10 c11 c12 c13 c14 c20 c21 c22 c23 c24
            replace P := P.later b4
            replace K0 := K0.later b4
            replace I0 := hide ((unhide I0).later (b4.mono kz))
            replace K1 := K1.later b4
            replace I1 := hide ((unhide I1).later (b4.mono kz))
            replace K2 := K2.later b4
            replace I2 := hide ((unhide I2).later (b4.mono kz))
            replace D := hide ((unhide D).later b4)
            replace bd1 := Nat.lt_of_lt_of_le bd1 b4.size
            replace BL := BL.trans (b4.mono BL.size)
            replace kz := Nat.le_trans hhi BL.size
            clear b4
            obtain ⟨p0, p1, p2, p3, p4⟩ := id P
            obtain ⟨c00, c01, c02, c03, c04⟩ := id K0
            obtain ⟨c10, c11, c12, c13, c14⟩ := id K1
            obtain ⟨c20, c21, c22, c23, c24⟩ := id K2
            go_wp2
            go_ret
            exact ⟨rfl, BL⟩
          · rw [if_pos (Or.inr h12)] at hso
            have z1 : ((kid 1).sort n S V != (kid 2).sort n S V) = true := by simp [h12]
            rw [hso]
            clear hso h0 h12
            go_enter Tryz.func65, Tryz.ntmps65
            go_wp2_with fail
            have e1 := (Below.refl w.heap.size w).alloc (Nat.le_refl _) (.cells #[.int .i64 23, .int .i64 a, .int .i64 b, .string s, .slice (some ⟨bl, off, none⟩) 3 cp] 50)
            refine (plain_any _ _ _ _ _ _ _ _).mono ?_
            rintro e w1 ⟨rfl, b1⟩
            have P : Box5 w1 w.heap.size 23 a b s (some ⟨bl, off, none⟩) 3 cp := ⟨cell_later b1 (by simp [go_sem]), cell_later b1 (by simp [go_sem]), cell_later b1 (by simp [go_sem]), cell_later b1 (by simp [go_sem]), cell_later b1 (by simp [go_sem])⟩
            have BL := e1.trans (b1.mono (by simp))
            have kz := Nat.le_trans hhi BL.size
            have D := hide ((unhide HD).later BL)
            have bd1 := Nat.lt_of_lt_of_le hbd BL.size
            have K0 := (K0w).keep (w' := w1) (fun o => BL.cell (p := ⟨bl, o, none⟩) (Nat.lt_of_lt_of_le hbl hhi))
            have I0 := hide (I0w.later (BL.mono hhi))
            have K1 := (K1w).keep (w' := w1) (fun o => BL.cell (p := ⟨bl, o, none⟩) (Nat.lt_of_lt_of_le hbl hhi))
            have I1 := hide (I1w.later (BL.mono hhi))
            have K2 := (K2w).keep (w' := w1) (fun o => BL.cell (p := ⟨bl, o, none⟩) (Nat.lt_of_lt_of_le hbl hhi))
            have I2 := hide (I2w.later (BL.mono hhi))
            clear e1 b1 HD
            clear K0w I0w
            clear K1w I1w
            clear K2w I2w
            obtain ⟨p0, p1, p2, p3, p4⟩ := id P
            obtain ⟨c00, c01, c02, c03, c04⟩ := id K0
            obtain ⟨c10, c11, c12, c13, c14⟩ := id K1
            obtain ⟨c20, c21, c22, c23, c24⟩ := id K2
            go_wp2_with fail
            refine (unhide IH 0 _ _ _ (unhide I0) kz bd1 (unhide D)).mono ?_
            rintro e w2 ⟨rfl, b2⟩
            clear p0 p1 p2 p3 p4 c00 c01 c02 c03 c04 c10 c11 c12 c13 c14 c20 c21 c22 c23 c24
            replace P := P.later b2
            replace K0 := K0.later b2
            replace I0 := hide ((unhide I0).later (b2.mono kz))
            replace K1 := K1.later b2
            replace I1 := hide ((unhide I1).later (b2.mono kz))
            replace K2 := K2.later b2
            replace I2 := hide ((unhide I2).later (b2.mono kz))
            replace D := hide ((unhide D).later b2)
            replace bd1 := Nat.lt_of_lt_of_le bd1 b2.size
            replace BL := BL.trans (b2.mono BL.size)
            replace kz := Nat.le_trans hhi BL.size
            clear b2
            obtain ⟨p0, p1, p2, p3, p4⟩ := id P
            obtain ⟨c00, c01, c02, c03, c04⟩ := id K0
            obtain ⟨c10, c11, c12, c13, c14⟩ := id K1
            obtain ⟨c20, c21, c22, c23, c24⟩ := id K2
            go_wp2_with fail
            refine (unhide IH 1 _ _ _ (unhide I1) kz bd1 (unhide D)).mono ?_
            rintro e w3 ⟨rfl, b3⟩
            clear p0 p1 p2 p3 p4 c00 c01 c02 c03 c04 c10 c11 c12 c13 c14 c20 c21 c22 c23 c24
            replace P := P.later b3
            replace K0 := K0.later b3
            replace I0 := hide ((unhide I0).later (b3.mono kz))
            replace K1 := K1.later b3
            replace I1 := hide ((unhide I1).later (b3.mono kz))
            replace K2 := K2.later b3
            replace I2 := hide ((unhide I2).later (b3.mono kz))
            replace D := hide ((unhide D).later b3)
            replace bd1 := Nat.lt_of_lt_of_le bd1 b3.size
            replace BL := BL.trans (b3.mono BL.size)
            replace kz := Nat.le_trans hhi BL.size
            clear b3
            obtain ⟨p0, p1, p2, p3, p4⟩ := id P
            obtain ⟨c00, c01, c02, c03, c04⟩ := id K0
            obtain ⟨c10, c11, c12, c13, c14⟩ := id K1
            obtain ⟨c20, c21, c22, c23, c24⟩ := id K2
            go_wp2_with fail
            refine (unhide IH 2 _ _ _ (unhide I2) kz bd1 (unhide D)).mono ?_
            rintro e w4 ⟨rfl, b4⟩
            clear p0 p1 p2 p3 p4 c00 c01 c02 c03 c04 c10 c11 c12 c13 c14 c20 c21 c22 c23 c24
            replace P := P.later b4
            replace K0 := K0.later b4
            replace I0 := hide ((unhide I0).later (b4.mono kz))
            replace K1 := K1.later b4
            replace I1 := hide ((unhide I1).later (b4.mono kz))
            replace K2 := K2.later b4
            replace I2 := hide ((unhide I2).later (b4.mono kz))
            replace D := hide ((unhide D).later b4)
            replace bd1 := Nat.lt_of_lt_of_le bd1 b4.size
            replace BL := BL.trans (b4.mono BL.size)
            replace kz := Nat.le_trans hhi BL.size
            clear b4
            obtain ⟨p0, p1, p2, p3, p4⟩ := id P
            obtain ⟨c00, c01, c02, c03, c04⟩ := id K0
            obtain ⟨c10, c11, c12, c13, c14⟩ := id K1
            obtain ⟨c20, c21, c22, c23, c24⟩ := id K2
            go_wp2
            go_ret
            exact ⟨rfl, BL⟩
        · have z0 : ((kid 0).sort n S V != 0) = true := by simp [h0]
          rw [if_pos (Or.inl h0)] at hso
          rw [hso]
          clear hso h0
          go_enter Tryz.func65, Tryz.ntmps65
          go_wp2_with fail
          have e1 := (Below.refl w.heap.size w).alloc (Nat.le_refl _) (.cells #[.int .i64 23, .int .i64 a, .int .i64 b, .string s, .slice (some ⟨bl, off, none⟩) 3 cp] 50)
          refine (plain_any _ _ _ _ _ _ _ _).mono ?_
          rintro e w1 ⟨rfl, b1⟩
          have P : Box5 w1 w.heap.size 23 a b s (some ⟨bl, off, none⟩) 3 cp := ⟨cell_later b1 (by simp [go_sem]), cell_later b1 (by simp [go_sem]), cell_later b1 (by simp [go_sem]), cell_later b1 (by simp [go_sem]), cell_later b1 (by simp [go_sem])⟩
          have BL := e1.trans (b1.mono (by simp))
          have kz := Nat.le_trans hhi BL.size
          have D := hide ((unhide HD).later BL)
          have bd1 := Nat.lt_of_lt_of_le hbd BL.size
          have K0 := (K0w).keep (w' := w1) (fun o => BL.cell (p := ⟨bl, o, none⟩) (Nat.lt_of_lt_of_le hbl hhi))
          have I0 := hide (I0w.later (BL.mono hhi))
          have K1 := (K1w).keep (w' := w1) (fun o => BL.cell (p := ⟨bl, o, none⟩) (Nat.lt_of_lt_of_le hbl hhi))
          have I1 := hide (I1w.later (BL.mono hhi))
          have K2 := (K2w).keep (w' := w1) (fun o => BL.cell (p := ⟨bl, o, none⟩) (Nat.lt_of_lt_of_le hbl hhi))
          have I2 := hide (I2w.later (BL.mono hhi))
          clear e1 b1 HD
          clear K0w I0w
          clear K1w I1w
          clear K2w I2w
          obtain ⟨p0, p1, p2, p3, p4⟩ := id P
          obtain ⟨c00, c01, c02, c03, c04⟩ := id K0
          obtain ⟨c10, c11, c12, c13, c14⟩ := id K1
          obtain ⟨c20, c21, c22, c23, c24⟩ := id K2
          go_wp2_with fail
          refine (unhide IH 0 _ _ _ (unhide I0) kz bd1 (unhide D)).mono ?_
          rintro e w2 ⟨rfl, b2⟩
          clear p0 p1 p2 p3 p4 c00 c01 c02 c03 c04 c10 c11 c12 c13 c14 c20 c21 c22 c23 c24
          replace P := P.later b2
          replace K0 := K0.later b2
          replace I0 := hide ((unhide I0).later (b2.mono kz))
          replace K1 := K1.later b2
          replace I1 := hide ((unhide I1).later (b2.mono kz))
          replace K2 := K2.later b2
          replace I2 := hide ((unhide I2).later (b2.mono kz))
          replace D := hide ((unhide D).later b2)
          replace bd1 := Nat.lt_of_lt_of_le bd1 b2.size
          replace BL := BL.trans (b2.mono BL.size)
          replace kz := Nat.le_trans hhi BL.size
          clear b2
          obtain ⟨p0, p1, p2, p3, p4⟩ := id P
          obtain ⟨c00, c01, c02, c03, c04⟩ := id K0
          obtain ⟨c10, c11, c12, c13, c14⟩ := id K1
          obtain ⟨c20, c21, c22, c23, c24⟩ := id K2
          go_wp2_with fail
          refine (unhide IH 1 _ _ _ (unhide I1) kz bd1 (unhide D)).mono ?_
          rintro e w3 ⟨rfl, b3⟩
          clear p0 p1 p2 p3 p4 c00 c01 c02 c03 c04 c10 c11 c12 c13 c14 c20 c21 c22 c23 c24
          replace P := P.later b3
          replace K0 := K0.later b3
          replace I0 := hide ((unhide I0).later (b3.mono kz))
          replace K1 := K1.later b3
          replace I1 := hide ((unhide I1).later (b3.mono kz))
          replace K2 := K2.later b3
          replace I2 := hide ((unhide I2).later (b3.mono kz))
          replace D := hide ((unhide D).later b3)
          replace bd1 := Nat.lt_of_lt_of_le bd1 b3.size
          replace BL := BL.trans (b3.mono BL.size)
          replace kz := Nat.le_trans hhi BL.size
          clear b3
          obtain ⟨p0, p1, p2, p3, p4⟩ := id P
          obtain ⟨c00, c01, c02, c03, c04⟩ := id K0
          obtain ⟨c10, c11, c12, c13, c14⟩ := id K1
          obtain ⟨c20, c21, c22, c23, c24⟩ := id K2
          go_wp2
          go_ret
          exact ⟨rfl, BL⟩
      · have hm : m = 2 := by omega
        subst hm
        obtain ⟨bl, off, rfl, hlo, hbl, AD, CP, hk⟩ := hin.resolve_left (by omega)
        obtain ⟨K0w, _, I0w⟩ := hk 0 (by omega)
        have hb0 := unhide HB 0
        replace K0w : Five w bl off (kid 0) (AD 0) (CP 0) := by simpa using K0w
        obtain ⟨K1w, _, I1w⟩ := hk 1 (by omega)
        have hb1 := unhide HB 1
        replace K1w : Five w bl (off + 5) (kid 1) (AD 1) (CP 1) := by simpa using K1w
        clear hk HB
        rw [if_neg (by omega), if_neg (by omega), if_neg (by omega), if_neg (by omega), if_pos rfl] at hso
        rw [hso]
        clear hso
        have n20 : (op == 20) = false := by simp; omega
        have n21 : (op == 21) = false := by simp; omega
        have n24 : (op == 24) = false := by simp; omega
        go_enter Tryz.func65, Tryz.ntmps65
        go_wp2_with fail
        have e1 := (Below.refl w.heap.size w).alloc (Nat.le_refl _) (.cells #[.int .i64 op, .int .i64 a, .int .i64 b, .string s, .slice (some ⟨bl, off, none⟩) 2 cp] 50)
        refine (plain_any _ _ _ _ _ _ _ _).mono ?_
        rintro e w1 ⟨rfl, b1⟩
        have P : Box5 w1 w.heap.size op a b s (some ⟨bl, off, none⟩) 2 cp := ⟨cell_later b1 (by simp [go_sem]), cell_later b1 (by simp [go_sem]), cell_later b1 (by simp [go_sem]), cell_later b1 (by simp [go_sem]), cell_later b1 (by simp [go_sem])⟩
        have BL := e1.trans (b1.mono (by simp))
        have kz := Nat.le_trans hhi BL.size
        have D := hide ((unhide HD).later BL)
        have bd1 := Nat.lt_of_lt_of_le hbd BL.size
        have K0 := (K0w).keep (w' := w1) (fun o => BL.cell (p := ⟨bl, o, none⟩) (Nat.lt_of_lt_of_le hbl hhi))
        have I0 := hide (I0w.later (BL.mono hhi))
        have K1 := (K1w).keep (w' := w1) (fun o => BL.cell (p := ⟨bl, o, none⟩) (Nat.lt_of_lt_of_le hbl hhi))
        have I1 := hide (I1w.later (BL.mono hhi))
        clear e1 b1 HD
        clear K0w I0w
        clear K1w I1w
        obtain ⟨p0, p1, p2, p3, p4⟩ := id P
        obtain ⟨c00, c01, c02, c03, c04⟩ := id K0
        obtain ⟨c10, c11, c12, c13, c14⟩ := id K1
        go_wp2_with fail
        refine (unhide IH 0 _ _ _ (unhide I0) kz bd1 (unhide D)).mono ?_
        rintro e w2 ⟨rfl, b2⟩
        clear p0 p1 p2 p3 p4 c00 c01 c02 c03 c04 c10 c11 c12 c13 c14
        replace P := P.later b2
        replace K0 := K0.later b2
        replace I0 := hide ((unhide I0).later (b2.mono kz))
        replace K1 := K1.later b2
        replace I1 := hide ((unhide I1).later (b2.mono kz))
        replace D := hide ((unhide D).later b2)
        replace bd1 := Nat.lt_of_lt_of_le bd1 b2.size
        replace BL := BL.trans (b2.mono BL.size)
        replace kz := Nat.le_trans hhi BL.size
        clear b2
        obtain ⟨p0, p1, p2, p3, p4⟩ := id P
        obtain ⟨c00, c01, c02, c03, c04⟩ := id K0
        obtain ⟨c10, c11, c12, c13, c14⟩ := id K1
        go_wp2_with fail
        refine (unhide IH 1 _ _ _ (unhide I1) kz bd1 (unhide D)).mono ?_
        rintro e w3 ⟨rfl, b3⟩
        clear p0 p1 p2 p3 p4 c00 c01 c02 c03 c04 c10 c11 c12 c13 c14
        replace P := P.later b3
        replace K0 := K0.later b3
        replace I0 := hide ((unhide I0).later (b3.mono kz))
        replace K1 := K1.later b3
        replace I1 := hide ((unhide I1).later (b3.mono kz))
        replace D := hide ((unhide D).later b3)
        replace bd1 := Nat.lt_of_lt_of_le bd1 b3.size
        replace BL := BL.trans (b3.mono BL.size)
        replace kz := Nat.le_trans hhi BL.size
        clear b3
        obtain ⟨p0, p1, p2, p3, p4⟩ := id P
        obtain ⟨c00, c01, c02, c03, c04⟩ := id K0
        obtain ⟨c10, c11, c12, c13, c14⟩ := id K1
        go_wp2_with fail
        refine (both_any _ _ _ _ hb0.1 hb0.2 hb1.1 hb1.2).mono ?_
        rintro e w4 ⟨rfl, b4⟩
        clear p0 p1 p2 p3 p4 c00 c01 c02 c03 c04 c10 c11 c12 c13 c14
        replace P := P.later b4
        replace K0 := K0.later b4
        replace I0 := hide ((unhide I0).later (b4.mono kz))
        replace K1 := K1.later b4
        replace I1 := hide ((unhide I1).later (b4.mono kz))
        replace D := hide ((unhide D).later b4)
        replace bd1 := Nat.lt_of_lt_of_le bd1 b4.size
        replace BL := BL.trans (b4.mono BL.size)
        replace kz := Nat.le_trans hhi BL.size
        clear b4
        obtain ⟨p0, p1, p2, p3, p4⟩ := id P
        obtain ⟨c00, c01, c02, c03, c04⟩ := id K0
        obtain ⟨c10, c11, c12, c13, c14⟩ := id K1
        go_wp2
        go_ret
        exact ⟨rfl, BL⟩
      · have hm : m = 2 := by omega
        subst hm
        obtain ⟨bl, off, rfl, hlo, hbl, AD, CP, hk⟩ := hin.resolve_left (by omega)
        obtain ⟨K0w, _, I0w⟩ := hk 0 (by omega)
        have hb0 := unhide HB 0
        replace K0w : Five w bl off (kid 0) (AD 0) (CP 0) := by simpa using K0w
        obtain ⟨K1w, _, I1w⟩ := hk 1 (by omega)
        have hb1 := unhide HB 1
        replace K1w : Five w bl (off + 5) (kid 1) (AD 1) (CP 1) := by simpa using K1w
        clear hk HB
        rw [if_neg (by omega), if_neg (by omega), if_neg (by omega), if_neg (by omega), if_pos rfl] at hso
        rw [hso]
        clear hso
        have n20 : (op == 20) = false := by simp; omega
        have n21 : (op == 21) = false := by simp; omega
        have n24 : (op == 24) = false := by simp; omega
        go_enter Tryz.func65, Tryz.ntmps65
        go_wp2_with fail
        have e1 := (Below.refl w.heap.size w).alloc (Nat.le_refl _) (.cells #[.int .i64 op, .int .i64 a, .int .i64 b, .string s, .slice (some ⟨bl, off, none⟩) 2 cp] 50)
        refine (plain_any _ _ _ _ _ _ _ _).mono ?_
        rintro e w1 ⟨rfl, b1⟩
        have P : Box5 w1 w.heap.size op a b s (some ⟨bl, off, none⟩) 2 cp := ⟨cell_later b1 (by simp [go_sem]), cell_later b1 (by simp [go_sem]), cell_later b1 (by simp [go_sem]), cell_later b1 (by simp [go_sem]), cell_later b1 (by simp [go_sem])⟩
        have BL := e1.trans (b1.mono (by simp))
        have kz := Nat.le_trans hhi BL.size
        have D := hide ((unhide HD).later BL)
        have bd1 := Nat.lt_of_lt_of_le hbd BL.size
        have K0 := (K0w).keep (w' := w1) (fun o => BL.cell (p := ⟨bl, o, none⟩) (Nat.lt_of_lt_of_le hbl hhi))
        have I0 := hide (I0w.later (BL.mono hhi))
        have K1 := (K1w).keep (w' := w1) (fun o => BL.cell (p := ⟨bl, o, none⟩) (Nat.lt_of_lt_of_le hbl hhi))
        have I1 := hide (I1w.later (BL.mono hhi))
        clear e1 b1 HD
        clear K0w I0w
        clear K1w I1w
        obtain ⟨p0, p1, p2, p3, p4⟩ := id P
        obtain ⟨c00, c01, c02, c03, c04⟩ := id K0
        obtain ⟨c10, c11, c12, c13, c14⟩ := id K1
        go_wp2_with fail
        refine (unhide IH 0 _ _ _ (unhide I0) kz bd1 (unhide D)).mono ?_
        rintro e w2 ⟨rfl, b2⟩
        clear p0 p1 p2 p3 p4 c00 c01 c02 c03 c04 c10 c11 c12 c13 c14
        replace P := P.later b2
        replace K0 := K0.later b2
        replace I0 := hide ((unhide I0).later (b2.mono kz))
        replace K1 := K1.later b2
        replace I1 := hide ((unhide I1).later (b2.mono kz))
        replace D := hide ((unhide D).later b2)
        replace bd1 := Nat.lt_of_lt_of_le bd1 b2.size
        replace BL := BL.trans (b2.mono BL.size)
        replace kz := Nat.le_trans hhi BL.size
        clear b2
        obtain ⟨p0, p1, p2, p3, p4⟩ := id P
        obtain ⟨c00, c01, c02, c03, c04⟩ := id K0
        obtain ⟨c10, c11, c12, c13, c14⟩ := id K1
        go_wp2_with fail
        refine (unhide IH 1 _ _ _ (unhide I1) kz bd1 (unhide D)).mono ?_
        rintro e w3 ⟨rfl, b3⟩
        clear p0 p1 p2 p3 p4 c00 c01 c02 c03 c04 c10 c11 c12 c13 c14
        replace P := P.later b3
        replace K0 := K0.later b3
        replace I0 := hide ((unhide I0).later (b3.mono kz))
        replace K1 := K1.later b3
        replace I1 := hide ((unhide I1).later (b3.mono kz))
        replace D := hide ((unhide D).later b3)
        replace bd1 := Nat.lt_of_lt_of_le bd1 b3.size
        replace BL := BL.trans (b3.mono BL.size)
        replace kz := Nat.le_trans hhi BL.size
        clear b3
        obtain ⟨p0, p1, p2, p3, p4⟩ := id P
        obtain ⟨c00, c01, c02, c03, c04⟩ := id K0
        obtain ⟨c10, c11, c12, c13, c14⟩ := id K1
        go_wp2_with fail
        refine (both_any _ _ _ _ hb0.1 hb0.2 hb1.1 hb1.2).mono ?_
        rintro e w4 ⟨rfl, b4⟩
        clear p0 p1 p2 p3 p4 c00 c01 c02 c03 c04 c10 c11 c12 c13 c14
        replace P := P.later b4
        replace K0 := K0.later b4
        replace I0 := hide ((unhide I0).later (b4.mono kz))
        replace K1 := K1.later b4
        replace I1 := hide ((unhide I1).later (b4.mono kz))
        replace D := hide ((unhide D).later b4)
        replace bd1 := Nat.lt_of_lt_of_le bd1 b4.size
        replace BL := BL.trans (b4.mono BL.size)
        replace kz := Nat.le_trans hhi BL.size
        clear b4
        obtain ⟨p0, p1, p2, p3, p4⟩ := id P
        obtain ⟨c00, c01, c02, c03, c04⟩ := id K0
        obtain ⟨c10, c11, c12, c13, c14⟩ := id K1
        go_wp2
        go_ret
        exact ⟨rfl, BL⟩
      · exfalso; omega
    · have hpb := plainB_no hpl
      rw [sort_no hpl]
      clear hpl
      go_enter Tryz.func65, Tryz.ntmps65
      go_wp2_with fail
      refine (plain_any _ _ _ _ _ _ _ _).mono ?_
      rintro e w1 ⟨rfl, b1⟩
      go_wp2
      go_ret
      exact ⟨rfl, Below.trans ((by repeat (first | exact Below.refl _ _ | assumption | refine below_drewN ?_ _ | refine Below.drew ?_ | refine Below.alloc ?_ (by first | exact Nat.le_refl _ | exact Below.size (by assumption) | (simp; done) | (simp; omega)) _ | refine Below.setCell ?_ (by first | exact Nat.le_refl _ | exact Below.size (by assumption) | (simp; done) | (simp; omega)) _ | refine Below.trans ?_ (by assumption)))) (b1.mono (by simp))⟩
/-- What TermSort answers. -/
noncomputable def tsort (n : Nat) (S : Nat → ByteArray) (V : Nat → Int) (t : TT) : Int := @ite _ (DeclP n S V ∧ t.N ≤ 20 ∧ t.D ≤ 7) (Classical.propDecidable _) (t.sort n S V) (-1)
theorem tsort_yes {n : Nat} {S : Nat → ByteArray} {V : Nat → Int} {t : TT} (h : DeclP n S V ∧ t.N ≤ 20 ∧ t.D ≤ 7) : tsort n S V t = t.sort n S V := if_pos h
theorem tsort_no {n : Nat} {S : Nat → ByteArray} {V : Nat → Int} {t : TT} (h : ¬ (DeclP n S V ∧ t.N ≤ 20 ∧ t.D ≤ 7)) : tsort n S V t = -1 := if_neg h
set_option maxRecDepth 100000 in
set_option maxHeartbeats 4000000 in
theorem sTermSort_any (bd offd n cap hi : Nat) (S : Nat → ByteArray) (V : Nat → Int) (hn : n ≤ 1048576) (hnc : n ≤ cap) (hs : ∀ i, i < n → (S i).size ≤ 1048576) (t : TT) (ad : Option Addr) (cp : Nat) (w : World) (hin : t.In w 0 hi ad) (hft : t.Fit 1048576) (hhi : hi ≤ w.heap.size) (hbd : bd < w.heap.size) (hd : Decs w bd offd n S V) :
    Calls Tryz.prog 39 #[.slice (some ⟨bd, offd, none⟩) n cap, .agg #[.int .i64 t.op, .int .i64 t.a, .int .i64 t.b, .string t.s, .slice ad t.n cp]] w fun e w' => e = .returned (.int .i64 (tsort n S V t)) ∧ Below w.heap.size w w' := by
  have HS := hide hs
  have HD := hide hd
  have HI := hide hin
  have HF := hide hft
  clear hs hd hin hft
  go_enter Tryz.func39, Tryz.ntmps39
  go_wp2_with fail
  have e1 := (Below.refl w.heap.size w).alloc (Nat.le_refl _) (.cells #[.int .i64 t.op, .int .i64 t.a, .int .i64 t.b, .string t.s, .slice ad t.n cp] 50)
  refine (sMany_any hi t _ _ _ ((unhide HI).later (e1.mono hhi)) (unhide HF) (by simp; omega)).mono ?_
  rintro e w1 ⟨rfl, b1⟩
  have P : Five w1 w.heap.size 0 t ad cp := ⟨cell_later b1 (by simp [go_sem]), cell_later b1 (by simp [go_sem]), cell_later b1 (by simp [go_sem]), cell_later b1 (by simp [go_sem]), cell_later b1 (by simp [go_sem])⟩
  have BL := e1.trans (b1.mono (by simp))
  have kz := Nat.le_trans hhi BL.size
  have kb := Nat.lt_of_lt_of_le hbd BL.size
  replace HI := hide ((unhide HI).later (BL.mono hhi))
  replace HD := hide ((unhide HD).later BL)
  clear b1 e1
  by_cases hm : t.N ≤ 20 ∧ t.D ≤ 7
  · rw [manyV_yes hm]
    obtain ⟨m1, m2⟩ := hm
    obtain ⟨p0, p1, p2, p3, p4⟩ := id P
    go_wp2_with fail
    refine (sDeclOk_any _ _ _ _ _ _ _ kb (unhide HD) hnc hn (unhide HS)).mono ?_
    rintro e w2 ⟨rfl, b2⟩
    clear p0 p1 p2 p3 p4
    replace P := P.later b2
    replace HI := hide ((unhide HI).later (b2.mono kz))
    replace HD := hide ((unhide HD).later b2)
    replace BL := BL.trans (b2.mono BL.size)
    replace kz := Nat.le_trans hhi BL.size
    replace kb := Nat.lt_of_lt_of_le kb b2.size
    clear b2
    obtain ⟨p0, p1, p2, p3, p4⟩ := id P
    by_cases hD : DeclP n S V
    · have hdb := declB_yes hD
      have HE := hide (tsort_yes (t := t) ⟨hD, m1, m2⟩)
      have HV : Hid (∀ i, i < n → 1 ≤ V i ∧ V i ≤ 4) := fun i hi => ⟨(hD.2.1 i hi).2.1, (hD.2.1 i hi).2.2.1⟩
      clear hD
      go_wp2_with fail
      refine (l2Sort_any bd offd n cap hi S V (unhide HV) hn t _ _ _ (unhide HI) kz kb (unhide HD)).mono ?_
      rintro e w3 ⟨rfl, b3⟩
      go_wp2
      rw [unhide HE]
      go_ret
      exact ⟨rfl, BL.trans (b3.mono BL.size)⟩
    · have hdb := declB_no hD
      have HE := hide (tsort_no (t := t) (fun h => hD h.1))
      clear hD
      go_wp2
      rw [unhide HE]
      go_ret
      exact ⟨rfl, BL⟩
  · rw [manyV_no hm]
    have HE := hide (tsort_no (n := n) (S := S) (V := V) (t := t) (fun h => hm h.2))
    clear hm
    obtain ⟨p0, p1, p2, p3, p4⟩ := id P
    go_wp2_with fail
    refine (sDeclOk_any _ _ _ _ _ _ _ kb (unhide HD) hnc hn (unhide HS)).mono ?_
    rintro e w2 ⟨rfl, b2⟩
    cases hdb : declB n S V
    · go_wp2
      rw [unhide HE]
      go_ret
      exact ⟨rfl, BL.trans (b2.mono BL.size)⟩
    · go_wp2
      rw [unhide HE]
      go_ret
      exact ⟨rfl, BL.trans (b2.mono BL.size)⟩
end Go.Proofs.YtfopmobopmdahaaGreat
