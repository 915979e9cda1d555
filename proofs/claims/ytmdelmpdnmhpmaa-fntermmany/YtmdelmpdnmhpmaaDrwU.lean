/- What the model's draws of terms return, of any depth. -/
import Derived.Test.YtmdelmpdnmhpmaaDrwT
namespace Go.Proofs.Ytmdelmpdnmhpmaa
open Go.ChangeShapes Go.WideShapes Go.ChangeAt Go.RowKit Go.Joins
set_option linter.unusedVariables false
set_option linter.unusedSimpArgs false

/-- The draw of a term at depths up to k gives a term. -/
def TermC (k : Nat) : Prop := ∀ (R N b n cap : Nat) (S : Nat → ByteArray) (V : Nat → Int) (sort deep : Int) (w : World), deep ≤ k → -100 ≤ deep → deep ≤ 100 → Rd w R N → N + cN k ≤ 900000 → b ≠ R → b < w.heap.size → Decs w b 0 n S V → 1 ≤ n → n ≤ 4 → (∀ i, i < n → 1 ≤ V i ∧ V i ≤ 4 ∧ (S i).size ≤ 4) → 0 ≤ sort → sort ≤ 4 →
  Calls Try.prog 16 #[.pointer (some ⟨R, 0, none⟩), .slice (some ⟨b, 0, none⟩) n cap, .int .i64 sort, .int .i64 deep] w fun e w' => DrewT w w' e ∧ Rd w' R (N + cN k) ∧ Mov R w w'
set_option maxHeartbeats 8000000 in
theorem asks_any (k : Nat) (IH : Hid (TermC k)) (R N b n cap : Nat) (S : Nat → ByteArray) (V : Nat → Int) (deep : Int) (w : World) (hdk : deep ≤ k + 1) (hd1 : 1 ≤ deep) (hd9 : deep ≤ 100) (hR : Rd w R N) (hN : N + 10 + 3 * cN k ≤ 900000) (hb : b ≠ R) (hbl : b < w.heap.size) (hd : Decs w b 0 n S V) (hn1 : 1 ≤ n) (hn4 : n ≤ 4) (hv : ∀ i, i < n → 1 ≤ V i ∧ V i ≤ 4 ∧ (S i).size ≤ 4) :
    Calls Try.prog 30 #[.pointer (some ⟨R, 0, none⟩), .slice (some ⟨b, 0, none⟩) n cap, .int .i64 deep] w fun e w' => DrewT w w' e ∧ Rd w' R (N + 10 + 3 * cN k) ∧ Mov R w w' := by
  have hlt := hR.lt
  go_enter Try.func30, Try.ntmps30
  go_wp2_with fail
  obtain ⟨w0, hw0⟩ : ∃ v, v = w.alloc (.cells #[.int .i64 0, .int .i64 0, .int .i64 0, .string ⟨#[]⟩, .slice none 0 0] 25) := ⟨_, rfl⟩
  have BX : Made w0 w.heap.size 5 := by rw [hw0]; exact zero_made _ _
  have b0 : Below w.heap.size w w0 := by rw [hw0]; exact (Below.refl _ _).alloc (Nat.le_refl _) _
  have z0 : w.heap.size + 1 ≤ w0.heap.size := by rw [hw0]; simp
  rw [← hw0]
  replace hR := hR.below b0
  have MV : Mov R w w0 := Mov.of b0
  have HD := hide (hd.later b0)
  have HV := hide hv
  clear hw0 b0 hd hv
  refine (pick_any R _ _ _ hR (by omega) (by omega) (by omega)).mono ?_
  rintro e w1 ⟨p, rfl, p0, p1, hRn, hm⟩
  replace hR := hRn
  clear hRn
  replace BX := BX.mov hm (by omega)
  replace HD := hide ((unhide HD).mov hm hb)
  replace MV := MV.trans hm
  replace z0 := Nat.le_trans z0 hm.size
  clear hm
  by_cases e0 : p = 0
  · subst e0
    go_wp2_with fail
    refine (unhide IH R _ b n cap S V (0) _ _ (by omega) (by omega) (by omega) hR (by omega) hb (Nat.lt_of_lt_of_le hbl MV.size) (unhide HD) hn1 hn4 (unhide HV) (by omega) (by omega)).mono ?_
    rintro e w2 ⟨⟨T0, ad0, cp0, rfl, i0, c0, f0, qc0⟩, hRn, hm⟩
    replace hR := hRn
    clear hRn
    have I0 := hide (TT.In.wide (show w.heap.size + 1 ≤ w1.heap.size from z0) (Nat.le_refl _) _ _ i0)
    have h0 := Nat.le_refl w2.heap.size
    have F0 := hide f0
    clear i0 f0
    replace BX := BX.mov hm (by omega)
    replace HD := hide ((unhide HD).mov hm hb)
    replace MV := MV.trans hm
    replace z0 := Nat.le_trans z0 hm.size
    clear hm
    have ES := put5v_size w2 w.heap.size (.int .i64 (25)) (.int .i64 (0)) (.int .i64 (0)) (.string ⟨#[]⟩) (.slice (some ⟨w2.heap.size, 0, none⟩) 1 1)
    have K1 := kids_in1 (w := (put5v w2 w.heap.size (.int .i64 (25)) (.int .i64 (0)) (.int .i64 (0)) (.string ⟨#[]⟩) (.slice (some ⟨w2.heap.size, 0, none⟩) 1 1))) (lo := w.heap.size + 1) (by rw [ES]; exact TT.In.wide (Nat.le_refl _) h0 _ _ (In_put (unhide I0) (Nat.lt_succ_self w.heap.size) (.int .i64 (25)) (.int .i64 (0)) (.int .i64 (0)) (.string ⟨#[]⟩) (.slice (some ⟨w2.heap.size, 0, none⟩) 1 1))) c0 (by rw [ES]; exact z0) (25) (0) (0) ⟨#[]⟩ 25
    rw [ES] at K1
    have KI := hide (TT.In.wide (Nat.le_succ w.heap.size) (Nat.le_refl _) _ _ K1)
    clear K1
    have ER := hide ((hR.put5v hlt (.int .i64 (25)) (.int .i64 (0)) (.int .i64 (0)) (.string ⟨#[]⟩) (.slice (some ⟨w2.heap.size, 0, none⟩) 1 1)).alloc (.cells #[.int .i64 T0.op, .int .i64 T0.a, .int .i64 T0.b, .string T0.s, .slice ad0 T0.n cp0] 25))
    have EM := hide ((MV.put5v (.int .i64 (25)) (.int .i64 (0)) (.int .i64 (0)) (.string ⟨#[]⟩) (.slice (some ⟨w2.heap.size, 0, none⟩) 1 1)).alloc (.cells #[.int .i64 T0.op, .int .i64 T0.a, .int .i64 T0.b, .string T0.s, .slice ad0 T0.n cp0] 25))
    have PS := hide (put_read BX (.int .i64 (25)) (.int .i64 (0)) (.int .i64 (0)) (.string ⟨#[]⟩) (.slice (some ⟨w2.heap.size, 0, none⟩) 1 1) (.cells #[.int .i64 T0.op, .int .i64 T0.a, .int .i64 T0.b, .string T0.s, .slice ad0 T0.n cp0] 25))
    have EZ : Hid (((put5v w2 w.heap.size (.int .i64 (25)) (.int .i64 (0)) (.int .i64 (0)) (.string ⟨#[]⟩) (.slice (some ⟨w2.heap.size, 0, none⟩) 1 1)).alloc (.cells #[.int .i64 T0.op, .int .i64 T0.a, .int .i64 T0.b, .string T0.s, .slice ad0 T0.n cp0] 25)).heap.size = w2.heap.size + 1) := by show _ = _; rw [World.size_alloc, ES]
    have DT : Hid (DrewT w ((put5v w2 w.heap.size (.int .i64 (25)) (.int .i64 (0)) (.int .i64 (0)) (.string ⟨#[]⟩) (.slice (some ⟨w2.heap.size, 0, none⟩) 1 1)).alloc (.cells #[.int .i64 T0.op, .int .i64 T0.a, .int .i64 T0.b, .string T0.s, .slice ad0 T0.n cp0] 25)) (.returned (.agg #[.int .i64 (25), .int .i64 (0), .int .i64 (0), .string ⟨#[]⟩, .slice (some ⟨w2.heap.size, 0, none⟩) 1 1]))) := ⟨(TT.node (25) (0) (0) ⟨#[]⟩ 1 (kids3 T0 T0 T0)), _, 1, rfl, by rw [unhide EZ]; exact unhide KI, Nat.le_refl _, kids3_fit (unhide F0) (unhide F0) (unhide F0) _ _ _ _ (by omega), by omega⟩
    obtain ⟨⟨u0, q0⟩, f0⟩ := BX.2 0 (by omega)
    obtain ⟨⟨u1, q1⟩, f1⟩ := BX.2 1 (by omega)
    obtain ⟨⟨u2, q2⟩, f2⟩ := BX.2 2 (by omega)
    obtain ⟨⟨u3, q3⟩, f3⟩ := BX.2 3 (by omega)
    obtain ⟨⟨u4, q4⟩, f4⟩ := BX.2 4 (by omega)
    have lB := BX.1
    clear BX ES
    go_wp2
    obtain ⟨e0', e1', e2', e3', e4'⟩ := unhide PS
    exact bodyPost_ret (v := .agg #[.int .i64 (25), .int .i64 (0), .int .i64 (0), .string ⟨#[]⟩, .slice (some ⟨w2.heap.size, 0, none⟩) 1 1]) (by simp [results, Try.results30, go_sem, e0', e1', e2', e3', e4']) rfl ⟨unhide DT, (unhide ER).mono (by omega), unhide EM⟩
  · have d0 : (p == 0) = false := by simp [e0]
    by_cases e1 : p = 1
    · subst e1
      go_wp2_with fail
      refine (unhide IH R _ b n cap S V (0) _ _ (by omega) (by omega) (by omega) hR (by omega) hb (Nat.lt_of_lt_of_le hbl MV.size) (unhide HD) hn1 hn4 (unhide HV) (by omega) (by omega)).mono ?_
      rintro e w2 ⟨⟨T0, ad0, cp0, rfl, i0, c0, f0, qc0⟩, hRn, hm⟩
      replace hR := hRn
      clear hRn
      have I0 := hide (TT.In.wide (show w.heap.size + 1 ≤ w1.heap.size from z0) (Nat.le_refl _) _ _ i0)
      have h0 := Nat.le_refl w2.heap.size
      have F0 := hide f0
      clear i0 f0
      replace BX := BX.mov hm (by omega)
      replace HD := hide ((unhide HD).mov hm hb)
      replace MV := MV.trans hm
      replace z0 := Nat.le_trans z0 hm.size
      clear hm
      go_wp2_with fail
      refine (unhide IH R _ b n cap S V (0) _ _ (by omega) (by omega) (by omega) hR (by omega) hb (Nat.lt_of_lt_of_le hbl MV.size) (unhide HD) hn1 hn4 (unhide HV) (by omega) (by omega)).mono ?_
      rintro e w3 ⟨⟨T1, ad1, cp1, rfl, i1, c1, f1, qc1⟩, hRn, hm⟩
      replace hR := hRn
      clear hRn
      have I1 := hide (TT.In.wide (show w.heap.size + 1 ≤ w2.heap.size from z0) (Nat.le_refl _) _ _ i1)
      have h1 := Nat.le_refl w3.heap.size
      have F1 := hide f1
      clear i1 f1
      replace BX := BX.mov hm (by omega)
      replace HD := hide ((unhide HD).mov hm hb)
      replace MV := MV.trans hm
      replace z0 := Nat.le_trans z0 hm.size
      replace I0 := hide ((unhide I0).mov hm (by omega) h0); replace h0 := Nat.le_trans h0 hm.size
      clear hm
      have ES := put5v_size w3 w.heap.size (.int .i64 (26)) (.int .i64 (0)) (.int .i64 (0)) (.string ⟨#[]⟩) (.slice (some ⟨w3.heap.size, 0, none⟩) 2 2)
      have K1 := kids_in2 (w := (put5v w3 w.heap.size (.int .i64 (26)) (.int .i64 (0)) (.int .i64 (0)) (.string ⟨#[]⟩) (.slice (some ⟨w3.heap.size, 0, none⟩) 2 2))) (lo := w.heap.size + 1) (by rw [ES]; exact TT.In.wide (Nat.le_refl _) h0 _ _ (In_put (unhide I0) (Nat.lt_succ_self w.heap.size) (.int .i64 (26)) (.int .i64 (0)) (.int .i64 (0)) (.string ⟨#[]⟩) (.slice (some ⟨w3.heap.size, 0, none⟩) 2 2))) c0 (by rw [ES]; exact TT.In.wide (Nat.le_refl _) h1 _ _ (In_put (unhide I1) (Nat.lt_succ_self w.heap.size) (.int .i64 (26)) (.int .i64 (0)) (.int .i64 (0)) (.string ⟨#[]⟩) (.slice (some ⟨w3.heap.size, 0, none⟩) 2 2))) c1 (by rw [ES]; exact z0) (26) (0) (0) ⟨#[]⟩ 25
      rw [ES] at K1
      have KI := hide (TT.In.wide (Nat.le_succ w.heap.size) (Nat.le_refl _) _ _ K1)
      clear K1
      have ER := hide ((hR.put5v hlt (.int .i64 (26)) (.int .i64 (0)) (.int .i64 (0)) (.string ⟨#[]⟩) (.slice (some ⟨w3.heap.size, 0, none⟩) 2 2)).alloc (.cells #[.int .i64 T0.op, .int .i64 T0.a, .int .i64 T0.b, .string T0.s, .slice ad0 T0.n cp0, .int .i64 T1.op, .int .i64 T1.a, .int .i64 T1.b, .string T1.s, .slice ad1 T1.n cp1] 25))
      have EM := hide ((MV.put5v (.int .i64 (26)) (.int .i64 (0)) (.int .i64 (0)) (.string ⟨#[]⟩) (.slice (some ⟨w3.heap.size, 0, none⟩) 2 2)).alloc (.cells #[.int .i64 T0.op, .int .i64 T0.a, .int .i64 T0.b, .string T0.s, .slice ad0 T0.n cp0, .int .i64 T1.op, .int .i64 T1.a, .int .i64 T1.b, .string T1.s, .slice ad1 T1.n cp1] 25))
      have PS := hide (put_read BX (.int .i64 (26)) (.int .i64 (0)) (.int .i64 (0)) (.string ⟨#[]⟩) (.slice (some ⟨w3.heap.size, 0, none⟩) 2 2) (.cells #[.int .i64 T0.op, .int .i64 T0.a, .int .i64 T0.b, .string T0.s, .slice ad0 T0.n cp0, .int .i64 T1.op, .int .i64 T1.a, .int .i64 T1.b, .string T1.s, .slice ad1 T1.n cp1] 25))
      have EZ : Hid (((put5v w3 w.heap.size (.int .i64 (26)) (.int .i64 (0)) (.int .i64 (0)) (.string ⟨#[]⟩) (.slice (some ⟨w3.heap.size, 0, none⟩) 2 2)).alloc (.cells #[.int .i64 T0.op, .int .i64 T0.a, .int .i64 T0.b, .string T0.s, .slice ad0 T0.n cp0, .int .i64 T1.op, .int .i64 T1.a, .int .i64 T1.b, .string T1.s, .slice ad1 T1.n cp1] 25)).heap.size = w3.heap.size + 1) := by show _ = _; rw [World.size_alloc, ES]
      have DT : Hid (DrewT w ((put5v w3 w.heap.size (.int .i64 (26)) (.int .i64 (0)) (.int .i64 (0)) (.string ⟨#[]⟩) (.slice (some ⟨w3.heap.size, 0, none⟩) 2 2)).alloc (.cells #[.int .i64 T0.op, .int .i64 T0.a, .int .i64 T0.b, .string T0.s, .slice ad0 T0.n cp0, .int .i64 T1.op, .int .i64 T1.a, .int .i64 T1.b, .string T1.s, .slice ad1 T1.n cp1] 25)) (.returned (.agg #[.int .i64 (26), .int .i64 (0), .int .i64 (0), .string ⟨#[]⟩, .slice (some ⟨w3.heap.size, 0, none⟩) 2 2]))) := ⟨(TT.node (26) (0) (0) ⟨#[]⟩ 2 (kids3 T0 T1 T1)), _, 2, rfl, by rw [unhide EZ]; exact unhide KI, Nat.le_refl _, kids3_fit (unhide F0) (unhide F1) (unhide F1) _ _ _ _ (by omega), by omega⟩
      obtain ⟨⟨u0, q0⟩, f0⟩ := BX.2 0 (by omega)
      obtain ⟨⟨u1, q1⟩, f1⟩ := BX.2 1 (by omega)
      obtain ⟨⟨u2, q2⟩, f2⟩ := BX.2 2 (by omega)
      obtain ⟨⟨u3, q3⟩, f3⟩ := BX.2 3 (by omega)
      obtain ⟨⟨u4, q4⟩, f4⟩ := BX.2 4 (by omega)
      have lB := BX.1
      clear BX ES
      go_wp2
      obtain ⟨e0', e1', e2', e3', e4'⟩ := unhide PS
      exact bodyPost_ret (v := .agg #[.int .i64 (26), .int .i64 (0), .int .i64 (0), .string ⟨#[]⟩, .slice (some ⟨w3.heap.size, 0, none⟩) 2 2]) (by simp [results, Try.results30, go_sem, e0', e1', e2', e3', e4']) rfl ⟨unhide DT, (unhide ER).mono (by omega), unhide EM⟩
    · have d1 : (p == 1) = false := by simp [e1]
      by_cases e2 : p = 2
      · subst e2
        go_wp2_with fail
        refine (unhide IH R _ b n cap S V (0) _ _ (by omega) (by omega) (by omega) hR (by omega) hb (Nat.lt_of_lt_of_le hbl MV.size) (unhide HD) hn1 hn4 (unhide HV) (by omega) (by omega)).mono ?_
        rintro e w2 ⟨⟨T0, ad0, cp0, rfl, i0, c0, f0, qc0⟩, hRn, hm⟩
        replace hR := hRn
        clear hRn
        have I0 := hide (TT.In.wide (show w.heap.size + 1 ≤ w1.heap.size from z0) (Nat.le_refl _) _ _ i0)
        have h0 := Nat.le_refl w2.heap.size
        have F0 := hide f0
        clear i0 f0
        replace BX := BX.mov hm (by omega)
        replace HD := hide ((unhide HD).mov hm hb)
        replace MV := MV.trans hm
        replace z0 := Nat.le_trans z0 hm.size
        clear hm
        go_wp2_with fail
        refine (unhide IH R _ b n cap S V (0) _ _ (by omega) (by omega) (by omega) hR (by omega) hb (Nat.lt_of_lt_of_le hbl MV.size) (unhide HD) hn1 hn4 (unhide HV) (by omega) (by omega)).mono ?_
        rintro e w3 ⟨⟨T1, ad1, cp1, rfl, i1, c1, f1, qc1⟩, hRn, hm⟩
        replace hR := hRn
        clear hRn
        have I1 := hide (TT.In.wide (show w.heap.size + 1 ≤ w2.heap.size from z0) (Nat.le_refl _) _ _ i1)
        have h1 := Nat.le_refl w3.heap.size
        have F1 := hide f1
        clear i1 f1
        replace BX := BX.mov hm (by omega)
        replace HD := hide ((unhide HD).mov hm hb)
        replace MV := MV.trans hm
        replace z0 := Nat.le_trans z0 hm.size
        replace I0 := hide ((unhide I0).mov hm (by omega) h0); replace h0 := Nat.le_trans h0 hm.size
        clear hm
        have ES := put5v_size w3 w.heap.size (.int .i64 (27)) (.int .i64 (0)) (.int .i64 (0)) (.string ⟨#[]⟩) (.slice (some ⟨w3.heap.size, 0, none⟩) 2 2)
        have K1 := kids_in2 (w := (put5v w3 w.heap.size (.int .i64 (27)) (.int .i64 (0)) (.int .i64 (0)) (.string ⟨#[]⟩) (.slice (some ⟨w3.heap.size, 0, none⟩) 2 2))) (lo := w.heap.size + 1) (by rw [ES]; exact TT.In.wide (Nat.le_refl _) h0 _ _ (In_put (unhide I0) (Nat.lt_succ_self w.heap.size) (.int .i64 (27)) (.int .i64 (0)) (.int .i64 (0)) (.string ⟨#[]⟩) (.slice (some ⟨w3.heap.size, 0, none⟩) 2 2))) c0 (by rw [ES]; exact TT.In.wide (Nat.le_refl _) h1 _ _ (In_put (unhide I1) (Nat.lt_succ_self w.heap.size) (.int .i64 (27)) (.int .i64 (0)) (.int .i64 (0)) (.string ⟨#[]⟩) (.slice (some ⟨w3.heap.size, 0, none⟩) 2 2))) c1 (by rw [ES]; exact z0) (27) (0) (0) ⟨#[]⟩ 25
        rw [ES] at K1
        have KI := hide (TT.In.wide (Nat.le_succ w.heap.size) (Nat.le_refl _) _ _ K1)
        clear K1
        have ER := hide ((hR.put5v hlt (.int .i64 (27)) (.int .i64 (0)) (.int .i64 (0)) (.string ⟨#[]⟩) (.slice (some ⟨w3.heap.size, 0, none⟩) 2 2)).alloc (.cells #[.int .i64 T0.op, .int .i64 T0.a, .int .i64 T0.b, .string T0.s, .slice ad0 T0.n cp0, .int .i64 T1.op, .int .i64 T1.a, .int .i64 T1.b, .string T1.s, .slice ad1 T1.n cp1] 25))
        have EM := hide ((MV.put5v (.int .i64 (27)) (.int .i64 (0)) (.int .i64 (0)) (.string ⟨#[]⟩) (.slice (some ⟨w3.heap.size, 0, none⟩) 2 2)).alloc (.cells #[.int .i64 T0.op, .int .i64 T0.a, .int .i64 T0.b, .string T0.s, .slice ad0 T0.n cp0, .int .i64 T1.op, .int .i64 T1.a, .int .i64 T1.b, .string T1.s, .slice ad1 T1.n cp1] 25))
        have PS := hide (put_read BX (.int .i64 (27)) (.int .i64 (0)) (.int .i64 (0)) (.string ⟨#[]⟩) (.slice (some ⟨w3.heap.size, 0, none⟩) 2 2) (.cells #[.int .i64 T0.op, .int .i64 T0.a, .int .i64 T0.b, .string T0.s, .slice ad0 T0.n cp0, .int .i64 T1.op, .int .i64 T1.a, .int .i64 T1.b, .string T1.s, .slice ad1 T1.n cp1] 25))
        have EZ : Hid (((put5v w3 w.heap.size (.int .i64 (27)) (.int .i64 (0)) (.int .i64 (0)) (.string ⟨#[]⟩) (.slice (some ⟨w3.heap.size, 0, none⟩) 2 2)).alloc (.cells #[.int .i64 T0.op, .int .i64 T0.a, .int .i64 T0.b, .string T0.s, .slice ad0 T0.n cp0, .int .i64 T1.op, .int .i64 T1.a, .int .i64 T1.b, .string T1.s, .slice ad1 T1.n cp1] 25)).heap.size = w3.heap.size + 1) := by show _ = _; rw [World.size_alloc, ES]
        have DT : Hid (DrewT w ((put5v w3 w.heap.size (.int .i64 (27)) (.int .i64 (0)) (.int .i64 (0)) (.string ⟨#[]⟩) (.slice (some ⟨w3.heap.size, 0, none⟩) 2 2)).alloc (.cells #[.int .i64 T0.op, .int .i64 T0.a, .int .i64 T0.b, .string T0.s, .slice ad0 T0.n cp0, .int .i64 T1.op, .int .i64 T1.a, .int .i64 T1.b, .string T1.s, .slice ad1 T1.n cp1] 25)) (.returned (.agg #[.int .i64 (27), .int .i64 (0), .int .i64 (0), .string ⟨#[]⟩, .slice (some ⟨w3.heap.size, 0, none⟩) 2 2]))) := ⟨(TT.node (27) (0) (0) ⟨#[]⟩ 2 (kids3 T0 T1 T1)), _, 2, rfl, by rw [unhide EZ]; exact unhide KI, Nat.le_refl _, kids3_fit (unhide F0) (unhide F1) (unhide F1) _ _ _ _ (by omega), by omega⟩
        obtain ⟨⟨u0, q0⟩, f0⟩ := BX.2 0 (by omega)
        obtain ⟨⟨u1, q1⟩, f1⟩ := BX.2 1 (by omega)
        obtain ⟨⟨u2, q2⟩, f2⟩ := BX.2 2 (by omega)
        obtain ⟨⟨u3, q3⟩, f3⟩ := BX.2 3 (by omega)
        obtain ⟨⟨u4, q4⟩, f4⟩ := BX.2 4 (by omega)
        have lB := BX.1
        clear BX ES
        go_wp2
        obtain ⟨e0', e1', e2', e3', e4'⟩ := unhide PS
        exact bodyPost_ret (v := .agg #[.int .i64 (27), .int .i64 (0), .int .i64 (0), .string ⟨#[]⟩, .slice (some ⟨w3.heap.size, 0, none⟩) 2 2]) (by simp [results, Try.results30, go_sem, e0', e1', e2', e3', e4']) rfl ⟨unhide DT, (unhide ER).mono (by omega), unhide EM⟩
      · have d2 : (p == 2) = false := by simp [e2]
        have dn : decide (0 < (n : Int)) = true := by simp; omega
        go_wp2_with fail
        refine (pick_any R _ _ _ hR (by omega) (by omega) (by omega)).mono ?_
        rintro e w2 ⟨x, rfl, x0, x1, hRn, hm⟩
        replace hR := hRn
        clear hRn
        replace BX := BX.mov hm (by omega)
        replace HD := hide ((unhide HD).mov hm hb)
        replace MV := MV.trans hm
        replace z0 := Nat.le_trans z0 hm.size
        clear hm
        go_wp2_with fail
        refine (pick_any R _ _ _ hR (by omega) (by omega) (by omega)).mono ?_
        rintro e w3 ⟨y, rfl, y0, y1, hRn, hm⟩
        replace hR := hRn
        clear hRn
        replace BX := BX.mov hm (by omega)
        replace HD := hide ((unhide HD).mov hm hb)
        replace MV := MV.trans hm
        replace z0 := Nat.le_trans z0 hm.size
        clear hm
        by_cases ey : 0 < y
        · have dy : decide (0 < y) = true := by simp; omega
          go_wp2_with fail
          refine (pick_any R _ _ _ hR (by omega) (by omega) (by omega)).mono ?_
          rintro e w4 ⟨zi, rfl, zi0, zi1, hRn, hm⟩
          replace hR := hRn
          clear hRn
          replace BX := BX.mov hm (by omega)
          replace HD := hide ((unhide HD).mov hm hb)
          replace MV := MV.trans hm
          replace z0 := Nat.le_trans z0 hm.size
          clear hm
          obtain ⟨zn, rfl⟩ := Int.eq_ofNat_of_zero_le zi0
          have hzn : zn < n := by omega
          obtain ⟨c0', c1'⟩ := unhide HD zn hzn
          rw [Nat.zero_add] at c0' c1'
          obtain ⟨v1, v2, _⟩ := unhide HV zn hzn
          go_wp2_with fail
          obtain ⟨w5, hwn⟩ : ∃ v, v = w4.alloc (.cells #[.int .i64 15, .int .i64 16, .int .i64 17, .int .i64 15] 3) := ⟨_, rfl⟩
          have bn : Below w4.heap.size w4 w5 := by rw [hwn]; exact (Below.refl _ _).alloc (Nat.le_refl _) _
          have hnums : ∀ i, i < 4 → w5.cell? ⟨w4.heap.size, i, none⟩ = some (.int .i64 (([15, 16, 17, 15] : List Int).getD i 0)) := by
            intro i hi
            rw [hwn]
            have : i = 0 ∨ i = 1 ∨ i = 2 ∨ i = 3 := by omega
            rcases this with rfl | rfl | rfl | rfl <;> simp [go_sem]
          rw [← hwn]
          have hm : Mov R w4 w5 := Mov.of bn
          replace hR := hR.below bn
          have hOR : w4.heap.size ≠ R := by omega
          clear hwn bn
          replace BX := BX.mov hm (by omega)
          replace HD := hide ((unhide HD).mov hm hb)
          replace MV := MV.trans hm
          replace z0 := Nat.le_trans z0 hm.size
          clear hm
          refine (num_any R _ w4.heap.size 4 [15, 16, 17, 15] _ rfl hR (by omega) hOR (by omega) (by omega) hnums).mono ?_
          rintro e w6 ⟨jn, hjn, rfl, hRn, hm⟩
          replace hR := hRn
          clear hRn hnums
          replace BX := BX.mov hm (by omega)
          replace HD := hide ((unhide HD).mov hm hb)
          replace MV := MV.trans hm
          replace z0 := Nat.le_trans z0 hm.size
          clear hm
          generalize ([15, 16, 17, 15] : List Int).getD jn 0 = opv
          go_wp2_with fail
          refine (unhide IH R _ b n cap S V (V zn) _ _ (by omega) (by omega) (by omega) hR (by omega) hb (Nat.lt_of_lt_of_le hbl MV.size) (unhide HD) hn1 hn4 (unhide HV) (by omega) (by omega)).mono ?_
          rintro e w7 ⟨⟨T0, ad0, cp0, rfl, i0, c0, f0, qc0⟩, hRn, hm⟩
          replace hR := hRn
          clear hRn
          have I0 := hide (TT.In.wide (show w.heap.size + 1 ≤ w6.heap.size from z0) (Nat.le_refl _) _ _ i0)
          have h0 := Nat.le_refl w7.heap.size
          have F0 := hide f0
          clear i0 f0
          replace BX := BX.mov hm (by omega)
          replace HD := hide ((unhide HD).mov hm hb)
          replace MV := MV.trans hm
          replace z0 := Nat.le_trans z0 hm.size
          clear hm
          go_wp2_with fail
          refine (unhide IH R _ b n cap S V (V zn) _ _ (by omega) (by omega) (by omega) hR (by omega) hb (Nat.lt_of_lt_of_le hbl MV.size) (unhide HD) hn1 hn4 (unhide HV) (by omega) (by omega)).mono ?_
          rintro e w8 ⟨⟨T1, ad1, cp1, rfl, i1, c1, f1, qc1⟩, hRn, hm⟩
          replace hR := hRn
          clear hRn
          have I1 := hide (TT.In.wide (show w.heap.size + 1 ≤ w7.heap.size from z0) (Nat.le_refl _) _ _ i1)
          have h1 := Nat.le_refl w8.heap.size
          have F1 := hide f1
          clear i1 f1
          replace BX := BX.mov hm (by omega)
          replace HD := hide ((unhide HD).mov hm hb)
          replace MV := MV.trans hm
          replace z0 := Nat.le_trans z0 hm.size
          replace I0 := hide ((unhide I0).mov hm (by omega) h0); replace h0 := Nat.le_trans h0 hm.size
          clear hm
          have ES := put5v_size w8 w.heap.size (.int .i64 (opv)) (.int .i64 (0)) (.int .i64 (0)) (.string ⟨#[]⟩) (.slice (some ⟨w8.heap.size, 0, none⟩) 2 2)
          have K1 := kids_in2 (w := (put5v w8 w.heap.size (.int .i64 (opv)) (.int .i64 (0)) (.int .i64 (0)) (.string ⟨#[]⟩) (.slice (some ⟨w8.heap.size, 0, none⟩) 2 2))) (lo := w.heap.size + 1) (by rw [ES]; exact TT.In.wide (Nat.le_refl _) h0 _ _ (In_put (unhide I0) (Nat.lt_succ_self w.heap.size) (.int .i64 (opv)) (.int .i64 (0)) (.int .i64 (0)) (.string ⟨#[]⟩) (.slice (some ⟨w8.heap.size, 0, none⟩) 2 2))) c0 (by rw [ES]; exact TT.In.wide (Nat.le_refl _) h1 _ _ (In_put (unhide I1) (Nat.lt_succ_self w.heap.size) (.int .i64 (opv)) (.int .i64 (0)) (.int .i64 (0)) (.string ⟨#[]⟩) (.slice (some ⟨w8.heap.size, 0, none⟩) 2 2))) c1 (by rw [ES]; exact z0) (opv) (0) (0) ⟨#[]⟩ 25
          rw [ES] at K1
          have KI := hide (TT.In.wide (Nat.le_succ w.heap.size) (Nat.le_refl _) _ _ K1)
          clear K1
          have ER := hide ((hR.put5v hlt (.int .i64 (opv)) (.int .i64 (0)) (.int .i64 (0)) (.string ⟨#[]⟩) (.slice (some ⟨w8.heap.size, 0, none⟩) 2 2)).alloc (.cells #[.int .i64 T0.op, .int .i64 T0.a, .int .i64 T0.b, .string T0.s, .slice ad0 T0.n cp0, .int .i64 T1.op, .int .i64 T1.a, .int .i64 T1.b, .string T1.s, .slice ad1 T1.n cp1] 25))
          have EM := hide ((MV.put5v (.int .i64 (opv)) (.int .i64 (0)) (.int .i64 (0)) (.string ⟨#[]⟩) (.slice (some ⟨w8.heap.size, 0, none⟩) 2 2)).alloc (.cells #[.int .i64 T0.op, .int .i64 T0.a, .int .i64 T0.b, .string T0.s, .slice ad0 T0.n cp0, .int .i64 T1.op, .int .i64 T1.a, .int .i64 T1.b, .string T1.s, .slice ad1 T1.n cp1] 25))
          have PS := hide (put_read BX (.int .i64 (opv)) (.int .i64 (0)) (.int .i64 (0)) (.string ⟨#[]⟩) (.slice (some ⟨w8.heap.size, 0, none⟩) 2 2) (.cells #[.int .i64 T0.op, .int .i64 T0.a, .int .i64 T0.b, .string T0.s, .slice ad0 T0.n cp0, .int .i64 T1.op, .int .i64 T1.a, .int .i64 T1.b, .string T1.s, .slice ad1 T1.n cp1] 25))
          have EZ : Hid (((put5v w8 w.heap.size (.int .i64 (opv)) (.int .i64 (0)) (.int .i64 (0)) (.string ⟨#[]⟩) (.slice (some ⟨w8.heap.size, 0, none⟩) 2 2)).alloc (.cells #[.int .i64 T0.op, .int .i64 T0.a, .int .i64 T0.b, .string T0.s, .slice ad0 T0.n cp0, .int .i64 T1.op, .int .i64 T1.a, .int .i64 T1.b, .string T1.s, .slice ad1 T1.n cp1] 25)).heap.size = w8.heap.size + 1) := by show _ = _; rw [World.size_alloc, ES]
          have DT : Hid (DrewT w ((put5v w8 w.heap.size (.int .i64 (opv)) (.int .i64 (0)) (.int .i64 (0)) (.string ⟨#[]⟩) (.slice (some ⟨w8.heap.size, 0, none⟩) 2 2)).alloc (.cells #[.int .i64 T0.op, .int .i64 T0.a, .int .i64 T0.b, .string T0.s, .slice ad0 T0.n cp0, .int .i64 T1.op, .int .i64 T1.a, .int .i64 T1.b, .string T1.s, .slice ad1 T1.n cp1] 25)) (.returned (.agg #[.int .i64 (opv), .int .i64 (0), .int .i64 (0), .string ⟨#[]⟩, .slice (some ⟨w8.heap.size, 0, none⟩) 2 2]))) := ⟨(TT.node (opv) (0) (0) ⟨#[]⟩ 2 (kids3 T0 T1 T1)), _, 2, rfl, by rw [unhide EZ]; exact unhide KI, Nat.le_refl _, kids3_fit (unhide F0) (unhide F1) (unhide F1) _ _ _ _ (by omega), by omega⟩
          obtain ⟨⟨u0, q0⟩, f0⟩ := BX.2 0 (by omega)
          obtain ⟨⟨u1, q1⟩, f1⟩ := BX.2 1 (by omega)
          obtain ⟨⟨u2, q2⟩, f2⟩ := BX.2 2 (by omega)
          obtain ⟨⟨u3, q3⟩, f3⟩ := BX.2 3 (by omega)
          obtain ⟨⟨u4, q4⟩, f4⟩ := BX.2 4 (by omega)
          have lB := BX.1
          clear BX ES
          go_wp2
          obtain ⟨e0', e1', e2', e3', e4'⟩ := unhide PS
          exact bodyPost_ret (v := .agg #[.int .i64 (opv), .int .i64 (0), .int .i64 (0), .string ⟨#[]⟩, .slice (some ⟨w8.heap.size, 0, none⟩) 2 2]) (by simp [results, Try.results30, go_sem, e0', e1', e2', e3', e4']) rfl ⟨unhide DT, (unhide ER).mono (by omega), unhide EM⟩
        · have dy : decide (0 < y) = false := by simp; omega
          go_wp2_with fail
          obtain ⟨w4, hwn⟩ : ∃ v, v = w3.alloc (.cells #[.int .i64 15, .int .i64 16, .int .i64 17, .int .i64 15] 3) := ⟨_, rfl⟩
          have bn : Below w3.heap.size w3 w4 := by rw [hwn]; exact (Below.refl _ _).alloc (Nat.le_refl _) _
          have hnums : ∀ i, i < 4 → w4.cell? ⟨w3.heap.size, i, none⟩ = some (.int .i64 (([15, 16, 17, 15] : List Int).getD i 0)) := by
            intro i hi
            rw [hwn]
            have : i = 0 ∨ i = 1 ∨ i = 2 ∨ i = 3 := by omega
            rcases this with rfl | rfl | rfl | rfl <;> simp [go_sem]
          rw [← hwn]
          have hm : Mov R w3 w4 := Mov.of bn
          replace hR := hR.below bn
          have hOR : w3.heap.size ≠ R := by omega
          clear hwn bn
          replace BX := BX.mov hm (by omega)
          replace HD := hide ((unhide HD).mov hm hb)
          replace MV := MV.trans hm
          replace z0 := Nat.le_trans z0 hm.size
          clear hm
          refine (num_any R _ w3.heap.size 4 [15, 16, 17, 15] _ rfl hR (by omega) hOR (by omega) (by omega) hnums).mono ?_
          rintro e w5 ⟨jn, hjn, rfl, hRn, hm⟩
          replace hR := hRn
          clear hRn hnums
          replace BX := BX.mov hm (by omega)
          replace HD := hide ((unhide HD).mov hm hb)
          replace MV := MV.trans hm
          replace z0 := Nat.le_trans z0 hm.size
          clear hm
          generalize ([15, 16, 17, 15] : List Int).getD jn 0 = opv
          go_wp2_with fail
          refine (unhide IH R _ b n cap S V (1 + x) _ _ (by omega) (by omega) (by omega) hR (by omega) hb (Nat.lt_of_lt_of_le hbl MV.size) (unhide HD) hn1 hn4 (unhide HV) (by omega) (by omega)).mono ?_
          rintro e w6 ⟨⟨T0, ad0, cp0, rfl, i0, c0, f0, qc0⟩, hRn, hm⟩
          replace hR := hRn
          clear hRn
          have I0 := hide (TT.In.wide (show w.heap.size + 1 ≤ w5.heap.size from z0) (Nat.le_refl _) _ _ i0)
          have h0 := Nat.le_refl w6.heap.size
          have F0 := hide f0
          clear i0 f0
          replace BX := BX.mov hm (by omega)
          replace HD := hide ((unhide HD).mov hm hb)
          replace MV := MV.trans hm
          replace z0 := Nat.le_trans z0 hm.size
          clear hm
          go_wp2_with fail
          refine (unhide IH R _ b n cap S V (1 + x) _ _ (by omega) (by omega) (by omega) hR (by omega) hb (Nat.lt_of_lt_of_le hbl MV.size) (unhide HD) hn1 hn4 (unhide HV) (by omega) (by omega)).mono ?_
          rintro e w7 ⟨⟨T1, ad1, cp1, rfl, i1, c1, f1, qc1⟩, hRn, hm⟩
          replace hR := hRn
          clear hRn
          have I1 := hide (TT.In.wide (show w.heap.size + 1 ≤ w6.heap.size from z0) (Nat.le_refl _) _ _ i1)
          have h1 := Nat.le_refl w7.heap.size
          have F1 := hide f1
          clear i1 f1
          replace BX := BX.mov hm (by omega)
          replace HD := hide ((unhide HD).mov hm hb)
          replace MV := MV.trans hm
          replace z0 := Nat.le_trans z0 hm.size
          replace I0 := hide ((unhide I0).mov hm (by omega) h0); replace h0 := Nat.le_trans h0 hm.size
          clear hm
          have ES := put5v_size w7 w.heap.size (.int .i64 (opv)) (.int .i64 (0)) (.int .i64 (0)) (.string ⟨#[]⟩) (.slice (some ⟨w7.heap.size, 0, none⟩) 2 2)
          have K1 := kids_in2 (w := (put5v w7 w.heap.size (.int .i64 (opv)) (.int .i64 (0)) (.int .i64 (0)) (.string ⟨#[]⟩) (.slice (some ⟨w7.heap.size, 0, none⟩) 2 2))) (lo := w.heap.size + 1) (by rw [ES]; exact TT.In.wide (Nat.le_refl _) h0 _ _ (In_put (unhide I0) (Nat.lt_succ_self w.heap.size) (.int .i64 (opv)) (.int .i64 (0)) (.int .i64 (0)) (.string ⟨#[]⟩) (.slice (some ⟨w7.heap.size, 0, none⟩) 2 2))) c0 (by rw [ES]; exact TT.In.wide (Nat.le_refl _) h1 _ _ (In_put (unhide I1) (Nat.lt_succ_self w.heap.size) (.int .i64 (opv)) (.int .i64 (0)) (.int .i64 (0)) (.string ⟨#[]⟩) (.slice (some ⟨w7.heap.size, 0, none⟩) 2 2))) c1 (by rw [ES]; exact z0) (opv) (0) (0) ⟨#[]⟩ 25
          rw [ES] at K1
          have KI := hide (TT.In.wide (Nat.le_succ w.heap.size) (Nat.le_refl _) _ _ K1)
          clear K1
          have ER := hide ((hR.put5v hlt (.int .i64 (opv)) (.int .i64 (0)) (.int .i64 (0)) (.string ⟨#[]⟩) (.slice (some ⟨w7.heap.size, 0, none⟩) 2 2)).alloc (.cells #[.int .i64 T0.op, .int .i64 T0.a, .int .i64 T0.b, .string T0.s, .slice ad0 T0.n cp0, .int .i64 T1.op, .int .i64 T1.a, .int .i64 T1.b, .string T1.s, .slice ad1 T1.n cp1] 25))
          have EM := hide ((MV.put5v (.int .i64 (opv)) (.int .i64 (0)) (.int .i64 (0)) (.string ⟨#[]⟩) (.slice (some ⟨w7.heap.size, 0, none⟩) 2 2)).alloc (.cells #[.int .i64 T0.op, .int .i64 T0.a, .int .i64 T0.b, .string T0.s, .slice ad0 T0.n cp0, .int .i64 T1.op, .int .i64 T1.a, .int .i64 T1.b, .string T1.s, .slice ad1 T1.n cp1] 25))
          have PS := hide (put_read BX (.int .i64 (opv)) (.int .i64 (0)) (.int .i64 (0)) (.string ⟨#[]⟩) (.slice (some ⟨w7.heap.size, 0, none⟩) 2 2) (.cells #[.int .i64 T0.op, .int .i64 T0.a, .int .i64 T0.b, .string T0.s, .slice ad0 T0.n cp0, .int .i64 T1.op, .int .i64 T1.a, .int .i64 T1.b, .string T1.s, .slice ad1 T1.n cp1] 25))
          have EZ : Hid (((put5v w7 w.heap.size (.int .i64 (opv)) (.int .i64 (0)) (.int .i64 (0)) (.string ⟨#[]⟩) (.slice (some ⟨w7.heap.size, 0, none⟩) 2 2)).alloc (.cells #[.int .i64 T0.op, .int .i64 T0.a, .int .i64 T0.b, .string T0.s, .slice ad0 T0.n cp0, .int .i64 T1.op, .int .i64 T1.a, .int .i64 T1.b, .string T1.s, .slice ad1 T1.n cp1] 25)).heap.size = w7.heap.size + 1) := by show _ = _; rw [World.size_alloc, ES]
          have DT : Hid (DrewT w ((put5v w7 w.heap.size (.int .i64 (opv)) (.int .i64 (0)) (.int .i64 (0)) (.string ⟨#[]⟩) (.slice (some ⟨w7.heap.size, 0, none⟩) 2 2)).alloc (.cells #[.int .i64 T0.op, .int .i64 T0.a, .int .i64 T0.b, .string T0.s, .slice ad0 T0.n cp0, .int .i64 T1.op, .int .i64 T1.a, .int .i64 T1.b, .string T1.s, .slice ad1 T1.n cp1] 25)) (.returned (.agg #[.int .i64 (opv), .int .i64 (0), .int .i64 (0), .string ⟨#[]⟩, .slice (some ⟨w7.heap.size, 0, none⟩) 2 2]))) := ⟨(TT.node (opv) (0) (0) ⟨#[]⟩ 2 (kids3 T0 T1 T1)), _, 2, rfl, by rw [unhide EZ]; exact unhide KI, Nat.le_refl _, kids3_fit (unhide F0) (unhide F1) (unhide F1) _ _ _ _ (by omega), by omega⟩
          obtain ⟨⟨u0, q0⟩, f0⟩ := BX.2 0 (by omega)
          obtain ⟨⟨u1, q1⟩, f1⟩ := BX.2 1 (by omega)
          obtain ⟨⟨u2, q2⟩, f2⟩ := BX.2 2 (by omega)
          obtain ⟨⟨u3, q3⟩, f3⟩ := BX.2 3 (by omega)
          obtain ⟨⟨u4, q4⟩, f4⟩ := BX.2 4 (by omega)
          have lB := BX.1
          clear BX ES
          go_wp2
          obtain ⟨e0', e1', e2', e3', e4'⟩ := unhide PS
          exact bodyPost_ret (v := .agg #[.int .i64 (opv), .int .i64 (0), .int .i64 (0), .string ⟨#[]⟩, .slice (some ⟨w7.heap.size, 0, none⟩) 2 2]) (by simp [results, Try.results30, go_sem, e0', e1', e2', e3', e4']) rfl ⟨unhide DT, (unhide ER).mono (by omega), unhide EM⟩
set_option maxHeartbeats 8000000 in
theorem term_leaf (k R N b n cap : Nat) (S : Nat → ByteArray) (V : Nat → Int) (sort deep : Int) (w : World) (hd1 : deep < 1) (hR : Rd w R N) (hN : N + cN k ≤ 900000) (hb : b ≠ R) (hbl : b < w.heap.size) (hd : Decs w b 0 n S V) (hn1 : 1 ≤ n) (hn4 : n ≤ 4) (hv : ∀ i, i < n → 1 ≤ V i ∧ V i ≤ 4 ∧ (S i).size ≤ 4) (hs0 : 0 ≤ sort) (hs4 : sort ≤ 4) :
    Calls Try.prog 16 #[.pointer (some ⟨R, 0, none⟩), .slice (some ⟨b, 0, none⟩) n cap, .int .i64 sort, .int .i64 deep] w fun e w' => DrewT w w' e ∧ Rd w' R (N + cN k) ∧ Mov R w w' := by
  have hlt := hR.lt
  have hck := cN_ge k
  have dd : decide (deep < 1) = true := by simp; omega
  go_enter Try.func16, Try.ntmps16
  go_wp2_with fail
  obtain ⟨w0, hw0⟩ : ∃ v, v = w.alloc (.cells #[.int .i64 0, .int .i64 0, .int .i64 0, .string ⟨#[]⟩, .slice none 0 0] 25) := ⟨_, rfl⟩
  have BX : Made w0 w.heap.size 5 := by rw [hw0]; exact zero_made _ _
  have b0 : Below w.heap.size w w0 := by rw [hw0]; exact (Below.refl _ _).alloc (Nat.le_refl _) _
  have z0 : w.heap.size + 1 ≤ w0.heap.size := by rw [hw0]; simp
  rw [← hw0]
  replace hR := hR.below b0
  have MV : Mov R w w0 := Mov.of b0
  have HD := hide (hd.later b0)
  have HV := hide hv
  clear hw0 b0 hd hv
  refine (leafy_any R _ b n cap S V sort _ hR (by omega) hb (Nat.lt_of_lt_of_le hbl MV.size) (unhide HD) hn1 hn4 (unhide HV) (by omega) (by omega)).mono ?_
  rintro e w1 ⟨⟨T0, ad0, cp0, rfl, i0, c0, f0, qc0⟩, hRn, hm⟩
  replace hR := hRn
  clear hRn
  have I0 := hide (TT.In.wide (show w.heap.size + 1 ≤ w0.heap.size from z0) (Nat.le_refl _) _ _ i0)
  have h0 := Nat.le_refl w1.heap.size
  have F0 := hide f0
  clear i0 f0
  replace BX := BX.mov hm (by omega)
  replace HD := hide ((unhide HD).mov hm hb)
  replace MV := MV.trans hm
  replace z0 := Nat.le_trans z0 hm.size
  clear hm
  have EI := hide (TT.In.wide (Nat.le_succ w.heap.size) h0 _ _ (In_put (unhide I0) (Nat.lt_succ_self w.heap.size) (.int .i64 T0.op) (.int .i64 T0.a) (.int .i64 T0.b) (.string T0.s) (.slice ad0 T0.n cp0)))
  have ER := hide (hR.put5v hlt (.int .i64 T0.op) (.int .i64 T0.a) (.int .i64 T0.b) (.string T0.s) (.slice ad0 T0.n cp0))
  have EM := hide (MV.put5v (.int .i64 T0.op) (.int .i64 T0.a) (.int .i64 T0.b) (.string T0.s) (.slice ad0 T0.n cp0))
  have ES := hide (put5v_size w1 w.heap.size (.int .i64 T0.op) (.int .i64 T0.a) (.int .i64 T0.b) (.string T0.s) (.slice ad0 T0.n cp0))
  obtain ⟨⟨u0, q0⟩, f0⟩ := BX.2 0 (by omega)
  obtain ⟨⟨u1, q1⟩, f1⟩ := BX.2 1 (by omega)
  obtain ⟨⟨u2, q2⟩, f2⟩ := BX.2 2 (by omega)
  obtain ⟨⟨u3, q3⟩, f3⟩ := BX.2 3 (by omega)
  obtain ⟨⟨u4, q4⟩, f4⟩ := BX.2 4 (by omega)
  have lB := BX.1
  clear BX
  go_wp2
  exact bodyPost_ret (v := .agg #[.int .i64 T0.op, .int .i64 T0.a, .int .i64 T0.b, .string T0.s, .slice ad0 T0.n cp0]) (by simp [results, Try.results16, go_sem, q0, q1, q2, q3, q4]) rfl ⟨⟨T0, ad0, cp0, rfl, by rw [show ((((((w1.setCell ⟨w.heap.size, 0, none⟩ (.int .i64 T0.op)).setCell ⟨w.heap.size, 1, none⟩ (.int .i64 T0.a)).setCell ⟨w.heap.size, 2, none⟩ (.int .i64 T0.b)).setCell ⟨w.heap.size, 3, none⟩ (.string T0.s)).setCell ⟨w.heap.size, 4, none⟩ (.slice ad0 T0.n cp0)).heap.size) = w1.heap.size from unhide ES]; exact unhide EI, c0, unhide F0, qc0⟩, (unhide ER).mono (by omega), unhide EM⟩
set_option maxHeartbeats 8000000 in
theorem term_ask (k : Nat) (IH : Hid (TermC k)) (R N b n cap : Nat) (S : Nat → ByteArray) (V : Nat → Int) (deep : Int) (w : World) (hdk : deep ≤ k + 1) (hd1 : 1 ≤ deep) (hd9 : deep ≤ 100) (hR : Rd w R N) (hN : N + cN (k + 1) ≤ 900000) (hb : b ≠ R) (hbl : b < w.heap.size) (hd : Decs w b 0 n S V) (hn1 : 1 ≤ n) (hn4 : n ≤ 4) (hv : ∀ i, i < n → 1 ≤ V i ∧ V i ≤ 4 ∧ (S i).size ≤ 4) :
    Calls Try.prog 16 #[.pointer (some ⟨R, 0, none⟩), .slice (some ⟨b, 0, none⟩) n cap, .int .i64 0, .int .i64 deep] w fun e w' => DrewT w w' e ∧ Rd w' R (N + cN (k + 1)) ∧ Mov R w w' := by
  have hlt := hR.lt
  have hck := cN_ge k
  have hcs : cN (k + 1) = 20 + 3 * cN k := rfl
  have dd : decide (deep < 1) = false := by simp; omega
  go_enter Try.func16, Try.ntmps16
  go_wp2_with fail
  obtain ⟨w0, hw0⟩ : ∃ v, v = w.alloc (.cells #[.int .i64 0, .int .i64 0, .int .i64 0, .string ⟨#[]⟩, .slice none 0 0] 25) := ⟨_, rfl⟩
  have BX : Made w0 w.heap.size 5 := by rw [hw0]; exact zero_made _ _
  have b0 : Below w.heap.size w w0 := by rw [hw0]; exact (Below.refl _ _).alloc (Nat.le_refl _) _
  have z0 : w.heap.size + 1 ≤ w0.heap.size := by rw [hw0]; simp
  rw [← hw0]
  replace hR := hR.below b0
  have MV : Mov R w w0 := Mov.of b0
  have HD := hide (hd.later b0)
  have HV := hide hv
  clear hw0 b0 hd hv
  refine (pick_any R _ _ _ hR (by omega) (by omega) (by omega)).mono ?_
  rintro e w1 ⟨p, rfl, p0, p1, hRn, hm⟩
  replace hR := hRn
  clear hRn
  replace BX := BX.mov hm (by omega)
  replace HD := hide ((unhide HD).mov hm hb)
  replace MV := MV.trans hm
  replace z0 := Nat.le_trans z0 hm.size
  clear hm
  by_cases e0 : p = 0
  · subst e0
    go_wp2_with fail
    refine (unhide IH R _ b n cap S V (0) _ _ (by omega) (by omega) (by omega) hR (by omega) hb (Nat.lt_of_lt_of_le hbl MV.size) (unhide HD) hn1 hn4 (unhide HV) (by omega) (by omega)).mono ?_
    rintro e w2 ⟨⟨T0, ad0, cp0, rfl, i0, c0, f0, qc0⟩, hRn, hm⟩
    replace hR := hRn
    clear hRn
    have I0 := hide (TT.In.wide (show w.heap.size + 1 ≤ w1.heap.size from z0) (Nat.le_refl _) _ _ i0)
    have h0 := Nat.le_refl w2.heap.size
    have F0 := hide f0
    clear i0 f0
    replace BX := BX.mov hm (by omega)
    replace HD := hide ((unhide HD).mov hm hb)
    replace MV := MV.trans hm
    replace z0 := Nat.le_trans z0 hm.size
    clear hm
    go_wp2_with fail
    refine (unhide IH R _ b n cap S V (0) _ _ (by omega) (by omega) (by omega) hR (by omega) hb (Nat.lt_of_lt_of_le hbl MV.size) (unhide HD) hn1 hn4 (unhide HV) (by omega) (by omega)).mono ?_
    rintro e w3 ⟨⟨T1, ad1, cp1, rfl, i1, c1, f1, qc1⟩, hRn, hm⟩
    replace hR := hRn
    clear hRn
    have I1 := hide (TT.In.wide (show w.heap.size + 1 ≤ w2.heap.size from z0) (Nat.le_refl _) _ _ i1)
    have h1 := Nat.le_refl w3.heap.size
    have F1 := hide f1
    clear i1 f1
    replace BX := BX.mov hm (by omega)
    replace HD := hide ((unhide HD).mov hm hb)
    replace MV := MV.trans hm
    replace z0 := Nat.le_trans z0 hm.size
    replace I0 := hide ((unhide I0).mov hm (by omega) h0); replace h0 := Nat.le_trans h0 hm.size
    clear hm
    go_wp2_with fail
    refine (unhide IH R _ b n cap S V (0) _ _ (by omega) (by omega) (by omega) hR (by omega) hb (Nat.lt_of_lt_of_le hbl MV.size) (unhide HD) hn1 hn4 (unhide HV) (by omega) (by omega)).mono ?_
    rintro e w4 ⟨⟨T2, ad2, cp2, rfl, i2, c2, f2, qc2⟩, hRn, hm⟩
    replace hR := hRn
    clear hRn
    have I2 := hide (TT.In.wide (show w.heap.size + 1 ≤ w3.heap.size from z0) (Nat.le_refl _) _ _ i2)
    have h2 := Nat.le_refl w4.heap.size
    have F2 := hide f2
    clear i2 f2
    replace BX := BX.mov hm (by omega)
    replace HD := hide ((unhide HD).mov hm hb)
    replace MV := MV.trans hm
    replace z0 := Nat.le_trans z0 hm.size
    replace I0 := hide ((unhide I0).mov hm (by omega) h0); replace h0 := Nat.le_trans h0 hm.size
    replace I1 := hide ((unhide I1).mov hm (by omega) h1); replace h1 := Nat.le_trans h1 hm.size
    clear hm
    have ES := put5v_size w4 w.heap.size (.int .i64 (23)) (.int .i64 (0)) (.int .i64 (0)) (.string ⟨#[]⟩) (.slice (some ⟨w4.heap.size, 0, none⟩) 3 3)
    have K1 := kids_in3 (w := (put5v w4 w.heap.size (.int .i64 (23)) (.int .i64 (0)) (.int .i64 (0)) (.string ⟨#[]⟩) (.slice (some ⟨w4.heap.size, 0, none⟩) 3 3))) (lo := w.heap.size + 1) (by rw [ES]; exact TT.In.wide (Nat.le_refl _) h0 _ _ (In_put (unhide I0) (Nat.lt_succ_self w.heap.size) (.int .i64 (23)) (.int .i64 (0)) (.int .i64 (0)) (.string ⟨#[]⟩) (.slice (some ⟨w4.heap.size, 0, none⟩) 3 3))) c0 (by rw [ES]; exact TT.In.wide (Nat.le_refl _) h1 _ _ (In_put (unhide I1) (Nat.lt_succ_self w.heap.size) (.int .i64 (23)) (.int .i64 (0)) (.int .i64 (0)) (.string ⟨#[]⟩) (.slice (some ⟨w4.heap.size, 0, none⟩) 3 3))) c1 (by rw [ES]; exact TT.In.wide (Nat.le_refl _) h2 _ _ (In_put (unhide I2) (Nat.lt_succ_self w.heap.size) (.int .i64 (23)) (.int .i64 (0)) (.int .i64 (0)) (.string ⟨#[]⟩) (.slice (some ⟨w4.heap.size, 0, none⟩) 3 3))) c2 (by rw [ES]; exact z0) (23) (0) (0) ⟨#[]⟩ 25
    rw [ES] at K1
    have KI := hide (TT.In.wide (Nat.le_succ w.heap.size) (Nat.le_refl _) _ _ K1)
    clear K1
    have ER := hide ((hR.put5v hlt (.int .i64 (23)) (.int .i64 (0)) (.int .i64 (0)) (.string ⟨#[]⟩) (.slice (some ⟨w4.heap.size, 0, none⟩) 3 3)).alloc (.cells #[.int .i64 T0.op, .int .i64 T0.a, .int .i64 T0.b, .string T0.s, .slice ad0 T0.n cp0, .int .i64 T1.op, .int .i64 T1.a, .int .i64 T1.b, .string T1.s, .slice ad1 T1.n cp1, .int .i64 T2.op, .int .i64 T2.a, .int .i64 T2.b, .string T2.s, .slice ad2 T2.n cp2] 25))
    have EM := hide ((MV.put5v (.int .i64 (23)) (.int .i64 (0)) (.int .i64 (0)) (.string ⟨#[]⟩) (.slice (some ⟨w4.heap.size, 0, none⟩) 3 3)).alloc (.cells #[.int .i64 T0.op, .int .i64 T0.a, .int .i64 T0.b, .string T0.s, .slice ad0 T0.n cp0, .int .i64 T1.op, .int .i64 T1.a, .int .i64 T1.b, .string T1.s, .slice ad1 T1.n cp1, .int .i64 T2.op, .int .i64 T2.a, .int .i64 T2.b, .string T2.s, .slice ad2 T2.n cp2] 25))
    have PS := hide (put_read BX (.int .i64 (23)) (.int .i64 (0)) (.int .i64 (0)) (.string ⟨#[]⟩) (.slice (some ⟨w4.heap.size, 0, none⟩) 3 3) (.cells #[.int .i64 T0.op, .int .i64 T0.a, .int .i64 T0.b, .string T0.s, .slice ad0 T0.n cp0, .int .i64 T1.op, .int .i64 T1.a, .int .i64 T1.b, .string T1.s, .slice ad1 T1.n cp1, .int .i64 T2.op, .int .i64 T2.a, .int .i64 T2.b, .string T2.s, .slice ad2 T2.n cp2] 25))
    have EZ : Hid (((put5v w4 w.heap.size (.int .i64 (23)) (.int .i64 (0)) (.int .i64 (0)) (.string ⟨#[]⟩) (.slice (some ⟨w4.heap.size, 0, none⟩) 3 3)).alloc (.cells #[.int .i64 T0.op, .int .i64 T0.a, .int .i64 T0.b, .string T0.s, .slice ad0 T0.n cp0, .int .i64 T1.op, .int .i64 T1.a, .int .i64 T1.b, .string T1.s, .slice ad1 T1.n cp1, .int .i64 T2.op, .int .i64 T2.a, .int .i64 T2.b, .string T2.s, .slice ad2 T2.n cp2] 25)).heap.size = w4.heap.size + 1) := by show _ = _; rw [World.size_alloc, ES]
    have DT : Hid (DrewT w ((put5v w4 w.heap.size (.int .i64 (23)) (.int .i64 (0)) (.int .i64 (0)) (.string ⟨#[]⟩) (.slice (some ⟨w4.heap.size, 0, none⟩) 3 3)).alloc (.cells #[.int .i64 T0.op, .int .i64 T0.a, .int .i64 T0.b, .string T0.s, .slice ad0 T0.n cp0, .int .i64 T1.op, .int .i64 T1.a, .int .i64 T1.b, .string T1.s, .slice ad1 T1.n cp1, .int .i64 T2.op, .int .i64 T2.a, .int .i64 T2.b, .string T2.s, .slice ad2 T2.n cp2] 25)) (.returned (.agg #[.int .i64 (23), .int .i64 (0), .int .i64 (0), .string ⟨#[]⟩, .slice (some ⟨w4.heap.size, 0, none⟩) 3 3]))) := ⟨(TT.node (23) (0) (0) ⟨#[]⟩ 3 (kids3 T0 T1 T2)), _, 3, rfl, by rw [unhide EZ]; exact unhide KI, Nat.le_refl _, kids3_fit (unhide F0) (unhide F1) (unhide F2) _ _ _ _ (by omega), by omega⟩
    obtain ⟨⟨u0, q0⟩, f0⟩ := BX.2 0 (by omega)
    obtain ⟨⟨u1, q1⟩, f1⟩ := BX.2 1 (by omega)
    obtain ⟨⟨u2, q2⟩, f2⟩ := BX.2 2 (by omega)
    obtain ⟨⟨u3, q3⟩, f3⟩ := BX.2 3 (by omega)
    obtain ⟨⟨u4, q4⟩, f4⟩ := BX.2 4 (by omega)
    have lB := BX.1
    clear BX ES
    go_wp2
    obtain ⟨e0', e1', e2', e3', e4'⟩ := unhide PS
    exact bodyPost_ret (v := .agg #[.int .i64 (23), .int .i64 (0), .int .i64 (0), .string ⟨#[]⟩, .slice (some ⟨w4.heap.size, 0, none⟩) 3 3]) (by simp [results, Try.results16, go_sem, e0', e1', e2', e3', e4']) rfl ⟨unhide DT, (unhide ER).mono (by omega), unhide EM⟩
  · have d0 : (p == 0) = false := by simp [e0]
    go_wp2_with fail
    refine (asks_any k IH R _ b n cap S V _ _ (by omega) (by omega) (by omega) hR (by omega) hb (Nat.lt_of_lt_of_le hbl MV.size) (unhide HD) hn1 hn4 (unhide HV)).mono ?_
    rintro e w2 ⟨⟨T0, ad0, cp0, rfl, i0, c0, f0, qc0⟩, hRn, hm⟩
    replace hR := hRn
    clear hRn
    have I0 := hide (TT.In.wide (show w.heap.size + 1 ≤ w1.heap.size from z0) (Nat.le_refl _) _ _ i0)
    have h0 := Nat.le_refl w2.heap.size
    have F0 := hide f0
    clear i0 f0
    replace BX := BX.mov hm (by omega)
    replace HD := hide ((unhide HD).mov hm hb)
    replace MV := MV.trans hm
    replace z0 := Nat.le_trans z0 hm.size
    clear hm
    have EI := hide (TT.In.wide (Nat.le_succ w.heap.size) h0 _ _ (In_put (unhide I0) (Nat.lt_succ_self w.heap.size) (.int .i64 T0.op) (.int .i64 T0.a) (.int .i64 T0.b) (.string T0.s) (.slice ad0 T0.n cp0)))
    have ER := hide (hR.put5v hlt (.int .i64 T0.op) (.int .i64 T0.a) (.int .i64 T0.b) (.string T0.s) (.slice ad0 T0.n cp0))
    have EM := hide (MV.put5v (.int .i64 T0.op) (.int .i64 T0.a) (.int .i64 T0.b) (.string T0.s) (.slice ad0 T0.n cp0))
    have ES := hide (put5v_size w2 w.heap.size (.int .i64 T0.op) (.int .i64 T0.a) (.int .i64 T0.b) (.string T0.s) (.slice ad0 T0.n cp0))
    obtain ⟨⟨u0, q0⟩, f0⟩ := BX.2 0 (by omega)
    obtain ⟨⟨u1, q1⟩, f1⟩ := BX.2 1 (by omega)
    obtain ⟨⟨u2, q2⟩, f2⟩ := BX.2 2 (by omega)
    obtain ⟨⟨u3, q3⟩, f3⟩ := BX.2 3 (by omega)
    obtain ⟨⟨u4, q4⟩, f4⟩ := BX.2 4 (by omega)
    have lB := BX.1
    clear BX
    go_wp2
    exact bodyPost_ret (v := .agg #[.int .i64 T0.op, .int .i64 T0.a, .int .i64 T0.b, .string T0.s, .slice ad0 T0.n cp0]) (by simp [results, Try.results16, go_sem, q0, q1, q2, q3, q4]) rfl ⟨⟨T0, ad0, cp0, rfl, by rw [show ((((((w2.setCell ⟨w.heap.size, 0, none⟩ (.int .i64 T0.op)).setCell ⟨w.heap.size, 1, none⟩ (.int .i64 T0.a)).setCell ⟨w.heap.size, 2, none⟩ (.int .i64 T0.b)).setCell ⟨w.heap.size, 3, none⟩ (.string T0.s)).setCell ⟨w.heap.size, 4, none⟩ (.slice ad0 T0.n cp0)).heap.size) = w2.heap.size from unhide ES]; exact unhide EI, c0, unhide F0, qc0⟩, (unhide ER).mono (by omega), unhide EM⟩
set_option maxHeartbeats 16000000 in
theorem term_num (k : Nat) (IH : Hid (TermC k)) (R N b n cap : Nat) (S : Nat → ByteArray) (V : Nat → Int) (sort deep : Int) (w : World) (hdk : deep ≤ k + 1) (hd1 : 1 ≤ deep) (hd9 : deep ≤ 100) (hR : Rd w R N) (hN : N + cN (k + 1) ≤ 900000) (hb : b ≠ R) (hbl : b < w.heap.size) (hd : Decs w b 0 n S V) (hn1 : 1 ≤ n) (hn4 : n ≤ 4) (hv : ∀ i, i < n → 1 ≤ V i ∧ V i ≤ 4 ∧ (S i).size ≤ 4) (hs1 : 1 ≤ sort) (hs4 : sort ≤ 4) :
    Calls Try.prog 16 #[.pointer (some ⟨R, 0, none⟩), .slice (some ⟨b, 0, none⟩) n cap, .int .i64 sort, .int .i64 deep] w fun e w' => DrewT w w' e ∧ Rd w' R (N + cN (k + 1)) ∧ Mov R w w' := by
  have hlt := hR.lt
  have hck := cN_ge k
  have hcs : cN (k + 1) = 20 + 3 * cN k := rfl
  have dd : decide (deep < 1) = false := by simp; omega
  have ds : decide (0 < sort) = true := by simp; omega
  have dz : (sort == 0) = false := by simp; omega
  go_enter Try.func16, Try.ntmps16
  go_wp2_with fail
  obtain ⟨w0, hw0⟩ : ∃ v, v = w.alloc (.cells #[.int .i64 0, .int .i64 0, .int .i64 0, .string ⟨#[]⟩, .slice none 0 0] 25) := ⟨_, rfl⟩
  have BX : Made w0 w.heap.size 5 := by rw [hw0]; exact zero_made _ _
  have b0 : Below w.heap.size w w0 := by rw [hw0]; exact (Below.refl _ _).alloc (Nat.le_refl _) _
  have z0 : w.heap.size + 1 ≤ w0.heap.size := by rw [hw0]; simp
  rw [← hw0]
  replace hR := hR.below b0
  have MV : Mov R w w0 := Mov.of b0
  have HD := hide (hd.later b0)
  have HV := hide hv
  clear hw0 b0 hd hv
  refine (pick_any R _ _ _ hR (by omega) (by omega) (by omega)).mono ?_
  rintro e w1 ⟨q, rfl, q0, q1, hRn, hm⟩
  replace hR := hRn
  clear hRn
  replace BX := BX.mov hm (by omega)
  replace HD := hide ((unhide HD).mov hm hb)
  replace MV := MV.trans hm
  replace z0 := Nat.le_trans z0 hm.size
  clear hm
  by_cases eq : q = 0
  · subst eq
    go_wp2_with fail
    refine (leafy_any R _ b n cap S V (sort) _ hR (by omega) hb (Nat.lt_of_lt_of_le hbl MV.size) (unhide HD) hn1 hn4 (unhide HV) (by omega) (by omega)).mono ?_
    rintro e w2 ⟨⟨T0, ad0, cp0, rfl, i0, c0, f0, qc0⟩, hRn, hm⟩
    replace hR := hRn
    clear hRn
    have I0 := hide (TT.In.wide (show w.heap.size + 1 ≤ w1.heap.size from z0) (Nat.le_refl _) _ _ i0)
    have h0 := Nat.le_refl w2.heap.size
    have F0 := hide f0
    clear i0 f0
    replace BX := BX.mov hm (by omega)
    replace HD := hide ((unhide HD).mov hm hb)
    replace MV := MV.trans hm
    replace z0 := Nat.le_trans z0 hm.size
    clear hm
    have EI := hide (TT.In.wide (Nat.le_succ w.heap.size) h0 _ _ (In_put (unhide I0) (Nat.lt_succ_self w.heap.size) (.int .i64 T0.op) (.int .i64 T0.a) (.int .i64 T0.b) (.string T0.s) (.slice ad0 T0.n cp0)))
    have ER := hide (hR.put5v hlt (.int .i64 T0.op) (.int .i64 T0.a) (.int .i64 T0.b) (.string T0.s) (.slice ad0 T0.n cp0))
    have EM := hide (MV.put5v (.int .i64 T0.op) (.int .i64 T0.a) (.int .i64 T0.b) (.string T0.s) (.slice ad0 T0.n cp0))
    have ES := hide (put5v_size w2 w.heap.size (.int .i64 T0.op) (.int .i64 T0.a) (.int .i64 T0.b) (.string T0.s) (.slice ad0 T0.n cp0))
    obtain ⟨⟨u0, q0⟩, f0⟩ := BX.2 0 (by omega)
    obtain ⟨⟨u1, q1⟩, f1⟩ := BX.2 1 (by omega)
    obtain ⟨⟨u2, q2⟩, f2⟩ := BX.2 2 (by omega)
    obtain ⟨⟨u3, q3⟩, f3⟩ := BX.2 3 (by omega)
    obtain ⟨⟨u4, q4⟩, f4⟩ := BX.2 4 (by omega)
    have lB := BX.1
    clear BX
    go_wp2
    exact bodyPost_ret (v := .agg #[.int .i64 T0.op, .int .i64 T0.a, .int .i64 T0.b, .string T0.s, .slice ad0 T0.n cp0]) (by simp [results, Try.results16, go_sem, q0, q1, q2, q3, q4]) rfl ⟨⟨T0, ad0, cp0, rfl, by rw [show ((((((w2.setCell ⟨w.heap.size, 0, none⟩ (.int .i64 T0.op)).setCell ⟨w.heap.size, 1, none⟩ (.int .i64 T0.a)).setCell ⟨w.heap.size, 2, none⟩ (.int .i64 T0.b)).setCell ⟨w.heap.size, 3, none⟩ (.string T0.s)).setCell ⟨w.heap.size, 4, none⟩ (.slice ad0 T0.n cp0)).heap.size) = w2.heap.size from unhide ES]; exact unhide EI, c0, unhide F0, qc0⟩, (unhide ER).mono (by omega), unhide EM⟩
  · have dq : (q == 0) = false := by simp [eq]
    go_wp2_with fail
    refine (pick_any R _ _ _ hR (by omega) (by omega) (by omega)).mono ?_
    rintro e w2 ⟨p, rfl, p0, p1, hRn, hm⟩
    replace hR := hRn
    clear hRn
    replace BX := BX.mov hm (by omega)
    replace HD := hide ((unhide HD).mov hm hb)
    replace MV := MV.trans hm
    replace z0 := Nat.le_trans z0 hm.size
    clear hm
    by_cases e0 : p = 0
    · subst e0
      go_wp2_with fail
      refine (unhide IH R _ b n cap S V (0) _ _ (by omega) (by omega) (by omega) hR (by omega) hb (Nat.lt_of_lt_of_le hbl MV.size) (unhide HD) hn1 hn4 (unhide HV) (by omega) (by omega)).mono ?_
      rintro e w3 ⟨⟨T0, ad0, cp0, rfl, i0, c0, f0, qc0⟩, hRn, hm⟩
      replace hR := hRn
      clear hRn
      have I0 := hide (TT.In.wide (show w.heap.size + 1 ≤ w2.heap.size from z0) (Nat.le_refl _) _ _ i0)
      have h0 := Nat.le_refl w3.heap.size
      have F0 := hide f0
      clear i0 f0
      replace BX := BX.mov hm (by omega)
      replace HD := hide ((unhide HD).mov hm hb)
      replace MV := MV.trans hm
      replace z0 := Nat.le_trans z0 hm.size
      clear hm
      go_wp2_with fail
      refine (unhide IH R _ b n cap S V (sort) _ _ (by omega) (by omega) (by omega) hR (by omega) hb (Nat.lt_of_lt_of_le hbl MV.size) (unhide HD) hn1 hn4 (unhide HV) (by omega) (by omega)).mono ?_
      rintro e w4 ⟨⟨T1, ad1, cp1, rfl, i1, c1, f1, qc1⟩, hRn, hm⟩
      replace hR := hRn
      clear hRn
      have I1 := hide (TT.In.wide (show w.heap.size + 1 ≤ w3.heap.size from z0) (Nat.le_refl _) _ _ i1)
      have h1 := Nat.le_refl w4.heap.size
      have F1 := hide f1
      clear i1 f1
      replace BX := BX.mov hm (by omega)
      replace HD := hide ((unhide HD).mov hm hb)
      replace MV := MV.trans hm
      replace z0 := Nat.le_trans z0 hm.size
      replace I0 := hide ((unhide I0).mov hm (by omega) h0); replace h0 := Nat.le_trans h0 hm.size
      clear hm
      go_wp2_with fail
      refine (unhide IH R _ b n cap S V (sort) _ _ (by omega) (by omega) (by omega) hR (by omega) hb (Nat.lt_of_lt_of_le hbl MV.size) (unhide HD) hn1 hn4 (unhide HV) (by omega) (by omega)).mono ?_
      rintro e w5 ⟨⟨T2, ad2, cp2, rfl, i2, c2, f2, qc2⟩, hRn, hm⟩
      replace hR := hRn
      clear hRn
      have I2 := hide (TT.In.wide (show w.heap.size + 1 ≤ w4.heap.size from z0) (Nat.le_refl _) _ _ i2)
      have h2 := Nat.le_refl w5.heap.size
      have F2 := hide f2
      clear i2 f2
      replace BX := BX.mov hm (by omega)
      replace HD := hide ((unhide HD).mov hm hb)
      replace MV := MV.trans hm
      replace z0 := Nat.le_trans z0 hm.size
      replace I0 := hide ((unhide I0).mov hm (by omega) h0); replace h0 := Nat.le_trans h0 hm.size
      replace I1 := hide ((unhide I1).mov hm (by omega) h1); replace h1 := Nat.le_trans h1 hm.size
      clear hm
      have ES := put5v_size w5 w.heap.size (.int .i64 (23)) (.int .i64 (0)) (.int .i64 (0)) (.string ⟨#[]⟩) (.slice (some ⟨w5.heap.size, 0, none⟩) 3 3)
      have K1 := kids_in3 (w := (put5v w5 w.heap.size (.int .i64 (23)) (.int .i64 (0)) (.int .i64 (0)) (.string ⟨#[]⟩) (.slice (some ⟨w5.heap.size, 0, none⟩) 3 3))) (lo := w.heap.size + 1) (by rw [ES]; exact TT.In.wide (Nat.le_refl _) h0 _ _ (In_put (unhide I0) (Nat.lt_succ_self w.heap.size) (.int .i64 (23)) (.int .i64 (0)) (.int .i64 (0)) (.string ⟨#[]⟩) (.slice (some ⟨w5.heap.size, 0, none⟩) 3 3))) c0 (by rw [ES]; exact TT.In.wide (Nat.le_refl _) h1 _ _ (In_put (unhide I1) (Nat.lt_succ_self w.heap.size) (.int .i64 (23)) (.int .i64 (0)) (.int .i64 (0)) (.string ⟨#[]⟩) (.slice (some ⟨w5.heap.size, 0, none⟩) 3 3))) c1 (by rw [ES]; exact TT.In.wide (Nat.le_refl _) h2 _ _ (In_put (unhide I2) (Nat.lt_succ_self w.heap.size) (.int .i64 (23)) (.int .i64 (0)) (.int .i64 (0)) (.string ⟨#[]⟩) (.slice (some ⟨w5.heap.size, 0, none⟩) 3 3))) c2 (by rw [ES]; exact z0) (23) (0) (0) ⟨#[]⟩ 25
      rw [ES] at K1
      have KI := hide (TT.In.wide (Nat.le_succ w.heap.size) (Nat.le_refl _) _ _ K1)
      clear K1
      have ER := hide ((hR.put5v hlt (.int .i64 (23)) (.int .i64 (0)) (.int .i64 (0)) (.string ⟨#[]⟩) (.slice (some ⟨w5.heap.size, 0, none⟩) 3 3)).alloc (.cells #[.int .i64 T0.op, .int .i64 T0.a, .int .i64 T0.b, .string T0.s, .slice ad0 T0.n cp0, .int .i64 T1.op, .int .i64 T1.a, .int .i64 T1.b, .string T1.s, .slice ad1 T1.n cp1, .int .i64 T2.op, .int .i64 T2.a, .int .i64 T2.b, .string T2.s, .slice ad2 T2.n cp2] 25))
      have EM := hide ((MV.put5v (.int .i64 (23)) (.int .i64 (0)) (.int .i64 (0)) (.string ⟨#[]⟩) (.slice (some ⟨w5.heap.size, 0, none⟩) 3 3)).alloc (.cells #[.int .i64 T0.op, .int .i64 T0.a, .int .i64 T0.b, .string T0.s, .slice ad0 T0.n cp0, .int .i64 T1.op, .int .i64 T1.a, .int .i64 T1.b, .string T1.s, .slice ad1 T1.n cp1, .int .i64 T2.op, .int .i64 T2.a, .int .i64 T2.b, .string T2.s, .slice ad2 T2.n cp2] 25))
      have PS := hide (put_read BX (.int .i64 (23)) (.int .i64 (0)) (.int .i64 (0)) (.string ⟨#[]⟩) (.slice (some ⟨w5.heap.size, 0, none⟩) 3 3) (.cells #[.int .i64 T0.op, .int .i64 T0.a, .int .i64 T0.b, .string T0.s, .slice ad0 T0.n cp0, .int .i64 T1.op, .int .i64 T1.a, .int .i64 T1.b, .string T1.s, .slice ad1 T1.n cp1, .int .i64 T2.op, .int .i64 T2.a, .int .i64 T2.b, .string T2.s, .slice ad2 T2.n cp2] 25))
      have EZ : Hid (((put5v w5 w.heap.size (.int .i64 (23)) (.int .i64 (0)) (.int .i64 (0)) (.string ⟨#[]⟩) (.slice (some ⟨w5.heap.size, 0, none⟩) 3 3)).alloc (.cells #[.int .i64 T0.op, .int .i64 T0.a, .int .i64 T0.b, .string T0.s, .slice ad0 T0.n cp0, .int .i64 T1.op, .int .i64 T1.a, .int .i64 T1.b, .string T1.s, .slice ad1 T1.n cp1, .int .i64 T2.op, .int .i64 T2.a, .int .i64 T2.b, .string T2.s, .slice ad2 T2.n cp2] 25)).heap.size = w5.heap.size + 1) := by show _ = _; rw [World.size_alloc, ES]
      have DT : Hid (DrewT w ((put5v w5 w.heap.size (.int .i64 (23)) (.int .i64 (0)) (.int .i64 (0)) (.string ⟨#[]⟩) (.slice (some ⟨w5.heap.size, 0, none⟩) 3 3)).alloc (.cells #[.int .i64 T0.op, .int .i64 T0.a, .int .i64 T0.b, .string T0.s, .slice ad0 T0.n cp0, .int .i64 T1.op, .int .i64 T1.a, .int .i64 T1.b, .string T1.s, .slice ad1 T1.n cp1, .int .i64 T2.op, .int .i64 T2.a, .int .i64 T2.b, .string T2.s, .slice ad2 T2.n cp2] 25)) (.returned (.agg #[.int .i64 (23), .int .i64 (0), .int .i64 (0), .string ⟨#[]⟩, .slice (some ⟨w5.heap.size, 0, none⟩) 3 3]))) := ⟨(TT.node (23) (0) (0) ⟨#[]⟩ 3 (kids3 T0 T1 T2)), _, 3, rfl, by rw [unhide EZ]; exact unhide KI, Nat.le_refl _, kids3_fit (unhide F0) (unhide F1) (unhide F2) _ _ _ _ (by omega), by omega⟩
      obtain ⟨⟨u0, q0⟩, f0⟩ := BX.2 0 (by omega)
      obtain ⟨⟨u1, q1⟩, f1⟩ := BX.2 1 (by omega)
      obtain ⟨⟨u2, q2⟩, f2⟩ := BX.2 2 (by omega)
      obtain ⟨⟨u3, q3⟩, f3⟩ := BX.2 3 (by omega)
      obtain ⟨⟨u4, q4⟩, f4⟩ := BX.2 4 (by omega)
      have lB := BX.1
      clear BX ES
      go_wp2
      obtain ⟨e0', e1', e2', e3', e4'⟩ := unhide PS
      exact bodyPost_ret (v := .agg #[.int .i64 (23), .int .i64 (0), .int .i64 (0), .string ⟨#[]⟩, .slice (some ⟨w5.heap.size, 0, none⟩) 3 3]) (by simp [results, Try.results16, go_sem, e0', e1', e2', e3', e4']) rfl ⟨unhide DT, (unhide ER).mono (by omega), unhide EM⟩
    · have d0 : (p == 0) = false := by simp [e0]
      by_cases e1 : p = 1
      · subst e1
        go_wp2_with fail
        refine (pick_any R _ _ _ hR (by omega) (by omega) (by omega)).mono ?_
        rintro e w3 ⟨x, rfl, x0, x1, hRn, hm⟩
        replace hR := hRn
        clear hRn
        replace BX := BX.mov hm (by omega)
        replace HD := hide ((unhide HD).mov hm hb)
        replace MV := MV.trans hm
        replace z0 := Nat.le_trans z0 hm.size
        clear hm
        go_wp2_with fail
        refine (pick_any R _ _ _ hR (by omega) (by omega) (by omega)).mono ?_
        rintro e w4 ⟨y, rfl, y0, y1, hRn, hm⟩
        replace hR := hRn
        clear hRn
        replace BX := BX.mov hm (by omega)
        replace HD := hide ((unhide HD).mov hm hb)
        replace MV := MV.trans hm
        replace z0 := Nat.le_trans z0 hm.size
        clear hm
        go_wp2_with fail
        refine (unhide IH R _ b n cap S V (sort + x) _ _ (by omega) (by omega) (by omega) hR (by omega) hb (Nat.lt_of_lt_of_le hbl MV.size) (unhide HD) hn1 hn4 (unhide HV) (by omega) (by omega)).mono ?_
        rintro e w5 ⟨⟨T0, ad0, cp0, rfl, i0, c0, f0, qc0⟩, hRn, hm⟩
        replace hR := hRn
        clear hRn
        have I0 := hide (TT.In.wide (show w.heap.size + 1 ≤ w4.heap.size from z0) (Nat.le_refl _) _ _ i0)
        have h0 := Nat.le_refl w5.heap.size
        have F0 := hide f0
        clear i0 f0
        replace BX := BX.mov hm (by omega)
        replace HD := hide ((unhide HD).mov hm hb)
        replace MV := MV.trans hm
        replace z0 := Nat.le_trans z0 hm.size
        clear hm
        have ES := put5v_size w5 w.heap.size (.int .i64 (22)) (.int .i64 (y + sort - 1)) (.int .i64 (y)) (.string ⟨#[]⟩) (.slice (some ⟨w5.heap.size, 0, none⟩) 1 1)
        have K1 := kids_in1 (w := (put5v w5 w.heap.size (.int .i64 (22)) (.int .i64 (y + sort - 1)) (.int .i64 (y)) (.string ⟨#[]⟩) (.slice (some ⟨w5.heap.size, 0, none⟩) 1 1))) (lo := w.heap.size + 1) (by rw [ES]; exact TT.In.wide (Nat.le_refl _) h0 _ _ (In_put (unhide I0) (Nat.lt_succ_self w.heap.size) (.int .i64 (22)) (.int .i64 (y + sort - 1)) (.int .i64 (y)) (.string ⟨#[]⟩) (.slice (some ⟨w5.heap.size, 0, none⟩) 1 1))) c0 (by rw [ES]; exact z0) (22) (y + sort - 1) (y) ⟨#[]⟩ 25
        rw [ES] at K1
        have KI := hide (TT.In.wide (Nat.le_succ w.heap.size) (Nat.le_refl _) _ _ K1)
        clear K1
        have ER := hide ((hR.put5v hlt (.int .i64 (22)) (.int .i64 (y + sort - 1)) (.int .i64 (y)) (.string ⟨#[]⟩) (.slice (some ⟨w5.heap.size, 0, none⟩) 1 1)).alloc (.cells #[.int .i64 T0.op, .int .i64 T0.a, .int .i64 T0.b, .string T0.s, .slice ad0 T0.n cp0] 25))
        have EM := hide ((MV.put5v (.int .i64 (22)) (.int .i64 (y + sort - 1)) (.int .i64 (y)) (.string ⟨#[]⟩) (.slice (some ⟨w5.heap.size, 0, none⟩) 1 1)).alloc (.cells #[.int .i64 T0.op, .int .i64 T0.a, .int .i64 T0.b, .string T0.s, .slice ad0 T0.n cp0] 25))
        have PS := hide (put_read BX (.int .i64 (22)) (.int .i64 (y + sort - 1)) (.int .i64 (y)) (.string ⟨#[]⟩) (.slice (some ⟨w5.heap.size, 0, none⟩) 1 1) (.cells #[.int .i64 T0.op, .int .i64 T0.a, .int .i64 T0.b, .string T0.s, .slice ad0 T0.n cp0] 25))
        have EZ : Hid (((put5v w5 w.heap.size (.int .i64 (22)) (.int .i64 (y + sort - 1)) (.int .i64 (y)) (.string ⟨#[]⟩) (.slice (some ⟨w5.heap.size, 0, none⟩) 1 1)).alloc (.cells #[.int .i64 T0.op, .int .i64 T0.a, .int .i64 T0.b, .string T0.s, .slice ad0 T0.n cp0] 25)).heap.size = w5.heap.size + 1) := by show _ = _; rw [World.size_alloc, ES]
        have DT : Hid (DrewT w ((put5v w5 w.heap.size (.int .i64 (22)) (.int .i64 (y + sort - 1)) (.int .i64 (y)) (.string ⟨#[]⟩) (.slice (some ⟨w5.heap.size, 0, none⟩) 1 1)).alloc (.cells #[.int .i64 T0.op, .int .i64 T0.a, .int .i64 T0.b, .string T0.s, .slice ad0 T0.n cp0] 25)) (.returned (.agg #[.int .i64 (22), .int .i64 (y + sort - 1), .int .i64 (y), .string ⟨#[]⟩, .slice (some ⟨w5.heap.size, 0, none⟩) 1 1]))) := ⟨(TT.node (22) (y + sort - 1) (y) ⟨#[]⟩ 1 (kids3 T0 T0 T0)), _, 1, rfl, by rw [unhide EZ]; exact unhide KI, Nat.le_refl _, kids3_fit (unhide F0) (unhide F0) (unhide F0) _ _ _ _ (by omega), by omega⟩
        obtain ⟨⟨u0, q0⟩, f0⟩ := BX.2 0 (by omega)
        obtain ⟨⟨u1, q1⟩, f1⟩ := BX.2 1 (by omega)
        obtain ⟨⟨u2, q2⟩, f2⟩ := BX.2 2 (by omega)
        obtain ⟨⟨u3, q3⟩, f3⟩ := BX.2 3 (by omega)
        obtain ⟨⟨u4, q4⟩, f4⟩ := BX.2 4 (by omega)
        have lB := BX.1
        clear BX ES
        go_wp2
        obtain ⟨e0', e1', e2', e3', e4'⟩ := unhide PS
        exact bodyPost_ret (v := .agg #[.int .i64 (22), .int .i64 (y + sort - 1), .int .i64 (y), .string ⟨#[]⟩, .slice (some ⟨w5.heap.size, 0, none⟩) 1 1]) (by simp [results, Try.results16, go_sem, e0', e1', e2', e3', e4']) rfl ⟨unhide DT, (unhide ER).mono (by omega), unhide EM⟩
      · have d1 : (p == 1) = false := by simp [e1]
        by_cases e2 : p = 2
        · subst e2
          by_cases es : 1 < sort
          · have ds1 : decide (1 < sort) = true := by simp; omega
            go_wp2_with fail
            refine (pick_any R _ _ _ hR (by omega) (by omega) (by omega)).mono ?_
            rintro e w3 ⟨x, rfl, x0, x1, hRn, hm⟩
            replace hR := hRn
            clear hRn
            replace BX := BX.mov hm (by omega)
            replace HD := hide ((unhide HD).mov hm hb)
            replace MV := MV.trans hm
            replace z0 := Nat.le_trans z0 hm.size
            clear hm
            go_wp2_with fail
            refine (unhide IH R _ b n cap S V (1 + x) _ _ (by omega) (by omega) (by omega) hR (by omega) hb (Nat.lt_of_lt_of_le hbl MV.size) (unhide HD) hn1 hn4 (unhide HV) (by omega) (by omega)).mono ?_
            rintro e w4 ⟨⟨T0, ad0, cp0, rfl, i0, c0, f0, qc0⟩, hRn, hm⟩
            replace hR := hRn
            clear hRn
            have I0 := hide (TT.In.wide (show w.heap.size + 1 ≤ w3.heap.size from z0) (Nat.le_refl _) _ _ i0)
            have h0 := Nat.le_refl w4.heap.size
            have F0 := hide f0
            clear i0 f0
            replace BX := BX.mov hm (by omega)
            replace HD := hide ((unhide HD).mov hm hb)
            replace MV := MV.trans hm
            replace z0 := Nat.le_trans z0 hm.size
            clear hm
            go_wp2_with fail
            refine (unhide IH R _ b n cap S V (sort - (1 + x)) _ _ (by omega) (by omega) (by omega) hR (by omega) hb (Nat.lt_of_lt_of_le hbl MV.size) (unhide HD) hn1 hn4 (unhide HV) (by omega) (by omega)).mono ?_
            rintro e w5 ⟨⟨T1, ad1, cp1, rfl, i1, c1, f1, qc1⟩, hRn, hm⟩
            replace hR := hRn
            clear hRn
            have I1 := hide (TT.In.wide (show w.heap.size + 1 ≤ w4.heap.size from z0) (Nat.le_refl _) _ _ i1)
            have h1 := Nat.le_refl w5.heap.size
            have F1 := hide f1
            clear i1 f1
            replace BX := BX.mov hm (by omega)
            replace HD := hide ((unhide HD).mov hm hb)
            replace MV := MV.trans hm
            replace z0 := Nat.le_trans z0 hm.size
            replace I0 := hide ((unhide I0).mov hm (by omega) h0); replace h0 := Nat.le_trans h0 hm.size
            clear hm
            have ES := put5v_size w5 w.heap.size (.int .i64 (14)) (.int .i64 (0)) (.int .i64 (0)) (.string ⟨#[]⟩) (.slice (some ⟨w5.heap.size, 0, none⟩) 2 2)
            have K1 := kids_in2 (w := (put5v w5 w.heap.size (.int .i64 (14)) (.int .i64 (0)) (.int .i64 (0)) (.string ⟨#[]⟩) (.slice (some ⟨w5.heap.size, 0, none⟩) 2 2))) (lo := w.heap.size + 1) (by rw [ES]; exact TT.In.wide (Nat.le_refl _) h0 _ _ (In_put (unhide I0) (Nat.lt_succ_self w.heap.size) (.int .i64 (14)) (.int .i64 (0)) (.int .i64 (0)) (.string ⟨#[]⟩) (.slice (some ⟨w5.heap.size, 0, none⟩) 2 2))) c0 (by rw [ES]; exact TT.In.wide (Nat.le_refl _) h1 _ _ (In_put (unhide I1) (Nat.lt_succ_self w.heap.size) (.int .i64 (14)) (.int .i64 (0)) (.int .i64 (0)) (.string ⟨#[]⟩) (.slice (some ⟨w5.heap.size, 0, none⟩) 2 2))) c1 (by rw [ES]; exact z0) (14) (0) (0) ⟨#[]⟩ 25
            rw [ES] at K1
            have KI := hide (TT.In.wide (Nat.le_succ w.heap.size) (Nat.le_refl _) _ _ K1)
            clear K1
            have ER := hide ((hR.put5v hlt (.int .i64 (14)) (.int .i64 (0)) (.int .i64 (0)) (.string ⟨#[]⟩) (.slice (some ⟨w5.heap.size, 0, none⟩) 2 2)).alloc (.cells #[.int .i64 T0.op, .int .i64 T0.a, .int .i64 T0.b, .string T0.s, .slice ad0 T0.n cp0, .int .i64 T1.op, .int .i64 T1.a, .int .i64 T1.b, .string T1.s, .slice ad1 T1.n cp1] 25))
            have EM := hide ((MV.put5v (.int .i64 (14)) (.int .i64 (0)) (.int .i64 (0)) (.string ⟨#[]⟩) (.slice (some ⟨w5.heap.size, 0, none⟩) 2 2)).alloc (.cells #[.int .i64 T0.op, .int .i64 T0.a, .int .i64 T0.b, .string T0.s, .slice ad0 T0.n cp0, .int .i64 T1.op, .int .i64 T1.a, .int .i64 T1.b, .string T1.s, .slice ad1 T1.n cp1] 25))
            have PS := hide (put_read BX (.int .i64 (14)) (.int .i64 (0)) (.int .i64 (0)) (.string ⟨#[]⟩) (.slice (some ⟨w5.heap.size, 0, none⟩) 2 2) (.cells #[.int .i64 T0.op, .int .i64 T0.a, .int .i64 T0.b, .string T0.s, .slice ad0 T0.n cp0, .int .i64 T1.op, .int .i64 T1.a, .int .i64 T1.b, .string T1.s, .slice ad1 T1.n cp1] 25))
            have EZ : Hid (((put5v w5 w.heap.size (.int .i64 (14)) (.int .i64 (0)) (.int .i64 (0)) (.string ⟨#[]⟩) (.slice (some ⟨w5.heap.size, 0, none⟩) 2 2)).alloc (.cells #[.int .i64 T0.op, .int .i64 T0.a, .int .i64 T0.b, .string T0.s, .slice ad0 T0.n cp0, .int .i64 T1.op, .int .i64 T1.a, .int .i64 T1.b, .string T1.s, .slice ad1 T1.n cp1] 25)).heap.size = w5.heap.size + 1) := by show _ = _; rw [World.size_alloc, ES]
            have DT : Hid (DrewT w ((put5v w5 w.heap.size (.int .i64 (14)) (.int .i64 (0)) (.int .i64 (0)) (.string ⟨#[]⟩) (.slice (some ⟨w5.heap.size, 0, none⟩) 2 2)).alloc (.cells #[.int .i64 T0.op, .int .i64 T0.a, .int .i64 T0.b, .string T0.s, .slice ad0 T0.n cp0, .int .i64 T1.op, .int .i64 T1.a, .int .i64 T1.b, .string T1.s, .slice ad1 T1.n cp1] 25)) (.returned (.agg #[.int .i64 (14), .int .i64 (0), .int .i64 (0), .string ⟨#[]⟩, .slice (some ⟨w5.heap.size, 0, none⟩) 2 2]))) := ⟨(TT.node (14) (0) (0) ⟨#[]⟩ 2 (kids3 T0 T1 T1)), _, 2, rfl, by rw [unhide EZ]; exact unhide KI, Nat.le_refl _, kids3_fit (unhide F0) (unhide F1) (unhide F1) _ _ _ _ (by omega), by omega⟩
            obtain ⟨⟨u0, q0⟩, f0⟩ := BX.2 0 (by omega)
            obtain ⟨⟨u1, q1⟩, f1⟩ := BX.2 1 (by omega)
            obtain ⟨⟨u2, q2⟩, f2⟩ := BX.2 2 (by omega)
            obtain ⟨⟨u3, q3⟩, f3⟩ := BX.2 3 (by omega)
            obtain ⟨⟨u4, q4⟩, f4⟩ := BX.2 4 (by omega)
            have lB := BX.1
            clear BX ES
            go_wp2
            obtain ⟨e0', e1', e2', e3', e4'⟩ := unhide PS
            exact bodyPost_ret (v := .agg #[.int .i64 (14), .int .i64 (0), .int .i64 (0), .string ⟨#[]⟩, .slice (some ⟨w5.heap.size, 0, none⟩) 2 2]) (by simp [results, Try.results16, go_sem, e0', e1', e2', e3', e4']) rfl ⟨unhide DT, (unhide ER).mono (by omega), unhide EM⟩
          · have ds1 : decide (1 < sort) = false := by simp; omega
            go_wp2_with fail
            refine (pick_any R _ _ _ hR (by omega) (by omega) (by omega)).mono ?_
            rintro e w3 ⟨x, rfl, x0, x1, hRn, hm⟩
            replace hR := hRn
            clear hRn
            replace BX := BX.mov hm (by omega)
            replace HD := hide ((unhide HD).mov hm hb)
            replace MV := MV.trans hm
            replace z0 := Nat.le_trans z0 hm.size
            clear hm
            go_wp2_with fail
            refine (unhide IH R _ b n cap S V (sort) _ _ (by omega) (by omega) (by omega) hR (by omega) hb (Nat.lt_of_lt_of_le hbl MV.size) (unhide HD) hn1 hn4 (unhide HV) (by omega) (by omega)).mono ?_
            rintro e w4 ⟨⟨T0, ad0, cp0, rfl, i0, c0, f0, qc0⟩, hRn, hm⟩
            replace hR := hRn
            clear hRn
            have I0 := hide (TT.In.wide (show w.heap.size + 1 ≤ w3.heap.size from z0) (Nat.le_refl _) _ _ i0)
            have h0 := Nat.le_refl w4.heap.size
            have F0 := hide f0
            clear i0 f0
            replace BX := BX.mov hm (by omega)
            replace HD := hide ((unhide HD).mov hm hb)
            replace MV := MV.trans hm
            replace z0 := Nat.le_trans z0 hm.size
            clear hm
            have ES := put5v_size w4 w.heap.size (.int .i64 (1 + x)) (.int .i64 (0)) (.int .i64 (0)) (.string ⟨#[]⟩) (.slice (some ⟨w4.heap.size, 0, none⟩) 1 1)
            have K1 := kids_in1 (w := (put5v w4 w.heap.size (.int .i64 (1 + x)) (.int .i64 (0)) (.int .i64 (0)) (.string ⟨#[]⟩) (.slice (some ⟨w4.heap.size, 0, none⟩) 1 1))) (lo := w.heap.size + 1) (by rw [ES]; exact TT.In.wide (Nat.le_refl _) h0 _ _ (In_put (unhide I0) (Nat.lt_succ_self w.heap.size) (.int .i64 (1 + x)) (.int .i64 (0)) (.int .i64 (0)) (.string ⟨#[]⟩) (.slice (some ⟨w4.heap.size, 0, none⟩) 1 1))) c0 (by rw [ES]; exact z0) (1 + x) (0) (0) ⟨#[]⟩ 25
            rw [ES] at K1
            have KI := hide (TT.In.wide (Nat.le_succ w.heap.size) (Nat.le_refl _) _ _ K1)
            clear K1
            have ER := hide ((hR.put5v hlt (.int .i64 (1 + x)) (.int .i64 (0)) (.int .i64 (0)) (.string ⟨#[]⟩) (.slice (some ⟨w4.heap.size, 0, none⟩) 1 1)).alloc (.cells #[.int .i64 T0.op, .int .i64 T0.a, .int .i64 T0.b, .string T0.s, .slice ad0 T0.n cp0] 25))
            have EM := hide ((MV.put5v (.int .i64 (1 + x)) (.int .i64 (0)) (.int .i64 (0)) (.string ⟨#[]⟩) (.slice (some ⟨w4.heap.size, 0, none⟩) 1 1)).alloc (.cells #[.int .i64 T0.op, .int .i64 T0.a, .int .i64 T0.b, .string T0.s, .slice ad0 T0.n cp0] 25))
            have PS := hide (put_read BX (.int .i64 (1 + x)) (.int .i64 (0)) (.int .i64 (0)) (.string ⟨#[]⟩) (.slice (some ⟨w4.heap.size, 0, none⟩) 1 1) (.cells #[.int .i64 T0.op, .int .i64 T0.a, .int .i64 T0.b, .string T0.s, .slice ad0 T0.n cp0] 25))
            have EZ : Hid (((put5v w4 w.heap.size (.int .i64 (1 + x)) (.int .i64 (0)) (.int .i64 (0)) (.string ⟨#[]⟩) (.slice (some ⟨w4.heap.size, 0, none⟩) 1 1)).alloc (.cells #[.int .i64 T0.op, .int .i64 T0.a, .int .i64 T0.b, .string T0.s, .slice ad0 T0.n cp0] 25)).heap.size = w4.heap.size + 1) := by show _ = _; rw [World.size_alloc, ES]
            have DT : Hid (DrewT w ((put5v w4 w.heap.size (.int .i64 (1 + x)) (.int .i64 (0)) (.int .i64 (0)) (.string ⟨#[]⟩) (.slice (some ⟨w4.heap.size, 0, none⟩) 1 1)).alloc (.cells #[.int .i64 T0.op, .int .i64 T0.a, .int .i64 T0.b, .string T0.s, .slice ad0 T0.n cp0] 25)) (.returned (.agg #[.int .i64 (1 + x), .int .i64 (0), .int .i64 (0), .string ⟨#[]⟩, .slice (some ⟨w4.heap.size, 0, none⟩) 1 1]))) := ⟨(TT.node (1 + x) (0) (0) ⟨#[]⟩ 1 (kids3 T0 T0 T0)), _, 1, rfl, by rw [unhide EZ]; exact unhide KI, Nat.le_refl _, kids3_fit (unhide F0) (unhide F0) (unhide F0) _ _ _ _ (by omega), by omega⟩
            obtain ⟨⟨u0, q0⟩, f0⟩ := BX.2 0 (by omega)
            obtain ⟨⟨u1, q1⟩, f1⟩ := BX.2 1 (by omega)
            obtain ⟨⟨u2, q2⟩, f2⟩ := BX.2 2 (by omega)
            obtain ⟨⟨u3, q3⟩, f3⟩ := BX.2 3 (by omega)
            obtain ⟨⟨u4, q4⟩, f4⟩ := BX.2 4 (by omega)
            have lB := BX.1
            clear BX ES
            go_wp2
            obtain ⟨e0', e1', e2', e3', e4'⟩ := unhide PS
            exact bodyPost_ret (v := .agg #[.int .i64 (1 + x), .int .i64 (0), .int .i64 (0), .string ⟨#[]⟩, .slice (some ⟨w4.heap.size, 0, none⟩) 1 1]) (by simp [results, Try.results16, go_sem, e0', e1', e2', e3', e4']) rfl ⟨unhide DT, (unhide ER).mono (by omega), unhide EM⟩
        · have d2 : (p == 2) = false := by simp [e2]
          by_cases e5 : p < 5
          · have d5 : decide (p < 5) = true := by simp; omega
            go_wp2_with fail
            refine (pick_any R _ _ _ hR (by omega) (by omega) (by omega)).mono ?_
            rintro e w3 ⟨x, rfl, x0, x1, hRn, hm⟩
            replace hR := hRn
            clear hRn
            replace BX := BX.mov hm (by omega)
            replace HD := hide ((unhide HD).mov hm hb)
            replace MV := MV.trans hm
            replace z0 := Nat.le_trans z0 hm.size
            clear hm
            go_wp2_with fail
            refine (unhide IH R _ b n cap S V (sort) _ _ (by omega) (by omega) (by omega) hR (by omega) hb (Nat.lt_of_lt_of_le hbl MV.size) (unhide HD) hn1 hn4 (unhide HV) (by omega) (by omega)).mono ?_
            rintro e w4 ⟨⟨T0, ad0, cp0, rfl, i0, c0, f0, qc0⟩, hRn, hm⟩
            replace hR := hRn
            clear hRn
            have I0 := hide (TT.In.wide (show w.heap.size + 1 ≤ w3.heap.size from z0) (Nat.le_refl _) _ _ i0)
            have h0 := Nat.le_refl w4.heap.size
            have F0 := hide f0
            clear i0 f0
            replace BX := BX.mov hm (by omega)
            replace HD := hide ((unhide HD).mov hm hb)
            replace MV := MV.trans hm
            replace z0 := Nat.le_trans z0 hm.size
            clear hm
            have ES := put5v_size w4 w.heap.size (.int .i64 (1 + x)) (.int .i64 (0)) (.int .i64 (0)) (.string ⟨#[]⟩) (.slice (some ⟨w4.heap.size, 0, none⟩) 1 1)
            have K1 := kids_in1 (w := (put5v w4 w.heap.size (.int .i64 (1 + x)) (.int .i64 (0)) (.int .i64 (0)) (.string ⟨#[]⟩) (.slice (some ⟨w4.heap.size, 0, none⟩) 1 1))) (lo := w.heap.size + 1) (by rw [ES]; exact TT.In.wide (Nat.le_refl _) h0 _ _ (In_put (unhide I0) (Nat.lt_succ_self w.heap.size) (.int .i64 (1 + x)) (.int .i64 (0)) (.int .i64 (0)) (.string ⟨#[]⟩) (.slice (some ⟨w4.heap.size, 0, none⟩) 1 1))) c0 (by rw [ES]; exact z0) (1 + x) (0) (0) ⟨#[]⟩ 25
            rw [ES] at K1
            have KI := hide (TT.In.wide (Nat.le_succ w.heap.size) (Nat.le_refl _) _ _ K1)
            clear K1
            have ER := hide ((hR.put5v hlt (.int .i64 (1 + x)) (.int .i64 (0)) (.int .i64 (0)) (.string ⟨#[]⟩) (.slice (some ⟨w4.heap.size, 0, none⟩) 1 1)).alloc (.cells #[.int .i64 T0.op, .int .i64 T0.a, .int .i64 T0.b, .string T0.s, .slice ad0 T0.n cp0] 25))
            have EM := hide ((MV.put5v (.int .i64 (1 + x)) (.int .i64 (0)) (.int .i64 (0)) (.string ⟨#[]⟩) (.slice (some ⟨w4.heap.size, 0, none⟩) 1 1)).alloc (.cells #[.int .i64 T0.op, .int .i64 T0.a, .int .i64 T0.b, .string T0.s, .slice ad0 T0.n cp0] 25))
            have PS := hide (put_read BX (.int .i64 (1 + x)) (.int .i64 (0)) (.int .i64 (0)) (.string ⟨#[]⟩) (.slice (some ⟨w4.heap.size, 0, none⟩) 1 1) (.cells #[.int .i64 T0.op, .int .i64 T0.a, .int .i64 T0.b, .string T0.s, .slice ad0 T0.n cp0] 25))
            have EZ : Hid (((put5v w4 w.heap.size (.int .i64 (1 + x)) (.int .i64 (0)) (.int .i64 (0)) (.string ⟨#[]⟩) (.slice (some ⟨w4.heap.size, 0, none⟩) 1 1)).alloc (.cells #[.int .i64 T0.op, .int .i64 T0.a, .int .i64 T0.b, .string T0.s, .slice ad0 T0.n cp0] 25)).heap.size = w4.heap.size + 1) := by show _ = _; rw [World.size_alloc, ES]
            have DT : Hid (DrewT w ((put5v w4 w.heap.size (.int .i64 (1 + x)) (.int .i64 (0)) (.int .i64 (0)) (.string ⟨#[]⟩) (.slice (some ⟨w4.heap.size, 0, none⟩) 1 1)).alloc (.cells #[.int .i64 T0.op, .int .i64 T0.a, .int .i64 T0.b, .string T0.s, .slice ad0 T0.n cp0] 25)) (.returned (.agg #[.int .i64 (1 + x), .int .i64 (0), .int .i64 (0), .string ⟨#[]⟩, .slice (some ⟨w4.heap.size, 0, none⟩) 1 1]))) := ⟨(TT.node (1 + x) (0) (0) ⟨#[]⟩ 1 (kids3 T0 T0 T0)), _, 1, rfl, by rw [unhide EZ]; exact unhide KI, Nat.le_refl _, kids3_fit (unhide F0) (unhide F0) (unhide F0) _ _ _ _ (by omega), by omega⟩
            obtain ⟨⟨u0, q0⟩, f0⟩ := BX.2 0 (by omega)
            obtain ⟨⟨u1, q1⟩, f1⟩ := BX.2 1 (by omega)
            obtain ⟨⟨u2, q2⟩, f2⟩ := BX.2 2 (by omega)
            obtain ⟨⟨u3, q3⟩, f3⟩ := BX.2 3 (by omega)
            obtain ⟨⟨u4, q4⟩, f4⟩ := BX.2 4 (by omega)
            have lB := BX.1
            clear BX ES
            go_wp2
            obtain ⟨e0', e1', e2', e3', e4'⟩ := unhide PS
            exact bodyPost_ret (v := .agg #[.int .i64 (1 + x), .int .i64 (0), .int .i64 (0), .string ⟨#[]⟩, .slice (some ⟨w4.heap.size, 0, none⟩) 1 1]) (by simp [results, Try.results16, go_sem, e0', e1', e2', e3', e4']) rfl ⟨unhide DT, (unhide ER).mono (by omega), unhide EM⟩
          · have d5 : decide (p < 5) = false := by simp; omega
            go_wp2_with fail
            refine (pick_any R _ _ _ hR (by omega) (by omega) (by omega)).mono ?_
            rintro e w3 ⟨x, rfl, x0, x1, hRn, hm⟩
            replace hR := hRn
            clear hRn
            replace BX := BX.mov hm (by omega)
            replace HD := hide ((unhide HD).mov hm hb)
            replace MV := MV.trans hm
            replace z0 := Nat.le_trans z0 hm.size
            clear hm
            go_wp2_with fail
            refine (unhide IH R _ b n cap S V (sort) _ _ (by omega) (by omega) (by omega) hR (by omega) hb (Nat.lt_of_lt_of_le hbl MV.size) (unhide HD) hn1 hn4 (unhide HV) (by omega) (by omega)).mono ?_
            rintro e w4 ⟨⟨T0, ad0, cp0, rfl, i0, c0, f0, qc0⟩, hRn, hm⟩
            replace hR := hRn
            clear hRn
            have I0 := hide (TT.In.wide (show w.heap.size + 1 ≤ w3.heap.size from z0) (Nat.le_refl _) _ _ i0)
            have h0 := Nat.le_refl w4.heap.size
            have F0 := hide f0
            clear i0 f0
            replace BX := BX.mov hm (by omega)
            replace HD := hide ((unhide HD).mov hm hb)
            replace MV := MV.trans hm
            replace z0 := Nat.le_trans z0 hm.size
            clear hm
            go_wp2_with fail
            refine (unhide IH R _ b n cap S V (sort) _ _ (by omega) (by omega) (by omega) hR (by omega) hb (Nat.lt_of_lt_of_le hbl MV.size) (unhide HD) hn1 hn4 (unhide HV) (by omega) (by omega)).mono ?_
            rintro e w5 ⟨⟨T1, ad1, cp1, rfl, i1, c1, f1, qc1⟩, hRn, hm⟩
            replace hR := hRn
            clear hRn
            have I1 := hide (TT.In.wide (show w.heap.size + 1 ≤ w4.heap.size from z0) (Nat.le_refl _) _ _ i1)
            have h1 := Nat.le_refl w5.heap.size
            have F1 := hide f1
            clear i1 f1
            replace BX := BX.mov hm (by omega)
            replace HD := hide ((unhide HD).mov hm hb)
            replace MV := MV.trans hm
            replace z0 := Nat.le_trans z0 hm.size
            replace I0 := hide ((unhide I0).mov hm (by omega) h0); replace h0 := Nat.le_trans h0 hm.size
            clear hm
            have ES := put5v_size w5 w.heap.size (.int .i64 (3 + x)) (.int .i64 (0)) (.int .i64 (0)) (.string ⟨#[]⟩) (.slice (some ⟨w5.heap.size, 0, none⟩) 2 2)
            have K1 := kids_in2 (w := (put5v w5 w.heap.size (.int .i64 (3 + x)) (.int .i64 (0)) (.int .i64 (0)) (.string ⟨#[]⟩) (.slice (some ⟨w5.heap.size, 0, none⟩) 2 2))) (lo := w.heap.size + 1) (by rw [ES]; exact TT.In.wide (Nat.le_refl _) h0 _ _ (In_put (unhide I0) (Nat.lt_succ_self w.heap.size) (.int .i64 (3 + x)) (.int .i64 (0)) (.int .i64 (0)) (.string ⟨#[]⟩) (.slice (some ⟨w5.heap.size, 0, none⟩) 2 2))) c0 (by rw [ES]; exact TT.In.wide (Nat.le_refl _) h1 _ _ (In_put (unhide I1) (Nat.lt_succ_self w.heap.size) (.int .i64 (3 + x)) (.int .i64 (0)) (.int .i64 (0)) (.string ⟨#[]⟩) (.slice (some ⟨w5.heap.size, 0, none⟩) 2 2))) c1 (by rw [ES]; exact z0) (3 + x) (0) (0) ⟨#[]⟩ 25
            rw [ES] at K1
            have KI := hide (TT.In.wide (Nat.le_succ w.heap.size) (Nat.le_refl _) _ _ K1)
            clear K1
            have ER := hide ((hR.put5v hlt (.int .i64 (3 + x)) (.int .i64 (0)) (.int .i64 (0)) (.string ⟨#[]⟩) (.slice (some ⟨w5.heap.size, 0, none⟩) 2 2)).alloc (.cells #[.int .i64 T0.op, .int .i64 T0.a, .int .i64 T0.b, .string T0.s, .slice ad0 T0.n cp0, .int .i64 T1.op, .int .i64 T1.a, .int .i64 T1.b, .string T1.s, .slice ad1 T1.n cp1] 25))
            have EM := hide ((MV.put5v (.int .i64 (3 + x)) (.int .i64 (0)) (.int .i64 (0)) (.string ⟨#[]⟩) (.slice (some ⟨w5.heap.size, 0, none⟩) 2 2)).alloc (.cells #[.int .i64 T0.op, .int .i64 T0.a, .int .i64 T0.b, .string T0.s, .slice ad0 T0.n cp0, .int .i64 T1.op, .int .i64 T1.a, .int .i64 T1.b, .string T1.s, .slice ad1 T1.n cp1] 25))
            have PS := hide (put_read BX (.int .i64 (3 + x)) (.int .i64 (0)) (.int .i64 (0)) (.string ⟨#[]⟩) (.slice (some ⟨w5.heap.size, 0, none⟩) 2 2) (.cells #[.int .i64 T0.op, .int .i64 T0.a, .int .i64 T0.b, .string T0.s, .slice ad0 T0.n cp0, .int .i64 T1.op, .int .i64 T1.a, .int .i64 T1.b, .string T1.s, .slice ad1 T1.n cp1] 25))
            have EZ : Hid (((put5v w5 w.heap.size (.int .i64 (3 + x)) (.int .i64 (0)) (.int .i64 (0)) (.string ⟨#[]⟩) (.slice (some ⟨w5.heap.size, 0, none⟩) 2 2)).alloc (.cells #[.int .i64 T0.op, .int .i64 T0.a, .int .i64 T0.b, .string T0.s, .slice ad0 T0.n cp0, .int .i64 T1.op, .int .i64 T1.a, .int .i64 T1.b, .string T1.s, .slice ad1 T1.n cp1] 25)).heap.size = w5.heap.size + 1) := by show _ = _; rw [World.size_alloc, ES]
            have DT : Hid (DrewT w ((put5v w5 w.heap.size (.int .i64 (3 + x)) (.int .i64 (0)) (.int .i64 (0)) (.string ⟨#[]⟩) (.slice (some ⟨w5.heap.size, 0, none⟩) 2 2)).alloc (.cells #[.int .i64 T0.op, .int .i64 T0.a, .int .i64 T0.b, .string T0.s, .slice ad0 T0.n cp0, .int .i64 T1.op, .int .i64 T1.a, .int .i64 T1.b, .string T1.s, .slice ad1 T1.n cp1] 25)) (.returned (.agg #[.int .i64 (3 + x), .int .i64 (0), .int .i64 (0), .string ⟨#[]⟩, .slice (some ⟨w5.heap.size, 0, none⟩) 2 2]))) := ⟨(TT.node (3 + x) (0) (0) ⟨#[]⟩ 2 (kids3 T0 T1 T1)), _, 2, rfl, by rw [unhide EZ]; exact unhide KI, Nat.le_refl _, kids3_fit (unhide F0) (unhide F1) (unhide F1) _ _ _ _ (by omega), by omega⟩
            obtain ⟨⟨u0, q0⟩, f0⟩ := BX.2 0 (by omega)
            obtain ⟨⟨u1, q1⟩, f1⟩ := BX.2 1 (by omega)
            obtain ⟨⟨u2, q2⟩, f2⟩ := BX.2 2 (by omega)
            obtain ⟨⟨u3, q3⟩, f3⟩ := BX.2 3 (by omega)
            obtain ⟨⟨u4, q4⟩, f4⟩ := BX.2 4 (by omega)
            have lB := BX.1
            clear BX ES
            go_wp2
            obtain ⟨e0', e1', e2', e3', e4'⟩ := unhide PS
            exact bodyPost_ret (v := .agg #[.int .i64 (3 + x), .int .i64 (0), .int .i64 (0), .string ⟨#[]⟩, .slice (some ⟨w5.heap.size, 0, none⟩) 2 2]) (by simp [results, Try.results16, go_sem, e0', e1', e2', e3', e4']) rfl ⟨unhide DT, (unhide ER).mono (by omega), unhide EM⟩
theorem term_c : ∀ k, TermC k
  | 0 => by
    intro R N b n cap S V sort deep w hdk hd0 hd9 hR hN hb hbl hd hn1 hn4 hv hs0 hs4
    exact term_leaf 0 R N b n cap S V sort deep w (by omega) hR hN hb hbl hd hn1 hn4 hv hs0 hs4
  | k + 1 => by
    have IH := hide (term_c k)
    intro R N b n cap S V sort deep w hdk hd0 hd9 hR hN hb hbl hd hn1 hn4 hv hs0 hs4
    by_cases h1 : deep < 1
    · exact term_leaf (k + 1) R N b n cap S V sort deep w h1 hR hN hb hbl hd hn1 hn4 hv hs0 hs4
    · by_cases hz : sort = 0
      · subst hz
        exact term_ask k IH R N b n cap S V deep w (by omega) (by omega) hd9 hR hN hb hbl hd hn1 hn4 hv
      · exact term_num k IH R N b n cap S V sort deep w (by omega) (by omega) hd9 hR hN hb hbl hd hn1 hn4 hv (by omega) hs4
end Go.Proofs.Ytmdelmpdnmhpmaa
