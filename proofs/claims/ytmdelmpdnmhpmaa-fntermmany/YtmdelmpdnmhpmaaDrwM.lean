/- What the model's draw of a term for its size returns: some term; nothing that was there turns. -/
import Derived.Test.YtmdelmpdnmhpmaaDrwW
namespace Go.Proofs.Ytmdelmpdnmhpmaa
open Go.ChangeShapes Go.WideShapes Go.ChangeAt Go.RowKit Go.Joins
set_option linter.unusedVariables false
set_option linter.unusedSimpArgs false

theorem byts_up {w w' : World} {R S : Nat} {a : Option Addr} {l : Nat} (h : Byts w R a l) (hS : R ≤ S) (hb : Below w.heap.size w w') : Byts w' S a l := by
  rcases h with h | ⟨B, o, ha, hB, hc⟩
  · exact Or.inl h
  · exact Or.inr ⟨B, o, ha, Nat.lt_of_lt_of_le hB hS, fun i hi => by obtain ⟨x, x0, x1, hx⟩ := hc i hi; exact ⟨x, x0, x1, cell_later hb hx⟩⟩
theorem cN6 : cN 6 = 21860 := by decide
set_option maxHeartbeats 4000000 in
theorem drawMany_any (ad : Option Addr) (l c : Nat) (w : World) (hl : l ≤ 1048576) (hc : l ≤ c) (hcm : c ≤ maxLen) (hby : Byts w w.heap.size ad l) :
    Calls Try.prog 5 #[.slice ad l c] w fun e w' => DrewB w.heap.size w' e ∧ Below w.heap.size w w' := by
  have HB := hide hby
  clear hby
  go_enter Try.func5, Try.ntmps5
  go_wp2_with fail
  obtain ⟨w0, hw0⟩ : ∃ v, v = w.alloc (.cells #[.int .i64 0, .int .i64 0, .int .i64 0, .string ⟨#[]⟩, .slice none 0 0] 25) := ⟨_, rfl⟩
  have b0 : Below w.heap.size w w0 := by rw [hw0]; exact (Below.refl _ _).alloc (Nat.le_refl _) _
  have BX : Made w0 w.heap.size 5 := by rw [hw0]; exact zero_made _ _
  have z0 : w0.heap.size = w.heap.size + 1 := by rw [hw0]; simp
  rw [← hw0]
  refine (open_any ad l c _ hl hc hcm (byts_up (unhide HB) (by omega) b0)).mono ?_
  rintro e w1 ⟨rfl, hR, b1⟩
  obtain ⟨R, hRe⟩ : ∃ x, x = w0.heap.size := ⟨_, rfl⟩
  rw [← hRe] at hR
  rw [← hRe]
  have kR : w.heap.size < R := by omega
  have hR1 := hR.lt
  replace BX := BX.later b1
  have MV : Mov R w w1 := (Mov.of b0).from b1
  clear HB hw0 b0 b1 hRe z0
  go_wp2_with fail
  refine (l2Decls_any R 0 _ hR (by omega)).mono ?_
  rintro e w2 ⟨⟨g, n, cap, S, V, rfl, _, hn1, hn4, hgl, hgh, hd, hv⟩, hRn, hm⟩
  replace hR := hRn
  replace BX := BX.mov hm (by omega)
  replace MV := MV.trans hm
  have hgR : g ≠ R := by omega
  have z2 : R < w2.heap.size := hR.lt
  have HD := hide hd
  have HV := hide hv
  clear hRn hm hd hv
  go_wp2_with fail
  refine (pick_any R _ _ _ hR (by omega) (by omega) (by omega)).mono ?_
  rintro e w3 ⟨s, rfl, s0, s1, hRn, hm⟩
  replace hR := hRn
  replace BX := BX.mov hm (by omega)
  replace MV := MV.trans hm
  replace HD := hide ((unhide HD).mov hm hgR)
  replace hgh := Nat.lt_of_lt_of_le hgh hm.size
  clear hRn hm
  go_wp2_with fail
  refine (pick_any R _ _ _ hR (by omega) (by omega) (by omega)).mono ?_
  rintro e w4 ⟨q, rfl, q0, q1, hRn, hm⟩
  replace hR := hRn
  replace BX := BX.mov hm (by omega)
  replace MV := MV.trans hm
  replace HD := hide ((unhide HD).mov hm hgR)
  replace hgh := Nat.lt_of_lt_of_le hgh hm.size
  clear hRn hm
  have z4 : R < w4.heap.size := hR.lt
  have hc6 := cN6
  go_wp2_with fail
  refine (term_c 6 R _ g n cap S V s (2 + q) _ (by omega) (by omega) (by omega) hR (by omega) hgR hgh (unhide HD) hn1 hn4 (unhide HV) (by omega) (by omega)).mono ?_
  rintro e w5 ⟨⟨T, a1, c1, rfl, i1, e1, f1, k1⟩, hRn, hm⟩
  replace hR := hRn
  replace BX := BX.mov hm (by omega)
  replace MV := MV.trans hm
  have z5 := hm.size
  have I1 := hide i1
  have F1 := hide f1
  clear hRn hm HD HV i1 f1
  go_wp2_with fail
  refine (bent_any R _ w4.heap.size w5.heap.size T a1 c1 _ hR (by omega) z4 z5 (unhide I1) (Nat.le_refl _) e1 (unhide F1) (by omega)).mono ?_
  rintro e w6 ⟨⟨T2, a2, c2, rfl, i2, e2, f2⟩, hRn, hm⟩
  replace BX := BX.mov hm (by omega)
  replace MV := MV.trans hm
  have z6 := hm.size
  clear hRn hm hR I1 F1
  have EI := hide (TT.In.wide (show w.heap.size ≤ w4.heap.size by omega) (Nat.le_refl _) _ _ (In_put i2 (show w.heap.size < w4.heap.size by omega) (.int .i64 T2.op) (.int .i64 T2.a) (.int .i64 T2.b) (.string T2.s) (.slice a2 T2.n c2)))
  have ES := hide (put5v_size w6 w.heap.size (.int .i64 T2.op) (.int .i64 T2.a) (.int .i64 T2.b) (.string T2.s) (.slice a2 T2.n c2))
  have EM := hide ((MV.put5v (.int .i64 T2.op) (.int .i64 T2.a) (.int .i64 T2.b) (.string T2.s) (.slice a2 T2.n c2)).below (show w.heap.size ≤ R by omega) (Nat.le_refl _))
  have F2 := hide f2
  obtain ⟨⟨u0, x0⟩, y0⟩ := BX.2 0 (by omega)
  obtain ⟨⟨u1, x1⟩, y1⟩ := BX.2 1 (by omega)
  obtain ⟨⟨u2, x2⟩, y2⟩ := BX.2 2 (by omega)
  obtain ⟨⟨u3, x3⟩, y3⟩ := BX.2 3 (by omega)
  obtain ⟨⟨u4, x4⟩, y4⟩ := BX.2 4 (by omega)
  have lB := BX.1
  clear BX i2 f2
  go_wp2
  exact bodyPost_ret (v := .agg #[.int .i64 T2.op, .int .i64 T2.a, .int .i64 T2.b, .string T2.s, .slice a2 T2.n c2]) (by simp [results, Try.results5, go_sem, x0, x1, x2, x3, x4]) rfl ⟨⟨T2, a2, c2, rfl, by rw [show ((((((w6.setCell ⟨w.heap.size, 0, none⟩ (.int .i64 T2.op)).setCell ⟨w.heap.size, 1, none⟩ (.int .i64 T2.a)).setCell ⟨w.heap.size, 2, none⟩ (.int .i64 T2.b)).setCell ⟨w.heap.size, 3, none⟩ (.string T2.s)).setCell ⟨w.heap.size, 4, none⟩ (.slice a2 T2.n c2)).heap.size) = w6.heap.size from unhide ES]; exact unhide EI, e2, unhide F2⟩, unhide EM⟩
end Go.Proofs.Ytmdelmpdnmhpmaa
