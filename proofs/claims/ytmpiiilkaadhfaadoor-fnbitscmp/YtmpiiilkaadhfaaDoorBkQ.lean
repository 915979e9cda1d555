/- The builder of the program: one or the other; a row of them. -/
import Derived.Test.YtmpiiilkaadhfaaDoorBkP
import Derived.Test.YtmpiiilkaadhfaaDoorBkU
namespace Go.Proofs.YtmpiiilkaadhfaaDoor
open Go.ChangeShapes Go.WideShapes Go.ChangeAt Go.RowKit Go.Joins
set_option linter.unusedVariables false
set_option maxRecDepth 100000
set_option linter.unusedSimpArgs false

/-- The gates' block is the elder one or new. -/
def GS (g g' n : Nat) : Prop := g' = g ∨ n ≤ g'
theorem outS_step {a b c : World} {bb gb B g g' : Nat} (hg : GS g g' a.heap.size) (h : OutS (S4 bb gb B g) a b) (k : OutS (S4 bb gb B g') b c) : OutS (S4 bb gb B g) a c :=
  h.trans k (fun i hi e => by
    rcases e with e | e | e | e
    · exact Or.inl e
    · exact Or.inr (Or.inl e)
    · exact Or.inr (Or.inr (Or.inl e))
    · rcases hg with e' | e'
      · exact Or.inr (Or.inr (Or.inr (by omega)))
      · omega)
theorem gates_step {n n' g g' g'' : Nat} (hg : GS g g' n) (k : g'' = g' ∨ n' ≤ g'') (hn : n ≤ n') : GS g g'' n := by
  rcases k with e | e
  · rw [e]; exact hg
  · exact Or.inr (by omega)
set_option maxRecDepth 100000 in
set_option maxHeartbeats 1500000 in
theorem bor_any (base bb gb B g : Nat) (aF aR : Addr) (s : KS) (a b : Int) (w : World) (hb : Bld w base bb gb B g aR s) (hs : Sent w base aF aR) (hbase : base ≤ w.heap.size) (hk : KOk s) (ha : Mk s a) (hb' : Mk s b) :
    Calls Tryd.prog 107 #[.pointer (some ⟨bb, 0, none⟩), .int .i64 a, .int .i64 b] w fun e w' => e = .returned (.int .i64 (orK 0 s a b).2) ∧ BStep w w' base bb gb B g aR (orK 0 s a b).1 := by
  have alo := ha.1
  have ahi := ha.2.1
  have blo := hb'.1
  have bhi := hb'.2.1
  have HB := hide hb
  have HS := hide hs
  have HK := hide hk
  have HO : Hid (OutS (S4 bb gb B g) w w) := OutS.refl _ _
  have HG : Hid (GS g g w.heap.size) := Or.inl rfl
  clear hb hs hk
  go_enter Tryd.func107, Tryd.ntmps107
  obtain ⟨u1, hu1⟩ : ∃ p, p = andK 0 s (-a) (-b) := ⟨_, rfl⟩
  have hg1 := andK_good (z := 0) (by omega) (unhide HK) ha.neg hb'.neg
  rw [← hu1] at hg1
  have hc1 := band_any base bb gb B g aF aR s (-a) (-b) w (unhide HB) (unhide HS) (by have := (unhide HO).size; omega) (unhide HK) ha.neg hb'.neg
  rw [← hu1] at hc1
  have HC1 := hide hc1
  clear hc1
  go_wp2_with fail
  refine (unhide HC1).mono ?_
  rintro e w1 ⟨rfl, g1, hb1, hgg1, o1⟩
  have hsz1 := (unhide HO).size
  replace HS := hide ((unhide HS).out (unhide HB) o1)
  replace HB := hide hb1
  replace HO := hide (outS_step (unhide HG) (unhide HO) o1)
  replace HG := hide (gates_step (unhide HG) hgg1 hsz1)
  replace HK := hide hg1.1
  have HL1 := hide hg1.2.2
  have HM1 := hide hg1.2.1
  have mb1 := hg1.2.1.1
  have mc1 := hg1.2.1.2.1
  have HP1 := hide hu1
  clear hg1 hu1 hb1 hgg1 o1 HC1
  go_wp2
  go_ret
  rw [show orK 0 s a b = (u1.1, -u1.2) by rw [unhide HP1]; rfl]
  exact ⟨rfl, g1, unhide HB, unhide HG, unhide HO⟩
set_option maxRecDepth 100000 in
set_option maxHeartbeats 1500000 in
theorem bone_any (base bb gb B g : Nat) (aF aR : Addr) (s : KS) (c a b : Int) (w : World) (hb : Bld w base bb gb B g aR s) (hs : Sent w base aF aR) (hbase : base ≤ w.heap.size) (hk : KOk s) (hc : Mk s c) (ha : Mk s a) (hb' : Mk s b) :
    Calls Tryd.prog 91 #[.pointer (some ⟨bb, 0, none⟩), .int .i64 c, .int .i64 a, .int .i64 b] w fun e w' => e = .returned (.int .i64 (oneK 0 s c a b).2) ∧ BStep w w' base bb gb B g aR (oneK 0 s c a b).1 := by
  have clo := hc.1
  have chi := hc.2.1
  have alo := ha.1
  have ahi := ha.2.1
  have blo := hb'.1
  have bhi := hb'.2.1
  have HB := hide hb
  have HS := hide hs
  have HK := hide hk
  have HO : Hid (OutS (S4 bb gb B g) w w) := OutS.refl _ _
  have HG : Hid (GS g g w.heap.size) := Or.inl rfl
  clear hb hs hk
  go_enter Tryd.func91, Tryd.ntmps91
  obtain ⟨u1, hu1⟩ : ∃ p, p = andK 0 s c a := ⟨_, rfl⟩
  have hg1 := andK_good (z := 0) (by omega) (unhide HK) hc ha
  rw [← hu1] at hg1
  have hc1 := band_any base bb gb B g aF aR s c a w (unhide HB) (unhide HS) (by have := (unhide HO).size; omega) (unhide HK) hc ha
  rw [← hu1] at hc1
  have HC1 := hide hc1
  clear hc1
  go_wp2_with fail
  refine (unhide HC1).mono ?_
  rintro e w1 ⟨rfl, g1, hb1, hgg1, o1⟩
  have hsz1 := (unhide HO).size
  replace HS := hide ((unhide HS).out (unhide HB) o1)
  replace HB := hide hb1
  replace HO := hide (outS_step (unhide HG) (unhide HO) o1)
  replace HG := hide (gates_step (unhide HG) hgg1 hsz1)
  replace HK := hide hg1.1
  have HL1 := hide hg1.2.2
  have HM1 := hide hg1.2.1
  have mb1 := hg1.2.1.1
  have mc1 := hg1.2.1.2.1
  have HP1 := hide hu1
  clear hg1 hu1 hb1 hgg1 o1 HC1
  obtain ⟨u2, hu2⟩ : ∃ p, p = andK 0 u1.1 (-c) b := ⟨_, rfl⟩
  have hg2 := andK_good (z := 0) (by omega) (unhide HK) (hc.le (unhide HL1)).neg (hb'.le (unhide HL1))
  rw [← hu2] at hg2
  have hc2 := band_any base bb gb B g1 aF aR u1.1 (-c) b w1 (unhide HB) (unhide HS) (by have := (unhide HO).size; omega) (unhide HK) (hc.le (unhide HL1)).neg (hb'.le (unhide HL1))
  rw [← hu2] at hc2
  have HC2 := hide hc2
  clear hc2
  go_wp2_with fail
  refine (unhide HC2).mono ?_
  rintro e w2 ⟨rfl, g2, hb2, hgg2, o2⟩
  have hsz2 := (unhide HO).size
  replace HS := hide ((unhide HS).out (unhide HB) o2)
  replace HB := hide hb2
  replace HO := hide (outS_step (unhide HG) (unhide HO) o2)
  replace HG := hide (gates_step (unhide HG) hgg2 hsz2)
  replace HK := hide hg2.1
  have HL2 := hide hg2.2.2
  have HM2 := hide hg2.2.1
  have mb2 := hg2.2.1.1
  have mc2 := hg2.2.1.2.1
  have HP2 := hide hu2
  clear hg2 hu2 hb2 hgg2 o2 HC2
  obtain ⟨u3, hu3⟩ : ∃ p, p = orK 0 u2.1 u1.2 u2.2 := ⟨_, rfl⟩
  have hg3 := orK_good (z := 0) (by omega) (unhide HK) ((unhide HM1).le (unhide HL2)) (unhide HM2)
  rw [← hu3] at hg3
  have hc3 := bor_any base bb gb B g2 aF aR u2.1 u1.2 u2.2 w2 (unhide HB) (unhide HS) (by have := (unhide HO).size; omega) (unhide HK) ((unhide HM1).le (unhide HL2)) (unhide HM2)
  rw [← hu3] at hc3
  have HC3 := hide hc3
  clear hc3
  go_wp2_with fail
  refine (unhide HC3).mono ?_
  rintro e w3 ⟨rfl, g3, hb3, hgg3, o3⟩
  have hsz3 := (unhide HO).size
  replace HS := hide ((unhide HS).out (unhide HB) o3)
  replace HB := hide hb3
  replace HO := hide (outS_step (unhide HG) (unhide HO) o3)
  replace HG := hide (gates_step (unhide HG) hgg3 hsz3)
  replace HK := hide hg3.1
  have HL3 := hide hg3.2.2
  have HM3 := hide hg3.2.1
  have mb3 := hg3.2.1.1
  have mc3 := hg3.2.1.2.1
  have HP3 := hide hu3
  clear hg3 hu3 hb3 hgg3 o3 HC3
  go_wp2
  go_ret
  rw [show oneK 0 s c a b = u3 by rw [unhide HP3, unhide HP2, unhide HP1]; rfl]
  exact ⟨rfl, g3, unhide HB, unhide HG, unhide HO⟩
end Go.Proofs.YtmpiiilkaadhfaaDoor
