/- Adding, bit by bit: pure. -/
import Derived.Test.YtjchdggpfkjcgaaDoorBkV
namespace Go.Proofs.YtjchdggpfkjcgaaDoor
open Go.ChangeShapes Go.WideShapes Go.ChangeAt Go.RowKit Go.Joins
set_option linter.unusedVariables false
set_option maxRecDepth 100000
set_option linter.unusedSimpArgs false

/-- One bit of a sum: the net and what is carried, and the bit. -/
def addR (z : Int) (s : KS) (a b c : Int) : (KS × Int) × Int :=
  (orK z (andK z (andK z (xorK z (xorK z s a b).1 (xorK z s a b).2 c).1 a b).1 (xorK z s a b).2 c).1 (andK z (xorK z (xorK z s a b).1 (xorK z s a b).2 c).1 a b).2 (andK z (andK z (xorK z (xorK z s a b).1 (xorK z s a b).2 c).1 a b).1 (xorK z s a b).2 c).2,
   (xorK z (xorK z s a b).1 (xorK z s a b).2 c).2)
def addS (z : Int) (L M : List Int) (s : KS) (c : Int) : Nat → (KS × Int) × List Int
  | 0 => ((s, c), [])
  | i + 1 => ((addR z (addS z L M s c i).1.1 (at0 L i) (at0 M i) (addS z L M s c i).1.2).1, (addS z L M s c i).2 ++ [(addR z (addS z L M s c i).1.1 (at0 L i) (at0 M i) (addS z L M s c i).1.2).2])
theorem addS_len (z : Int) (L M : List Int) (s : KS) (c : Int) : ∀ i, (addS z L M s c i).2.length = i
  | 0 => rfl
  | i + 1 => by simp [addS, addS_len z L M s c i]
theorem addR_good {z : Int} {s : KS} {a b c : Int} (hz : -700 ≤ z ∧ z ≤ 700) (hs : KOk s) (ha : Mk s a) (hb : Mk s b) (hc : Mk s c) : Good s (addR z s a b c).1 ∧ Mk (addR z s a b c).1.1 (addR z s a b c).2 := by
  obtain ⟨p1, p2, p3⟩ := xorK_good hz hs ha hb
  obtain ⟨q1, q2, q3⟩ := xorK_good hz p1 p2 (hc.le p3)
  obtain ⟨r1, r2, r3⟩ := andK_good hz q1 ((ha.le p3).le q3) ((hb.le p3).le q3)
  obtain ⟨t1, t2, t3⟩ := andK_good hz r1 ((p2.le q3).le r3) (((hc.le p3).le q3).le r3)
  obtain ⟨v1, v2, v3⟩ := orK_good hz t1 (r2.le t3) t2
  exact ⟨⟨v1, v2, (((p3.trans q3).trans r3).trans t3).trans v3⟩, ((q2.le r3).le t3).le v3⟩
theorem addS_good {z : Int} {s : KS} {c : Int} {L M : List Int} (hz : -700 ≤ z ∧ z ≤ 700) (hs : KOk s) (hc : Mk s c) (hL : MkL s L) (hM : MkL s M) : ∀ i, i ≤ L.length → i ≤ M.length → KOk (addS z L M s c i).1.1 ∧ Mk (addS z L M s c i).1.1 (addS z L M s c i).1.2 ∧ MkL (addS z L M s c i).1.1 (addS z L M s c i).2 ∧ Le s (addS z L M s c i).1.1
  | 0, _, _ => ⟨hs, hc, fun i hi => absurd hi (by simp [addS]), Le.refl _⟩
  | i + 1, h1, h2 => by
    obtain ⟨q1, q2, q3, q4⟩ := addS_good hz hs hc hL hM i (by omega) (by omega)
    obtain ⟨⟨r1, r2, r3⟩, r4⟩ := addR_good hz q1 ((hL i (by omega)).le q4) ((hM i (by omega)).le q4) q2
    exact ⟨r1, r2, (q3.le r3).snoc r4, q4.trans r3⟩
theorem addR_ok {z : Int} {s : KS} {a b c : Int} (h : (addR z s a b c).1.1.ok = true) : s.ok = true := xorK_ok (xorK_ok (andK_ok (andK_ok (orK_ok h))))
theorem addR_rl {z z' : Int} {s t : KS} {a b c a' b' c' : Int} (h : Rl s t) (ha : s.ok = true → a = a') (hb : s.ok = true → b = b') (hc : s.ok = true → c = c') : RlV (addR z s a b c).1 (addR z' t a' b' c').1 ∧ ((addR z s a b c).1.1.ok = true → (addR z s a b c).2 = (addR z' t a' b' c').2) := by
  obtain ⟨p1, p2⟩ := xorK_rl (z := z) (z' := z') h ha hb
  obtain ⟨q1, q2⟩ := xorK_rl (z := z) (z' := z') p1 (a := (xorK z s a b).2) (a' := (xorK z' t a' b').2) (b := c) (b' := c') p2 (fun k => hc (xorK_ok k))
  obtain ⟨r1, r2⟩ := andK_rl (z := z) (z' := z') q1 (a := a) (a' := a') (b := b) (b' := b') (fun k => ha (xorK_ok (xorK_ok k))) (fun k => hb (xorK_ok (xorK_ok k)))
  obtain ⟨t1, t2⟩ := andK_rl (z := z) (z' := z') r1 (a := (xorK z s a b).2) (a' := (xorK z' t a' b').2) (b := c) (b' := c') (fun k => p2 (xorK_ok (andK_ok k))) (fun k => hc (xorK_ok (xorK_ok (andK_ok k))))
  exact ⟨orK_rl t1 (fun k => r2 (andK_ok k)) t2, fun k => q2 (andK_ok (andK_ok (orK_ok k)))⟩
theorem addS_ok {z : Int} {s : KS} {c : Int} {L M : List Int} : ∀ i, (addS z L M s c i).1.1.ok = true → s.ok = true
  | 0, h => h
  | i + 1, h => addS_ok i (addR_ok h)
theorem addS_rl {z z' : Int} (s : KS) (c : Int) (L M : List Int) : ∀ i, RlV (addS z L M s c i).1 (addS z' L M s c i).1 ∧ ((addS z L M s c i).1.1.ok = true → (addS z L M s c i).2 = (addS z' L M s c i).2)
  | 0 => ⟨⟨Rl.refl _, fun _ => rfl⟩, fun _ => rfl⟩
  | i + 1 => by
    obtain ⟨⟨q1, q2⟩, q3⟩ := addS_rl (z := z) (z' := z') s c L M i
    obtain ⟨r1, r2⟩ := addR_rl (z := z) (z' := z') q1 (a := at0 L i) (a' := at0 L i) (b := at0 M i) (b' := at0 M i) (fun _ => rfl) (fun _ => rfl) q2
    refine ⟨r1, fun k => ?_⟩
    show _ ++ [_] = _ ++ [_]
    rw [q3 (addR_ok k), r2 k]
/-- Marks turned; a mark so many times. -/
def ngL (L : List Int) : List Int := L.map (fun x => -x)
theorem ngL_len (L : List Int) : (ngL L).length = L.length := by simp [ngL]
theorem ngL_at {L : List Int} {i : Nat} (h : i < L.length) : at0 (ngL L) i = -at0 L i := by
  unfold at0 ngL
  rw [List.getD_eq_getElem?_getD, List.getD_eq_getElem?_getD]
  simp [h]
def flL (m : Int) (n : Nat) : List Int := List.replicate n m
theorem flL_len (m : Int) (n : Nat) : (flL m n).length = n := by simp [flL]
theorem flL_at {m : Int} {n i : Nat} (h : i < n) : at0 (flL m n) i = m := by
  unfold at0 flL
  rw [List.getD_eq_getElem?_getD]
  simp [h]
theorem MkL.ng {s : KS} {L : List Int} (h : MkL s L) : MkL s (ngL L) := fun i hi => by rw [ngL_len] at hi; rw [ngL_at hi]; exact (h i hi).neg
theorem MkL.fl {s : KS} {m : Int} {n : Nat} (h : Mk s m) : MkL s (flL m n) := fun i hi => by rw [flL_len] at hi; rw [flL_at hi]; exact h
/-- A number's marks with their signs turned, or as they are, and one more: what is done to one number. -/
def unK (z op : Int) (s : KS) (L : List Int) : KS × List Int := if op = 1 then (s, ngL L) else ((addS z (flL (-1) L.length) (ngL L) s 1 L.length).1.1, (addS z (flL (-1) L.length) (ngL L) s 1 L.length).2)
theorem unK_len (z op : Int) (s : KS) (L : List Int) : (unK z op s L).2.length = L.length := by
  unfold unK
  split
  · exact ngL_len L
  · exact addS_len _ _ _ _ _ _
theorem unK_rl (op : Int) (s : KS) (L : List Int) : RlL (unK 0 op s L) (unK 1 op s L) := by
  unfold unK
  split
  · exact ⟨Rl.refl _, fun _ => rfl⟩
  · obtain ⟨⟨q1, _⟩, q3⟩ := addS_rl (z := 0) (z' := 1) s 1 (flL (-1) L.length) (ngL L) L.length
    exact ⟨q1, q3⟩
theorem unK_good {z op : Int} {s : KS} {L : List Int} (hz : -700 ≤ z ∧ z ≤ 700) (hs : KOk s) (hL : MkL s L) : KOk (unK z op s L).1 := by
  unfold unK
  split
  · exact hs
  · exact (addS_good hz hs (Mk.one hs) (MkL.fl (Mk.not hs)) hL.ng L.length (by rw [flL_len]; exact Nat.le_refl _) (by rw [ngL_len]; exact Nat.le_refl _)).1
/-- What BitsUn is given is right. -/
def UnP (m : Int) (n : Nat) (G : Nat → Gt) (op : Int) (L : List Int) : Prop := netB m n G = true ∧ RgtP m n L ∧ (op = 1 ∨ op = 2)
noncomputable def unBR (m : Int) (n : Nat) (G : Nat → Gt) (op : Int) (L : List Int) : BR := @ite _ (UnP m n G op L) (Classical.propDecidable _) (brK (unK 1 op (kS m n G) L)) nilB
theorem unBR_no {m : Int} {n : Nat} {G : Nat → Gt} {op : Int} {L : List Int} (h : ¬ UnP m n G op L) : unBR m n G op L = nilB := if_neg h
theorem unBR_yes {m : Int} {n : Nat} {G : Nat → Gt} {op : Int} {L : List Int} (h : UnP m n G op L) : unBR m n G op L = brK (unK 1 op (kS m n G) L) := if_pos h
theorem unBR_bd (m : Int) (n : Nat) (G : Nat → Gt) (op : Int) (L : List Int) : (unBR m n G op L).n ≤ 600 ∧ (unBR m n G op L).L.length ≤ 4 := by
  by_cases h : UnP m n G op L
  · rw [unBR_yes h]
    obtain ⟨h1, h2, h3⟩ := h
    refine ⟨brK_n (unK_good (by omega) (kS_ok h1) (h2.mk h1)), ?_⟩
    unfold brK
    split
    · show (unK _ _ _ _).2.length ≤ 4
      rw [unK_len]; exact h2.2.2
    · simp [nilB]
  · rw [unBR_no h]; simp [nilB]
end Go.Proofs.YtjchdggpfkjcgaaDoor
