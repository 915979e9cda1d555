/- Two numbers held against each other, bit by bit: pure. -/
import Derived.Test.YtnjjobompjoigaaDoorBkV
namespace Go.Proofs.YtnjjobompjoigaaDoor
open Go.ChangeShapes Go.WideShapes Go.ChangeAt Go.RowKit Go.Joins
set_option linter.unusedVariables false
set_option maxRecDepth 100000
set_option linter.unusedSimpArgs false

/-- A mark that is carried along two rows. -/
def foldK (f : KS → Int → Int → Int → KS × Int) (s : KS) (c : Int) (L M : List Int) : Nat → KS × Int
  | 0 => (s, c)
  | i + 1 => f (foldK f s c L M i).1 (foldK f s c L M i).2 (at0 L i) (at0 M i)
theorem foldK_good {f : KS → Int → Int → Int → KS × Int} {s : KS} {c : Int} {L M : List Int} (hf : ∀ t r x y, KOk t → Mk t r → Mk t x → Mk t y → Good t (f t r x y)) (hs : KOk s) (hc : Mk s c) (hL : MkL s L) (hM : MkL s M) : ∀ i, i ≤ L.length → i ≤ M.length → Good s (foldK f s c L M i)
  | 0, _, _ => ⟨hs, hc, Le.refl _⟩
  | i + 1, h1, h2 => by
    obtain ⟨q1, q2, q3⟩ := foldK_good hf hs hc hL hM i (by omega) (by omega)
    obtain ⟨r1, r2, r3⟩ := hf _ _ _ _ q1 q2 ((hL i (by omega)).le q3) ((hM i (by omega)).le q3)
    exact ⟨r1, r2, q3.trans r3⟩
theorem foldK_rl {f g : KS → Int → Int → Int → KS × Int} (h : ∀ u v r r' x y, Rl u v → (u.ok = true → r = r') → RlV (f u r x y) (g v r' x y)) (s : KS) (c : Int) (L M : List Int) : ∀ i, RlV (foldK f s c L M i) (foldK g s c L M i)
  | 0 => ⟨Rl.refl _, fun _ => rfl⟩
  | i + 1 => by
    obtain ⟨q1, q2⟩ := foldK_rl h s c L M i
    exact h _ _ _ _ _ _ q1 q2
def sameR (z : Int) (s : KS) (r x y : Int) : KS × Int := andK z (xorK z s x y).1 r (-(xorK z s x y).2)
def lessR (z : Int) (s : KS) (r x y : Int) : KS × Int := oneK z (xorK z s x y).1 (xorK z s x y).2 y r
theorem sameR_good {z : Int} (hz : -700 ≤ z ∧ z ≤ 700) (t : KS) (r x y : Int) (ht : KOk t) (hr : Mk t r) (hx : Mk t x) (hy : Mk t y) : Good t (sameR z t r x y) := by
  obtain ⟨p1, p2, p3⟩ := xorK_good hz ht hx hy
  obtain ⟨q1, q2, q3⟩ := andK_good hz p1 (hr.le p3) p2.neg
  exact ⟨q1, q2, p3.trans q3⟩
theorem lessR_good {z : Int} (hz : -700 ≤ z ∧ z ≤ 700) (t : KS) (r x y : Int) (ht : KOk t) (hr : Mk t r) (hx : Mk t x) (hy : Mk t y) : Good t (lessR z t r x y) := by
  obtain ⟨p1, p2, p3⟩ := xorK_good hz ht hx hy
  obtain ⟨q1, q2, q3⟩ := oneK_good hz p1 p2 (hy.le p3) (hr.le p3)
  exact ⟨q1, q2, p3.trans q3⟩
theorem sameR_rl {z z' : Int} (u v : KS) (r r' x y : Int) (h : Rl u v) (hr : u.ok = true → r = r') : RlV (sameR z u r x y) (sameR z' v r' x y) := by
  obtain ⟨p1, p2⟩ := xorK_rl (z := z) (z' := z') h (a := x) (a' := x) (b := y) (b' := y) (fun _ => rfl) (fun _ => rfl)
  exact andK_rl p1 (fun k => hr (xorK_ok k)) (fun k => by rw [p2 k])
theorem lessR_rl {z z' : Int} (u v : KS) (r r' x y : Int) (h : Rl u v) (hr : u.ok = true → r = r') : RlV (lessR z u r x y) (lessR z' v r' x y) := by
  obtain ⟨p1, p2⟩ := xorK_rl (z := z) (z' := z') h (a := x) (a' := x) (b := y) (b' := y) (fun _ => rfl) (fun _ => rfl)
  exact oneK_rl p1 p2 (fun _ => rfl) (fun k => hr (xorK_ok k))
/-- A row with another one's highest bit. -/
def topL (L M : List Int) : List Int := L.take (L.length - 1) ++ [at0 M (L.length - 1)]
theorem topL_len {L M : List Int} (h : 1 ≤ L.length) : (topL L M).length = L.length := by simp [topL]; omega
theorem topL_at {L M : List Int} {i : Nat} (h : i < L.length) : at0 (topL L M) i = if i = L.length - 1 then at0 M i else at0 L i := by
  unfold at0 topL
  rw [List.getD_eq_getElem?_getD, List.getD_eq_getElem?_getD, List.getD_eq_getElem?_getD]
  by_cases e : i = L.length - 1
  · subst e
    rw [if_pos rfl, List.getElem?_append_right (by simp)]
    simp [at0, List.getD_eq_getElem?_getD]
  · rw [if_neg e, List.getElem?_append_left (by simp; omega), List.getElem?_take_of_lt (by omega)]
theorem MkL.top {s : KS} {L M : List Int} (hL : MkL s L) (hM : MkL s M) (he : L.length = M.length) (h1 : 1 ≤ L.length) : MkL s (topL L M) := fun i hi => by
  rw [topL_len h1] at hi
  rw [topL_at hi]
  split
  · exact hM i (by omega)
  · exact hL i hi
/-- What is asked of two numbers. -/
def cmpK (z op : Int) (s : KS) (L M : List Int) : KS × Int :=
  if op = 15 then foldK (sameR z) s 1 L M L.length else if op = 16 then foldK (lessR z) s (-1) L M L.length else foldK (lessR z) s (-1) (topL L M) (topL M L) L.length
theorem cmpK_good {z op : Int} {s : KS} {L M : List Int} (hz : -700 ≤ z ∧ z ≤ 700) (hs : KOk s) (hL : MkL s L) (hM : MkL s M) (he : L.length = M.length) (h1 : 1 ≤ L.length) : Good s (cmpK z op s L M) := by
  unfold cmpK
  split
  · exact foldK_good (sameR_good hz) hs (Mk.one hs) hL hM _ (Nat.le_refl _) (by omega)
  · split
    · exact foldK_good (lessR_good hz) hs (Mk.not hs) hL hM _ (Nat.le_refl _) (by omega)
    · exact foldK_good (lessR_good hz) hs (Mk.not hs) (hL.top hM he h1) (hM.top hL he.symm (by omega)) _ (by rw [topL_len h1]; exact Nat.le_refl _) (by rw [topL_len (by omega)]; omega)
theorem cmpK_rl (op : Int) (s : KS) (L M : List Int) : RlV (cmpK 0 op s L M) (cmpK 1 op s L M) := by
  unfold cmpK
  split
  · exact foldK_rl sameR_rl _ _ _ _ _
  · split
    · exact foldK_rl lessR_rl _ _ _ _ _
    · exact foldK_rl lessR_rl _ _ _ _ _
/-- What BitsCmp is given is right. -/
def CmpP (m : Int) (n : Nat) (G : Nat → Gt) (op : Int) (L M : List Int) : Prop := netB m n G = true ∧ RgtP m n L ∧ RgtP m n M ∧ L.length = M.length ∧ 15 ≤ op ∧ op ≤ 17
/-- What BitsCmp hands back: the net, and the mark as a list of one (of none: the mark is 0). -/
noncomputable def cmpBR (m : Int) (n : Nat) (G : Nat → Gt) (op : Int) (L M : List Int) : BR := @ite _ (CmpP m n G op L M) (Classical.propDecidable _) (brK ((cmpK 1 op (kS m n G) L M).1, [(cmpK 1 op (kS m n G) L M).2])) nilB
theorem cmpBR_no {m : Int} {n : Nat} {G : Nat → Gt} {op : Int} {L M : List Int} (h : ¬ CmpP m n G op L M) : cmpBR m n G op L M = nilB := if_neg h
theorem cmpBR_yes {m : Int} {n : Nat} {G : Nat → Gt} {op : Int} {L M : List Int} (h : CmpP m n G op L M) : cmpBR m n G op L M = brK ((cmpK 1 op (kS m n G) L M).1, [(cmpK 1 op (kS m n G) L M).2]) := if_pos h
theorem cmpBR_z {m : Int} {n : Nat} {G : Nat → Gt} {op : Int} {L M : List Int} : brK ((cmpK 1 op (kS m n G) L M).1, [(cmpK 1 op (kS m n G) L M).2]) = brK ((cmpK 0 op (kS m n G) L M).1, [(cmpK 0 op (kS m n G) L M).2]) :=
  (brK_rl ⟨(cmpK_rl op (kS m n G) L M).1, fun k => by rw [(cmpK_rl op (kS m n G) L M).2 k]⟩).symm
end Go.Proofs.YtnjjobompjoigaaDoor
