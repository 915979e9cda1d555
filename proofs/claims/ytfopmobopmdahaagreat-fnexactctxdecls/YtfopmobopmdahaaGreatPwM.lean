/- What terms are, and what kinds make of numbers that are right: laws without the program. -/
import Derived.Test.YtfopmobopmdahaaGreatPwA
import Derived.Test.YtfopmobopmdahaaGreatVecT
namespace Go.Proofs.YtfopmobopmdahaaGreat
open Go.ChangeShapes Go.WideShapes Go.ChangeAt Go.RowKit Go.Joins
set_option linter.unusedVariables false

def cutE (a n hi lo : Int) : Int := if okB a n = true ∧ 0 ≤ lo ∧ lo ≤ hi ∧ hi < a then n / two lo % two (hi - lo + 1) else 0
def unE (op a n : Int) : Int := if okB a n = true ∧ (op = 1 ∨ op = 2) then unN op a n else 0
def binE (op a x b y : Int) : Int := if okB a x = true ∧ okB b y = true then (if op = 14 then (if a + b ≤ 4 then x * two b + y else 0) else (if (3 ≤ op ∧ op ≤ 13) ∧ a = b then binN op a x y else 0)) else 0
/-- What a right term is. -/
noncomputable def TT.ev (n : Nat) (S : Nat → ByteArray) (V E : Nat → Int) : TT → Int
  | .nil => 0
  | .node op a b s m kid =>
    if op = 20 then b else if op = 21 then E (findI S s n).toNat else if op = 24 then 1
    else if op = 25 then 1 - (kid 0).ev n S V E else if op = 26 then (kid 0).ev n S V E * (kid 1).ev n S V E else if op = 27 then max ((kid 0).ev n S V E) ((kid 1).ev n S V E)
    else if op = 23 then (if (kid 0).ev n S V E = 1 then (kid 1).ev n S V E else (kid 2).ev n S V E)
    else if op = 22 then cutE ((kid 0).sort n S V) ((kid 0).ev n S V E) a b
    else if m = 1 then unE op ((kid 0).sort n S V) ((kid 0).ev n S V E)
    else if 15 ≤ op then b01 (cmpR op ((kid 0).sort n S V) ((kid 0).ev n S V E) ((kid 1).sort n S V) ((kid 1).ev n S V E))
    else binE op ((kid 0).sort n S V) ((kid 0).ev n S V E) ((kid 1).sort n S V) ((kid 1).ev n S V E)
/-- A number of its bits, or what is true or not. -/
def Good (x y : Int) : Prop := (x = 0 ∧ (y = 0 ∨ y = 1)) ∨ okB x y = true
theorem okB_zero (y : Int) : okB 0 y = false := by simp [okB]
theorem Good.cases {x y : Int} (h : Good x y) : (x = 0 ∧ (y = 0 ∨ y = 1) ∧ okB x y = false) ∨ (1 ≤ x ∧ x ≤ 4 ∧ okB x y = true) := by
  rcases h with ⟨rfl, h⟩ | h
  · exact Or.inl ⟨rfl, h, okB_zero y⟩
  · obtain ⟨h1, h2, _, _, _⟩ := ok_of h
    exact Or.inr ⟨h1, h2, h⟩
/-- A tuple of a number and a truth. -/
def tup (x y : Int) (r : Bool) : Value := .tuple #[.agg #[.int .i64 x, .int .i64 y], .bool r]
theorem tup_inj {x y x' y' : Int} {r r' : Bool} (h : tup x y r = tup x' y' r') : x = x' ∧ y = y' ∧ r = r' := by
  simpa [tup, and_assoc] using h
/-- What is asked of a kind's answer: the sort, and what it is. -/
def Ans (sv ev x y : Int) (r : Bool) : Prop := (r = true → x = sv ∧ y = ev ∧ Good x y) ∧ (r = false → sv = -1)
theorem Ans.yes {sv ev x y : Int} {r : Bool} (hr : r = true) (h1 : x = sv) (h2 : y = ev) (h3 : Good x y) : Ans sv ev x y r := ⟨fun _ => ⟨h1, h2, h3⟩, fun h => (by rw [hr] at h; cases h)⟩
theorem Ans.no {sv ev x y : Int} {r : Bool} (hr : r = false) (h : sv = -1) : Ans sv ev x y r := ⟨fun h => (by rw [hr] at h; cases h), fun _ => h⟩
theorem fin_un {op a b x0 y0 x y : Int} {r : Bool} (hop : op = 1 ∨ op = 2) (g : Good x0 y0) (h : tup x y r = unV op x0 y0) : Ans (oneS op a b x0) (unE op x0 y0) x y r := by
  rcases g.cases with ⟨rfl, _, ho⟩ | ⟨h1, h2, ho⟩
  · unfold unV at h
    rw [if_neg (by simp [ho])] at h
    obtain ⟨_, _, rfl⟩ := tup_inj (h.trans (show noV = tup 0 0 false from rfl))
    exact Ans.no rfl (by unfold oneS; rw [if_neg (by omega), if_pos (by omega)])
  · unfold unV at h
    rw [if_pos ⟨ho, hop⟩] at h
    obtain ⟨rfl, rfl, rfl⟩ := tup_inj (h.trans (show yesV x0 (unN op x0 y0) = tup x0 (unN op x0 y0) true from rfl))
    obtain ⟨u1, u2, _⟩ := un_facts ho
    exact Ans.yes rfl (by unfold oneS; rw [if_neg (by omega), if_neg (by omega), if_neg (by omega)]) (by unfold unE; rw [if_pos ⟨ho, hop⟩]) (Or.inr (by rcases hop with rfl | rfl <;> assumption))
theorem two_addB {a b : Int} (ha : 0 ≤ a) (hb : 0 ≤ b) : two (a + b) = two a * two b := by
  unfold two
  rw [Int.toNat_add ha hb, Nat.pow_add]
  simp
theorem two_posB (a : Int) : 0 < two a := by unfold two; exact_mod_cast Nat.pow_pos (by omega)
theorem cat_okB {a x b y : Int} (hx : okB a x = true) (hy : okB b y = true) (h : a + b ≤ 4) : okB (a + b) (x * two b + y) = true := by
  obtain ⟨h1, h2, h3, h4, h5⟩ := ok_of hx
  obtain ⟨g1, g2, g3, g4, g5⟩ := ok_of hy
  have p := two_posB b
  refine okB_of (by omega) h (by have := Int.mul_nonneg h3 (Int.le_of_lt p); omega) ?_
  rw [two_addB (by omega) (by omega)]
  have := Int.mul_le_mul_of_nonneg_right (show x + 1 ≤ two a by omega) (Int.le_of_lt p)
  rw [Int.add_mul] at this
  omega
theorem fin_bin {op x0 y0 x1 y1 x y : Int} {r : Bool} (h3 : 3 ≤ op) (h14 : op ≤ 14) (g0 : Good x0 y0) (g1 : Good x1 y1) (h : tup x y r = binV op x0 y0 x1 y1) : Ans (bothS op x0 x1) (binE op x0 y0 x1 y1) x y r := by
  have nof : ∀ (hno : binV op x0 y0 x1 y1 = noV) (hs : bothS op x0 x1 = -1), Ans (bothS op x0 x1) (binE op x0 y0 x1 y1) x y r := by
    intro hno hs
    rw [hno] at h
    obtain ⟨_, _, rfl⟩ := tup_inj (h.trans (show noV = tup 0 0 false from rfl))
    exact Ans.no rfl hs
  rcases g0.cases with ⟨rfl, _, ho0⟩ | ⟨a1, a2, ho0⟩
  · exact nof (by unfold binV; rw [if_neg (by simp [ho0])]) (by unfold bothS; rw [if_neg (by omega), if_pos (by omega)])
  · rcases g1.cases with ⟨rfl, _, ho1⟩ | ⟨c1, c2, ho1⟩
    · exact nof (by unfold binV; rw [if_neg (by simp [ho1])]) (by unfold bothS; rw [if_neg (by omega), if_pos (by omega)])
    · by_cases e14 : op = 14
      · by_cases h4 : x0 + x1 ≤ 4
        · have hv : binV op x0 y0 x1 y1 = yesV (x0 + x1) (y0 * two x1 + y1) := by unfold binV; rw [if_pos ⟨ho0, ho1⟩, if_pos e14, if_pos h4]
          rw [hv] at h
          obtain ⟨rfl, rfl, rfl⟩ := tup_inj (h.trans (show yesV (x0 + x1) (y0 * two x1 + y1) = tup (x0 + x1) (y0 * two x1 + y1) true from rfl))
          refine Ans.yes rfl (by unfold bothS; rw [if_neg (by omega), if_neg (by omega), if_pos e14, if_pos h4]) (by unfold binE; rw [if_pos ⟨ho0, ho1⟩, if_pos e14, if_pos h4]) (Or.inr ?_)
          exact cat_okB ho0 ho1 h4
        · exact nof (by unfold binV; rw [if_pos ⟨ho0, ho1⟩, if_pos e14, if_neg h4]) (by unfold bothS; rw [if_neg (by omega), if_neg (by omega), if_pos e14, if_neg h4])
      · by_cases hab : x0 = x1
        · have hv : binV op x0 y0 x1 y1 = yesV x0 (binN op x0 y0 y1) := by unfold binV; rw [if_pos ⟨ho0, ho1⟩, if_neg e14, if_pos ⟨⟨h3, by omega⟩, hab⟩]
          rw [hv] at h
          obtain ⟨rfl, rfl, rfl⟩ := tup_inj (h.trans (show yesV x0 (binN op x0 y0 y1) = tup x0 (binN op x0 y0 y1) true from rfl))
          refine Ans.yes rfl (by unfold bothS; rw [if_neg (by omega), if_neg (by omega), if_neg e14, if_neg (by omega), if_neg (by omega)]) (by unfold binE; rw [if_pos ⟨ho0, ho1⟩, if_neg e14, if_pos ⟨⟨h3, by omega⟩, hab⟩]) (Or.inr ?_)
          exact bin_ok ho0 (by rw [hab]; exact ho1) h3 (by omega)
        · exact nof (by unfold binV; rw [if_pos ⟨ho0, ho1⟩, if_neg e14, if_neg (fun k => hab k.2)]) (by unfold bothS; rw [if_neg (by omega), if_neg (by omega), if_neg e14, if_pos hab])
theorem fin_cmp {op x0 y0 x1 y1 x y : Int} {r : Bool} (h15 : 15 ≤ op) (h17 : op ≤ 17) (g0 : Good x0 y0) (g1 : Good x1 y1) (h : tup x y r = tup 0 (b01 (cmpR op x0 y0 x1 y1)) (cmpT op x0 y0 x1 y1)) : Ans (bothS op x0 x1) (b01 (cmpR op x0 y0 x1 y1)) x y r := by
  obtain ⟨rfl, rfl, hr⟩ := tup_inj h
  have hg : Good 0 (b01 (cmpR op x0 y0 x1 y1)) := Or.inl ⟨rfl, by cases cmpR op x0 y0 x1 y1 <;> simp [b01]⟩
  have key : cmpT op x0 y0 x1 y1 = true ↔ bothS op x0 x1 = 0 := by
    rcases g0.cases with ⟨rfl, _, ho0⟩ | ⟨a1, a2, ho0⟩
    · unfold cmpT bothS pairB; simp [ho0]; omega
    · rcases g1.cases with ⟨rfl, _, ho1⟩ | ⟨c1, c2, ho1⟩
      · unfold cmpT bothS pairB; simp [ho1]; omega
      · by_cases hab : x0 = x1
        · subst hab
          unfold cmpT bothS pairB
          rw [if_pos ⟨by simp [ho0, ho1], h15, h17⟩, if_neg (by omega), if_neg (by omega), if_neg (by omega), if_neg (by simp), if_pos h15]
          simp
        · unfold cmpT bothS pairB
          rw [if_neg (by simp [hab]), if_neg (by omega), if_neg (by omega), if_neg (by omega), if_pos hab]
          simp
  have hb : bothS op x0 x1 = 0 ∨ bothS op x0 x1 = -1 := by
    unfold bothS
    repeat' split
    all_goals omega
  rcases hb with hb | hb
  · exact Ans.yes (by rw [hr]; exact key.2 hb) hb.symm rfl hg
  · refine Ans.no ?_ hb
    cases hc : cmpT op x0 y0 x1 y1
    · rw [hr, hc]
    · have := key.1 hc; omega
theorem fin_cut {a b x0 y0 x y : Int} {r : Bool} (g : Good x0 y0) (h : tup x y r = cutV x0 y0 a b) : Ans (oneS 22 a b x0) (cutE x0 y0 a b) x y r := by
  rcases g.cases with ⟨rfl, _, ho⟩ | ⟨h1, h2, ho⟩
  · unfold cutV at h
    rw [if_neg (by simp [ho])] at h
    obtain ⟨_, _, rfl⟩ := tup_inj (h.trans (show noV = tup 0 0 false from rfl))
    exact Ans.no rfl (by unfold oneS; rw [if_neg (by omega), if_pos (by omega)])
  · by_cases hc : 0 ≤ b ∧ b ≤ a ∧ a < x0
    · unfold cutV at h
      rw [if_pos ⟨ho, hc⟩] at h
      obtain ⟨rfl, rfl, rfl⟩ := tup_inj (h.trans (show yesV (a - b + 1) (y0 / two b % two (a - b + 1)) = tup (a - b + 1) (y0 / two b % two (a - b + 1)) true from rfl))
      refine Ans.yes rfl (by unfold oneS; rw [if_neg (by omega), if_neg (by omega), if_pos rfl, if_pos hc]) (by unfold cutE; rw [if_pos ⟨ho, hc⟩]) (Or.inr ?_)
      have := two_bd (a - b + 1) (by omega) (by omega)
      exact okB_of (by omega) (by omega) (Int.emod_nonneg _ (by omega)) (Int.emod_lt_of_pos _ (by omega))
    · unfold cutV at h
      rw [if_neg (fun k => hc k.2)] at h
      obtain ⟨_, _, rfl⟩ := tup_inj (h.trans (show noV = tup 0 0 false from rfl))
      exact Ans.no rfl (by unfold oneS; rw [if_neg (by omega), if_neg (by omega), if_pos rfl, if_neg hc])
theorem isT_of {x y : Int} (g : Good x y) : (x == 0) = true → (isT x y = true ↔ y = 1) := by
  intro hx
  have hx' : x = 0 := by simpa using hx
  subst hx'
  simp [isT]
theorem fin_no {a b x0 y0 x y : Int} {r : Bool} (g : Good x0 y0) (h : tup x y r = tup 0 (b01 (!isT x0 y0)) (x0 == 0)) : Ans (oneS 25 a b x0) (1 - y0) x y r := by
  obtain ⟨rfl, rfl, rfl⟩ := tup_inj h
  rcases g.cases with ⟨rfl, hy, _⟩ | ⟨h1, h2, ho⟩
  · refine Ans.yes (by simp) (by unfold oneS; simp) ?_ ?_
    · rcases hy with rfl | rfl <;> simp [b01, isT]
    · exact Or.inl ⟨rfl, by rcases hy with rfl | rfl <;> simp [b01, isT]⟩
  · exact Ans.no (by simp; omega) (by unfold oneS; rw [if_pos rfl, if_neg (by omega)])
theorem fin_both {x0 y0 x1 y1 x y : Int} {r : Bool} (g0 : Good x0 y0) (g1 : Good x1 y1) (h : tup x y r = tup 0 (b01 (isT x0 y0 && isT x1 y1)) ((x0 == 0) && (x1 == 0))) : Ans (bothS 26 x0 x1) (y0 * y1) x y r := by
  obtain ⟨rfl, rfl, rfl⟩ := tup_inj h
  rcases g0.cases with ⟨rfl, hy0, _⟩ | ⟨h1, h2, ho⟩
  · rcases g1.cases with ⟨rfl, hy1, _⟩ | ⟨k1, k2, ko⟩
    · refine Ans.yes (by simp) (by unfold bothS; simp) ?_ (Or.inl ⟨rfl, ?_⟩)
      · rcases hy0 with rfl | rfl <;> rcases hy1 with rfl | rfl <;> simp [b01, isT]
      · rcases hy0 with rfl | rfl <;> rcases hy1 with rfl | rfl <;> simp [b01, isT]
    · exact Ans.no (by simp; omega) (by unfold bothS; rw [if_pos (by omega), if_neg (by omega)])
  · exact Ans.no (by simp; omega) (by unfold bothS; rw [if_pos (by omega), if_neg (by omega)])
theorem fin_any {x0 y0 x1 y1 x y : Int} {r : Bool} (g0 : Good x0 y0) (g1 : Good x1 y1) (h : tup x y r = tup 0 (b01 (isT x0 y0 || isT x1 y1)) ((x0 == 0) && (x1 == 0))) : Ans (bothS 27 x0 x1) (max y0 y1) x y r := by
  obtain ⟨rfl, rfl, rfl⟩ := tup_inj h
  rcases g0.cases with ⟨rfl, hy0, _⟩ | ⟨h1, h2, ho⟩
  · rcases g1.cases with ⟨rfl, hy1, _⟩ | ⟨k1, k2, ko⟩
    · refine Ans.yes (by simp) (by unfold bothS; simp) ?_ (Or.inl ⟨rfl, ?_⟩)
      · rcases hy0 with rfl | rfl <;> rcases hy1 with rfl | rfl <;> (simp [b01, isT]; try omega)
      · rcases hy0 with rfl | rfl <;> rcases hy1 with rfl | rfl <;> simp [b01, isT]
    · exact Ans.no (by simp; omega) (by unfold bothS; rw [if_pos (by omega), if_neg (by omega)])
  · exact Ans.no (by simp; omega) (by unfold bothS; rw [if_pos (by omega), if_neg (by omega)])
theorem fin_if {x0 y0 x1 y1 x2 y2 x y : Int} {r : Bool} (g0 : Good x0 y0) (g1 : Good x1 y1) (g2 : Good x2 y2) (h : tup x y r = if x0 = 0 ∧ x1 = x2 then (if isT x0 y0 = true then tup x1 y1 true else tup x2 y2 true) else tup 0 0 false) :
    Ans (if x0 ≠ 0 ∨ x1 ≠ x2 then -1 else x1) (if y0 = 1 then y1 else y2) x y r := by
  by_cases hc : x0 = 0 ∧ x1 = x2
  · obtain ⟨rfl, rfl⟩ := hc
    rw [if_pos ⟨rfl, rfl⟩] at h
    rw [if_neg (by simp)]
    by_cases hy : y0 = 1
    · subst hy
      rw [if_pos (by simp [isT])] at h
      obtain ⟨rfl, rfl, rfl⟩ := tup_inj h
      exact Ans.yes rfl rfl (by simp) g1
    · rw [if_neg (by simp [isT, hy])] at h
      obtain ⟨rfl, rfl, rfl⟩ := tup_inj h
      exact Ans.yes rfl rfl (by rw [if_neg hy]) g2
  · rw [if_neg hc] at h
    obtain ⟨_, _, rfl⟩ := tup_inj h
    exact Ans.no rfl (by rw [if_pos (by omega)])
end Go.Proofs.YtfopmobopmdahaaGreat
