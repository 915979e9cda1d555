/- What is made of marks, gate by gate: pure. -/
import Derived.Test.YtmpiiilkaadhfaaDoorNrX
import Derived.Test.YtmpiiilkaadhfaaDoorIapA
namespace Go.Proofs.YtmpiiilkaadhfaaDoor
open Go.ChangeShapes Go.WideShapes Go.ChangeAt Go.RowKit Go.Joins
set_option linter.unusedVariables false
set_option maxRecDepth 100000
set_option linter.unusedSimpArgs false

/-- A net in the making, and whether there was room so far. -/
structure KS where
  m : Int
  n : Nat
  G : Nat → Gt
  ok : Bool
theorem KS.eq {s t : KS} (h1 : s.m = t.m) (h2 : s.n = t.n) (h3 : s.G = t.G) (h4 : s.ok = t.ok) : s = t := by cases s; cases t; simp_all
/-- What comes of a mark that was asked for. -/
def kR (r : NR) : KS × Int := (⟨r.m, r.n, r.G, r.k != 0⟩, r.k)
def andK (z : Int) (s : KS) (a b : Int) : KS × Int := if s.ok = true then kR (andR s.m s.n s.G a b) else (s, z)
def xorK (z : Int) (s : KS) (a b : Int) : KS × Int := if s.ok = true then kR (xorR s.m s.n s.G a b) else (s, z)
def orK (z : Int) (s : KS) (a b : Int) : KS × Int := ((andK z s (-a) (-b)).1, -(andK z s (-a) (-b)).2)
def oneK (z : Int) (s : KS) (c a b : Int) : KS × Int :=
  orK z (andK z (andK z s c a).1 (-c) b).1 (andK z s c a).2 (andK z (andK z s c a).1 (-c) b).2
/-- A net in the making is right. -/
def KOk (s : KS) : Prop := 0 ≤ s.m ∧ s.m ≤ 8 ∧ s.n ≤ 600 ∧ (s.ok = true → netB s.m s.n s.G = true)
/-- A mark of a net in the making. -/
def Mk (s : KS) (a : Int) : Prop := -700 ≤ a ∧ a ≤ 700 ∧ (s.ok = true → mkP s.m s.n a = true)
/-- One comes of the other. -/
def Le (s s' : KS) : Prop := s'.ok = true → s.ok = true ∧ s'.m = s.m ∧ s.n ≤ s'.n
theorem Le.refl (s : KS) : Le s s := fun h => ⟨h, rfl, Nat.le_refl _⟩
theorem Le.trans {a b c : KS} (h : Le a b) (k : Le b c) : Le a c := fun hc => by
  obtain ⟨h1, h2, h3⟩ := k hc
  obtain ⟨h4, h5, h6⟩ := h h1
  exact ⟨h4, h2.trans h5, Nat.le_trans h6 h3⟩
theorem mkP_iff {m : Int} {n : Nat} {k : Int} : mkP m n k = true ↔ k ≠ 0 ∧ -(1 + m + n) ≤ k ∧ k ≤ 1 + m + n := by unfold mkP; simp
theorem Mk.le {s s' : KS} {a : Int} (h : Mk s a) (hl : Le s s') : Mk s' a := ⟨h.1, h.2.1, fun hc => by
  obtain ⟨h1, h2, h3⟩ := hl hc
  have := h.2.2 h1
  rw [mkP_iff] at this ⊢
  rw [h2]; omega⟩
theorem Mk.neg {s : KS} {a : Int} (h : Mk s a) : Mk s (-a) := ⟨by have := h.2.1; omega, by have := h.1; omega, fun hc => by
  have := h.2.2 hc
  rw [mkP_iff] at this ⊢
  omega⟩
theorem Mk.one {s : KS} (h : KOk s) : Mk s 1 := ⟨by omega, by omega, fun _ => by rw [mkP_iff]; have := h.1; omega⟩
theorem Mk.not {s : KS} (h : KOk s) : Mk s (-1) := (Mk.one h).neg
theorem absI_two {a : Int} (h0 : a ≠ 0) (h1 : a ≠ 1) (h2 : a ≠ -1) : 2 ≤ absI a := by unfold absI; split <;> omega
theorem absI_ne {a b : Int} (h1 : a ≠ b) (h2 : a ≠ -b) : absI a ≠ absI b := by unfold absI; split <;> split <;> omega
theorem absI_nn (a : Int) : 0 ≤ absI a := by unfold absI; split <;> omega
theorem absI_abs (a : Int) : absI (absI a) = absI a := by
  have h := absI_nn a
  generalize absI a = b at *
  unfold absI; split <;> omega
theorem absI_le {a N : Int} (h1 : -N ≤ a) (h2 : a ≤ N) : absI a ≤ N := by unfold absI; split <;> omega
/-- A right gate in a right net. -/
theorem putR_net {m : Int} {n : Nat} {G : Nat → Gt} {g : Gt} (h : netB m n G = true) (hg : GmP (2 + m + n) g) (hk : (putR m n G g).k ≠ 0) :
    netB (putR m n G g).m (putR m n G g).n (putR m n G g).G = true ∧ (putR m n G g).m = m ∧ n ≤ (putR m n G g).n ∧ mkP m (putR m n G g).n (putR m n G g).k = true := by
  obtain ⟨hm0, hm1, hn, hgs⟩ := netB_iff.1 h
  rcases firstO_ways (fun i => geq (G i) g) n with ⟨_, hno⟩ | ⟨i, hi, _, hgi, hj⟩
  · by_cases h6 : 600 ≤ n
    · rw [putR_full (fun j hj => geq_no.1 (hno j hj)) h6] at hk; exact absurd rfl hk
    · rw [putR_new (fun j hj => geq_no.1 (hno j hj)) (by omega)]
      have hnet : NetP m (n + 1) (snocG G n g) := by
        refine ⟨hm0, hm1, by omega, fun k hkn => ?_⟩
        by_cases e : k = n
        · subst e
          refine ⟨by rw [snocG_at]; exact hg, fun i hi he => ?_⟩
          rw [snocG_at, snocG_lt hi] at he
          exact absurd he (geq_no.1 (hno i hi))
        · have hk' : k < n := by omega
          refine ⟨by rw [snocG_lt hk']; exact (hgs k hk').1, fun i hi he => ?_⟩
          rw [snocG_lt hk', snocG_lt (show i < n by omega)] at he
          exact (hgs k hk').2 i hi he
      exact ⟨netB_yes hnet, rfl, by simp, by rw [mkP_iff]; simp only; omega⟩
  · rw [putR_at hi (geq_iff.1 hgi) (fun j h => geq_no.1 (hj j h))]
    refine ⟨h, rfl, Nat.le_refl _, ?_⟩
    rw [mkP_iff]; simp only; omega
theorem andR_net {m : Int} {n : Nat} {G : Nat → Gt} {a b : Int} (h : netB m n G = true) (ha : mkP m n a = true) (hb : mkP m n b = true) (hk : (andR m n G a b).k ≠ 0) :
    netB (andR m n G a b).m (andR m n G a b).n (andR m n G a b).G = true ∧ (andR m n G a b).m = m ∧ n ≤ (andR m n G a b).n ∧ mkP m (andR m n G a b).n (andR m n G a b).k = true := by
  have h' := h
  obtain ⟨hm0, hm1, hn, _⟩ := netB_iff.1 h'
  rw [mkP_iff] at ha hb
  have hone : mkP m n (-1) = true := by rw [mkP_iff]; omega
  revert hk
  unfold andR
  split
  · intro _; exact ⟨h, rfl, Nat.le_refl _, hone⟩
  · rename_i c1
    split
    · intro _; exact ⟨h, rfl, Nat.le_refl _, mkP_iff.2 hb⟩
    · rename_i c2
      split
      · intro _; exact ⟨h, rfl, Nat.le_refl _, mkP_iff.2 ha⟩
      · rename_i c3
        split
        · intro _; exact ⟨h, rfl, Nat.le_refl _, hone⟩
        · rename_i c4
          have hne := absI_ne (a := a) (b := b) (fun e => c3 (Or.inr e)) c4
          have h2a := absI_two (a := a) ha.1 c2 (fun e => c1 (Or.inl e))
          have h2b := absI_two (a := b) hb.1 (fun e => c3 (Or.inl e)) (fun e => c1 (Or.inr e))
          have hla := absI_le ha.2.1 ha.2.2
          have hlb := absI_le hb.2.1 hb.2.2
          split
          · rename_i c5
            intro hk
            exact putR_net h ⟨h2b, c5, by simp only; omega, fun e => by cases e⟩ hk
          · rename_i c5
            intro hk
            exact putR_net h ⟨h2a, by simp only; omega, by simp only; omega, fun e => by cases e⟩ hk
theorem xorR_net {m : Int} {n : Nat} {G : Nat → Gt} {a b : Int} (h : netB m n G = true) (ha : mkP m n a = true) (hb : mkP m n b = true) (hk : (xorR m n G a b).k ≠ 0) :
    netB (xorR m n G a b).m (xorR m n G a b).n (xorR m n G a b).G = true ∧ (xorR m n G a b).m = m ∧ n ≤ (xorR m n G a b).n ∧ mkP m (xorR m n G a b).n (xorR m n G a b).k = true := by
  have h' := h
  obtain ⟨hm0, hm1, hn, _⟩ := netB_iff.1 h'
  rw [mkP_iff] at ha hb
  revert hk
  unfold xorR
  split
  · intro _; exact ⟨h, rfl, Nat.le_refl _, by rw [mkP_iff]; simp only; split <;> omega⟩
  · rename_i c1
    split
    · intro _; exact ⟨h, rfl, Nat.le_refl _, by rw [mkP_iff]; simp only; split <;> omega⟩
    · rename_i c2
      split
      · intro _; exact ⟨h, rfl, Nat.le_refl _, by rw [mkP_iff]; simp only; omega⟩
      · rename_i c3
        split
        · intro _; exact ⟨h, rfl, Nat.le_refl _, by rw [mkP_iff]; simp only; omega⟩
        · rename_i c4
          have hne := absI_ne (a := a) (b := b) c3 c4
          rw [abs_one] at c1 c2
          have h2a := absI_two (a := a) ha.1 (fun e => c1 (Or.inl e)) (fun e => c1 (Or.inr e))
          have h2b := absI_two (a := b) hb.1 (fun e => c2 (Or.inl e)) (fun e => c2 (Or.inr e))
          have hla := absI_le ha.2.1 ha.2.2
          have hlb := absI_le hb.2.1 hb.2.2
          have hgm : GmP (2 + m + n) (if absI b < absI a then ⟨true, absI b, absI a⟩ else ⟨true, absI a, absI b⟩) := by
            split
            · refine ⟨?_, ?_, ?_, fun _ => ⟨absI_nn _, absI_nn _⟩⟩ <;> simp only [absI_abs] <;> omega
            · refine ⟨?_, ?_, ?_, fun _ => ⟨absI_nn _, absI_nn _⟩⟩ <;> simp only [absI_abs] <;> omega
          generalize (if absI b < absI a then (⟨true, absI b, absI a⟩ : Gt) else ⟨true, absI a, absI b⟩) = g at *
          intro hk
          have hk' : (putR m n G g).k ≠ 0 := fun e => hk (by unfold turnR; simp only [e]; split <;> rfl)
          obtain ⟨q1, q2, q3, q4⟩ := putR_net h hgm hk'
          refine ⟨q1, q2, q3, ?_⟩
          rw [mkP_iff] at q4 ⊢
          unfold turnR
          simp only
          split <;> omega
/-- A step is right. -/
def Good (s : KS) (p : KS × Int) : Prop := KOk p.1 ∧ Mk p.1 p.2 ∧ Le s p.1
theorem kR_good {s : KS} {r : NR} (hs : s.ok = true) (h1 : r.n ≤ 600) (h2 : 0 ≤ r.m ∧ r.m ≤ 8) (h3 : -700 ≤ r.k ∧ r.k ≤ 700) (h : r.k ≠ 0 → netB r.m r.n r.G = true ∧ r.m = s.m ∧ s.n ≤ r.n ∧ mkP s.m r.n r.k = true) : Good s (kR r) := by
  refine ⟨⟨h2.1, h2.2, h1, fun hk => ?_⟩, ⟨h3.1, h3.2, fun hk => ?_⟩, fun hk => ?_⟩ <;> (simp only [kR, bne_iff_ne] at hk) <;> obtain ⟨q1, q2, q3, q4⟩ := h hk
  · exact q1
  · show mkP r.m r.n r.k = true
    rw [q2]; exact q4
  · exact ⟨hs, q2, q3⟩
theorem andR_bd {m : Int} {n : Nat} {G : Nat → Gt} {a b : Int} (hn : n ≤ 600) (hm0 : 0 ≤ m) (hm1 : m ≤ 8) (ha : -700 ≤ a ∧ a ≤ 700) (hb : -700 ≤ b ∧ b ≤ 700) : (0 ≤ (andR m n G a b).m ∧ (andR m n G a b).m ≤ 8) ∧ -700 ≤ (andR m n G a b).k ∧ (andR m n G a b).k ≤ 700 := by
  unfold andR
  split
  · exact ⟨⟨hm0, hm1⟩, by simp, by simp⟩
  · split
    · exact ⟨⟨hm0, hm1⟩, hb⟩
    · split
      · exact ⟨⟨hm0, hm1⟩, ha⟩
      · split
        · exact ⟨⟨hm0, hm1⟩, by simp, by simp⟩
        · split
          · obtain ⟨_, q2, q3, q4, q5⟩ := putR_n m n G ⟨false, b, a⟩ hn hm0 hm1; exact ⟨⟨q2, q3⟩, by omega, q5⟩
          · obtain ⟨_, q2, q3, q4, q5⟩ := putR_n m n G ⟨false, a, b⟩ hn hm0 hm1; exact ⟨⟨q2, q3⟩, by omega, q5⟩
theorem xorR_bd {m : Int} {n : Nat} {G : Nat → Gt} {a b : Int} (hn : n ≤ 600) (hm0 : 0 ≤ m) (hm1 : m ≤ 8) (ha : -700 ≤ a ∧ a ≤ 700) (hb : -700 ≤ b ∧ b ≤ 700) : (0 ≤ (xorR m n G a b).m ∧ (xorR m n G a b).m ≤ 8) ∧ -700 ≤ (xorR m n G a b).k ∧ (xorR m n G a b).k ≤ 700 := by
  unfold xorR
  split
  · refine ⟨⟨hm0, hm1⟩, ?_⟩; simp only; split <;> omega
  · split
    · refine ⟨⟨hm0, hm1⟩, ?_⟩; simp only; split <;> omega
    · split
      · exact ⟨⟨hm0, hm1⟩, by simp, by simp⟩
      · split
        · exact ⟨⟨hm0, hm1⟩, by simp, by simp⟩
        · generalize (if absI b < absI a then (⟨true, absI b, absI a⟩ : Gt) else ⟨true, absI a, absI b⟩) = g
          obtain ⟨_, q2, q3, q4, q5⟩ := putR_n m n G g hn hm0 hm1
          refine ⟨⟨q2, q3⟩, ?_⟩
          unfold turnR
          simp only
          split <;> omega
theorem andK_good {z : Int} {s : KS} {a b : Int} (hz : -700 ≤ z ∧ z ≤ 700) (hs : KOk s) (ha : Mk s a) (hb : Mk s b) : Good s (andK z s a b) := by
  unfold andK
  obtain ⟨hm0, hm1, hn, hN⟩ := hs
  split
  · rename_i hk
    obtain ⟨q1, q2⟩ := andR_bd (G := s.G) hn hm0 hm1 ⟨ha.1, ha.2.1⟩ ⟨hb.1, hb.2.1⟩
    exact kR_good hk (andR_n hn hm0 hm1) q1 q2 (fun h => andR_net (hN hk) (ha.2.2 hk) (hb.2.2 hk) h)
  · rename_i hk
    exact ⟨⟨hm0, hm1, hn, hN⟩, ⟨hz.1, hz.2, fun h => absurd h hk⟩, Le.refl _⟩
theorem xorK_good {z : Int} {s : KS} {a b : Int} (hz : -700 ≤ z ∧ z ≤ 700) (hs : KOk s) (ha : Mk s a) (hb : Mk s b) : Good s (xorK z s a b) := by
  unfold xorK
  obtain ⟨hm0, hm1, hn, hN⟩ := hs
  split
  · rename_i hk
    obtain ⟨q1, q2⟩ := xorR_bd (G := s.G) hn hm0 hm1 ⟨ha.1, ha.2.1⟩ ⟨hb.1, hb.2.1⟩
    exact kR_good hk (xorR_n hn hm0 hm1) q1 q2 (fun h => xorR_net (hN hk) (ha.2.2 hk) (hb.2.2 hk) h)
  · rename_i hk
    exact ⟨⟨hm0, hm1, hn, hN⟩, ⟨hz.1, hz.2, fun h => absurd h hk⟩, Le.refl _⟩
theorem orK_good {z : Int} {s : KS} {a b : Int} (hz : -700 ≤ z ∧ z ≤ 700) (hs : KOk s) (ha : Mk s a) (hb : Mk s b) : Good s (orK z s a b) := by
  obtain ⟨q1, q2, q3⟩ := andK_good hz hs ha.neg hb.neg
  exact ⟨q1, q2.neg, q3⟩
theorem oneK_good {z : Int} {s : KS} {c a b : Int} (hz : -700 ≤ z ∧ z ≤ 700) (hs : KOk s) (hc : Mk s c) (ha : Mk s a) (hb : Mk s b) : Good s (oneK z s c a b) := by
  obtain ⟨p1, p2, p3⟩ := andK_good hz hs hc ha
  obtain ⟨q1, q2, q3⟩ := andK_good hz p1 (hc.le p3).neg (hb.le p3)
  obtain ⟨r1, r2, r3⟩ := orK_good hz q1 (p2.le q3) q2
  exact ⟨r1, r2, (p3.trans q3).trans r3⟩
/-- Two nets in the making are one, as long as there is room. -/
def Rl (s t : KS) : Prop := s.ok = t.ok ∧ (s.ok = true → s = t)
def RlV (p q : KS × Int) : Prop := Rl p.1 q.1 ∧ (p.1.ok = true → p.2 = q.2)
theorem Rl.refl (s : KS) : Rl s s := ⟨rfl, fun _ => rfl⟩
theorem Rl.ok {s t : KS} (h : Rl s t) (hs : s.ok = true) : s = t := h.2 hs
theorem andK_ok {z : Int} {s : KS} {a b : Int} (h : (andK z s a b).1.ok = true) : s.ok = true := by
  unfold andK at h
  split at h
  · assumption
  · exact h
theorem xorK_ok {z : Int} {s : KS} {a b : Int} (h : (xorK z s a b).1.ok = true) : s.ok = true := by
  unfold xorK at h
  split at h
  · assumption
  · exact h
theorem andK_rl {z z' : Int} {s t : KS} {a b a' b' : Int} (h : Rl s t) (ha : s.ok = true → a = a') (hb : s.ok = true → b = b') : RlV (andK z s a b) (andK z' t a' b') := by
  unfold andK
  by_cases hk : s.ok = true
  · rw [← h.1, if_pos hk, if_pos hk, h.2 hk, ha hk, hb hk]
    exact ⟨Rl.refl _, fun _ => rfl⟩
  · rw [← h.1, if_neg hk, if_neg hk]
    exact ⟨h, fun e => absurd e hk⟩
theorem xorK_rl {z z' : Int} {s t : KS} {a b a' b' : Int} (h : Rl s t) (ha : s.ok = true → a = a') (hb : s.ok = true → b = b') : RlV (xorK z s a b) (xorK z' t a' b') := by
  unfold xorK
  by_cases hk : s.ok = true
  · rw [← h.1, if_pos hk, if_pos hk, h.2 hk, ha hk, hb hk]
    exact ⟨Rl.refl _, fun _ => rfl⟩
  · rw [← h.1, if_neg hk, if_neg hk]
    exact ⟨h, fun e => absurd e hk⟩
theorem orK_ok {z : Int} {s : KS} {a b : Int} (h : (orK z s a b).1.ok = true) : s.ok = true := andK_ok h
theorem orK_rl {z z' : Int} {s t : KS} {a b a' b' : Int} (h : Rl s t) (ha : s.ok = true → a = a') (hb : s.ok = true → b = b') : RlV (orK z s a b) (orK z' t a' b') := by
  obtain ⟨q1, q2⟩ := andK_rl (z := z) (z' := z') h (a := -a) (a' := -a') (b := -b) (b' := -b') (fun k => by rw [ha k]) (fun k => by rw [hb k])
  exact ⟨q1, fun k => congrArg (fun x => -x) (q2 k)⟩
theorem oneK_ok {z : Int} {s : KS} {c a b : Int} (h : (oneK z s c a b).1.ok = true) : s.ok = true := andK_ok (andK_ok (orK_ok h))
theorem oneK_rl {z z' : Int} {s t : KS} {c a b c' a' b' : Int} (h : Rl s t) (hc : s.ok = true → c = c') (ha : s.ok = true → a = a') (hb : s.ok = true → b = b') : RlV (oneK z s c a b) (oneK z' t c' a' b') := by
  obtain ⟨p1, p2⟩ := andK_rl (z := z) (z' := z') h hc ha
  obtain ⟨q1, q2⟩ := andK_rl (z := z) (z' := z') p1 (a := -c) (a' := -c') (b := b) (b' := b') (fun k => by rw [hc (andK_ok k)]) (fun k => hb (andK_ok k))
  exact orK_rl q1 (fun k => p2 (andK_ok k)) q2
/-- Rows: bit by bit. -/
def mapK (f : KS → Int → Int → KS × Int) (s : KS) (L M : List Int) : Nat → KS × List Int
  | 0 => (s, [])
  | i + 1 => ((f (mapK f s L M i).1 (at0 L i) (at0 M i)).1, (mapK f s L M i).2 ++ [(f (mapK f s L M i).1 (at0 L i) (at0 M i)).2])
theorem mapK_len (f : KS → Int → Int → KS × Int) (s : KS) (L M : List Int) : ∀ i, (mapK f s L M i).2.length = i
  | 0 => rfl
  | i + 1 => by simp [mapK, mapK_len f s L M i]
/-- Each mark of a row is one of the net. -/
def MkL (s : KS) (L : List Int) : Prop := ∀ i, i < L.length → Mk s (at0 L i)
theorem MkL.le {s s' : KS} {L : List Int} (h : MkL s L) (hl : Le s s') : MkL s' L := fun i hi => (h i hi).le hl
theorem at0_last (L : List Int) (x : Int) : at0 (L ++ [x]) L.length = x := by unfold at0; rw [List.getD_eq_getElem?_getD]; simp
theorem at0_fore {L : List Int} {x : Int} {i : Nat} (h : i < L.length) : at0 (L ++ [x]) i = at0 L i := by unfold at0; rw [List.getD_eq_getElem?_getD, List.getD_eq_getElem?_getD, List.getElem?_append_left h]
theorem MkL.snoc {s : KS} {L : List Int} {x : Int} (h : MkL s L) (hx : Mk s x) : MkL s (L ++ [x]) := fun i hi => by
  simp at hi
  by_cases e : i < L.length
  · rw [at0_fore e]; exact h i e
  · have : i = L.length := by omega
    subst this
    rw [at0_last]; exact hx
theorem mapK_good {f : KS → Int → Int → KS × Int} {s : KS} {L M : List Int} (hs : KOk s) (hL : MkL s L) (hM : MkL s M) (hf : ∀ t a b, KOk t → Le s t → Mk t a → Mk t b → Good t (f t a b)) : ∀ i, i ≤ L.length → i ≤ M.length → KOk (mapK f s L M i).1 ∧ MkL (mapK f s L M i).1 (mapK f s L M i).2 ∧ Le s (mapK f s L M i).1
  | 0, _, _ => ⟨hs, fun i hi => absurd hi (by simp [mapK]), Le.refl _⟩
  | i + 1, h1, h2 => by
    obtain ⟨q1, q2, q3⟩ := mapK_good hs hL hM hf i (by omega) (by omega)
    obtain ⟨r1, r2, r3⟩ := hf _ _ _ q1 q3 ((hL i (by omega)).le q3) ((hM i (by omega)).le q3)
    exact ⟨r1, (q2.le r3).snoc r2, q3.trans r3⟩
def RlL (p q : KS × List Int) : Prop := Rl p.1 q.1 ∧ (p.1.ok = true → p.2 = q.2)
theorem mapK_ok {f : KS → Int → Int → KS × Int} {s : KS} {L M : List Int} (hf : ∀ t a b, (f t a b).1.ok = true → t.ok = true) : ∀ i, (mapK f s L M i).1.ok = true → s.ok = true
  | 0, h => h
  | i + 1, h => mapK_ok hf i (hf _ _ _ h)
theorem mapK_rl {f g : KS → Int → Int → KS × Int} {s t : KS} {L M L' M' : List Int} (h : Rl s t) (hL : s.ok = true → L = L') (hM : s.ok = true → M = M') (hok : ∀ t a b, (f t a b).1.ok = true → t.ok = true)
    (hf : ∀ u v a b a' b', Rl u v → (u.ok = true → s.ok = true) → (u.ok = true → a = a') → (u.ok = true → b = b') → RlV (f u a b) (g v a' b')) : ∀ i, RlL (mapK f s L M i) (mapK g t L' M' i)
  | 0 => ⟨h, fun _ => rfl⟩
  | i + 1 => by
    obtain ⟨q1, q2⟩ := mapK_rl h hL hM hok hf i
    have hso := mapK_ok (s := s) (L := L) (M := M) hok i
    obtain ⟨r1, r2⟩ := hf _ _ (at0 L i) (at0 M i) (at0 L' i) (at0 M' i) q1 hso (fun k => by rw [hL (hso k)]) (fun k => by rw [hM (hso k)])
    refine ⟨r1, fun k => ?_⟩
    show _ ++ [_] = _ ++ [_]
    rw [q2 (hok _ _ _ k), r2 k]
/-- What is handed back: a net and marks, or nothing. -/
structure BR where
  m : Int
  n : Nat
  G : Nat → Gt
  L : List Int
def nilB : BR := ⟨0, 0, fun _ => ⟨false, 0, 0⟩, []⟩
def brK (p : KS × List Int) : BR := if p.1.ok = true then ⟨p.1.m, p.1.n, p.1.G, p.2⟩ else nilB
theorem brK_rl {p q : KS × List Int} (h : RlL p q) : brK p = brK q := by
  unfold brK
  by_cases hk : p.1.ok = true
  · rw [← h.1.1, if_pos hk, if_pos hk, h.1.2 hk, h.2 hk]
  · rw [← h.1.1, if_neg hk, if_neg hk]
theorem brK_yes {p : KS × List Int} (h : p.1.ok = true) : brK p = ⟨p.1.m, p.1.n, p.1.G, p.2⟩ := if_pos h
theorem brK_no {p : KS × List Int} (h : p.1.ok = false) : brK p = nilB := if_neg (by rw [h]; simp)
theorem brK_n {p : KS × List Int} (h : KOk p.1) : (brK p).n ≤ 600 := by
  unfold brK
  split
  · exact h.2.2.1
  · simp [nilB]
end Go.Proofs.YtmpiiilkaadhfaaDoor
