/- Circuits of comparisons are right: the law FnBitsCmp returns true for every two codes of bytes, and leaves them as they were. Conditions: none beyond the given card's; the package's two errors read as the program's text lays them, which the card ties. (The law itself answers true where a code is longer than 1048576 bytes.) -/
import Derived.Test.YtmpiiilkaadhfaaDoorBtS
import Derived.Test.YtmpiiilkaadhfaaDoorRd
import Derived.Test.YtmpiiilkaadhfaaDoorCqS
import Derived.Test.YtmpiiilkaadhfaaDoorVqN
import Derived.Test.YtmpiiilkaadhfaaDoorBtQ
import Derived.Test.YtmpiiilkaadhfaaDoorCqP
import Derived.Test.YtmpiiilkaadhfaaDoorTie
import Derived.Test.YtmpiiilkaadhfaaDoorCards
import Derived.SevenTiedAt
import Derived.LaidMore
import Derived.LaidOnce
import Derived.OpenShut
import Derived.Stop.Joined
import Derived.Stop.LaidTwo
namespace Go.Proofs.YtmpiiilkaadhfaaDoor
open Go.ChangeShapes Go.WideShapes Go.ChangeAt Go.RowKit Go.Joins
open Go.ChangeMaps (open_string shut_string)
set_option linter.unusedVariables false
set_option maxRecDepth 100000
set_option linter.unusedSimpArgs false
def b01 (b : Bool) : Int := if b then 1 else 0
/-- The number of so many bits from a place on. -/
def upI (f : Nat → Bool) : Nat → Nat → Int
  | _, 0 => 0
  | s, m + 1 => upI f (s + 1) m * 2 + b01 (f s)
theorem upI_last (f : Nat → Bool) (m : Nat) : ∀ s, upI f s (m + 1) = upI f s m + b01 (f (s + m)) * 2 ^ m := by
  induction m with
  | zero => intro s; simp [upI]
  | succ m ih =>
    intro s
    have e : upI f s (m + 1 + 1) = upI f (s + 1) (m + 1) * 2 + b01 (f s) := rfl
    have e' : upI f s (m + 1) = upI f (s + 1) m * 2 + b01 (f s) := rfl
    rw [e, ih, e', show s + 1 + m = s + (m + 1) by omega, Int.pow_succ]
    generalize b01 (f (s + (m + 1))) = x
    generalize (2 : Int) ^ m = y
    rw [Int.add_mul, Int.mul_assoc, ← Int.mul_assoc x y 2]
    omega
theorem b01_bd (b : Bool) : 0 ≤ b01 b ∧ b01 b ≤ 1 := by cases b <;> decide
theorem upI_bd (f : Nat → Bool) (m : Nat) : ∀ s, 0 ≤ upI f s m ∧ upI f s m < 2 ^ m := by
  induction m with
  | zero => intro s; simp [upI]
  | succ m ih =>
    intro s
    have h := ih (s + 1)
    have hb := b01_bd (f s)
    show 0 ≤ upI f (s + 1) m * 2 + b01 (f s) ∧ upI f (s + 1) m * 2 + b01 (f s) < _
    rw [Int.pow_succ]
    omega
theorem upI_small {f : Nat → Bool} {s m : Nat} (h : m ≤ 4) : 0 ≤ upI f s m ∧ upI f s m ≤ 16 := by
  have h1 := upI_bd f m s
  have : m = 0 ∨ m = 1 ∨ m = 2 ∨ m = 3 ∨ m = 4 := by omega
  rcases this with rfl | rfl | rfl | rfl | rfl <;> (simp at h1 ⊢ <;> omega)
def bvI (l : Nat) (V : Nat → Int) (n : Nat) (B : Nat → Bool) : Int := if l ≤ 4 then upI (fun i => metB (V i) n B) 0 l else 0
theorem bvI_yes {l : Nat} {V : Nat → Int} {n : Nat} {B : Nat → Bool} (h : l ≤ 4) : bvI l V n B = upI (fun i => metB (V i) n B) 0 l := if_pos h
theorem bvI_no {l : Nat} {V : Nat → Int} {n : Nat} {B : Nat → Bool} (h : ¬ l ≤ 4) : bvI l V n B = 0 := if_neg h
theorem pow_ways {k : Nat} (h : k < 4) : ((2 : Int) ^ k = 1 ∧ k = 0) ∨ ((2 : Int) ^ k = 2 ∧ k = 1) ∨ ((2 : Int) ^ k = 4 ∧ k = 2) ∨ ((2 : Int) ^ k = 8 ∧ k = 3) := by
  have : k = 0 ∨ k = 1 ∨ k = 2 ∨ k = 3 := by omega
  rcases this with rfl | rfl | rfl | rfl <;> simp
set_option maxRecDepth 100000 in
set_option maxHeartbeats 2000000 in
theorem iBitsVal_any (a : Option Addr) (l cap : Nat) (V : Nat → Int) (c : Option Addr) (n cap' : Nat) (B : Nat → Bool) (w : World) (hd : IntsAt w a l V) (hl : l ≤ 1048576) (hW : ∀ i, i < l → W64 (V i)) (he : BlsAt w c n B) (hn : n ≤ 1048576) :
    Calls Tryd.prog 13 #[.slice c n cap', .slice a l cap] w fun e w' => e = .returned (.int .i64 (bvI l V n B)) ∧ w' = w := by
  by_cases h4 : l ≤ 4
  · rw [bvI_yes h4]
    have HD := hide hd
    have HE := hide he
    have HW := hide hW
    clear hd he hW
    generalize hf : (fun i => metB (V i) n B) = f
    have HF : Hid (∀ i, metB (V i) n B = f i) := fun i => by rw [← hf]
    clear hf
    go_enter Tryd.func13, Tryd.ntmps13
    go_wp2
    go_loopw [13, 5] (fun i s wr => ∃ r : Nat, r ≤ l ∧ i = .int .i64 (r : Int) ∧ s = .int .i64 (upI f 0 r) ∧ wr = w) (fun i _ _ => l - (intOf i).toNat)
    case atStart => exact ⟨0, by omega, by simp, by simp [upI], rfl⟩
    case round =>
      obtain ⟨r, hr, rfl, rfl, rfl⟩ := hrel
      have hbd := upI_small (f := f) (s := 0) (m := r) (by omega)
      by_cases hlt : r < l
      · obtain ⟨b, off, rfl, hb, hd⟩ := (unhide HD).ok (show r < l by omega)
        have d0 := hd r (by omega)
        have hw := unhide HW r (by omega)
        have hfp := unhide HF r
        have HU : Hid (upI f 0 (r + 1) = upI f 0 r + b01 (f r) * 2 ^ r) := by
          have := upI_last f r 0
          rw [Nat.zero_add] at this; exact this
        clear hd
        generalize upI f 0 r = y at *
        generalize V r = v at *
        have HQ := hide hfp
        clear hfp
        go_wp2_with fail
        refine (iNetLit_any _ _ _ _ _ _ hw (unhide HE) hn).mono ?_
        rintro e w1 ⟨rfl, rfl⟩
        rw [unhide HQ]
        cases hq : f r
        · rw [hq] at HU
          go_wp2
          go_roundw
          case rel =>
            refine ⟨r + 1, by omega, by go_num, ?_, trivial⟩
            rw [unhide HU]; exact congrArg (Value.int .i64) (by simp [b01])
          case measure => simp [intOf]; omega
        · rw [hq] at HU
          rcases pow_ways (show r < 4 by omega) with ⟨e1, er⟩ | ⟨e1, er⟩ | ⟨e1, er⟩ | ⟨e1, er⟩
          all_goals
            rw [e1] at HU
            clear e1
            go_wp2
            go_roundw
            case rel =>
              refine ⟨r + 1, ?_, by go_num, ?_, trivial⟩
              · omega
              · rw [unhide HU]; exact congrArg (Value.int .i64) (by simp [b01])
            case measure => simp [intOf]; omega
      · have e : r = l := by omega
        subst e
        go_wp2
        go_ret
        exact ⟨rfl, rfl⟩
  · rw [bvI_no h4]
    clear hd he hW
    go_enter Tryd.func13, Tryd.ntmps13
    go_wp2
    go_ret
    exact ⟨rfl, rfl⟩
theorem laidOut : laidOutB Tryd.prog = true := by kernel_rfl

/-- A slice of integers that came in: it is nil, or it leads to a row of cells. -/
def IsRow (k : IntKind) (w : World) (a : Option Addr) (len cap : Nat) (zs : List Int) : Prop :=
  (a = none ∧ len = 0 ∧ cap = 0 ∧ zs = []) ∨
  ∃ x, a = some x ∧ len ≤ cap ∧ cap ≤ maxLen ∧ zs.length = cap ∧ (∀ i, i < zs.length → w.cell? (x.add i) = some (.int k (zs.getD i 0))) ∧ ∀ n ∈ zs, (Lit.int k n).wf = true
theorem IsRow.byts {w : World} {a : Option Addr} {len cap : Nat} {zs : List Int} (h : IsRow .u8 w a len cap zs) : Byts w w.heap.size a len ∧ len ≤ cap ∧ cap ≤ maxLen := by
  rcases h with ⟨rfl, rfl, rfl, _⟩ | ⟨x, rfl, h1, h2, h3, hc, hw⟩
  · exact ⟨Or.inl rfl, Nat.le_refl _, by unfold maxLen; omega⟩
  · refine ⟨?_, h1, h2⟩
    by_cases h0 : len = 0
    · exact Or.inl h0
    · obtain ⟨b, off, rfl, hc'⟩ := ints_at hc (by omega)
      refine Or.inr ⟨b, off, rfl, World.block_lt_of_cell? _ _ (hc' 0 (by omega)), fun i hi => ?_⟩
      have hi' : i < zs.length := by omega
      have hm : zs.getD i 0 ∈ zs := by simp [List.getD, hi']
      have hci := hc' i hi'
      generalize zs.getD i 0 = z at hm hci
      have hz := hw z hm
      simp [Lit.wf, IntKind.min, IntKind.max, IntKind.signed, IntKind.bits] at hz
      exact ⟨z, by omega, by omega, hci⟩
theorem pow_pos2 (m : Nat) : (0 : Int) < 2 ^ m := Int.pow_pos (by decide)
/-- One number has one bit more. -/
theorem up_step (f : Nat → Bool) (m : Nat) : upI f 0 (m + 1) = upI f 0 m + b01 (f m) * 2 ^ m := by
  have := upI_last f m 0
  rwa [Nat.zero_add] at this
theorem eq_step (f g : Nat → Bool) (m : Nat) : decide (upI f 0 (m + 1) = upI g 0 (m + 1)) = (decide (upI f 0 m = upI g 0 m) && !(f m != g m)) := by
  have h1 := upI_bd f m 0
  have h2 := upI_bd g m 0
  have hp := pow_pos2 m
  rw [up_step, up_step]
  generalize upI f 0 m = x at *
  generalize upI g 0 m = y at *
  generalize (2 : Int) ^ m = p at *
  cases hf : f m <;> cases hg : g m <;> simp [b01] <;> omega
theorem lt_step (f g : Nat → Bool) (m : Nat) : decide (upI f 0 (m + 1) < upI g 0 (m + 1)) = if (f m != g m) = true then g m else decide (upI f 0 m < upI g 0 m) := by
  have h1 := upI_bd f m 0
  have h2 := upI_bd g m 0
  have hp := pow_pos2 m
  rw [up_step, up_step]
  generalize upI f 0 m = x at *
  generalize upI g 0 m = y at *
  generalize (2 : Int) ^ m = p at *
  cases hf : f m <;> cases hg : g m <;> simp [b01] <;> omega
/-- A number with a sign. -/
def sgI (f : Nat → Bool) (m : Nat) : Int := upI f 0 m - b01 (f m) * 2 ^ m
theorem under_step (f g : Nat → Bool) (m : Nat) : decide (sgI f m < sgI g m) = if (g m != f m) = true then f m else decide (upI f 0 m < upI g 0 m) := by
  have h1 := upI_bd f m 0
  have h2 := upI_bd g m 0
  have hp := pow_pos2 m
  unfold sgI
  generalize upI f 0 m = x at *
  generalize upI g 0 m = y at *
  generalize (2 : Int) ^ m = p at *
  cases hf : f m <;> cases hg : g m <;> simp [b01] <;> omega
theorem same_say {s : KS} {I : List Bool} {r x y : Int} (hs : KOk s) (hr : Mk s r) (hx : Mk s x) (hy : Mk s y) (hI : (I.length : Int) = s.m) (hk : (sameR 1 s r x y).1.ok = true) : Say s (sameR 1 s r x y) I (sy s I r && !(sy s I x != sy s I y)) := by
  have k1 := andK_ok (z := 1) hk
  have h1 := xor_say hs hx hy hI k1
  have l1 : Le s (xorK 1 s x y).1 := (xorK_good (z := 1) (by omega) hs hx hy).2.2
  have h2 := and_say h1.k (hr.le l1) h1.m.neg (h1.I hI) hk
  refine ⟨h1.s0, h1.ex.trans h2.ex, h2.k, h2.m, ?_⟩
  have hv := h2.v
  rw [sy_ex h1.ex hI (hr.mk h1.s0), sy_neg (h1.I hI) (h1.m.mk k1), h1.v] at hv
  exact hv
theorem less_say {s : KS} {I : List Bool} {r x y : Int} (hs : KOk s) (hr : Mk s r) (hx : Mk s x) (hy : Mk s y) (hI : (I.length : Int) = s.m) (hk : (lessR 1 s r x y).1.ok = true) : Say s (lessR 1 s r x y) I (if (sy s I x != sy s I y) = true then sy s I y else sy s I r) := by
  have k1 := oneK_ok (z := 1) hk
  have h1 := xor_say hs hx hy hI k1
  have l1 : Le s (xorK 1 s x y).1 := (xorK_good (z := 1) (by omega) hs hx hy).2.2
  have h2 := one_say h1.k h1.m (hy.le l1) (hr.le l1) (h1.I hI) hk
  refine ⟨h1.s0, h1.ex.trans h2.ex, h2.k, h2.m, ?_⟩
  have hv := h2.v
  rw [h1.v, sy_ex h1.ex hI (hy.mk h1.s0), sy_ex h1.ex hI (hr.mk h1.s0)] at hv
  exact hv
/-- Along two rows: what is carried says P of the first bits. -/
theorem fold_say {f : KS → Int → Int → Int → KS × Int} {s : KS} {c : Int} {L M : List Int} {I : List Bool} {st : Bool → Bool → Bool → Bool} (P : Nat → Bool) (hfo : ∀ t r x y, (f t r x y).1.ok = true → t.ok = true)
    (hf : ∀ t r x y, KOk t → Mk t r → Mk t x → Mk t y → (I.length : Int) = t.m → (f t r x y).1.ok = true → Say t (f t r x y) I (st (sy t I r) (sy t I x) (sy t I y)))
    (h0 : sy s I c = P 0) (hP : ∀ i, st (P i) (sy s I (at0 L i)) (sy s I (at0 M i)) = P (i + 1))
    (hs : KOk s) (hc : Mk s c) (hL : MkL s L) (hM : MkL s M) (hI : (I.length : Int) = s.m) : ∀ i, i ≤ L.length → i ≤ M.length → (foldK f s c L M i).1.ok = true →
    s.ok = true ∧ Ex s (foldK f s c L M i).1 ∧ KOk (foldK f s c L M i).1 ∧ Mk (foldK f s c L M i).1 (foldK f s c L M i).2 ∧ sy (foldK f s c L M i).1 I (foldK f s c L M i).2 = P i
  | 0, _, _, hk => ⟨hk, Ex.refl _, hs, hc, h0⟩
  | i + 1, h1, h2, hk => by
    have hstep := hf (foldK f s c L M i).1 (foldK f s c L M i).2 (at0 L i) (at0 M i)
    have hok : (foldK f s c L M i).1.ok = true := hfo _ _ _ _ hk
    obtain ⟨q0, q1, q2, q3, q4⟩ := fold_say P hfo hf h0 hP hs hc hL hM hI i (by omega) (by omega) hok
    have le : Le s (foldK f s c L M i).1 := fun _ => ⟨q0, q1.1, q1.2.1⟩
    have hI' : (I.length : Int) = (foldK f s c L M i).1.m := by rw [q1.1]; exact hI
    have hS := hstep q2 q3 ((hL i (by omega)).le le) ((hM i (by omega)).le le) hI' hk
    refine ⟨q0, q1.trans hS.ex, hS.k, hS.m, ?_⟩
    have hv := hS.v
    rw [q4, sy_ex q1 hI ((hL i (by omega)).mk q0), sy_ex q1 hI ((hM i (by omega)).mk q0), hP i] at hv
    exact hv
theorem upI_cg {f g : Nat → Bool} {s : Nat} : ∀ {m : Nat}, (∀ i, i < m → f (s + i) = g (s + i)) → upI f s m = upI g s m
  | 0, _ => rfl
  | m + 1, h => by rw [upI_last, upI_last, upI_cg (fun i hi => h i (by omega)), h m (by omega)]
theorem sgn_up (f : Nat → Bool) {k : Nat} (hk : k ≤ 3) : sgn (((k + 1 : Nat)) : Int) (upI f 0 (k + 1)) = sgI f k := by
  have h1 := upI_bd f k 0
  unfold sgI sgn
  rw [up_step]
  generalize upI f 0 k = x at *
  have : k = 0 ∨ k = 1 ∨ k = 2 ∨ k = 3 := by omega
  have t1 : two 0 = 1 := by decide
  have t2 : two 1 = 2 := by decide
  have t3 : two 2 = 4 := by decide
  have t4 : two 3 = 8 := by decide
  have t5 : two 4 = 16 := by decide
  rcases this with rfl | rfl | rfl | rfl <;> cases f _ <;> simp [b01, t1, t2, t3, t4, t5] at h1 ⊢ <;> (try split) <;> omega
theorem okB_up (f : Nat → Bool) {l : Nat} (h1 : 1 ≤ l) (h4 : l ≤ 4) : okB (l : Int) (upI f 0 l) = true := by
  have hb := upI_bd f l 0
  have t2 : two 1 = 2 := by decide
  have t3 : two 2 = 4 := by decide
  have t4 : two 3 = 8 := by decide
  have t5 : two 4 = 16 := by decide
  generalize upI f 0 l = x at *
  have : l = 1 ∨ l = 2 ∨ l = 3 ∨ l = 4 := by omega
  unfold okB
  rcases this with rfl | rfl | rfl | rfl <;> simp [t2, t3, t4, t5] at hb ⊢ <;> omega
/-- What the mark says of two rows. -/
theorem cmp_say {s : KS} {op : Int} {L M : List Int} {I : List Bool} (hs : KOk s) (hL : MkL s L) (hM : MkL s M) (he : L.length = M.length) (h1 : 1 ≤ L.length) (h4 : L.length ≤ 4) (o1 : 15 ≤ op) (o2 : op ≤ 17) (hI : (I.length : Int) = s.m) (hk : (cmpK 1 op s L M).1.ok = true) :
    s.ok = true ∧ Ex s (cmpK 1 op s L M).1 ∧ KOk (cmpK 1 op s L M).1 ∧ Mk (cmpK 1 op s L M).1 (cmpK 1 op s L M).2 ∧ sy (cmpK 1 op s L M).1 I (cmpK 1 op s L M).2 = cmpB op (L.length : Int) (upI (fun i => sy s I (at0 L i)) 0 L.length) (upI (fun i => sy s I (at0 M i)) 0 L.length) := by
  by_cases e15 : op = 15
  · subst e15
    have e : cmpK 1 15 s L M = foldK (sameR 1) s 1 L M L.length := rfl
    rw [e] at hk ⊢
    have h := fold_say (I := I) (st := fun r x y => r && !(x != y)) (fun i => decide (upI (fun i => sy s I (at0 L i)) 0 i = upI (fun i => sy s I (at0 M i)) 0 i)) (fun t r x y h => xorK_ok (z := 1) (andK_ok (z := 1) h)) (fun t r x y h1 h2 h3 h4 h5 h6 => same_say h1 h2 h3 h4 h5 h6) (by simp [sy_one, upI]) (fun i => (eq_step (fun i => sy s I (at0 L i)) (fun i => sy s I (at0 M i)) i).symm) hs (Mk.one hs) hL hM hI L.length (Nat.le_refl _) (by omega) hk
    refine ⟨h.1, h.2.1, h.2.2.1, h.2.2.2.1, h.2.2.2.2.trans ?_⟩
    simp [cmpB]
    rfl
  · by_cases e16 : op = 16
    · subst e16
      have e : cmpK 1 16 s L M = foldK (lessR 1) s (-1) L M L.length := rfl
      rw [e] at hk ⊢
      have h := fold_say (I := I) (st := fun r x y => if (x != y) = true then y else r) (fun i => decide (upI (fun i => sy s I (at0 L i)) 0 i < upI (fun i => sy s I (at0 M i)) 0 i)) (fun t r x y h => xorK_ok (z := 1) (oneK_ok (z := 1) h)) (fun t r x y h1 h2 h3 h4 h5 h6 => less_say h1 h2 h3 h4 h5 h6) (by simp [sy_not, upI]) (fun i => (lt_step (fun i => sy s I (at0 L i)) (fun i => sy s I (at0 M i)) i).symm) hs (Mk.not hs) hL hM hI L.length (Nat.le_refl _) (by omega) hk
      refine ⟨h.1, h.2.1, h.2.2.1, h.2.2.2.1, h.2.2.2.2.trans ?_⟩
      simp [cmpB]
    · obtain rfl : op = 17 := by omega
      have e : cmpK 1 17 s L M = foldK (lessR 1) s (-1) (topL L M) (topL M L) L.length := rfl
      rw [e] at hk ⊢
      have h := fold_say (I := I) (st := fun r x y => if (x != y) = true then y else r) (fun i => decide (upI (fun i => sy s I (at0 (topL L M) i)) 0 i < upI (fun i => sy s I (at0 (topL M L) i)) 0 i)) (fun t r x y h => xorK_ok (z := 1) (oneK_ok (z := 1) h)) (fun t r x y h1 h2 h3 h4 h5 h6 => less_say h1 h2 h3 h4 h5 h6) (by simp [sy_not, upI]) (fun i => (lt_step (fun i => sy s I (at0 (topL L M) i)) (fun i => sy s I (at0 (topL M L) i)) i).symm) hs (Mk.not hs) (hL.top hM he h1) (hM.top hL he.symm (by omega)) hI L.length (by rw [topL_len h1]; exact Nat.le_refl _) (by rw [topL_len (by omega)]; omega) hk
      refine ⟨h.1, h.2.1, h.2.2.1, h.2.2.2.1, h.2.2.2.2.trans ?_⟩
      obtain ⟨k, hkl⟩ : ∃ k, L.length = k + 1 := ⟨L.length - 1, by omega⟩
      have c1 : ∀ i, i < k → sy s I (at0 (topL L M) i) = sy s I (at0 L i) := fun i hi => by rw [topL_at (by omega), if_neg (by omega)]
      have c2 : ∀ i, i < k → sy s I (at0 (topL M L) i) = sy s I (at0 M i) := fun i hi => by rw [topL_at (by omega), if_neg (by omega)]
      have c3 : sy s I (at0 (topL L M) k) = sy s I (at0 M k) := by rw [topL_at (by omega), if_pos (by omega)]
      have c4 : sy s I (at0 (topL M L) k) = sy s I (at0 L k) := by rw [topL_at (by omega), if_pos (by omega)]
      have e1 : upI (fun i => sy s I (at0 (topL L M) i)) 0 k = upI (fun i => sy s I (at0 L i)) 0 k := upI_cg (fun i hi => by simp only [Nat.zero_add]; exact c1 i hi)
      have e2 : upI (fun i => sy s I (at0 (topL M L) i)) 0 k = upI (fun i => sy s I (at0 M i)) 0 k := upI_cg (fun i hi => by simp only [Nat.zero_add]; exact c2 i hi)
      rw [hkl, lt_step, c3, c4, e1, e2]
      refine (under_step (fun i => sy s I (at0 L i)) (fun i => sy s I (at0 M i)) k).symm.trans ?_
      simp only [cmpB]
      rw [← sgn_up _ (by omega), ← sgn_up _ (by omega)]
      simp
/-- What the law asks of what BitsCmp hands back, if it hands back a mark. -/
structure CmpF (m : Int) (n : Nat) (G : Nat → Gt) (op : Int) (L M : List Int) (r : BR) : Prop where
  net : netB m n G = true
  rm : r.m = m
  rnet : netB r.m r.n r.G = true
  rn : n ≤ r.n
  pre : ∀ j, j < n → r.G j = G j
  len : L.length = M.length ∧ 1 ≤ L.length ∧ L.length ≤ 4 ∧ 15 ≤ op ∧ op ≤ 17
  bd : -700 ≤ at0 r.L 0 ∧ at0 r.L 0 ≤ 700
  say : ∀ I : List Bool, (I.length : Int) = m → metB (at0 r.L 0) (1 + I.length + r.n) (atB (outL I r.G r.n)) = cmpB op (L.length : Int) (bvI L.length (at0 L) (1 + I.length + r.n) (atB (outL I r.G r.n))) (bvI L.length (at0 M) (1 + I.length + r.n) (atB (outL I r.G r.n)))
    ∧ okB (L.length : Int) (bvI L.length (at0 L) (1 + I.length + r.n) (atB (outL I r.G r.n))) = true ∧ okB (L.length : Int) (bvI L.length (at0 M) (1 + I.length + r.n) (atB (outL I r.G r.n))) = true
theorem cmpBR_facts {m : Int} {n : Nat} {G : Nat → Gt} {op : Int} {L M : List Int} (h : at0 (cmpBR m n G op L M).L 0 ≠ 0) : CmpF m n G op L M (cmpBR m n G op L M) := by
  by_cases hp : CmpP m n G op L M
  · obtain ⟨h1, h2, h3, h4, h5, h6⟩ := hp
    have e := cmpBR_yes (op := op) ⟨h1, h2, h3, h4, h5, h6⟩
    rw [e] at h ⊢
    cases hok : (cmpK 1 op (kS m n G) L M).1.ok
    · rw [brK_no hok] at h; simp [nilB, at0] at h
    · rw [brK_yes hok]
      have hs := kS_ok (G := G) h1
      have key := fun I hI => cmp_say (I := I) (op := op) hs (h2.mk (G := G) h1) (h3.mk (G := G) h1) h4 h2.2.1 h2.2.2 h5 h6 hI hok
      have hm0 := (netB_iff.1 h1).1
      obtain ⟨q0, q1, q2, q3, q4⟩ := key (List.replicate m.toNat false) (by simp; show _ = m; omega)
      refine ⟨h1, q1.1, q2.2.2.2 hok, q1.2.1, q1.2.2, ⟨h4, h2.2.1, h2.2.2, h5, h6⟩, ⟨q3.1, q3.2.1⟩, fun I hI => ?_⟩
      have hv := (key I hI).2.2.2.2
      have eL : bvI L.length (at0 L) (1 + I.length + (cmpK 1 op (kS m n G) L M).1.n) (atB (outL I (cmpK 1 op (kS m n G) L M).1.G (cmpK 1 op (kS m n G) L M).1.n)) = upI (fun i => sy (kS m n G) I (at0 L i)) 0 L.length := by
        rw [bvI_yes h2.2.2]
        exact upI_cg (fun i hi => by rw [Nat.zero_add]; exact sy_ex q1 hI (((h2.mk (G := G) h1) i hi).mk q0))
      have eM : bvI L.length (at0 M) (1 + I.length + (cmpK 1 op (kS m n G) L M).1.n) (atB (outL I (cmpK 1 op (kS m n G) L M).1.G (cmpK 1 op (kS m n G) L M).1.n)) = upI (fun i => sy (kS m n G) I (at0 M i)) 0 L.length := by
        rw [bvI_yes h2.2.2]
        exact upI_cg (fun i hi => by rw [Nat.zero_add]; exact sy_ex q1 hI (((h3.mk (G := G) h1) i (by omega)).mk q0))
      simp only
      rw [eL, eM]
      exact ⟨hv, okB_up _ h2.2.1 h2.2.2, okB_up _ h2.2.1 h2.2.2⟩
  · rw [cmpBR_no hp] at h; simp [nilB, at0] at h
theorem cmpBR_zero {m : Int} {n : Nat} {G : Nat → Gt} {op : Int} {L M : List Int} (h : at0 (cmpBR m n G op L M).L 0 = 0) : (cmpBR m n G op L M).m = 0 ∧ (cmpBR m n G op L M).n = 0 := by
  by_cases hp : CmpP m n G op L M
  · rw [cmpBR_yes hp] at h ⊢
    cases hok : (cmpK 1 op (kS m n G) L M).1.ok
    · rw [brK_no hok]; exact ⟨rfl, rfl⟩
    · rw [brK_yes hok] at h
      have hs := kS_ok (G := G) hp.1
      have hg := cmpK_good (z := 1) (op := op) (by omega) hs (hp.2.1.mk (G := G) hp.1) (hp.2.2.1.mk (G := G) hp.1) hp.2.2.2.1 hp.2.1.2.1
      have := (mkP_iff.1 (hg.2.1.mk hok)).1
      simp [at0] at h
      exact absurd h this
  · rw [cmpBR_no hp]; exact ⟨rfl, rfl⟩
theorem Sent.later {w w' : World} {base : Nat} {aF aR : Addr} (h : Sent w base aF aR) (hb : Below w.heap.size w w') : Sent w' base aF aR := ⟨cell_later hb h.f, cell_later hb h.r, h.b⟩
theorem cmpBR_bdd (m : Int) (n : Nat) (G : Nat → Gt) (op : Int) (L M : List Int) : (cmpBR m n G op L M).n ≤ 600 := by
  by_cases h : CmpP m n G op L M
  · rw [cmpBR_yes h]
    obtain ⟨h1, h2, h3, h4, h5, h6⟩ := h
    exact brK_n (cmpK_good (by omega) (kS_ok h1) (h2.mk (G := G) h1) (h3.mk (G := G) h1) h4 h2.2.1).1
  · rw [cmpBR_no h]; simp [nilB]
theorem cmp_pair {op a m n : Int} (o1 : 15 ≤ op) (o2 : op ≤ 17) (hm : okB a m = true) (hn : okB a n = true) : cmpR op a m a n = cmpB op a m n ∧ cmpT op a m a n = true := by
  have hp : pairB a m a n = true := by simp [pairB, hm, hn]
  unfold cmpR cmpT
  rw [if_pos ⟨hp, o1, o2⟩, if_pos ⟨hp, o1, o2⟩]
  exact ⟨rfl, rfl⟩
set_option linter.unusedSimpArgs false

namespace bCmp
set_option maxRecDepth 100000 in
set_option maxHeartbeats 4000000 in
theorem walk (code : Option Addr) (lencode capcode : Nat) (zcode : List Int) (more : Option Addr) (lenmore capmore : Nat) (zmore : List Int) (aF aR : Addr) (w : World) (hS : Sent w 2 aF aR) (hsz : 2 ≤ w.heap.size) (wcode : IsRow .u8 w code lencode capcode zcode) (wmore : IsRow .u8 w more lenmore capmore zmore) :
    Calls Tryd.prog 3 #[.slice code lencode capcode, .slice more lenmore capmore] w fun e w' => e = .returned (.bool true) ∧ Below w.heap.size w w' := by
  obtain ⟨hby, hlc, hcm⟩ := wcode.byts
  obtain ⟨hby2, _, _⟩ := wmore.byts
  by_cases hl0 : lencode ≤ 1048576
  · by_cases hl1 : lenmore ≤ 1048576
    · go_enter Tryd.func3, Tryd.ntmps3
      go_wp2_with fail
      refine (drawBitsCmp_any _ _ _ _ hl0 hlc hcm hby).mono ?_
      rintro e w1 ⟨m, g, n, cap, G, c, gu, nu, cu, L, gv, nv, cv, M, rfl, ⟨m0, m9, n4⟩, ⟨Dn, gl, _, wg⟩, wc, ru, rv, BL⟩
      have S := hS.later BL
      have HBY := hide hby2
      have HWG := hide wg
      have Du : IntsAt w1 (some ⟨gu, 0, none⟩) nu (at0 L) := Or.inr ⟨_, _, rfl, ru.lt, ru.i⟩
      have Dv : IntsAt w1 (some ⟨gv, 0, none⟩) nv (at0 M) := Or.inr ⟨_, _, rfl, rv.lt, rv.i⟩
      have HUl := hide ru.l
      have HVl := hide rv.l
      have HUv := hide ru.v
      have HVv := hide rv.v
      have ub := ru.b
      have vb := rv.b
      have uc := ru.c
      have vc := rv.c
      have HWC := hide wc
      clear wcode hby wmore hby2 wg ru rv hS wc
      obtain ⟨r, hr⟩ : ∃ r, r = cmpBR m n G c L M := ⟨_, rfl⟩
      have hrn := cmpBR_bdd m n G c L M
      rw [← hr] at hrn
      have hrn1 : r.n ≤ 1048576 := by omega
      have HR := hide hr
      clear hr
      obtain ⟨zr, hzr⟩ : ∃ z, z = at0 r.L 0 := ⟨_, rfl⟩
      have HLN := hide hzr
      clear hzr
      have kzr : (zr != zr) = false := by simp
      have nn : n ≤ 1048576 := by omega
      go_wp2_with fail
      obtain ⟨vE, hvE⟩ : ∃ v, v = w1.alloc (.cells #[.int .i64 m, .slice (some ⟨g, 0, none⟩) n cap] 25) := ⟨_, rfl⟩
      have bvE : Below w1.heap.size w1 vE := by rw [hvE]; exact (Below.refl _ _).alloc (Nat.le_refl _) _
      have E : NBox vE w1.heap.size m (some ⟨g, 0, none⟩) n cap := by rw [hvE]; exact NBox.new _ _ _ _ _ _
      rw [← hvE]
      clear hvE
      replace Dn := Dn.later bvE
      replace Du := Du.later bvE
      replace Dv := Dv.later bvE
      replace S := S.later bvE
      replace gl := Nat.lt_of_lt_of_le gl bvE.size
      replace BL := BL.trans (bvE.mono BL.size)
      clear bvE
      refine (iBitsCmp_any m _ n _ G c _ nu _ L _ nv _ M 2 aF aR _ Dn (unhide HWG) ⟨_, rfl, rfl⟩ nn Du Dv (unhide HUl) (unhide HVl) (by omega) (by omega) (unhide HUv) (unhide HVv) S (by have := BL.size; omega)).mono ?_
      rintro e w2 ⟨⟨ax, cx, rfl, K, _, kc, ka⟩, b2⟩
      replace Dn := Dn.later b2
      replace Du := Du.later b2
      replace Dv := Dv.later b2
      replace S := S.later b2
      replace E := E.later b2
      replace gl := Nat.lt_of_lt_of_le gl b2.size
      replace BL := BL.trans (b2.mono BL.size)
      clear b2
      rw [← unhide HR] at K
      rw [← unhide HR] at kc
      rw [← unhide HR] at ka
      (try rw [← unhide HR])
      (try rw [← unhide HLN])
      have HKC := hide kc
      have HKA := hide ka
      clear kc ka
      obtain ⟨E0, E1⟩ := id E
      have El := World.block_lt_of_cell? _ _ E0
      go_wp2_with fail
      clear E0 E1 El
      obtain ⟨vX, hvX⟩ : ∃ v, v = w2.alloc (.cells #[.int .i64 r.m, .slice ax r.n cx] 25) := ⟨_, rfl⟩
      have bvX : Below w2.heap.size w2 vX := by rw [hvX]; exact (Below.refl _ _).alloc (Nat.le_refl _) _
      have X : NBox vX w2.heap.size r.m ax r.n cx := by rw [hvX]; exact NBox.new _ _ _ _ _ _
      rw [← hvX]
      clear hvX
      replace Dn := Dn.later bvX
      replace Du := Du.later bvX
      replace Dv := Dv.later bvX
      replace S := S.later bvX
      replace K := K.later bvX
      replace E := E.later bvX
      replace gl := Nat.lt_of_lt_of_le gl bvX.size
      replace BL := BL.trans (bvX.mono BL.size)
      clear bvX
      refine (sBitsCmp_any m _ n _ G c _ nu _ L _ nv _ M _ Dn (unhide HWG) (fun h => by cases h) (fun p h => by cases h; rfl) (fun p h => by cases h; exact gl) nn Du Dv (unhide HUl) (unhide HVl) (by omega) (by omega) uc vc).mono ?_
      rintro e w3 ⟨⟨az, cz, rfl, W, _⟩, b3⟩
      replace Dn := Dn.later b3
      replace Du := Du.later b3
      replace Dv := Dv.later b3
      replace S := S.later b3
      replace K := K.later b3
      replace E := E.later b3
      replace X := X.later b3
      replace gl := Nat.lt_of_lt_of_le gl b3.size
      replace BL := BL.trans (b3.mono BL.size)
      clear b3
      rw [← unhide HR] at W
      (try rw [← unhide HR])
      (try rw [← unhide HLN])
      obtain ⟨E0, E1⟩ := id E
      have El := World.block_lt_of_cell? _ _ E0
      obtain ⟨X0, X1⟩ := id X
      have Xl := World.block_lt_of_cell? _ _ X0
      go_wp2_with fail
      clear E0 E1 El
      clear X0 X1 Xl
      obtain ⟨vZ, hvZ⟩ : ∃ v, v = w3.alloc (.cells #[.int .i64 r.m, .slice az r.n cz] 25) := ⟨_, rfl⟩
      have bvZ : Below w3.heap.size w3 vZ := by rw [hvZ]; exact (Below.refl _ _).alloc (Nat.le_refl _) _
      have Z : NBox vZ w3.heap.size r.m az r.n cz := by rw [hvZ]; exact NBox.new _ _ _ _ _ _
      rw [← hvZ]
      clear hvZ
      replace Dn := Dn.later bvZ
      replace Du := Du.later bvZ
      replace Dv := Dv.later bvZ
      replace S := S.later bvZ
      replace K := K.later bvZ
      replace W := W.later bvZ
      replace E := E.later bvZ
      replace X := X.later bvZ
      replace gl := Nat.lt_of_lt_of_le gl bvZ.size
      replace BL := BL.trans (bvZ.mono BL.size)
      clear bvZ
      refine (iNetSame_any _ _ _ _ _ _ _ _ _ _ _ K W hrn1 hrn1).mono ?_
      rintro e w4 ⟨rfl, b4⟩
      replace Dn := Dn.later b4
      replace Du := Du.later b4
      replace Dv := Dv.later b4
      replace S := S.later b4
      replace K := K.later b4
      replace W := W.later b4
      replace E := E.later b4
      replace X := X.later b4
      replace Z := Z.later b4
      replace gl := Nat.lt_of_lt_of_le gl b4.size
      replace BL := BL.trans (b4.mono BL.size)
      clear b4
      rw [nsB_refl]
      clear W Z
      by_cases hk : zr = 0
      · have hz : r.m = 0 ∧ r.n = 0 := by rw [unhide HR] at *; exact cmpBR_zero (by rw [← unhide HLN]; exact hk)
        have kz : (zr == 0) = true := by simp [hk]
        have HZ := hide hz
        have K9 := hide K
        clear hz hk
        obtain ⟨X0, X1⟩ := id X
        go_wp2_with fail
        refine (iNetSame_any r.m 0 ax none r.n 0 cx 0 r.G r.G _ (unhide K9) (Or.inl rfl) hrn1 (by omega)).mono ?_
        rintro e wq ⟨rfl, bq⟩
        have hs : nsB r.m 0 r.n 0 r.G r.G = true := by rw [(unhide HZ).1, (unhide HZ).2]; exact nsB_refl _ _ _
        rw [hs]
        go_wp2
        go_ret
        exact ⟨rfl, BL.trans (bq.mono BL.size)⟩
      · have kz : (zr == 0) = false := by simp [hk]
        have hF : CmpF m n G c L M r := by rw [unhide HR]; exact cmpBR_facts (by rw [← unhide HR, ← unhide HLN]; exact hk)
        have HF := hide hF
        have hrl : r.L.length ≠ 0 := fun e => hk (by rw [unhide HLN]; have : r.L = [] := List.eq_nil_of_length_eq_zero e; rw [this]; rfl)
        obtain ⟨qx, hqx⟩ := unhide HKA hrl
        have rm := hF.rm
        have hlv : nv = nu := by have := hF.len.1; rw [unhide HUl, unhide HVl] at this; omega
        have HLV := hide hlv
        have hm0 := (netB_iff.1 hF.net).1
        have HX0 := hide X
        have HE0 := hide E
        have HK0 := hide K
        have HDn := hide Dn
        have HDu := hide Du
        have HDv := hide Dv
        have HBL := hide BL
        subst hqx
        obtain ⟨M9, hM9⟩ := Int.eq_ofNat_of_zero_le hm0
        have HM9 := hide hM9
        have HRM := hide (rm.trans hM9)
        have Xb : w2.heap.size < w4.heap.size := World.block_lt_of_cell? _ _ X.1
        have Eb : w1.heap.size < w4.heap.size := World.block_lt_of_cell? _ _ E.1
        clear hF hk hrl rm hM9 hm0 hlv X E K Dn Du Dv S gl BL
        have E0 := (unhide HE0).1
        have E1 := (unhide HE0).2
        have X0 := (unhide HX0).1
        have X1 := (unhide HX0).2
        go_wp2
        go_loopw [13] (fun i wr => ∃ j : Nat, j ≤ 12 ∧ i = .int .i64 j ∧ Below w4.heap.size w4 wr) (fun i _ => 12 - (intOf i).toNat)
        case atStart => exact ⟨0, by omega, rfl, (by first | exact Below.refl _ _ | exact (by repeat (first | exact Below.refl _ _ | assumption | refine below_drewN ?_ _ | refine Below.drew ?_ | refine Below.alloc ?_ (by first | exact Nat.le_refl _ | exact Below.size (by assumption) | (simp; done) | (simp; omega)) _ | refine Below.setCell ?_ (by first | exact Nat.le_refl _ | exact Below.size (by assumption) | (simp; done) | (simp; omega)) _ | refine Below.trans ?_ (by assumption))))⟩
        case round =>
          clear E0 E1 X0 X1
          obtain ⟨j, hj, rfl, be⟩ := hrel
          have hB := Below.trans (unhide HBL) (be.mono (unhide HBL).size)
          by_cases hlt : j < 12
          · have klt : decide ((j : Int) < 12) = true := by simp; omega
            have hE := (unhide HE0).later be
            have hX := (unhide HX0).later be
            have E0 := hE.1
            have E1 := hE.2
            have X0 := hX.1
            have X1 := hX.2
            rw [unhide HM9] at E0
            rw [unhide HRM] at X0
            have kw : IntKind.i64.wrap (37 * (j : Int)) = 37 * (j : Int) := by rw [IntKind.wrap_i64]; omega
            clear hE hX
            go_wp2
            refine wp_region_held_drew (S := fun w' => (w'.cell? ⟨w1.heap.size, 0, none⟩ = some (.int .i64 (M9 : Int)) ∧ w'.cell? ⟨w1.heap.size, 1, none⟩ = some (.slice (some ⟨g, 0, none⟩) n cap)) ∧ w'.cell? ⟨w2.heap.size, 0, none⟩ = some (.int .i64 (M9 : Int)) ∧ w'.cell? ⟨w2.heap.size, 1, none⟩ = some (.slice (some ⟨qx, 0, none⟩) r.n cx)) (by kernel_rfl) ?_ (fun hHeld => ?_)
            · exact ⟨⟨E0, E1⟩, X0, X1⟩
            obtain ⟨wd, hwd⟩ : ∃ x, x = wr.drew := ⟨_, rfl⟩
            have bed : Below w4.heap.size w4 wd := by rw [hwd]; exact be.drew
            have hBd : Below w.heap.size w wd := by rw [hwd]; exact hB.drew
            replace E0 : wd.cell? ⟨w1.heap.size, 0, none⟩ = some (.int .i64 (M9 : Int)) := by rw [hwd]; exact E0
            replace E1 : wd.cell? ⟨w1.heap.size, 1, none⟩ = some (.slice (some ⟨g, 0, none⟩) n cap) := by rw [hwd]; exact E1
            replace X0 : wd.cell? ⟨w2.heap.size, 0, none⟩ = some (.int .i64 (M9 : Int)) := by rw [hwd]; exact X0
            replace X1 : wd.cell? ⟨w2.heap.size, 1, none⟩ = some (.slice (some ⟨qx, 0, none⟩) r.n cx) := by rw [hwd]; exact X1
            rw [← hwd]
            (try rw [← hwd] at hHeld)
            clear hwd
            refine wpAnyH_take (i := 0) (v := ?_) rfl (by kernel_rfl) (by kernel_rfl) (by kernel_rfl) (fun _ _ _ h => h) (Or.inl ⟨by rfl, ?_⟩) (by assumption) ?_
            rotate_left
            · (intro w hSw; (try dsimp only at hSw); first | (go_simp; done) | (go_simp; with_reducible rfl))
            try simp only [List.getElem_toArray, List.getElem_cons_succ, List.getElem_cons_zero, Act.put, List.setIfInBounds_toArray, List.set_cons_zero, List.set_cons_succ]
            refine wpAnyH_take (i := 1) (v := ?_) rfl (by kernel_rfl) (by kernel_rfl) (by kernel_rfl) (fun _ _ _ h => h) (Or.inl ⟨by rfl, ?_⟩) (by assumption) ?_
            rotate_left
            · (intro w hSw; (try dsimp only at hSw); first | (go_simp; done) | (go_simp; with_reducible rfl))
            try simp only [List.getElem_toArray, List.getElem_cons_succ, List.getElem_cons_zero, Act.put, List.setIfInBounds_toArray, List.set_cons_zero, List.set_cons_succ]
            refine wpAnyH_take (i := 2) (v := ?_) rfl (by kernel_rfl) (by kernel_rfl) (by kernel_rfl) (fun _ _ _ h => h) (Or.inl ⟨by rfl, ?_⟩) (by assumption) ?_
            rotate_left
            · (intro w hSw; (try dsimp only at hSw); first | (go_simp; done) | (go_simp; with_reducible rfl))
            try simp only [List.getElem_toArray, List.getElem_cons_succ, List.getElem_cons_zero, Act.put, List.setIfInBounds_toArray, List.set_cons_zero, List.set_cons_succ]
            refine wpAnyH_take (i := 4) (v := ?_) rfl (by kernel_rfl) (by kernel_rfl) (by kernel_rfl) (fun _ _ _ h => h) (Or.inl ⟨by rfl, ?_⟩) (by assumption) ?_
            rotate_left
            · (intro w hSw; (try dsimp only at hSw); first | (go_simp; done) | (go_simp; with_reducible rfl))
            try simp only [List.getElem_toArray, List.getElem_cons_succ, List.getElem_cons_zero, Act.put, List.setIfInBounds_toArray, List.set_cons_zero, List.set_cons_succ]
            refine wpAnyH_take (i := 5) (v := ?_) rfl (by kernel_rfl) (by kernel_rfl) (by kernel_rfl) (fun _ _ _ h => h) (Or.inl ⟨by rfl, ?_⟩) (by assumption) ?_
            rotate_left
            · (intro w hSw; (try dsimp only at hSw); first | (go_simp; done) | (go_simp; with_reducible rfl))
            try simp only [List.getElem_toArray, List.getElem_cons_succ, List.getElem_cons_zero, Act.put, List.setIfInBounds_toArray, List.set_cons_zero, List.set_cons_succ]
            refine wpAnyH_ready (rs := [3]) (by kernel_rfl) (by simp) ?_
            refine AllReadyH.cons rfl (fun K hK => ?_) AllReadyH.nil
            go_simp
            refine (wpHash_any _ _ _ _ wd ((unhide HBY).up hBd) hl1).mono ?_
            rintro e wh ⟨z, rfl, z0, z1, rfl⟩
            have kw2 : IntKind.i64.wrap (z + 37 * (j : Int)) = z + 37 * (j : Int) := by rw [IntKind.wrap_i64]; omega
            go_wp2_with fail
            refine hK.out _ _ ?_ (fun hHeld => ?_)
            · exact ⟨⟨E0, E1⟩, X0, X1⟩
            clear hK K
            try simp only [List.getElem_toArray, List.getElem_cons_succ, List.getElem_cons_zero, Act.put, List.setIfInBounds_toArray, List.set_cons_zero, List.set_cons_succ]
            refine wpAnyH_take (i := 6) (v := ?_) rfl (by kernel_rfl) (by kernel_rfl) (by kernel_rfl) (fun _ _ _ h => h) (Or.inl ⟨by rfl, ?_⟩) (by assumption) ?_
            rotate_left
            · (intro w hSw; (try dsimp only at hSw); first | (go_simp; done) | (go_simp; with_reducible rfl))
            try simp only [List.getElem_toArray, List.getElem_cons_succ, List.getElem_cons_zero, Act.put, List.setIfInBounds_toArray, List.set_cons_zero, List.set_cons_succ]
            refine wpAnyH_ready (rs := [7]) (by kernel_rfl) (by simp) ?_
            refine AllReadyH.cons rfl (fun K hK => ?_) AllReadyH.nil
            go_simp
            refine (wpIns_any M9 (some ⟨g, 0, none⟩) n cap _ _ (by have := unhide HM9; omega)).mono ?_
            rintro e w7 ⟨I, ib, ic, rfl, hIl, ibl, hIb, b7⟩
            have HIb := hide hIb
            have HIl := hide hIl
            have be7 := bed.trans (b7.mono bed.size)
            replace E0 := cell_later b7 E0
            replace E1 := cell_later b7 E1
            replace X0 := cell_later b7 X0
            replace X1 := cell_later b7 X1
            clear hIb hIl b7
            go_wp2_with fail
            refine hK.out _ _ ?_ (fun hHeld => ?_)
            · exact ⟨⟨E0, E1⟩, X0, X1⟩
            clear hK K
            try simp only [List.getElem_toArray, List.getElem_cons_succ, List.getElem_cons_zero, Act.put, List.setIfInBounds_toArray, List.set_cons_zero, List.set_cons_succ]
            refine wpAnyH_ready (rs := [8]) (by kernel_rfl) (by simp) ?_
            refine AllReadyH.cons rfl (fun K hK => ?_) AllReadyH.nil
            go_simp
            refine (iNetVals_cap (M9 : Int) (some ⟨qx, 0, none⟩) r.n cx r.G I ib 0 M9 ic w7 ((unhide HK0).later be7) (wg_net (unhide HF).rnet) hrn1 (by have := unhide HM9; omega) (unhide HIl) ibl (unhide HIb)).mono ?_
            rintro e w8 ⟨⟨va, vcap, rfl, hV, _⟩, b8⟩
            have be8 := be7.trans (b8.mono be7.size)
            replace E0 := cell_later b8 E0
            replace E1 := cell_later b8 E1
            replace X0 := cell_later b8 X0
            replace X1 := cell_later b8 X1
            have hnv : nvL (M9 : Int) r.n r.G I = outL I r.G r.n := nvL_yes (by rw [← unhide HRM]; exact (unhide HF).rnet) (by rw [unhide HIl])
            rw [hnv] at hV ⊢
            rw [outL_len] at hV ⊢
            have HV := hide hV
            have hIm : (I.length : Int) = m := by rw [unhide HIl]; exact (unhide HM9).symm
            have HB := hide ((unhide HF).say I hIm)
            have hvl : 1 + I.length + r.n ≤ 1048576 := by have := unhide HM9; have := unhide HIl; omega
            clear hV hnv hIm b8
            go_wp2_with fail
            refine hK.out _ _ ?_ (fun hHeld => ?_)
            · exact ⟨⟨E0, E1⟩, X0, X1⟩
            clear hK K
            try simp only [List.getElem_toArray, List.getElem_cons_succ, List.getElem_cons_zero, Act.put, List.setIfInBounds_toArray, List.set_cons_zero, List.set_cons_succ]
            refine wpAnyH_ready (rs := [9]) (by kernel_rfl) (by simp) ?_
            refine AllReadyH.cons rfl (fun K hK => ?_) AllReadyH.nil
            go_simp
            refine hK.out _ _ ?_ (fun hHeld => ?_)
            · exact ⟨⟨E0, E1⟩, X0, X1⟩
            clear hK K
            try simp only [List.getElem_toArray, List.getElem_cons_succ, List.getElem_cons_zero, Act.put, List.setIfInBounds_toArray, List.set_cons_zero, List.set_cons_succ]
            refine wpAnyH_done (by kernel_rfl) ?_ _
            clear E0 E1 X0 X1
            obtain ⟨pv, hpv⟩ : ∃ p, p = bvI nu (at0 L) (1 + I.length + r.n) (atB (outL I r.G r.n)) := ⟨_, rfl⟩
            obtain ⟨qv, hqv⟩ : ∃ p, p = bvI nv (at0 M) (1 + I.length + r.n) (atB (outL I r.G r.n)) := ⟨_, rfl⟩
            have hsay := unhide HB
            rw [unhide HUl, ← hpv, ← unhide HLN] at hsay
            rw [show bvI nu (at0 M) (1 + I.length + r.n) (atB (outL I r.G r.n)) = qv from by rw [hqv, unhide HLV]] at hsay
            have hcr : cmpR c (nu : Int) pv (nv : Int) qv = metB zr (1 + I.length + r.n) (atB (outL I r.G r.n)) ∧ cmpT c (nu : Int) pv (nv : Int) qv = true := by
              rw [unhide HLV, hsay.1]
              exact cmp_pair (unhide HF).len.2.2.2.1 (unhide HF).len.2.2.2.2 hsay.2.1 hsay.2.2
            obtain ⟨mt, hmt⟩ : ∃ b, b = metB zr (1 + I.length + r.n) (atB (outL I r.G r.n)) := ⟨_, rfl⟩
            rw [← hmt] at hcr
            have hmet := hmt
            have hwz : W64 zr := by have := (unhide HF).bd; rw [← unhide HLN] at this; unfold W64; omega
            have HPV := hide hpv
            have HQV := hide hqv
            have HMT := hide hmt
            have HCR := hide hcr
            clear hsay hpv hqv hmt hmet hcr
            go_wp2_with fail
            refine (iBitsVal_any _ nu _ (at0 L) _ (1 + I.length + r.n) _ (atB (outL I r.G r.n)) w8 ((unhide HDu).later be8) (by omega) (unhide HUv) (unhide HV) hvl).mono ?_
            rintro e wx ⟨rfl, rfl⟩
            rw [← unhide HPV]
            obtain ⟨wp, hwp⟩ : ∃ x, x = wx.alloc (.cells #[.int .i64 (nu : Int), .int .i64 pv] 38) := ⟨_, rfl⟩
            have bp : Below wx.heap.size wx wp := by rw [hwp]; exact (Below.refl _ _).alloc (Nat.le_refl _) _
            have q0 : wp.cell? ⟨wx.heap.size, 0, none⟩ = some (.int .i64 (nu : Int)) := by rw [hwp]; simp [go_sem]
            have q1 : wp.cell? ⟨wx.heap.size, 1, none⟩ = some (.int .i64 pv) := by rw [hwp]; simp [go_sem]
            have beP := be8.trans (bp.mono be8.size)
            have HV := hide (BlsAt.later (unhide HV) bp)
            have HWP := hide hwp
            clear hwp bp
            go_wp2
            rw [← unhide HWP]
            refine wp_region_held_drew (S := fun w' => w'.cell? ⟨wx.heap.size, 0, none⟩ = some (.int .i64 (nu : Int)) ∧ w'.cell? ⟨wx.heap.size, 1, none⟩ = some (.int .i64 pv)) (by kernel_rfl) ?_ (fun hHeld => ?_)
            · exact ⟨q0, q1⟩
            obtain ⟨we, hwe⟩ : ∃ x, x = wp.drew := ⟨_, rfl⟩
            have beP : Below w4.heap.size w4 we := by rw [hwe]; exact beP.drew
            have HV : Hid (BlsAt we va (1 + I.length + r.n) (atB (outL I r.G r.n))) := by show _; rw [hwe]; exact BlsAt.later (unhide HV) (Below.refl _ _).drew
            replace q0 : we.cell? ⟨wx.heap.size, 0, none⟩ = some (.int .i64 (nu : Int)) := by rw [hwe]; exact q0
            replace q1 : we.cell? ⟨wx.heap.size, 1, none⟩ = some (.int .i64 pv) := by rw [hwe]; exact q1
            rw [← hwe]
            (try rw [← hwe] at hHeld)
            clear hwe
            refine wpAnyH_take (i := 0) (v := ?_) rfl (by kernel_rfl) (by kernel_rfl) (by kernel_rfl) (fun _ _ _ h => h) (Or.inl ⟨by rfl, ?_⟩) (by assumption) ?_
            rotate_left
            · (intro w hSw; (try dsimp only at hSw); first | (go_simp; done) | (go_simp; with_reducible rfl))
            try simp only [List.getElem_toArray, List.getElem_cons_succ, List.getElem_cons_zero, Act.put, List.setIfInBounds_toArray, List.set_cons_zero, List.set_cons_succ]
            refine wpAnyH_take (i := 1) (v := ?_) rfl (by kernel_rfl) (by kernel_rfl) (by kernel_rfl) (fun _ _ _ h => h) (Or.inl ⟨by rfl, ?_⟩) (by assumption) ?_
            rotate_left
            · (intro w hSw; (try dsimp only at hSw); first | (go_simp; done) | (go_simp; with_reducible rfl))
            try simp only [List.getElem_toArray, List.getElem_cons_succ, List.getElem_cons_zero, Act.put, List.setIfInBounds_toArray, List.set_cons_zero, List.set_cons_succ]
            refine wpAnyH_take (i := 2) (v := ?_) rfl (by kernel_rfl) (by kernel_rfl) (by kernel_rfl) (fun _ _ _ h => h) (Or.inl ⟨by rfl, ?_⟩) (by assumption) ?_
            rotate_left
            · (intro w hSw; (try dsimp only at hSw); first | (go_simp; done) | (go_simp; with_reducible rfl))
            try simp only [List.getElem_toArray, List.getElem_cons_succ, List.getElem_cons_zero, Act.put, List.setIfInBounds_toArray, List.set_cons_zero, List.set_cons_succ]
            refine wpAnyH_take (i := 3) (v := ?_) rfl (by kernel_rfl) (by kernel_rfl) (by kernel_rfl) (fun _ _ _ h => h) (Or.inl ⟨by rfl, ?_⟩) (by assumption) ?_
            rotate_left
            · (intro w hSw; (try dsimp only at hSw); first | (go_simp; done) | (go_simp; with_reducible rfl))
            try simp only [List.getElem_toArray, List.getElem_cons_succ, List.getElem_cons_zero, Act.put, List.setIfInBounds_toArray, List.set_cons_zero, List.set_cons_succ]
            refine wpAnyH_take (i := 4) (v := ?_) rfl (by kernel_rfl) (by kernel_rfl) (by kernel_rfl) (fun _ _ _ h => h) (Or.inl ⟨by rfl, ?_⟩) (by assumption) ?_
            rotate_left
            · (intro w hSw; (try dsimp only at hSw); first | (go_simp; done) | (go_simp; with_reducible rfl))
            try simp only [List.getElem_toArray, List.getElem_cons_succ, List.getElem_cons_zero, Act.put, List.setIfInBounds_toArray, List.set_cons_zero, List.set_cons_succ]
            refine wpAnyH_take (i := 5) (v := ?_) rfl (by kernel_rfl) (by kernel_rfl) (by kernel_rfl) (fun _ _ _ h => h) (Or.inl ⟨by rfl, ?_⟩) (by assumption) ?_
            rotate_left
            · (intro w hSw; (try dsimp only at hSw); first | (go_simp; done) | (go_simp; with_reducible rfl))
            try simp only [List.getElem_toArray, List.getElem_cons_succ, List.getElem_cons_zero, Act.put, List.setIfInBounds_toArray, List.set_cons_zero, List.set_cons_succ]
            refine wpAnyH_ready (rs := [6]) (by kernel_rfl) (by simp) ?_
            refine AllReadyH.cons rfl (fun K hK => ?_) AllReadyH.nil
            go_simp
            refine (iBitsVal_any _ nv _ (at0 M) _ (1 + I.length + r.n) _ (atB (outL I r.G r.n)) _ ((unhide HDv).later (by exact beP)) (by omega) (unhide HVv) (unhide HV) hvl).mono ?_
            rintro e wy ⟨rfl, rfl⟩
            go_wp2_with fail
            refine hK.out _ _ ?_ (fun hHeld => ?_)
            · exact ⟨q0, q1⟩
            clear hK K
            try simp only [List.getElem_toArray, List.getElem_cons_succ, List.getElem_cons_zero, Act.put, List.setIfInBounds_toArray, List.set_cons_zero, List.set_cons_succ]
            refine wpAnyH_take (i := 7) (v := ?_) rfl (by kernel_rfl) (by kernel_rfl) (by kernel_rfl) (fun _ _ _ h => h) (Or.inl ⟨by rfl, ?_⟩) (by assumption) ?_
            rotate_left
            · (intro w hSw; (try dsimp only at hSw); first | (go_simp; done) | (go_simp; with_reducible rfl))
            try simp only [List.getElem_toArray, List.getElem_cons_succ, List.getElem_cons_zero, Act.put, List.setIfInBounds_toArray, List.set_cons_zero, List.set_cons_succ]
            refine wpAnyH_ready (rs := [8]) (by kernel_rfl) (by simp) ?_
            refine AllReadyH.cons rfl (fun K hK => ?_) AllReadyH.nil
            go_simp
            have hcr := unhide HCR
            have hQ := unhide HQV
            rw [← hQ]
            refine (iVecCmp_any c (nu : Int) pv (nv : Int) qv _).mono ?_
            rintro e wq ⟨rfl, bq⟩
            rw [hcr.1, hcr.2]
            clear hcr hQ
            replace q0 := cell_later bq q0
            replace q1 := cell_later bq q1
            have beF := beP.trans (bq.mono beP.size)
            have HV := hide (BlsAt.later (unhide HV) bq)
            clear bq
            go_wp2_with fail
            refine hK.out _ _ ?_ (fun hHeld => ?_)
            · exact ⟨q0, q1⟩
            clear hK K
            try simp only [List.getElem_toArray, List.getElem_cons_succ, List.getElem_cons_zero, Act.put, List.setIfInBounds_toArray, List.set_cons_zero, List.set_cons_succ]
            refine wpAnyH_take (i := 9) (v := ?_) rfl (by kernel_rfl) (by kernel_rfl) (by kernel_rfl) (fun _ _ _ h => h) (Or.inl ⟨by rfl, ?_⟩) (by assumption) ?_
            rotate_left
            · (intro w hSw; (try dsimp only at hSw); first | (go_simp; done) | (go_simp; with_reducible rfl))
            try simp only [List.getElem_toArray, List.getElem_cons_succ, List.getElem_cons_zero, Act.put, List.setIfInBounds_toArray, List.set_cons_zero, List.set_cons_succ]
            refine wpAnyH_take (i := 10) (v := ?_) rfl (by kernel_rfl) (by kernel_rfl) (by kernel_rfl) (fun _ _ _ h => h) (Or.inl ⟨by rfl, ?_⟩) (by assumption) ?_
            rotate_left
            · (intro w hSw; (try dsimp only at hSw); first | (go_simp; done) | (go_simp; with_reducible rfl))
            try simp only [List.getElem_toArray, List.getElem_cons_succ, List.getElem_cons_zero, Act.put, List.setIfInBounds_toArray, List.set_cons_zero, List.set_cons_succ]
            refine wpAnyH_take (i := 11) (v := ?_) rfl (by kernel_rfl) (by kernel_rfl) (by kernel_rfl) (fun _ _ _ h => h) (Or.inl ⟨by rfl, ?_⟩) (by assumption) ?_
            rotate_left
            · (intro w hSw; (try dsimp only at hSw); first | (go_simp; done) | (go_simp; with_reducible rfl))
            try simp only [List.getElem_toArray, List.getElem_cons_succ, List.getElem_cons_zero, Act.put, List.setIfInBounds_toArray, List.set_cons_zero, List.set_cons_succ]
            refine wpAnyH_ready (rs := [12]) (by kernel_rfl) (by simp) ?_
            refine AllReadyH.cons rfl (fun K hK => ?_) AllReadyH.nil
            go_simp
            refine hK.out _ _ ?_ (fun hHeld => ?_)
            · exact ⟨q0, q1⟩
            clear hK K
            try simp only [List.getElem_toArray, List.getElem_cons_succ, List.getElem_cons_zero, Act.put, List.setIfInBounds_toArray, List.set_cons_zero, List.set_cons_succ]
            refine wpAnyH_ready (rs := [13]) (by kernel_rfl) (by simp) ?_
            refine AllReadyH.cons rfl (fun K hK => ?_) AllReadyH.nil
            go_simp
            refine hK.out _ _ ?_ (fun hHeld => ?_)
            · exact ⟨q0, q1⟩
            clear hK K
            try simp only [List.getElem_toArray, List.getElem_cons_succ, List.getElem_cons_zero, Act.put, List.setIfInBounds_toArray, List.set_cons_zero, List.set_cons_succ]
            refine wpAnyH_done (by kernel_rfl) ?_ _
            clear q0 q1
            go_wp2_with fail
            refine (iNetLit_any zr _ (1 + I.length + r.n) _ (atB (outL I r.G r.n)) _ hwz (unhide HV) hvl).mono ?_
            rintro e wz ⟨rfl, rfl⟩
            rw [← unhide HMT]
            have kq : ∀ z : Bool, (z != z) = false := fun z => by cases z <;> rfl
            go_wp2
            go_roundw
            case rel => exact ⟨j + 1, by omega, by go_num, beF⟩
            case measure => simp [intOf] <;> omega
          · have ej : j = 12 := by omega
            subst ej
            have hE := (unhide HE0).later be
            have hX := (unhide HX0).later be
            have E0 := hE.1
            have E1 := hE.2
            have X0 := hX.1
            have X1 := hX.2
            rw [unhide HM9] at E0
            rw [unhide HRM] at X0
            clear hE hX
            go_wp2_with fail
            refine (wpGrown_any (M9 : Int) g n cap G qx r.n cx r.G _ ((unhide HDn).later be) ((unhide HK0).later be) (wg_net (unhide HF).rnet) (by rw [← unhide HRM]; exact (unhide HF).rnet) (unhide HF).rn (unhide HKC) hrn1 (unhide HF).pre).mono ?_
            rintro e wz ⟨rfl, bz⟩
            go_wp2
            go_ret
            exact ⟨rfl, hB.trans (bz.mono hB.size)⟩
    · go_enter Tryd.func3, Tryd.ntmps3
      go_wp2
      go_ret
      exact ⟨rfl, Below.refl _ _⟩
  · go_enter Tryd.func3, Tryd.ntmps3
    go_wp2
    go_ret
    exact ⟨rfl, Below.refl _ _⟩
end bCmp
theorem gF : Tryd.prog.globalNamed "loop.example/seedlip/impl.errBitsForm" = some 0 := by kernel_rfl
theorem gR : Tryd.prog.globalNamed "loop.example/seedlip/impl.errBitsRoom" = some 1 := by kernel_rfl
theorem tF : (Tryd.prog.globals[0]?).map (·.type) = some 111 := by kernel_rfl
theorem tR : (Tryd.prog.globals[1]?).map (·.type) = some 111 := by kernel_rfl
theorem cellsE : Tryd.prog.cellsOf 196 = 1 := by kernel_rfl
theorem cellsS : Tryd.prog.cellsOf 9 = 1 := by kernel_rfl
theorem starE : "*" ++ "errors.errorString" = "*errors.errorString" := by decide
theorem rowE (u : TypeId) (h : Tryd.prog.typeName? 3 u = some "*errors.errorString") : u = 168 :=
  typeName_ptr_named (nm := "errors.errorString") (by rw [starE]; kernel_rfl) (by kernel_rfl) (by decide) u (by rw [starE]; exact h)
def laid2 : List (String × DataW Unit) := [("loop.example/seedlip/impl.errBitsForm", Rows.laid_loop_example_seedlip_impl_errBitsForm), ("loop.example/seedlip/impl.errBitsRoom", Rows.laid_loop_example_seedlip_impl_errBitsRoom)]
theorem door_met (os : Os) (args : Array Value) : laidMetH Tryd.prog laid2 ((World.doorLaid Tryd.prog 400 os).forCall (fun _ _ => 0) ⟨#[], args, []⟩).memory :=
  laidMetH_of_parts3 (fuel := 8) (laidMet_of_run' 8 (by kernel_rfl) (by kernel_rfl)) (by kernel_rfl) (by kernel_rfl)
theorem var_bel {W W' : World} {n : String} {cs : Array Value} (h : W.var? Tryd.prog n = some cs) (hb : Below W.heap.size W W') : W'.var? Tryd.prog n = some cs := by
  unfold World.var? at h ⊢
  cases hg : Tryd.prog.globalNamed n with
  | none => simp [hg] at h
  | some g =>
    simp only [hg, Option.bind_some] at h ⊢
    have hlt : g < W.heap.size := by
      rcases Nat.lt_or_ge g W.heap.size with h' | h'
      · exact h'
      · simp [Array.getElem?_eq_none h'] at h
    rw [hb.block g hlt]
    exact h

namespace bCmp
set_option maxRecDepth 100000 in
theorem lifted (os : Os) (started : os.Started) (H : Type) (enc : TypeId × Value → H) :
    ReturnsInHanded {} Tryd.checked os 3 .any (fun w args => (Rows.fnBitsCmpSpec.pre enc Tryd.prog Tryd.f3 [] false w args ∧ laidMetH Tryd.prog laid2 w) ∧ sizedMet enc Tryd.prog Tryd.f3 (OpenSpec.ofChange Rows.fnBitsCmpSpec) false w args) (Rows.fnBitsCmpSpec.post enc Tryd.prog Tryd.f3 false true false false) := by
  refine returnsInHanded_of_change_and (C := Tryd.checked) (X := fun w _ => laidMetH Tryd.prog laid2 w) (fun _ _ _ hh h => h.of_heap hh) own started (by kernel_rfl) Tryd.func3
    (ChangeSpec.witness_shaped (enc := enc) (C := Tryd.checked) (os := os) (X := fun w _ => laidMetH Tryd.prog laid2 w) false (World.doorLaid Tryd.prog 400 os) #[.slice none 0 0, .slice none 0 0] 8 rfl (World.shaped_of_RefB (by kernel_rfl) (by kernel_rfl)) (by kernel_rfl) (by kernel_rfl) (by kernel_rfl) (door_met os _)) ?_
  intro W base args ds gs before hval0 hW _ _ hL _
  have hval : ∀ (j : Nat) t v, Tryd.f3.params[j]? = some t → args[j]? = some v → Value.okWide Tryd.prog W .any base t v := hval0
  have hW' := hW
  obtain ⟨p, q, hA0, hV0, rfl, hfz, hnd⟩ := hW
  have hA : DataW.TrodAll enc Tryd.prog W 0 (fun _ => true) true Tryd.f3.params.toList args.toList ds p := hA0
  rw [Tryd.params3] at hA hval
  obtain ⟨v0, vs0, d0, ds0, p0, q0, hargs, rfl, rfl, h0, r0⟩ := trodAll_cons hA
  obtain ⟨v1, vs1, d1, ds1, p1, q1, rfl, rfl, rfl, h1, r1⟩ := trodAll_cons r0
  obtain ⟨rfl, rfl, rfl⟩ := trodAll_nil r1
  obtain rfl : args = #[v0, v1] := by cases args; simp_all
  have hV : DataW.TrodVars enc Tryd.prog W (fun _ => true) ["loop.example/seedlip/impl.errBitsForm", "loop.example/seedlip/impl.errBitsRoom"] gs q := hV0
  rw [MakeChecks.laidMetH_plain _ _ _ (by kernel_rfl)] at hL
  obtain ⟨aF, aR, s0, s1, c0, c1, t0, t1, hv0, hv1, hc0, hs0, hz0, hc1, hs1, hz1, hne, hb0, hb1⟩ := laid_sentinels2 hL gF tF gR tR Tryd.underlying111 rowE Tryd.underlying168 Tryd.underlying196 rfl rfl Tryd.underlying9 cellsE cellsS
  have vr : ∀ {X : World}, X.var? Tryd.prog "loop.example/seedlip/impl.errBitsForm" = some #[.iface 168 (.pointer (some aF))] → X.var? Tryd.prog "loop.example/seedlip/impl.errBitsRoom" = some #[.iface 168 (.pointer (some aR))] → ∀ sp : Nat → Bool,
      DataW.TrodVars enc Tryd.prog X sp ["loop.example/seedlip/impl.errBitsForm", "loop.example/seedlip/impl.errBitsRoom"] [tok enc (.iface 168 (.pointer (some aF))), tok enc (.iface 168 (.pointer (some aR)))] [.cell 0 0, .cell 1 0] :=
    fun x0 x1 sp => vars_read2 enc gF tF Tryd.underlying111 x0 trivial gR tR Tryd.underlying111 x1 trivial sp
  obtain ⟨rfl, rfl⟩ := hV.unique (vr hv0 hv1 _)
  have hg0 : W.cell? ⟨0, 0, none⟩ = some (.iface 168 (.pointer (some aF))) := by simpa using World.var?_cell gF hv0 0
  have hg1 : W.cell? ⟨1, 0, none⟩ = some (.iface 168 (.pointer (some aR))) := by simpa using World.var?_cell gR hv1 0
  have hSent : Sent W 2 aF aR := ⟨hg0, hg1, by omega⟩
  have hs2 : 2 ≤ W.heap.size := by have := World.block_lt_of_cell? _ _ hg1; simp only at this; omega
  obtain ⟨code, lencode, capcode, rfl⟩ := okWide_slice Tryd.underlying22 (hval 0 22 v0 rfl rfl)
  have k0 := h0
  have lt0 : ∀ x ∈ p0, x.block < W.heap.size := by obtain ⟨m, hm⟩ := k0; exact DataW.trod_lt m _ _ _ hm
  obtain ⟨zcode, wcode⟩ : ∃ zs, IsRow .u8 W code lencode capcode zs := by
    obtain ⟨fuel, hf⟩ := h0
    rcases open_ints Tryd.underlying22 Tryd.underlying5 (by kernel_rfl) hf with ⟨hcs, _⟩ | ⟨x, l, c, zs, hcs, _, hl, hm, hz, _, hcell, hwz⟩
    · simp [Value.cells] at hcs
      obtain ⟨rfl, rfl, rfl⟩ := hcs
      exact ⟨[], .inl ⟨rfl, rfl, rfl, rfl⟩⟩
    · simp [Value.cells] at hcs
      obtain ⟨rfl, rfl, rfl⟩ := hcs
      exact ⟨zs, .inr ⟨_, rfl, hl, hm, by simpa using hz, hcell, hwz⟩⟩
  obtain ⟨more, lenmore, capmore, rfl⟩ := okWide_slice Tryd.underlying22 (hval 1 22 v1 rfl rfl)
  have k1 := h1
  have lt1 : ∀ x ∈ p1, x.block < W.heap.size := by obtain ⟨m, hm⟩ := k1; exact DataW.trod_lt m _ _ _ hm
  obtain ⟨zmore, wmore⟩ : ∃ zs, IsRow .u8 W more lenmore capmore zs := by
    obtain ⟨fuel, hf⟩ := h1
    rcases open_ints Tryd.underlying22 Tryd.underlying5 (by kernel_rfl) hf with ⟨hcs, _⟩ | ⟨x, l, c, zs, hcs, _, hl, hm, hz, _, hcell, hwz⟩
    · simp [Value.cells] at hcs
      obtain ⟨rfl, rfl, rfl⟩ := hcs
      exact ⟨[], .inl ⟨rfl, rfl, rfl, rfl⟩⟩
    · simp [Value.cells] at hcs
      obtain ⟨rfl, rfl, rfl⟩ := hcs
      exact ⟨zs, .inr ⟨_, rfl, hl, hm, by simpa using hz, hcell, hwz⟩⟩
  clear hA0 hV0 hval0
  refine (walk code lencode capcode zcode more lenmore capmore zmore aF aR W hSent hs2 wcode wmore).mono fun e W' ⟨he, bel⟩ => ?_
  subst he
  exact ⟨_, rfl, _, _, _, [], _, [.cell 0 0, .cell 1 0], hW', trodAll_mk1 (shut_bool Tryd.underlying4 _), (trodAll_cons_mk (Below.trod laidOut (by kernel_rfl) (of_decide_eq_true (by kernel_rfl)) k0 bel lt0) (trodAll_cons_mk (Below.trod laidOut (by kernel_rfl) (of_decide_eq_true (by kernel_rfl)) k1 bel lt1) trodAll_mk0)), vr (var_bel hv0 bel) (var_bel hv1 bel) _, bel.frame _, fun h => by cases h⟩


theorem over : Rows.fnBitsCmpRow.holds Tryd.pinned (OpenSpec.ofChange Rows.fnBitsCmpSpec) :=
  OpenClaim.holds_of_wide 3 Tryd.f3 rfl rfl rfl rfl rfl rfl rfl ⟨rfl, rfl, rfl, rfl, rfl⟩ rfl rfl rfl rfl rfl (by kernel_rfl) Tryd.func3 (by kernel_rfl)
    (of_decide_eq_true (by kernel_rfl)) (by unfold Func.isWrapper; first | (rw [if_pos (by decide +kernel)]; kernel_rfl) | (rw [if_neg (by decide +kernel)]; exact ⟨rfl, rfl⟩))
    (fun os started H enc _ => lifted os started H enc)
end bCmp

theorem bCmp_holds : Rows.FnBitsCmpCardSaid :=
  Claim7.holds_tied_plain_at .later [] [.sentinel, .sentinel] true _ _
    bCmp.over (fun _ h => by cases h) (by kernel_rfl) (fun _ h => by cases h) fnBitsCmp_row_tie rfl ⟨rfl, rfl⟩ (by kernel_rfl) rfl
    (fun f fn hf hfn => by
      obtain rfl : f = 3 := Option.some.inj ((show Tryd.prog.funcNamed "loop.example/seedlip/laws.FnBitsCmp" = some 3 by kernel_rfl).symm.trans hf) |>.symm
      obtain rfl : fn = Tryd.f3 := (Option.some.inj (Tryd.func3.symm.trans hfn)).symm
      exact ⟨by kernel_rfl, fun j t ht => by
        rw [Tryd.params3] at ht
        have hm : t ∈ [22, 22] := by simpa using Array.mem_of_getElem? ht
        have hall : ([22, 22].all fun u => !Tryd.prog.wantsStandIn u) = true := by kernel_rfl
        exact (show Tryd.prog.wantsStandIn t = false by simpa using List.all_eq_true.1 hall t hm)⟩)
    (by kernel_rfl)
#print axioms bCmp_holds
end Go.Proofs.YtmpiiilkaadhfaaDoor
