/- Blocking a model yields a later one: the law FnCnfMore returns true for all codes of bytes, and leaves them as they were. No condition (the law itself answers true where a code is longer than 1048576 bytes). -/
import Derived.Test.YteakllghgcdoaaaStpA
import Derived.Test.YteakllghgcdoaaaMrkA
import Derived.Test.YteakllghgcdoaaaRowC
import Derived.Deep.DeepCutAuto
namespace Go.Proofs.Yteakllghgcdoaaa
open Go.ChangeShapes Go.WideShapes Go.ChangeAt Go.RowKit Go.Joins
open Go.ChangeMaps (open_string shut_string)
set_option linter.unusedVariables false
theorem least_len (m : Int) (n : Nat) (L : Nat → Nat) (V : Nat → Nat → Int) : lenO (leastO m n L V) m.toNat ≤ 1048576 := by
  by_cases h : CnfP m n L V ∧ m ≤ 10
  · have := lenO_le (leastO m n L V) m.toNat
    omega
  · rw [leastO_no h]; simp [lenO]
theorem rws_of {w : World} {R : Nat} {a : Option Addr} {cp : Nat} {Ls : List Clz} (h : ClzAt w R (.slice a Ls.length cp) Ls) : RwsAt w a Ls.length (cA Ls) (cL Ls) (cC Ls) (cV Ls) := by
  obtain ⟨a', c', e, h'⟩ := h.slice
  simp only [Value.slice.injEq] at e
  obtain ⟨rfl, _, rfl⟩ := e
  exact h'
/-- The turn of a list: each number as the list does not have it. -/
def tl (N ks : Nat) : Nat → List Int
  | 0 => []
  | k + 1 => tl N ks k ++ [if vls N ks k then -((k : Int) + 1) else (k : Int) + 1]
theorem tl_len (N ks k : Nat) : (tl N ks k).length = k := by
  induction k with
  | zero => rfl
  | succ k ih => simp [tl, ih]
theorem tl_w64 (N ks k : Nat) (hk : k ≤ 100) : ∀ x, x ∈ tl N ks k → W64 x := by
  induction k with
  | zero => simp [tl]
  | succ k ih =>
    intro x hx
    rcases List.mem_append.1 hx with h | h
    · exact ih (by omega) x h
    · simp at h
      unfold W64
      split at h <;> omega
theorem ClzAt.zero {w : World} {R : Nat} {v : Value} {Ls : List Clz} (h : ClzAt w R v Ls) : ClzAt w 0 v Ls := by
  refine ⟨fun q hq => ⟨by have := (h.1 q hq).1; omega, (h.1 q hq).2⟩, ?_⟩
  rcases h.2 with h' | ⟨b, cap, h1, h0, h2, h3, h4⟩
  · exact Or.inl h'
  · exact Or.inr ⟨b, cap, h1, h0, by omega, h3, h4⟩
theorem alloc_at {w : World} {o : Obj} {k : Nat} (h : k = w.heap.size) : (w.alloc o).heap[k]? = some o := by subst h; exact heap_alloc_new w o
theorem alloc_past {w : World} {o x : Obj} {k : Nat} (h2 : w.heap[k]? = some x) : (w.alloc o).heap[k]? = some x := by
  have hk := (Array.getElem?_eq_some_iff.1 h2).1
  rw [← h2]
  exact heap_alloc_old w o hk
theorem rws_len {w : World} {R n : Nat} {a : Option Addr} {cp : Nat} {Ls : List Clz} (h : ClzAt w R (.slice a n cp) Ls) : RwsAt w a n (cA Ls) (cL Ls) (cC Ls) (cV Ls) := by
  obtain ⟨a', c', e, h'⟩ := h.slice
  simp only [Value.slice.injEq] at e
  obtain ⟨rfl, rfl, rfl⟩ := e
  exact h'
theorem tl_at (N ks : Nat) : ∀ k i, i < k → at0 (tl N ks k) i = if vls N ks i then -((i : Int) + 1) else (i : Int) + 1
  | 0, i, h => by omega
  | k + 1, i, h => by
    unfold at0 tl
    by_cases e : i = k
    · subst e
      simp [List.getD, tl_len]
    · have := tl_at N ks k i (by omega)
      unfold at0 at this
      rw [← this]
      simp [List.getD, List.getElem?_append_left (show i < (tl N ks k).length by rw [tl_len]; omega)]
theorem tl_cl (N ks : Nat) : ClP N (at0 (tl N ks N)) N := by
  intro k hk
  have e := tl_at N ks N k hk
  have ha : absI (at0 (tl N ks N) k) = (k : Int) + 1 := by
    rw [e]
    split
    · rw [absI_neg (by omega)]; omega
    · rw [absI_pos (by omega)]
  refine ⟨by rw [e]; split <;> omega, by rw [e]; split <;> omega, ?_⟩
  rw [ha]
  cases k with
  | zero => simp [lastI]
  | succ k =>
    have e' := tl_at N ks N k (by omega)
    have : absI (at0 (tl N ks N) k) = (k : Int) + 1 := by
      rw [e']
      split
      · rw [absI_neg (by omega)]; omega
      · rw [absI_pos (by omega)]
    simp only [lastI, this]
    omega
theorem tl_not (N ks : Nat) : ¬ HasP N (at0 (tl N ks N)) N (vls N ks) := by
  rintro ⟨i, hi, hm⟩
  rw [tl_at N ks N i hi] at hm
  cases h : vls N ks i
  · rw [h] at hm
    simp only [Bool.false_eq_true, if_false] at hm
    rw [met_pos hi, h] at hm
    cases hm
  · rw [h] at hm
    simp only [if_true] at hm
    rw [met_neg hi, h] at hm
    simp at hm
theorem atC_left {Ls : List Clz} {q : Clz} {i : Nat} (h : i < Ls.length) : atC (Ls ++ [q]) i = atC Ls i := by
  unfold atC
  simp [List.getD, List.getElem?_append_left h]
theorem atC_last {Ls : List Clz} {q : Clz} : atC (Ls ++ [q]) Ls.length = q := by
  unfold atC
  simp [List.getD]
/-- With a clause more, that is right. -/
theorem cnf_more {m : Int} {N : Nat} {Ls : List Clz} {q : Clz} (hm : m = N) (h : CnfP m Ls.length (cL Ls) (cV Ls)) (hn : Ls.length ≤ 40) (hq : ClP q.L.length (at0 q.L) N) : CnfP m (Ls.length + 1) (cL (Ls ++ [q])) (cV (Ls ++ [q])) := by
  refine ⟨h.1, h.2.1, by omega, fun i hi => ?_⟩
  have e : m.toNat = N := by rw [hm]; simp
  rw [e]
  have h4 := h.2.2.2
  rw [e] at h4
  show ClP (atC (Ls ++ [q]) i).L.length (at0 (atC (Ls ++ [q]) i).L) N
  by_cases ei : i = Ls.length
  · subst ei
    rw [atC_last]; exact hq
  · rw [atC_left (by omega)]
    exact h4 i (by omega)
theorem all_more {Ls : List Clz} {q : Clz} {N : Nat} {B : Nat → Bool} (h : AllP (Ls.length + 1) (cL (Ls ++ [q])) (cV (Ls ++ [q])) N B) : AllP Ls.length (cL Ls) (cV Ls) N B ∧ HasP q.L.length (at0 q.L) N B := by
  refine ⟨fun i hi => ?_, ?_⟩
  · have := h i (by omega)
    unfold cL cV at this ⊢
    rwa [atC_left hi] at this
  · have := h Ls.length (by omega)
    unfold cL cV at this
    rwa [atC_last] at this
/-- At the first place where they part the later list has it so. -/
theorem vls_lex {N ks k' i : Nat} (h1 : ks < k') (h2 : k' < 2 ^ N) (hi : i < N) (he : ∀ j, j < i → vls N ks j = vls N k' j) (hne : vls N ks i ≠ vls N k' i) : vls N k' i = true := by
  cases h : vls N k' i
  · exfalso
    have hk : vls N ks i = true := by
      cases h' : vls N ks i
      · rw [h, h'] at hne; exact absurd rfl hne
      · rfl
    have : k' < ks := by
      have hb : ∀ j, N - 1 - i < j → k'.testBit j = ks.testBit j := fun j hj => by
        by_cases hjN : j < N
        · have := he (N - 1 - j) (by omega)
          unfold vls at this
          rw [show N - 1 - (N - 1 - j) = j by omega] at this
          exact this.symm
        · have hp : 2 ^ N ≤ 2 ^ j := Nat.pow_le_pow_right (by omega) (by omega)
          rw [Nat.testBit_lt_two_pow (by omega), Nat.testBit_lt_two_pow (by omega)]
      unfold vls at h hk
      generalize N - 1 - i = r at *
      rw [odd_bit] at h hk
      have e1 : k' / 2 ^ r / 2 = ks / 2 ^ r / 2 := by
        rw [half_pow, half_pow]
        apply Nat.eq_of_testBit_eq
        intro j
        rw [Nat.testBit_div_two_pow, Nat.testBit_div_two_pow]
        exact hb _ (by omega)
      simp at h hk
      have h3 : k' / 2 ^ r < ks / 2 ^ r := by omega
      by_cases hc : k' < ks
      · exact hc
      · have := Nat.div_le_div_right (c := 2 ^ r) (show ks ≤ k' by omega)
        omega
    omega
  · rfl
theorem vls_inj {N t k : Nat} (ht : t < 2 ^ N) (hk : k < 2 ^ N) (h : ∀ i, i < N → vls N t i = vls N k i) : t = k := by
  apply Nat.eq_of_testBit_eq
  intro i
  by_cases hi : i < N
  · have := h (N - 1 - i) (by omega)
    unfold vls at this
    rw [show N - 1 - (N - 1 - i) = i by omega] at this
    exact this
  · have hp : 2 ^ N ≤ 2 ^ i := Nat.pow_le_pow_right (by omega) (by omega)
    rw [Nat.testBit_lt_two_pow (by omega), Nat.testBit_lt_two_pow (by omega)]
set_option maxHeartbeats 1000000 in
theorem wpAfter_any (a c : Option Addr) (N cap cap' ks k' : Nat) (w : World) (hd : BlsAt w a N (vls N ks)) (hd' : BlsAt w c N (vls N k')) (hN : N ≤ 1048576) (h1 : ks < k') (h2 : k' < 2 ^ N) :
    Calls Try.prog 21 #[.slice a N cap, .slice c N cap'] w fun e w' => e = .returned (.bool true) ∧ Below w.heap.size w w' := by
  have HD := hide hd
  have HE := hide hd'
  have H2 := hide h2
  clear hd hd' h2
  go_enter Try.func21, Try.ntmps21
  go_wp2
  go_loopw [5] (fun i wr => ∃ k : Nat, k ≤ N ∧ i = .int .i64 k ∧ (∀ j, j < k → vls N ks j = vls N k' j) ∧ Below w.heap.size w wr) (fun i _ => N - (intOf i).toNat)
  case atStart => exact ⟨0, by omega, rfl, fun j hj => by omega, (by repeat (first | exact Below.refl _ _ | assumption | refine below_drewN ?_ _ | refine Below.drew ?_ | refine Below.alloc ?_ (by first | exact Nat.le_refl _ | exact Below.size (by assumption) | (simp; done) | (simp; omega)) _ | refine Below.setCell ?_ (by first | exact Nat.le_refl _ | exact Below.size (by assumption) | (simp; done) | (simp; omega)) _ | refine Below.trans ?_ (by assumption)))⟩
  case round =>
    obtain ⟨k, hk, rfl, hok, hbel⟩ := hrel
    have HK := hide hok
    clear hok
    by_cases hlt : k < N
    · obtain ⟨b, off, rfl, hb, hd⟩ := (unhide HD).ok hlt
      obtain ⟨c, off', rfl, hc, hd'⟩ := (unhide HE).ok hlt
      have d0 := (hbel.cell (p := ⟨b, off + k, none⟩) hb).trans (hd k hlt)
      have g0 := (hbel.cell (p := ⟨c, off' + k, none⟩) hc).trans (hd' k hlt)
      clear hd hd'
      have yes : Hid (∀ x, vls N ks k = x → vls N k' k = x → ∀ j, j < k + 1 → vls N ks j = vls N k' j) := fun x h1 h2 j hj => by
        by_cases e : j = k
        · subst e; rw [h1, h2]
        · exact unhide HK j (by omega)
      have no : Hid (vls N ks k ≠ vls N k' k → vls N k' k = true) := fun h => vls_lex h1 (unhide H2) hlt (unhide HK) h
      cases e1 : vls N ks k <;> cases e2 : vls N k' k
      · have HK1 := hide (unhide yes _ e1 e2)
        rw [e1] at d0
        rw [e2] at g0
        go_wp2
        go_region
        all_goals go_wp2
        all_goals go_roundw
        all_goals first | exact ⟨k + 1, by omega, by go_num, unhide HK1, (by first | exact hbel | exact hbel.drew)⟩ | (simp [intOf]; omega)
      · rw [e1] at d0
        rw [e2] at g0
        go_wp2
        go_region
        all_goals go_wp2
        all_goals go_ret
        all_goals exact ⟨rfl, (by first | exact hbel | exact hbel.drew)⟩
      · exfalso
        have := unhide no (by rw [e1, e2]; simp)
        rw [e2] at this; cases this
      · have HK1 := hide (unhide yes _ e1 e2)
        rw [e1] at d0
        rw [e2] at g0
        go_wp2
        go_region
        all_goals go_wp2
        all_goals go_roundw
        all_goals first | exact ⟨k + 1, by omega, by go_num, unhide HK1, (by first | exact hbel | exact hbel.drew)⟩ | (simp [intOf]; omega)
    · exfalso
      have e : k = N := by omega
      subst e
      have := vls_inj (Nat.lt_trans h1 (unhide H2)) (unhide H2) (unhide HK)
      omega

namespace cMor
set_option maxRecDepth 100000 in
set_option maxHeartbeats 4000000 in
theorem walk (code : Option Addr) (lencode capcode : Nat) (zcode : List Int) (more : Option Addr) (lenmore capmore : Nat) (zmore : List Int) (w : World) (wcode : IsRow .u8 w code lencode capcode zcode) (wmore : IsRow .u8 w more lenmore capmore zmore) :
    Calls Try.prog 6 #[.slice code lencode capcode, .slice more lenmore capmore] w fun e w' => e = .returned (.bool true) ∧ Below w.heap.size w w' := by
  obtain ⟨hby, hlc, hcm⟩ := wcode.byts
  by_cases hl : lencode ≤ 1048576 ∧ lenmore ≤ 1048576
  · obtain ⟨hl, hl2⟩ := hl
    go_enter Try.func6, Try.ntmps6
    go_wp2_with fail
    refine (drawCnfLeast_any _ _ _ _ hl hlc hcm hby).mono ?_
    rintro e w1 ⟨m, v, Ls, R, rfl, hm, hLs, hc0, BL⟩
    have hc := hc0.zero
    clear hc0
    clear wcode wmore hby
    obtain ⟨a, cp, rfl, _⟩ := hc.slice
    have Fi := hide (hc.fits (by omega))
    have HC := hide hc
    clear hc
    have hlen := least_len m Ls.length (cL Ls) (cV Ls)
    have kb : ((leastO m Ls.length (cL Ls) (cV Ls)).isSome != (leastO m Ls.length (cL Ls) (cV Ls)).isSome) = false := by simp
    have kc : ((leastO m Ls.length (cL Ls) (cV Ls)).isSome == (leastO m Ls.length (cL Ls) (cV Ls)).isSome) = true := by simp
    go_wp2_with fail
    obtain ⟨wz, hwz⟩ : ∃ x, x = w1.alloc (.cells #[.int .i64 m, .slice a Ls.length cp] 31) := ⟨_, rfl⟩
    have bz : Below w1.heap.size w1 wz := by rw [hwz]; exact (Below.refl _ _).alloc (Nat.le_refl _) _
    have P : Box wz w1.heap.size m a Ls.length cp := by rw [hwz]; exact Box.new _ _ _ _ _ _
    rw [← hwz]
    clear hwz
    replace BL := BL.trans (bz.mono BL.size)
    replace HC := hide ((unhide HC).later bz)
    clear bz
    refine (iCnfLeast_any _ _ _ _ _ _ _ _ _ (rws_of (unhide HC)) (unhide Fi)).mono ?_
    rintro e w2 ⟨hG, b2⟩
    obtain ⟨ag, cg, rfl, G, GO⟩ := hG.out
    clear hG GO
    replace BL := BL.trans (b2.mono BL.size)
    replace HC := hide ((unhide HC).later b2)
    replace P := P.later b2
    clear b2
    obtain ⟨p0, p1⟩ := id P
    go_wp2_with fail
    refine (sCnfLeast_any _ _ _ _ _ _ _ _ _ (rws_of (unhide HC)) (unhide Fi)).mono ?_
    rintro e w3 ⟨hW, b3⟩
    obtain ⟨aw, cw, rfl, W, WO⟩ := hW.out
    clear hW WO p0 p1
    replace G := G.later b3
    replace BL := BL.trans (b3.mono BL.size)
    replace HC := hide ((unhide HC).later b3)
    replace P := P.later b3
    clear b3
    obtain ⟨p0, p1⟩ := id P
    have kbe := beB_yes (l := lenO (leastO m Ls.length (cL Ls) (cV Ls)) m.toNat) (l' := lenO (leastO m Ls.length (cL Ls) (cV Ls)) m.toNat) (V := valO (leastO m Ls.length (cL Ls) (cV Ls)) m.toNat) (V' := valO (leastO m Ls.length (cL Ls) (cV Ls)) m.toNat) ⟨rfl, fun _ _ => rfl⟩
    go_wp2_with fail
    refine (wpBools_any _ _ _ _ _ _ _ _ _ G W hlen hlen).mono ?_
    rintro e w4 ⟨rfl, b4⟩
    rw [kbe]
    clear p0 p1
    replace G := G.later b4
    replace W := W.later b4
    replace BL := BL.trans (b4.mono BL.size)
    replace HC := hide ((unhide HC).later b4)
    replace P := P.later b4
    clear b4
    obtain ⟨p0, p1⟩ := id P
    by_cases hcp : CnfP m Ls.length (cL Ls) (cV Ls) ∧ m ≤ 10
    · obtain ⟨hcp, h10⟩ := hcp
      have hO := leastO_yes hcp h10
      obtain ⟨N, hN⟩ := Int.eq_ofNat_of_zero_le hcp.1
      have HCP := hide hcp
      clear hcp
      subst hN
      rw [Int.toNat_natCast] at hO G W hlen kbe
      have hN10 : N ≤ 10 := by omega
      have hp10 := pow10 hN10
      rcases firstO_ways (fun k => allB Ls.length (cL Ls) (cV Ls) N (vls N k)) (2 ^ N) with ⟨hf, hnone⟩ | ⟨ks, hks, hf, hyes, hbef⟩
      · rw [hf] at hO
        rw [hO] at G W hlen kb kc kbe
        rw [hO, Int.toNat_natCast]
        go_wp2_with fail
        refine (wpBools_any _ _ _ _ _ _ _ _ _ G W hlen hlen).mono ?_
        rintro e w5 ⟨rfl, b5⟩
        rw [kbe]
        replace BL := BL.trans (b5.mono BL.size)
        go_wp2
        go_ret
        exact ⟨rfl, BL⟩
      · rw [hf] at hO
        rw [hO] at G
        rw [hO, Int.toNat_natCast]
        replace G : BlsAt w4 ag N (vls N ks) := G
        rw [show lenO (some ks) N = N from rfl]
        have HN := hide hbef
        have HY := hide hyes
        clear hbef hyes hf hO hlen kb kc kbe W
        have G0 := hide G
        clear G
        go_wp2
        obtain ⟨w5, hw5⟩ : ∃ x, x = w4.alloc (.cells #[] 3) := ⟨_, rfl⟩
        have b5 : Below w4.heap.size w4 w5 := by rw [hw5]; exact (Below.refl _ _).alloc (Nat.le_refl _) _
        have o5 : w5.ownsRow w4.heap.size 3 1 (.slice (some ⟨w4.heap.size, 0, none⟩) 0 0) 0 (icells []) := by rw [hw5]; exact own_new _ _ _
        rw [← hw5]
        clear hw5 p0 p1
        go_loopw [11, 10] (fun i v wr => ∃ (k g c : Nat), k ≤ N ∧ i = .int .i64 k ∧ v = .slice (some ⟨g, 0, none⟩) k c ∧ wr.ownsRow w4.heap.size 3 1 v k (icells (tl N ks k)) ∧ Below w4.heap.size w4 wr) (fun i _ _ => N - (intOf i).toNat)
        case atStart => exact ⟨0, _, 0, by omega, rfl, rfl, o5, b5⟩
        case round =>
          clear o5 b5
          obtain ⟨k, g, c, hk, rfl, rfl, ow, bw⟩ := hrel
          have OW := hide ow
          have gb := own_base ow
          have gl := (own_cap ow).2
          have sw := bw.size
          clear ow
          by_cases hlt : k < N
          · obtain ⟨b, off, rfl, hb, hd⟩ := ((unhide G0).later bw).ok hlt
            have d0 := hd k hlt
            have HS : Hid (tl N ks (k + 1) = tl N ks k ++ [if vls N ks k then -((k : Int) + 1) else (k : Int) + 1]) := rfl
            clear hd
            cases hv : vls N ks k
            · rw [hv] at d0 HS
              obtain ⟨g2, c2, w6, hrun, ow6, gr6, hg6⟩ := int_one wr w4.heap.size _ k (tl N ks k) ((k : Int) + 1) (unhide OW) (by omega) (by omega)
              have HR := hide hrun
              have b6 : Below w4.heap.size w4 w6 := bw.trans ((mov_of_grown gr6).below gb sw)
              have OW6 := hide ow6
              clear hrun ow6 gr6 hg6
              go_wp2_with (first | (at_builtin; refine wpList_append_run _ rfl (.tmp 79) (.tmp 82) 23 rfl _ _ _ _ rfl rfl (unhide HR) ?_))
              go_roundw
              case rel => exact ⟨k + 1, g2, c2, by omega, by go_num, rfl, by rw [unhide HS]; exact unhide OW6, b6⟩
              case measure => simp [intOf]; omega
            · rw [hv] at d0 HS
              obtain ⟨g2, c2, w6, hrun, ow6, gr6, hg6⟩ := int_one wr w4.heap.size _ k (tl N ks k) (-((k : Int)) - 1) (unhide OW) (by omega) (by omega)
              have HR := hide hrun
              have b6 : Below w4.heap.size w4 w6 := bw.trans ((mov_of_grown gr6).below gb sw)
              have OW6 := hide ow6
              clear hrun ow6 gr6 hg6
              go_wp2_with (first | (at_builtin; refine wpList_append_run _ rfl (.tmp 73) (.tmp 77) 23 rfl _ _ _ _ rfl rfl (unhide HR) ?_))
              go_roundw
              case rel => exact ⟨k + 1, g2, c2, by omega, by go_num, rfl, by rw [unhide HS, if_pos rfl, show -((k : Int) + 1) = -(k : Int) - 1 by omega]; exact unhide OW6, b6⟩
              case measure => simp [intOf]; omega
          · have ek : k = N := by omega
            subst ek
            have hlenT := owns_len (unhide OW)
            have pl := World.block_lt_of_cell? _ _ P.1
            simp only at pl
            have QOK := hide (clz_of_own (R := 0) (unhide OW) (by omega) (by omega) (tl_w64 _ _ _ (by omega)))
            have HCw := hide ((unhide HC).later bw)
            have Pw := P.later bw
            have BLw := BL.trans (bw.mono BL.size)
            obtain ⟨p0, p1⟩ := id Pw
            have plw := World.block_lt_of_cell? _ _ p0
            simp only at plw
            go_wp2
            go_cut [12] (fun s12 wx => ∃ (Bd g2 c2 : Nat), s12 = .pointer (some ⟨Bd, 0, none⟩) ∧ Box wx Bd k (some ⟨g2, 0, none⟩) (Ls.length + 1) c2 ∧ ClzAt wx 0 (.slice (some ⟨g2, 0, none⟩) (Ls.length + 1) c2) (Ls ++ [⟨g, c, tl k ks k⟩]) ∧ Below wr.heap.size wr wx)
            case first =>
              go_region_held3 (fun w' => w'.cell? ⟨w1.heap.size, 0, none⟩ = some (.int .i64 k) ∧ w'.cell? ⟨w1.heap.size, 1, none⟩ = some (.slice a Ls.length cp)) (first | exact ⟨((show Below wr.heap.size wr _ from (by repeat (first | exact Below.refl _ _ | assumption | refine below_drewN ?_ _ | refine Below.drew ?_ | refine Below.alloc ?_ (by first | exact Nat.le_refl _ | exact Below.size (by assumption) | (simp; done) | (simp; omega)) _ | refine Below.setCell ?_ (by first | exact Nat.le_refl _ | exact Below.size (by assumption) | (simp; done) | (simp; omega)) _ | refine Below.trans ?_ (by assumption)))).cell (p := ⟨w1.heap.size, 0, none⟩) plw).trans Pw.1, ((show Below wr.heap.size wr _ from (by repeat (first | exact Below.refl _ _ | assumption | refine below_drewN ?_ _ | refine Below.drew ?_ | refine Below.alloc ?_ (by first | exact Nat.le_refl _ | exact Below.size (by assumption) | (simp; done) | (simp; omega)) _ | refine Below.setCell ?_ (by first | exact Nat.le_refl _ | exact Below.size (by assumption) | (simp; done) | (simp; omega)) _ | refine Below.trans ?_ (by assumption)))).cell (p := ⟨w1.heap.size, 1, none⟩) plw).trans Pw.2⟩ | go_keep | exact ⟨p0, p1⟩)
                (first | (apply step_clz_copy (s := .tmp 86) (x := .tmp 88) (R := 0) (Ls := Ls) (base := wr.heap.size); (case hgd => rfl); (case ho => rfl); (case hty => rfl); (case hs => rfl); (case hx => rfl); (case hX => (first | exact alloc_at (by simp) | exact alloc_past (alloc_at (by simp)) | exact alloc_past (alloc_past (alloc_at (by simp))))); (case hbX => (first | omega | (simp; done) | (simp; omega))); (case hbase => (first | omega | (simp; done) | (simp; omega))); (case hc => exact (unhide HCw).later (by repeat (first | exact Below.refl _ _ | assumption | refine below_drewN ?_ _ | refine Below.drew ?_ | refine Below.alloc ?_ (by first | exact Nat.le_refl _ | exact Below.size (by assumption) | (simp; done) | (simp; omega)) _ | refine Below.setCell ?_ (by first | exact Nat.le_refl _ | exact Below.size (by assumption) | (simp; done) | (simp; omega)) _ | refine Below.trans ?_ (by assumption)))); (case hl => omega); case' h => (intro g1 c1 wa o1 gr1 at1 lt1; have ba := (show Below wr.heap.size wr _ from (by repeat (first | exact Below.refl _ _ | assumption | refine below_drewN ?_ _ | refine Below.drew ?_ | refine Below.alloc ?_ (by first | exact Nat.le_refl _ | exact Below.size (by assumption) | (simp; done) | (simp; omega)) _ | refine Below.setCell ?_ (by first | exact Nat.le_refl _ | exact Below.size (by assumption) | (simp; done) | (simp; omega)) _ | refine Below.trans ?_ (by assumption)))).trans ((mov_of_grown gr1).below (by first | omega | (simp; done) | (simp; omega)) (by first | omega | (simp; done) | (simp; omega))); have sa := gr1.size; obtain ⟨gc1, gf1⟩ := gcell gr1; have p0 := (ba.cell (p := ⟨w1.heap.size, 0, none⟩) plw).trans Pw.1; have p1 := (ba.cell (p := ⟨w1.heap.size, 1, none⟩) plw).trans Pw.2; (try simp [go_sem] at sa); (try simp [go_sem] at at1); (first | (have qat0 : wa.cell? ⟨wr.heap.size, 0, none⟩ = some (.slice (some ⟨g, 0, none⟩) k c) := ?_; rotate_left; focus (rw [gc1]; (focus (simp [go_sem]; done)); all_goals (first | omega | (simp; done) | (simp; omega)))) | skip); (first | (have qat1 : wa.cell? ⟨wr.heap.size + 1, 0, none⟩ = some (.slice (some ⟨g, 0, none⟩) k c) := ?_; rotate_left; focus (rw [gc1]; (focus (simp [go_sem]; done)); all_goals (first | omega | (simp; done) | (simp; omega)))) | skip); (first | (have qat2 : wa.cell? ⟨wr.heap.size + 2, 0, none⟩ = some (.slice (some ⟨g, 0, none⟩) k c) := ?_; rotate_left; focus (rw [gc1]; (focus (simp [go_sem]; done)); all_goals (first | omega | (simp; done) | (simp; omega)))) | skip); (first | (have qaa0 : wa.cell? ⟨wr.heap.size, 0, none⟩ = some (.int .i64 0) := ?_; rotate_left; focus (rw [gc1]; (focus (simp [go_sem]; done)); all_goals (first | omega | (simp; done) | (simp; omega)))) | skip); (first | (have qab0 : wa.cell? ⟨wr.heap.size, 1, none⟩ = some (.slice none 0 0) := ?_; rotate_left; focus (rw [gc1]; (focus (simp [go_sem]; done)); all_goals (first | omega | (simp; done) | (simp; omega)))) | skip); (first | (have qac0 : wa.frozen? ⟨wr.heap.size, 0, none⟩ = false := ?_; rotate_left; focus (rw [gf1]; (focus (simp [go_sem]; done)); all_goals (first | omega | (simp; done) | (simp; omega)))) | skip); (first | (have qad0 : wa.frozen? ⟨wr.heap.size, 1, none⟩ = false := ?_; rotate_left; focus (rw [gf1]; (focus (simp [go_sem]; done)); all_goals (first | omega | (simp; done) | (simp; omega)))) | skip); (first | (have qaa1 : wa.cell? ⟨wr.heap.size + 1, 0, none⟩ = some (.int .i64 0) := ?_; rotate_left; focus (rw [gc1]; (focus (simp [go_sem]; done)); all_goals (first | omega | (simp; done) | (simp; omega)))) | skip); (first | (have qab1 : wa.cell? ⟨wr.heap.size + 1, 1, none⟩ = some (.slice none 0 0) := ?_; rotate_left; focus (rw [gc1]; (focus (simp [go_sem]; done)); all_goals (first | omega | (simp; done) | (simp; omega)))) | skip); (first | (have qac1 : wa.frozen? ⟨wr.heap.size + 1, 0, none⟩ = false := ?_; rotate_left; focus (rw [gf1]; (focus (simp [go_sem]; done)); all_goals (first | omega | (simp; done) | (simp; omega)))) | skip); (first | (have qad1 : wa.frozen? ⟨wr.heap.size + 1, 1, none⟩ = false := ?_; rotate_left; focus (rw [gf1]; (focus (simp [go_sem]; done)); all_goals (first | omega | (simp; done) | (simp; omega)))) | skip); (first | (have qaa2 : wa.cell? ⟨wr.heap.size + 2, 0, none⟩ = some (.int .i64 0) := ?_; rotate_left; focus (rw [gc1]; (focus (simp [go_sem]; done)); all_goals (first | omega | (simp; done) | (simp; omega)))) | skip); (first | (have qab2 : wa.cell? ⟨wr.heap.size + 2, 1, none⟩ = some (.slice none 0 0) := ?_; rotate_left; focus (rw [gc1]; (focus (simp [go_sem]; done)); all_goals (first | omega | (simp; done) | (simp; omega)))) | skip); (first | (have qac2 : wa.frozen? ⟨wr.heap.size + 2, 0, none⟩ = false := ?_; rotate_left; focus (rw [gf1]; (focus (simp [go_sem]; done)); all_goals (first | omega | (simp; done) | (simp; omega)))) | skip); (first | (have qad2 : wa.frozen? ⟨wr.heap.size + 2, 1, none⟩ = false := ?_; rotate_left; focus (rw [gf1]; (focus (simp [go_sem]; done)); all_goals (first | omega | (simp; done) | (simp; omega)))) | skip))) | (apply step_clz_one (s := .tmp 89) (x := .tmp 91) (Ls := Ls) (q := ⟨g, c, tl k ks k⟩) (base := wr.heap.size) (g := g1) (cap := c1); (case hgd => rfl); (case ho => rfl); (case hty => rfl); (case hs => rfl); (case hx => rfl); (case hown => exact o1.kept (grown_below (by repeat (first | exact Below.refl _ _ | assumption | refine below_drewN ?_ _ | refine Below.drew ?_ | refine Below.alloc ?_ (by first | exact Nat.le_refl _ | exact Below.size (by assumption) | (simp; done) | (simp; omega)) _ | refine Below.setCell ?_ (by first | exact Nat.le_refl _ | exact Below.size (by assumption) | (simp; done) | (simp; omega)) _ | refine Below.trans ?_ (by assumption)))) (Or.inr (by simp [Value.ownBlock]))); (case hbase => (first | omega | (simp; done) | (simp; omega))); (case hT => (simp only [tl_len]; first | (simp [go_sem]; done) | exact cell_later (show Below wa.heap.size wa _ from (by repeat (first | exact Below.refl _ _ | assumption | refine below_drewN ?_ _ | refine Below.drew ?_ | refine Below.alloc ?_ (by first | exact Nat.le_refl _ | exact Below.size (by assumption) | (simp; done) | (simp; omega)) _ | refine Below.setCell ?_ (by first | exact Nat.le_refl _ | exact Below.size (by assumption) | (simp; done) | (simp; omega)) _ | refine Below.trans ?_ (by assumption)))) (by assumption))); (case hl => omega); case' h => (intro g2 c2 wb o2 gr2 at2 lt2; have bb := (show Below wr.heap.size wr _ from (by repeat (first | exact Below.refl _ _ | assumption | refine below_drewN ?_ _ | refine Below.drew ?_ | refine Below.alloc ?_ (by first | exact Nat.le_refl _ | exact Below.size (by assumption) | (simp; done) | (simp; omega)) _ | refine Below.setCell ?_ (by first | exact Nat.le_refl _ | exact Below.size (by assumption) | (simp; done) | (simp; omega)) _ | refine Below.trans ?_ (by assumption)))).trans ((mov_of_grown gr2).below (own_base o1) (by first | omega | (simp; done) | (simp; omega))); have sb := gr2.size; obtain ⟨gc2, gf2⟩ := gcell gr2; have p0 := (bb.cell (p := ⟨w1.heap.size, 0, none⟩) plw).trans Pw.1; have p1 := (bb.cell (p := ⟨w1.heap.size, 1, none⟩) plw).trans Pw.2; (try simp [go_sem] at sb); (try simp [go_sem] at at2); (first | (have qba0 : wb.cell? ⟨wr.heap.size, 0, none⟩ = some (.int .i64 0) := ?_; rotate_left; focus (rw [gc2]; (focus (first | (simp [go_sem]; done) | exact cell_later (show Below wa.heap.size wa _ from (by repeat (first | exact Below.refl _ _ | assumption | refine below_drewN ?_ _ | refine Below.drew ?_ | refine Below.alloc ?_ (by first | exact Nat.le_refl _ | exact Below.size (by assumption) | (simp; done) | (simp; omega)) _ | refine Below.setCell ?_ (by first | exact Nat.le_refl _ | exact Below.size (by assumption) | (simp; done) | (simp; omega)) _ | refine Below.trans ?_ (by assumption)))) (by assumption))); all_goals (first | omega | (simp; done) | (simp; omega)))) | skip); (first | (have qbb0 : wb.cell? ⟨wr.heap.size, 1, none⟩ = some (.slice none 0 0) := ?_; rotate_left; focus (rw [gc2]; (focus (first | (simp [go_sem]; done) | exact cell_later (show Below wa.heap.size wa _ from (by repeat (first | exact Below.refl _ _ | assumption | refine below_drewN ?_ _ | refine Below.drew ?_ | refine Below.alloc ?_ (by first | exact Nat.le_refl _ | exact Below.size (by assumption) | (simp; done) | (simp; omega)) _ | refine Below.setCell ?_ (by first | exact Nat.le_refl _ | exact Below.size (by assumption) | (simp; done) | (simp; omega)) _ | refine Below.trans ?_ (by assumption)))) (by assumption))); all_goals (first | omega | (simp; done) | (simp; omega)))) | skip); (first | (have qbc0 : wb.frozen? ⟨wr.heap.size, 0, none⟩ = false := ?_; rotate_left; focus (rw [gf2]; (focus (first | (simp [go_sem]; done) | (rw [(show Below wa.heap.size wa _ from (by repeat (first | exact Below.refl _ _ | assumption | refine below_drewN ?_ _ | refine Below.drew ?_ | refine Below.alloc ?_ (by first | exact Nat.le_refl _ | exact Below.size (by assumption) | (simp; done) | (simp; omega)) _ | refine Below.setCell ?_ (by first | exact Nat.le_refl _ | exact Below.size (by assumption) | (simp; done) | (simp; omega)) _ | refine Below.trans ?_ (by assumption)))).frozen (by first | (simp; done) | (simp; omega))]; assumption))); all_goals (first | omega | (simp; done) | (simp; omega)))) | skip); (first | (have qbd0 : wb.frozen? ⟨wr.heap.size, 1, none⟩ = false := ?_; rotate_left; focus (rw [gf2]; (focus (first | (simp [go_sem]; done) | (rw [(show Below wa.heap.size wa _ from (by repeat (first | exact Below.refl _ _ | assumption | refine below_drewN ?_ _ | refine Below.drew ?_ | refine Below.alloc ?_ (by first | exact Nat.le_refl _ | exact Below.size (by assumption) | (simp; done) | (simp; omega)) _ | refine Below.setCell ?_ (by first | exact Nat.le_refl _ | exact Below.size (by assumption) | (simp; done) | (simp; omega)) _ | refine Below.trans ?_ (by assumption)))).frozen (by first | (simp; done) | (simp; omega))]; assumption))); all_goals (first | omega | (simp; done) | (simp; omega)))) | skip); (first | (have qba1 : wb.cell? ⟨wr.heap.size + 1, 0, none⟩ = some (.int .i64 0) := ?_; rotate_left; focus (rw [gc2]; (focus (first | (simp [go_sem]; done) | exact cell_later (show Below wa.heap.size wa _ from (by repeat (first | exact Below.refl _ _ | assumption | refine below_drewN ?_ _ | refine Below.drew ?_ | refine Below.alloc ?_ (by first | exact Nat.le_refl _ | exact Below.size (by assumption) | (simp; done) | (simp; omega)) _ | refine Below.setCell ?_ (by first | exact Nat.le_refl _ | exact Below.size (by assumption) | (simp; done) | (simp; omega)) _ | refine Below.trans ?_ (by assumption)))) (by assumption))); all_goals (first | omega | (simp; done) | (simp; omega)))) | skip); (first | (have qbb1 : wb.cell? ⟨wr.heap.size + 1, 1, none⟩ = some (.slice none 0 0) := ?_; rotate_left; focus (rw [gc2]; (focus (first | (simp [go_sem]; done) | exact cell_later (show Below wa.heap.size wa _ from (by repeat (first | exact Below.refl _ _ | assumption | refine below_drewN ?_ _ | refine Below.drew ?_ | refine Below.alloc ?_ (by first | exact Nat.le_refl _ | exact Below.size (by assumption) | (simp; done) | (simp; omega)) _ | refine Below.setCell ?_ (by first | exact Nat.le_refl _ | exact Below.size (by assumption) | (simp; done) | (simp; omega)) _ | refine Below.trans ?_ (by assumption)))) (by assumption))); all_goals (first | omega | (simp; done) | (simp; omega)))) | skip); (first | (have qbc1 : wb.frozen? ⟨wr.heap.size + 1, 0, none⟩ = false := ?_; rotate_left; focus (rw [gf2]; (focus (first | (simp [go_sem]; done) | (rw [(show Below wa.heap.size wa _ from (by repeat (first | exact Below.refl _ _ | assumption | refine below_drewN ?_ _ | refine Below.drew ?_ | refine Below.alloc ?_ (by first | exact Nat.le_refl _ | exact Below.size (by assumption) | (simp; done) | (simp; omega)) _ | refine Below.setCell ?_ (by first | exact Nat.le_refl _ | exact Below.size (by assumption) | (simp; done) | (simp; omega)) _ | refine Below.trans ?_ (by assumption)))).frozen (by first | (simp; done) | (simp; omega))]; assumption))); all_goals (first | omega | (simp; done) | (simp; omega)))) | skip); (first | (have qbd1 : wb.frozen? ⟨wr.heap.size + 1, 1, none⟩ = false := ?_; rotate_left; focus (rw [gf2]; (focus (first | (simp [go_sem]; done) | (rw [(show Below wa.heap.size wa _ from (by repeat (first | exact Below.refl _ _ | assumption | refine below_drewN ?_ _ | refine Below.drew ?_ | refine Below.alloc ?_ (by first | exact Nat.le_refl _ | exact Below.size (by assumption) | (simp; done) | (simp; omega)) _ | refine Below.setCell ?_ (by first | exact Nat.le_refl _ | exact Below.size (by assumption) | (simp; done) | (simp; omega)) _ | refine Below.trans ?_ (by assumption)))).frozen (by first | (simp; done) | (simp; omega))]; assumption))); all_goals (first | omega | (simp; done) | (simp; omega)))) | skip); (first | (have qba2 : wb.cell? ⟨wr.heap.size + 2, 0, none⟩ = some (.int .i64 0) := ?_; rotate_left; focus (rw [gc2]; (focus (first | (simp [go_sem]; done) | exact cell_later (show Below wa.heap.size wa _ from (by repeat (first | exact Below.refl _ _ | assumption | refine below_drewN ?_ _ | refine Below.drew ?_ | refine Below.alloc ?_ (by first | exact Nat.le_refl _ | exact Below.size (by assumption) | (simp; done) | (simp; omega)) _ | refine Below.setCell ?_ (by first | exact Nat.le_refl _ | exact Below.size (by assumption) | (simp; done) | (simp; omega)) _ | refine Below.trans ?_ (by assumption)))) (by assumption))); all_goals (first | omega | (simp; done) | (simp; omega)))) | skip); (first | (have qbb2 : wb.cell? ⟨wr.heap.size + 2, 1, none⟩ = some (.slice none 0 0) := ?_; rotate_left; focus (rw [gc2]; (focus (first | (simp [go_sem]; done) | exact cell_later (show Below wa.heap.size wa _ from (by repeat (first | exact Below.refl _ _ | assumption | refine below_drewN ?_ _ | refine Below.drew ?_ | refine Below.alloc ?_ (by first | exact Nat.le_refl _ | exact Below.size (by assumption) | (simp; done) | (simp; omega)) _ | refine Below.setCell ?_ (by first | exact Nat.le_refl _ | exact Below.size (by assumption) | (simp; done) | (simp; omega)) _ | refine Below.trans ?_ (by assumption)))) (by assumption))); all_goals (first | omega | (simp; done) | (simp; omega)))) | skip); (first | (have qbc2 : wb.frozen? ⟨wr.heap.size + 2, 0, none⟩ = false := ?_; rotate_left; focus (rw [gf2]; (focus (first | (simp [go_sem]; done) | (rw [(show Below wa.heap.size wa _ from (by repeat (first | exact Below.refl _ _ | assumption | refine below_drewN ?_ _ | refine Below.drew ?_ | refine Below.alloc ?_ (by first | exact Nat.le_refl _ | exact Below.size (by assumption) | (simp; done) | (simp; omega)) _ | refine Below.setCell ?_ (by first | exact Nat.le_refl _ | exact Below.size (by assumption) | (simp; done) | (simp; omega)) _ | refine Below.trans ?_ (by assumption)))).frozen (by first | (simp; done) | (simp; omega))]; assumption))); all_goals (first | omega | (simp; done) | (simp; omega)))) | skip); (first | (have qbd2 : wb.frozen? ⟨wr.heap.size + 2, 1, none⟩ = false := ?_; rotate_left; focus (rw [gf2]; (focus (first | (simp [go_sem]; done) | (rw [(show Below wa.heap.size wa _ from (by repeat (first | exact Below.refl _ _ | assumption | refine below_drewN ?_ _ | refine Below.drew ?_ | refine Below.alloc ?_ (by first | exact Nat.le_refl _ | exact Below.size (by assumption) | (simp; done) | (simp; omega)) _ | refine Below.setCell ?_ (by first | exact Nat.le_refl _ | exact Below.size (by assumption) | (simp; done) | (simp; omega)) _ | refine Below.trans ?_ (by assumption)))).frozen (by first | (simp; done) | (simp; omega))]; assumption))); all_goals (first | omega | (simp; done) | (simp; omega)))) | skip); (first | (have qba3 : wb.cell? ⟨wa.heap.size, 0, none⟩ = some (.int .i64 0) := ?_; rotate_left; focus (rw [gc2]; (focus (first | (simp [go_sem]; done) | exact cell_later (show Below wa.heap.size wa _ from (by repeat (first | exact Below.refl _ _ | assumption | refine below_drewN ?_ _ | refine Below.drew ?_ | refine Below.alloc ?_ (by first | exact Nat.le_refl _ | exact Below.size (by assumption) | (simp; done) | (simp; omega)) _ | refine Below.setCell ?_ (by first | exact Nat.le_refl _ | exact Below.size (by assumption) | (simp; done) | (simp; omega)) _ | refine Below.trans ?_ (by assumption)))) (by assumption))); all_goals (first | omega | (simp; done) | (simp; omega)))) | skip); (first | (have qbb3 : wb.cell? ⟨wa.heap.size, 1, none⟩ = some (.slice none 0 0) := ?_; rotate_left; focus (rw [gc2]; (focus (first | (simp [go_sem]; done) | exact cell_later (show Below wa.heap.size wa _ from (by repeat (first | exact Below.refl _ _ | assumption | refine below_drewN ?_ _ | refine Below.drew ?_ | refine Below.alloc ?_ (by first | exact Nat.le_refl _ | exact Below.size (by assumption) | (simp; done) | (simp; omega)) _ | refine Below.setCell ?_ (by first | exact Nat.le_refl _ | exact Below.size (by assumption) | (simp; done) | (simp; omega)) _ | refine Below.trans ?_ (by assumption)))) (by assumption))); all_goals (first | omega | (simp; done) | (simp; omega)))) | skip); (first | (have qbc3 : wb.frozen? ⟨wa.heap.size, 0, none⟩ = false := ?_; rotate_left; focus (rw [gf2]; (focus (first | (simp [go_sem]; done) | (rw [(show Below wa.heap.size wa _ from (by repeat (first | exact Below.refl _ _ | assumption | refine below_drewN ?_ _ | refine Below.drew ?_ | refine Below.alloc ?_ (by first | exact Nat.le_refl _ | exact Below.size (by assumption) | (simp; done) | (simp; omega)) _ | refine Below.setCell ?_ (by first | exact Nat.le_refl _ | exact Below.size (by assumption) | (simp; done) | (simp; omega)) _ | refine Below.trans ?_ (by assumption)))).frozen (by first | (simp; done) | (simp; omega))]; assumption))); all_goals (first | omega | (simp; done) | (simp; omega)))) | skip); (first | (have qbd3 : wb.frozen? ⟨wa.heap.size, 1, none⟩ = false := ?_; rotate_left; focus (rw [gf2]; (focus (first | (simp [go_sem]; done) | (rw [(show Below wa.heap.size wa _ from (by repeat (first | exact Below.refl _ _ | assumption | refine below_drewN ?_ _ | refine Below.drew ?_ | refine Below.alloc ?_ (by first | exact Nat.le_refl _ | exact Below.size (by assumption) | (simp; done) | (simp; omega)) _ | refine Below.setCell ?_ (by first | exact Nat.le_refl _ | exact Below.size (by assumption) | (simp; done) | (simp; omega)) _ | refine Below.trans ?_ (by assumption)))).frozen (by first | (simp; done) | (simp; omega))]; assumption))); all_goals (first | omega | (simp; done) | (simp; omega)))) | skip); (first | (have qba4 : wb.cell? ⟨wa.heap.size + 1, 0, none⟩ = some (.int .i64 0) := ?_; rotate_left; focus (rw [gc2]; (focus (first | (simp [go_sem]; done) | exact cell_later (show Below wa.heap.size wa _ from (by repeat (first | exact Below.refl _ _ | assumption | refine below_drewN ?_ _ | refine Below.drew ?_ | refine Below.alloc ?_ (by first | exact Nat.le_refl _ | exact Below.size (by assumption) | (simp; done) | (simp; omega)) _ | refine Below.setCell ?_ (by first | exact Nat.le_refl _ | exact Below.size (by assumption) | (simp; done) | (simp; omega)) _ | refine Below.trans ?_ (by assumption)))) (by assumption))); all_goals (first | omega | (simp; done) | (simp; omega)))) | skip); (first | (have qbb4 : wb.cell? ⟨wa.heap.size + 1, 1, none⟩ = some (.slice none 0 0) := ?_; rotate_left; focus (rw [gc2]; (focus (first | (simp [go_sem]; done) | exact cell_later (show Below wa.heap.size wa _ from (by repeat (first | exact Below.refl _ _ | assumption | refine below_drewN ?_ _ | refine Below.drew ?_ | refine Below.alloc ?_ (by first | exact Nat.le_refl _ | exact Below.size (by assumption) | (simp; done) | (simp; omega)) _ | refine Below.setCell ?_ (by first | exact Nat.le_refl _ | exact Below.size (by assumption) | (simp; done) | (simp; omega)) _ | refine Below.trans ?_ (by assumption)))) (by assumption))); all_goals (first | omega | (simp; done) | (simp; omega)))) | skip); (first | (have qbc4 : wb.frozen? ⟨wa.heap.size + 1, 0, none⟩ = false := ?_; rotate_left; focus (rw [gf2]; (focus (first | (simp [go_sem]; done) | (rw [(show Below wa.heap.size wa _ from (by repeat (first | exact Below.refl _ _ | assumption | refine below_drewN ?_ _ | refine Below.drew ?_ | refine Below.alloc ?_ (by first | exact Nat.le_refl _ | exact Below.size (by assumption) | (simp; done) | (simp; omega)) _ | refine Below.setCell ?_ (by first | exact Nat.le_refl _ | exact Below.size (by assumption) | (simp; done) | (simp; omega)) _ | refine Below.trans ?_ (by assumption)))).frozen (by first | (simp; done) | (simp; omega))]; assumption))); all_goals (first | omega | (simp; done) | (simp; omega)))) | skip); (first | (have qbd4 : wb.frozen? ⟨wa.heap.size + 1, 1, none⟩ = false := ?_; rotate_left; focus (rw [gf2]; (focus (first | (simp [go_sem]; done) | (rw [(show Below wa.heap.size wa _ from (by repeat (first | exact Below.refl _ _ | assumption | refine below_drewN ?_ _ | refine Below.drew ?_ | refine Below.alloc ?_ (by first | exact Nat.le_refl _ | exact Below.size (by assumption) | (simp; done) | (simp; omega)) _ | refine Below.setCell ?_ (by first | exact Nat.le_refl _ | exact Below.size (by assumption) | (simp; done) | (simp; omega)) _ | refine Below.trans ?_ (by assumption)))).frozen (by first | (simp; done) | (simp; omega))]; assumption))); all_goals (first | omega | (simp; done) | (simp; omega)))) | skip))))
              all_goals
                have CL2 : ClzAt wb 0 (.slice (some ⟨g2, 0, none⟩) (Ls.length + 1) c2) (Ls ++ [⟨g, c, tl k ks k⟩]) := own_clz o2 (by have := own_base o2; omega) (fun q hq => by
                  rcases List.mem_append.1 hq with h | h
                  · exact ((unhide HCw).1 q h).later bb
                  · simp at h; subst h; exact (unhide QOK).later bb)
                have HG : ∀ q, q ∈ Ls ++ [⟨g, c, tl k ks k⟩] → q.g < wr.heap.size := fun q hq => by
                  rcases List.mem_append.1 hq with h | h
                  · exact ((unhide HCw).1 q h).2.1
                  · simp at h; subst h; exact (unhide QOK).2.1
                go_wp2_with fail
                go_meet
                first | exact ⟨wb.heap.size, g2, c2, rfl, Box.new _ _ _ _ _ _, CL2.later ((Below.refl _ _).alloc (Nat.le_refl _) _), bb.alloc bb.size _⟩ | exact ⟨_, g2, c2, rfl, ⟨by rw [World.cell?_setCell_other _ _ _ _ (by simp)]; exact World.cell?_setCell_same _ _ _ (by assumption), World.cell?_setCell_same _ _ _ (by rw [World.cell?_setCell_other _ _ _ _ (by simp)]; assumption)⟩, (CL2.set (fun q hq => by have := HG q hq; omega) (by simp [Value.ownBlock]; omega)).set (fun q hq => by have := HG q hq; omega) (by simp [Value.ownBlock]; omega), (bb.setCell (by first | (simp; done) | (simp; omega)) _).setCell (by first | (simp; done) | (simp; omega)) _⟩
            case rest =>
              obtain ⟨Bd, g2, c2, rfl, PD, CD, bx⟩ := hcut
              have BLx := BLw.trans (bx.mono BLw.size)
              have PX := Pw.later bx
              have HX := hide ((unhide HCw).later bx)
              have HD := hide CD
              have GX := ((unhide G0).later bw).later bx
              have fit2 : Hid (Fits (Ls.length + 1) (cL (Ls ++ [⟨g, c, tl k ks k⟩])) (cV (Ls ++ [⟨g, c, tl k ks k⟩]))) := by
                have := CD.fits (by simp; omega)
                rw [List.length_append, List.length_singleton] at this
                exact this
              have cp2 := cnf_more (q := ⟨g, c, tl k ks k⟩) rfl (unhide HCP) hLs (by simp only [tl_len]; exact tl_cl k ks)
              have hv2 := cnfB_yes cp2
              have hO2 := leastO_yes cp2 h10
              rw [Int.toNat_natCast] at hO2
              have HA : Hid (∀ B, chB k Ls.length (cL Ls) (cV Ls) k B = allB Ls.length (cL Ls) (cV Ls) k B) := hide (fun B => by unfold chB; rw [cnfB_yes (unhide HCP)]; simp)
              clear CD cp2 p0 p1
              obtain ⟨d0, d1⟩ := id PD
              go_wp2_with fail
              refine (iCnfLeast_any _ _ _ _ _ _ _ _ _ (rws_len (unhide HD)) (unhide fit2)).mono ?_
              rintro e w7 ⟨hX, b7⟩
              replace BLx := BLx.trans (b7.mono BLx.size)
              replace PX := PX.later b7
              replace PD := PD.later b7
              replace HX := hide ((unhide HX).later b7)
              replace HD := hide ((unhide HD).later b7)
              replace GX := GX.later b7
              clear b7 d0 d1
              rw [hO2, Int.toNat_natCast] at hX
              rcases firstO_ways (fun j => allB (Ls.length + 1) (cL (Ls ++ [⟨g, c, tl k ks k⟩])) (cV (Ls ++ [⟨g, c, tl k ks k⟩])) k (vls k j)) (2 ^ k) with ⟨hf, hnone⟩ | ⟨k2, hk2, hf, hyes2, _⟩
              · rw [hf] at hX
                obtain ⟨ax, cx, rfl, X, XO⟩ := hX.out
                clear hX X XO
                obtain ⟨d0, d1⟩ := id PD
                go_wp2_with fail
                refine (iCnfOk_any _ _ _ _ _ _ _ _ _ (rws_len (unhide HD)) (unhide fit2)).mono ?_
                rintro e w8 ⟨rfl, b8⟩
                rw [hv2]
                replace BLx := BLx.trans (b8.mono BLx.size)
                go_wp2
                go_ret
                exact ⟨rfl, BLx⟩
              · rw [hf] at hX
                obtain ⟨ax, cx, rfl, X, XO⟩ := hX.out
                replace X : BlsAt w7 ax k (vls k k2) := X
                rw [show lenO (some k2) k = k from rfl]
                clear hX XO
                obtain ⟨ha2, hq2⟩ := all_more (allB_iff.1 hyes2)
                simp only [tl_len] at hq2
                have hyc := allB_yes ha2
                have hge : ¬ k2 < ks := fun h => by have := unhide HN k2 h; rw [hyc] at this; cases this
                have hne : k2 ≠ ks := fun h => by rw [h] at hq2; exact tl_not k ks hq2
                have hlt2 : ks < k2 := by omega
                have hbe := beB_no (l := k) (l' := k) (V := vls k k2) (V' := vls k ks) (fun h => hne (vls_inj hk2 hks h.2))
                clear hyes2 ha2 hq2 hge
                obtain ⟨d0, d1⟩ := id PD
                go_wp2_with fail
                refine (iCnfOk_any _ _ _ _ _ _ _ _ _ (rws_len (unhide HD)) (unhide fit2)).mono ?_
                rintro e w8 ⟨rfl, b8⟩
                rw [hv2]
                replace BLx := BLx.trans (b8.mono BLx.size)
                replace PX := PX.later b8
                replace HX := hide ((unhide HX).later b8)
                replace GX := GX.later b8
                replace X := X.later b8
                clear b8 d0 d1
                obtain ⟨p0, p1⟩ := id PX
                go_wp2_with fail
                refine (iCnfHas_any _ _ _ _ _ _ _ _ _ _ _ _ _ (rws_of (unhide HX)) (unhide Fi) X (by omega)).mono ?_
                rintro e w9 ⟨rfl, b9⟩
                rw [unhide HA, hyc]
                replace BLx := BLx.trans (b9.mono BLx.size)
                replace GX := GX.later b9
                replace X := X.later b9
                clear b9 p0 p1
                go_wp2_with fail
                refine (wpBools_any _ _ _ _ _ _ _ _ _ X GX (by omega) (by omega)).mono ?_
                rintro e w10 ⟨rfl, b10⟩
                rw [hbe]
                replace BLx := BLx.trans (b10.mono BLx.size)
                replace GX := GX.later b10
                replace X := X.later b10
                clear b10
                go_wp2_with fail
                refine (wpAfter_any _ _ _ _ _ _ _ _ GX X (by omega) hlt2 hk2).mono ?_
                rintro e w11 ⟨rfl, b11⟩
                replace BLx := BLx.trans (b11.mono BLx.size)
                go_wp2
                go_ret
                exact ⟨rfl, BLx⟩
    · have hO := leastO_no hcp
      rw [hO] at G W hlen kb kc kbe
      rw [hO]
      go_wp2_with fail
      refine (wpBools_any _ _ _ _ _ _ _ _ _ G W hlen hlen).mono ?_
      rintro e w5 ⟨rfl, b5⟩
      rw [kbe]
      replace BL := BL.trans (b5.mono BL.size)
      go_wp2
      go_ret
      exact ⟨rfl, BL⟩
  · go_enter Try.func6, Try.ntmps6
    by_cases h1 : lencode ≤ 1048576
    · have h2 : ¬ lenmore ≤ 1048576 := fun h => hl ⟨h1, h⟩
      clear hl
      go_wp2
      go_ret
      exact ⟨rfl, Below.refl _ _⟩
    · clear hl
      go_wp2
      go_ret
      exact ⟨rfl, Below.refl _ _⟩

set_option maxRecDepth 100000 in
theorem lifted (os : Os) (started : os.Started) (H : Type) (enc : TypeId × Value → H) :
    ReturnsInHanded {} Try.checked os 6 .any (Rows.fnCnfMoreSpec.pre6 enc Try.prog Try.f6 Rows.fnCnfMoreRow.domain false) (Rows.fnCnfMoreSpec.post enc Try.prog Try.f6 false true false false) := by
  refine returnsInHanded_of_change (C := Try.checked) own started (by kernel_rfl) Try.func6
    (ChangeSpec.witness6 (enc := enc) (C := Try.checked) false ⟨#[], #[.slice none 0 0, .slice none 0 0], []⟩ 8 (by kernel_rfl) (by kernel_rfl) (by kernel_rfl) (by kernel_rfl)) ?_
  intro W base args ds gs before hval0 hW hcnd _
  have hval : ∀ (j : Nat) t v, Try.f6.params[j]? = some t → args[j]? = some v → Value.okWide Try.prog W .any base t v := hval0
  have hW' := hW
  obtain ⟨p, q, hA0, hV, rfl, hfz, hnd⟩ := hW
  have hA : DataW.TrodAll enc Try.prog W 0 (fun _ => true) true Try.f6.params.toList args.toList ds p := hA0
  rw [Try.params6] at hA hval
  obtain ⟨v0, vs0, d0, ds0, p0, q0, hargs, rfl, rfl, h0, r0⟩ := trodAll_cons hA
  obtain ⟨v1, vs1, d1, ds1, p1, q1, rfl, rfl, rfl, h1, r1⟩ := trodAll_cons r0
  obtain ⟨rfl, rfl, rfl⟩ := trodAll_nil r1
  obtain rfl : args = #[v0, v1] := by cases args; simp_all
  obtain ⟨rfl, rfl⟩ := trodVars_none hV
  obtain ⟨code, lencode, capcode, rfl⟩ := okWide_slice Try.underlying22 (hval 0 22 v0 rfl rfl)
  have k0 := h0
  have lt0 : ∀ x ∈ p0, x.block < W.heap.size := by obtain ⟨m, hm⟩ := k0; exact DataW.trod_lt m _ _ _ hm
  obtain ⟨zcode, wcode⟩ : ∃ zs, IsRow .u8 W code lencode capcode zs := by
    obtain ⟨fuel, hf⟩ := h0
    rcases open_ints Try.underlying22 Try.underlying5 (by kernel_rfl) hf with ⟨hcs, _⟩ | ⟨x, l, c, zs, hcs, _, hl, hm, hz, _, hcell, hwz⟩
    · simp [Value.cells] at hcs
      obtain ⟨rfl, rfl, rfl⟩ := hcs
      exact ⟨[], .inl ⟨rfl, rfl, rfl, rfl⟩⟩
    · simp [Value.cells] at hcs
      obtain ⟨rfl, rfl, rfl⟩ := hcs
      exact ⟨zs, .inr ⟨_, rfl, hl, hm, by simpa using hz, hcell, hwz⟩⟩
  obtain ⟨more, lenmore, capmore, rfl⟩ := okWide_slice Try.underlying22 (hval 1 22 v1 rfl rfl)
  have k1 := h1
  have lt1 : ∀ x ∈ p1, x.block < W.heap.size := by obtain ⟨m, hm⟩ := k1; exact DataW.trod_lt m _ _ _ hm
  obtain ⟨zmore, wmore⟩ : ∃ zs, IsRow .u8 W more lenmore capmore zs := by
    obtain ⟨fuel, hf⟩ := h1
    rcases open_ints Try.underlying22 Try.underlying5 (by kernel_rfl) hf with ⟨hcs, _⟩ | ⟨x, l, c, zs, hcs, _, hl, hm, hz, _, hcell, hwz⟩
    · simp [Value.cells] at hcs
      obtain ⟨rfl, rfl, rfl⟩ := hcs
      exact ⟨[], .inl ⟨rfl, rfl, rfl, rfl⟩⟩
    · simp [Value.cells] at hcs
      obtain ⟨rfl, rfl, rfl⟩ := hcs
      exact ⟨zs, .inr ⟨_, rfl, hl, hm, by simpa using hz, hcell, hwz⟩⟩
  clear hA0 hval0
  refine (walk code lencode capcode zcode more lenmore capmore zmore W wcode wmore).mono fun e W' ⟨he, bel⟩ => ?_
  subst he
  exact ⟨_, rfl, _, _, _, [], _, [], hW', trodAll_mk1 (shut_bool Try.underlying4 _), (trodAll_cons_mk (Below.trod laidOut (by kernel_rfl) (of_decide_eq_true (by kernel_rfl)) k0 bel lt0) (trodAll_cons_mk (Below.trod laidOut (by kernel_rfl) (of_decide_eq_true (by kernel_rfl)) k1 bel lt1) trodAll_mk0)), rfl, bel.frame _, fun h => by cases h⟩

theorem over : Rows.fnCnfMoreRow.holds Try.pinned (OpenSpec.ofChange Rows.fnCnfMoreSpec) :=
  OpenClaim.holds_of_wide 6 Try.f6 rfl rfl rfl rfl rfl rfl rfl ⟨rfl, rfl, rfl, rfl, rfl⟩ rfl rfl rfl rfl rfl (by kernel_rfl) Try.func6 (by kernel_rfl)
    (of_decide_eq_true (by kernel_rfl)) (by unfold Func.isWrapper; first | (rw [if_pos (by decide +kernel)]; kernel_rfl) | (rw [if_neg (by decide +kernel)]; exact ⟨rfl, rfl⟩))
    (fun os started H enc _ => lifted os started H enc)
end cMor

theorem cMor_holds : Rows.FnCnfMoreSaid := cMor.over
#print axioms cMor_holds
end Go.Proofs.Yteakllghgcdoaaa
