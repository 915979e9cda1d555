/- Sizes and depths of terms add up: the law FnTermMany returns true for every code of bytes, and leaves it as it was. No condition (the law itself answers true where the code is longer than 1048576 bytes). -/
import Derived.Test.YtmdelmpdnmhpmaaDrwM
import Derived.Test.YtmdelmpdnmhpmaaRowT
namespace Go.Proofs.Ytmdelmpdnmhpmaa
open Go.ChangeShapes Go.WideShapes Go.ChangeAt Go.RowKit Go.Joins
open Go.ChangeMaps (open_string shut_string)
set_option linter.unusedVariables false

/-- The two numbers of a term's size. -/
def avT (t : TT) : Int := if t.N ≤ 20 ∧ t.D ≤ 7 then t.N else 21
def dvT (t : TT) : Int := if t.N ≤ 20 ∧ t.D ≤ 7 then t.D else 8
theorem manyV_av (t : TT) : manyV t.N t.D = .tuple #[.int .i64 (avT t), .int .i64 (dvT t)] := by
  unfold manyV avT dvT
  by_cases h : t.N ≤ 20 ∧ t.D ≤ 7
  · rw [if_pos h, if_pos h, if_pos h]
  · rw [if_neg h, if_neg h, if_neg h]
theorem av_bd (t : TT) : 0 ≤ avT t ∧ avT t ≤ 21 ∧ 0 ≤ dvT t ∧ dvT t ≤ 8 := by
  unfold avT dvT
  by_cases h : t.N ≤ 20 ∧ t.D ≤ 7
  · rw [if_pos h, if_pos h]; omega
  · rw [if_neg h, if_neg h]; omega
def sA (t : TT) : Nat → Int
  | 0 => 0
  | k + 1 => sA t k + avT (t.kid k)
def mD (t : TT) : Nat → Int
  | 0 => 0
  | k + 1 => max (mD t k) (dvT (t.kid k))
theorem sA_bd (t : TT) : ∀ k, 0 ≤ sA t k ∧ sA t k ≤ 21 * k
  | 0 => by simp [sA]
  | k + 1 => by
    have h1 := sA_bd t k
    have h2 := av_bd (t.kid k)
    simp only [sA]
    omega
theorem mD_bd (t : TT) : ∀ k, 0 ≤ mD t k ∧ mD t k ≤ 8
  | 0 => by simp [mD]
  | k + 1 => by
    have h1 := mD_bd t k
    have h2 := av_bd (t.kid k)
    simp only [mD]
    omega
/-- Where all are small, the sums are the sums. -/
theorem sums_good (t : TT) : ∀ k, (∀ i, i < k → (t.kid i).N ≤ 20 ∧ (t.kid i).D ≤ 7) → sA t k = sumN (fun i => (t.kid i).N) k ∧ mD t k = maxN (fun i => (t.kid i).D) k
  | 0, _ => ⟨rfl, rfl⟩
  | k + 1, h => by
    obtain ⟨a, b⟩ := sums_good t k (fun i hi => h i (by omega))
    have hk := h k (by omega)
    have e1 : avT (t.kid k) = (t.kid k).N := by unfold avT; rw [if_pos hk]
    have e2 : dvT (t.kid k) = (t.kid k).D := by unfold dvT; rw [if_pos hk]
    simp only [sA, mD, sumN, maxN, a, b, e1, e2]
    omega
theorem sums_bad (t : TT) : ∀ k i, i < k → ¬ ((t.kid i).N ≤ 20 ∧ (t.kid i).D ≤ 7) → 21 ≤ sA t k
  | 0, i, h, _ => by omega
  | k + 1, i, h, hb => by
    have h0 := sA_bd t k
    have h1 := av_bd (t.kid k)
    simp only [sA]
    by_cases e : i = k
    · subst e
      have : avT (t.kid i) = 21 := by unfold avT; rw [if_neg hb]
      omega
    · have := sums_bad t k i (by omega) hb
      omega
theorem maxN_atM (f : Nat → Nat) {i n : Nat} (h : i < n) : f i ≤ maxN f n := by
  have := maxN_mono f (show i + 1 ≤ n by omega)
  have e : maxN f (i + 1) = max (maxN f i) (f i) := rfl
  omega
theorem sumN_atM (f : Nat → Nat) {i n : Nat} (h : i < n) : f i ≤ sumN f n := by
  have := sumN_mono f (show i + 1 ≤ n by omega)
  have e : sumN f (i + 1) = sumN f i + f i := rfl
  omega
theorem many_add {w : World} {lo hi : Nat} {ad : Option Addr} (t : TT) (hin : t.In w lo hi ad) :
    ((20 < 1 + sA t t.n ∨ 7 < mD t t.n + 1) → avT t = 21 ∧ dvT t = 8) ∧ (¬ (20 < 1 + sA t t.n ∨ 7 < mD t t.n + 1) → avT t = 1 + sA t t.n ∧ dvT t = mD t t.n + 1) := by
  have hN : t.N = 1 + sumN (fun i => (t.kid i).N) t.n ∧ t.D = 1 + maxN (fun i => (t.kid i).D) t.n := by
    cases t with
    | nil => exact hin.elim
    | node op a b s n kid => exact ⟨TT.N_node op a b s n kid, TT.D_node op a b s n kid⟩
  by_cases hall : ∀ i, i < t.n → (t.kid i).N ≤ 20 ∧ (t.kid i).D ≤ 7
  · obtain ⟨e1, e2⟩ := sums_good t t.n hall
    unfold avT dvT
    by_cases h : t.N ≤ 20 ∧ t.D ≤ 7
    · rw [if_pos h, if_pos h]; omega
    · rw [if_neg h, if_neg h]; omega
  · simp only [Classical.not_forall] at hall
    obtain ⟨i, hi', hb⟩ := hall
    have h21 := sums_bad t t.n i hi' hb
    have k1 := sumN_atM (fun i => (t.kid i).N) hi'
    have k2 := maxN_atM (fun i => (t.kid i).D) hi'
    have hno : ¬ (t.N ≤ 20 ∧ t.D ≤ 7) := fun h => hb ⟨by omega, by omega⟩
    unfold avT dvT
    rw [if_neg hno, if_neg hno]
    omega
theorem kid_of {w : World} {lo hi : Nat} {ad : Option Addr} {t : TT} (h : t.In w lo hi ad) {i : Nat} (hi' : i < t.n) : ∃ bl off AD CP, ad = some ⟨bl, off, none⟩ ∧ bl < hi ∧ Five w bl (off + i * 5) (t.kid i) AD CP ∧ (t.kid i).In w lo hi AD := by
  cases t with
  | nil => exact h.elim
  | node op a b s n kid =>
    have hi'' : i < n := hi'
    rcases h with h | ⟨bl, off, e1, _, l1, AD, CP, k1⟩
    · omega
    · exact ⟨bl, off, AD i, CP i, e1, l1, (k1 i hi'').1, (k1 i hi'').2.2⟩
theorem fit_kidM {t : TT} (h : t.Fit 1048576) {i : Nat} (hi : i < t.n) : (t.kid i).Fit 1048576 := by
  cases t with
  | nil => simp [TT.n] at hi
  | node op a b s n kid => exact h.2.2 i hi

namespace tMany
set_option maxHeartbeats 2000000 in
theorem walk (code : Option Addr) (lencode capcode : Nat) (zcode : List Int) (w : World) (wcode : IsRow .u8 w code lencode capcode zcode) :
    Calls Try.prog 3 #[.slice code lencode capcode] w fun e w' => e = .returned (.bool true) ∧ Below w.heap.size w w' := by
  obtain ⟨hby, hlc, hcm⟩ := wcode.byts
  have HB := hide hby
  clear hby wcode
  by_cases hbig : lencode ≤ 1048576
  · go_enter Try.func3, Try.ntmps3
    go_wp2_with fail
    refine (drawMany_any code lencode capcode _ hbig hlc hcm (unhide HB)).mono ?_
    rintro e w1 ⟨⟨T, a1, c1, rfl, i1, e1, f1⟩, b1⟩
    have kn : ∀ x : Int, (x != x) = false := by simp
    obtain ⟨hadd1, hadd2⟩ := many_add T i1
    have HA1 := hide hadd1
    have HA2 := hide hadd2
    have HMV := hide (manyV_av T)
    have I := hide (TT.In.wide (Nat.zero_le _) (Nat.le_refl _) _ _ i1)
    have FT := hide f1
    have hn20 := fit_nn f1
    clear hadd1 hadd2 i1 f1 HB
    go_wp2_with fail
    obtain ⟨w2, hw2⟩ : ∃ v, v = w1.alloc (.cells #[.int .i64 T.op, .int .i64 T.a, .int .i64 T.b, .string T.s, .slice a1 T.n c1] 25) := ⟨_, rfl⟩
    have b2 : Below w1.heap.size w1 w2 := by rw [hw2]; exact (Below.refl _ _).alloc (Nat.le_refl _) _
    have Q : Five w2 w1.heap.size 0 T a1 c1 := by rw [hw2]; exact ⟨by simp [go_sem], by simp [go_sem], by simp [go_sem], by simp [go_sem], by simp [go_sem]⟩
    rw [← hw2]
    have BL := b1.trans (b2.mono b1.size)
    replace I := hide ((unhide I).later b2)
    have hI : w1.heap.size ≤ w2.heap.size := b2.size
    obtain ⟨HH, hHH⟩ : ∃ x, x = w1.heap.size := ⟨_, rfl⟩
    rw [← hHH] at Q I hI
    rw [← hHH]
    clear hw2 b1 b2 hHH
    refine (iMany_any HH T a1 c1 _ (unhide I) (unhide FT) hI).mono ?_
    rintro e w3 ⟨rfl, b3⟩
    rw [unhide HMV]
    replace BL := BL.trans (b3.mono BL.size)
    replace Q := Q.later b3
    replace I := hide ((unhide I).later (b3.mono hI))
    replace hI := Nat.le_trans hI b3.size
    clear b3
    obtain ⟨p0, p1, p2, p3, p4⟩ := id Q
    go_wp2_with fail
    refine (sMany_any HH T a1 c1 _ (unhide I) (unhide FT) hI).mono ?_
    rintro e w4 ⟨rfl, b4⟩
    rw [unhide HMV]
    replace BL := BL.trans (b4.mono BL.size)
    replace Q := Q.later b4
    replace I := hide ((unhide I).later (b4.mono hI))
    replace hI := Nat.le_trans hI b4.size
    clear b4 p0 p1 p2 p3 p4
    obtain ⟨x, hx⟩ : ∃ x, x = avT T := ⟨_, rfl⟩
    obtain ⟨y, hy⟩ : ∃ y, y = dvT T := ⟨_, rfl⟩
    rw [← hx, ← hy]
    rw [← hx, ← hy] at HA1 HA2
    clear hx hy HMV
    have QQ := hide Q
    clear Q
    go_wp2
    go_loopw [10, 8, 9] (fun i p l wr => ∃ k : Nat, k ≤ T.n ∧ i = .int .i64 k ∧ p = .int .i64 (1 + sA T k) ∧ l = .int .i64 (mD T k) ∧ Five wr HH 0 T a1 c1 ∧ T.In wr 0 HH a1 ∧ Below w.heap.size w wr ∧ HH ≤ wr.heap.size) (fun i _ _ _ => T.n - (intOf i).toNat)
    case atStart => exact ⟨0, by omega, rfl, by simp [sA], by simp [mD], unhide QQ, unhide I, BL, hI⟩
    case round =>
      clear QQ I BL hI
      obtain ⟨k, hk, rfl, rfl, rfl, Q, hin, BL, hI⟩ := hrel
      obtain ⟨p0, p1, p2, p3, p4⟩ := id Q
      have sb := sA_bd T k
      have mb := mD_bd T k
      have s0 := sb.1
      have s1 := sb.2
      have m0 := mb.1
      have m1 := mb.2
      clear sb mb
      have I := hide hin
      by_cases hlt : k < T.n
      · obtain ⟨bl, off, AD, CP, rfl, hbl, K5, kin⟩ := kid_of hin hlt
        have KI := hide kin
        have KF := hide (fit_kidM (unhide FT) hlt)
        have HS : Hid (sA T (k + 1) = sA T k + avT (T.kid k)) := rfl
        have HM : Hid (mD T (k + 1) = max (mD T k) (dvT (T.kid k))) := rfl
        have HV := hide (manyV_av (T.kid k))
        have ab := av_bd (T.kid k)
        have a0 := ab.1
        have a1' := ab.2.1
        have d0 := ab.2.2.1
        have d1 := ab.2.2.2
        clear kin hin ab
        obtain ⟨c0, c1', c2, c3, c4⟩ := id K5
        generalize hu : T.kid k = U at *
        have HU := hide hu
        clear hu
        obtain ⟨S, hS⟩ : ∃ S, S = sA T k := ⟨_, rfl⟩
        obtain ⟨M, hM⟩ : ∃ M, M = mD T k := ⟨_, rfl⟩
        rw [← hS] at s0 s1 HS
        rw [← hM] at m0 m1 HM
        rw [← hS, ← hM]
        clear hS hM
        go_wp2_with fail
        refine (iMany_any HH U AD CP _ (unhide KI) (unhide KF) hI).mono ?_
        rintro e w5 ⟨rfl, b5⟩
        rw [unhide HV]
        have B5 := BL.trans (b5.mono BL.size)
        have Q5 := Q.later b5
        have I5 := hide ((unhide I).later (b5.mono hI))
        have hI5 := Nat.le_trans hI b5.size
        clear b5 Q I BL hI p0 p1 p2 p3 p4 c0 c1' c2 c3 c4 K5
        by_cases hgt : M < dvT U
        · have dg : decide (M < dvT U) = true := by simp; omega
          go_wp2
          go_roundw
          case rel => exact ⟨k + 1, by omega, by go_num, by rw [unhide HS]; go_num, by rw [unhide HM, Int.max_eq_right (by omega)], Q5, unhide I5, B5, hI5⟩
          case measure => simp [intOf]; omega
        · have dg : decide (M < dvT U) = false := by simp; omega
          go_wp2
          go_roundw
          case rel => exact ⟨k + 1, by omega, by go_num, by rw [unhide HS]; go_num, by rw [unhide HM, Int.max_eq_left (by omega)], Q5, unhide I5, B5, hI5⟩
          case measure => simp [intOf]; omega
      · have e : k = T.n := by omega
        subst e
        obtain ⟨S, hS⟩ : ∃ S, S = sA T T.n := ⟨_, rfl⟩
        obtain ⟨M, hM⟩ : ∃ M, M = mD T T.n := ⟨_, rfl⟩
        rw [← hS] at s0 s1 HA1 HA2
        rw [← hM] at m0 m1 HA1 HA2
        rw [← hS, ← hM]
        clear hS hM hin
        by_cases h20 : 20 < 1 + S
        · have d20 : decide (20 < 1 + S) = true := by simp; omega
          obtain ⟨rfl, rfl⟩ := unhide HA1 (Or.inl h20)
          go_wp2
          go_ret
          exact ⟨rfl, BL⟩
        · have d20 : decide (20 < 1 + S) = false := by simp; omega
          by_cases h7 : 7 < M + 1
          · have d7 : decide (7 < M + 1) = true := by simp; omega
            obtain ⟨rfl, rfl⟩ := unhide HA1 (Or.inr h7)
            go_wp2
            go_ret
            exact ⟨rfl, BL⟩
          · have d7 : decide (7 < M + 1) = false := by simp; omega
            obtain ⟨rfl, rfl⟩ := unhide HA2 (by omega)
            go_wp2
            go_ret
            exact ⟨by simp, BL⟩
  · go_enter Try.func3, Try.ntmps3
    go_wp2
    go_ret
    exact ⟨rfl, Below.refl _ _⟩

set_option maxRecDepth 100000 in
theorem lifted (os : Os) (started : os.Started) (H : Type) (enc : TypeId × Value → H) :
    ReturnsInHanded {} Try.checked os 3 .any (Rows.fnTermManySpec.pre6 enc Try.prog Try.f3 Rows.fnTermManyRow.domain false) (Rows.fnTermManySpec.post enc Try.prog Try.f3 false true false false) := by
  refine returnsInHanded_of_change (C := Try.checked) own started (by kernel_rfl) Try.func3
    (ChangeSpec.witness6 (enc := enc) (C := Try.checked) false ⟨#[], #[.slice none 0 0], []⟩ 8 (by kernel_rfl) (by kernel_rfl) (by kernel_rfl) (by kernel_rfl)) ?_
  intro W base args ds gs before hval0 hW hcnd _
  have hval : ∀ (j : Nat) t v, Try.f3.params[j]? = some t → args[j]? = some v → Value.okWide Try.prog W .any base t v := hval0
  have hW' := hW
  obtain ⟨p, q, hA0, hV, rfl, hfz, hnd⟩ := hW
  have hA : DataW.TrodAll enc Try.prog W 0 (fun _ => true) true Try.f3.params.toList args.toList ds p := hA0
  rw [Try.params3] at hA hval
  obtain ⟨v0, vs0, d0, ds0, p0, q0, hargs, rfl, rfl, h0, r0⟩ := trodAll_cons hA
  obtain ⟨rfl, rfl, rfl⟩ := trodAll_nil r0
  obtain rfl : args = #[v0] := by cases args; simp_all
  obtain ⟨rfl, rfl⟩ := trodVars_none hV
  obtain ⟨code, lencode, capcode, rfl⟩ := okWide_slice Try.underlying22 (hval 0 22 v0 rfl rfl)
  have k0 := h0
  have lt0 : ∀ x ∈ p0, x.block < W.heap.size := by obtain ⟨m, hm⟩ := k0; exact DataW.trod_lt m _ _ _ hm
  obtain ⟨zcode, wcode⟩ : ∃ zs, IsRow .u8 W code lencode capcode zs := by
    obtain ⟨fuel, hf⟩ := h0
    rcases open_ints Try.underlying22 Try.underlying5 (by kernel_rfl) hf with ⟨hcs, _⟩ | ⟨x, l, c, zs, hcs, _, hl, hm, hz, _, hcell, hwz⟩
    · simp [Value.cells] at hcs
      obtain ⟨rfl, rfl, rfl⟩ := hcs
      exact ⟨[], .inl ⟨rfl, rfl, rfl, rfl⟩⟩
    · simp [Value.cells] at hcs
      obtain ⟨rfl, rfl, rfl⟩ := hcs
      exact ⟨zs, .inr ⟨_, rfl, hl, hm, by simpa using hz, hcell, hwz⟩⟩
  clear hA0 hval0
  refine (walk code lencode capcode zcode W wcode).mono fun e W' ⟨he, bel⟩ => ?_
  subst he
  exact ⟨_, rfl, _, _, _, [], _, [], hW', trodAll_mk1 (shut_bool Try.underlying4 _), (trodAll_cons_mk (Below.trod laidOut (by kernel_rfl) (of_decide_eq_true (by kernel_rfl)) k0 bel lt0) trodAll_mk0), rfl, bel.frame _, fun h => by cases h⟩

theorem over : Rows.fnTermManyRow.holds Try.pinned (OpenSpec.ofChange Rows.fnTermManySpec) :=
  OpenClaim.holds_of_wide 3 Try.f3 rfl rfl rfl rfl rfl rfl rfl ⟨rfl, rfl, rfl, rfl, rfl⟩ rfl rfl rfl rfl rfl (by kernel_rfl) Try.func3 (by kernel_rfl)
    (of_decide_eq_true (by kernel_rfl)) (by unfold Func.isWrapper; first | (rw [if_pos (by decide +kernel)]; kernel_rfl) | (rw [if_neg (by decide +kernel)]; exact ⟨rfl, rfl⟩))
    (fun os started H enc _ => lifted os started H enc)
end tMany

theorem tMany_holds : Rows.FnTermManySaid := tMany.over
#print axioms tMany_holds
end Go.Proofs.Ytmdelmpdnmhpmaa
