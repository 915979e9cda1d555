/- Marks say binary numbers: the law FnBitsVal returns true for every code of bytes, and leaves it as it was. No condition (the law itself answers true where the code is longer than 1048576 bytes). -/
import Derived.Test.YtlecioaglhlmiaaBdrA
import Derived.Test.YtlecioaglhlmiaaRowC
namespace Go.Proofs.Ytlecioaglhlmiaa
open Go.ChangeShapes Go.WideShapes Go.ChangeAt Go.RowKit Go.Joins
open Go.ChangeMaps (open_string shut_string)
set_option linter.unusedVariables false

theorem upI_shift (f : Nat → Bool) (m : Nat) : ∀ s, upI (fun i => f (i + 1)) s m = upI f (s + 1) m := by
  induction m with
  | zero => intro s; rfl
  | succ m ih => intro s; show upI (fun i => f (i + 1)) (s + 1) m * 2 + _ = upI f (s + 1 + 1) m * 2 + _; rw [ih]
theorem upI_not (f g : Nat → Bool) (m : Nat) : ∀ s, (∀ i, s ≤ i → i < s + m → g i = !f i) → upI g s m = 2 ^ m - 1 - upI f s m := by
  induction m with
  | zero => intro s _; rfl
  | succ m ih =>
    intro s h
    show upI g (s + 1) m * 2 + b01 (g s) = _ - 1 - (upI f (s + 1) m * 2 + b01 (f s))
    rw [ih (s + 1) (fun i h1 h2 => h i (by omega) (by omega)), h s (by omega) (by omega), Int.pow_succ]
    cases f s <;> simp [b01] <;> omega
def mkB (N : Nat) (x : Int) : Bool := decide (x ≠ 0 ∧ x ≤ N ∧ -(N : Int) ≤ x)
theorem met_turn {x : Int} {N : Nat} {B : Nat → Bool} (h : mkB N x = true) : metB (-x) N B = !metB x N B := by
  have h' : x ≠ 0 ∧ x ≤ N ∧ -(N : Int) ≤ x := of_decide_eq_true h
  rcases met_ways N x with ⟨j, hj, rfl⟩ | ⟨j, hj, rfl⟩ | ho
  · rw [met_pos hj, met_neg hj]
  · rw [met_neg hj, Int.neg_neg, met_pos hj]; simp
  · omega
def allM (N : Nat) (V : Nat → Int) : Nat → Bool
  | 0 => true
  | k + 1 => allM N V k && mkB N (V k)
theorem allM_at {N : Nat} {V : Nat → Int} {k : Nat} (h : allM N V k = true) : ∀ i, i < k → mkB N (V i) = true := by
  induction k with
  | zero => intro i hi; omega
  | succ k ih =>
    intro i hi
    have h2 : (allM N V k && mkB N (V k)) = true := h
    rw [Bool.and_eq_true] at h2
    by_cases e : i = k
    · subst e; exact h2.2
    · exact ih h2.1 i (by omega)
theorem bv_turn {n N : Nat} {V V' : Nat → Int} {B : Nat → Bool} (hn : n ≤ 4) (ha : allM N V n = true) (hV : ∀ i, i < n → V' i = -V i) : bvI n V' N B = 2 ^ n - 1 - bvI n V N B := by
  rw [bvI_yes hn, bvI_yes hn]
  exact upI_not _ _ n 0 (fun i _ hi => by
    show metB (V' i) N B = !metB (V i) N B
    rw [hV i (by omega)]; exact met_turn (allM_at ha i (by omega)))
theorem bv_split {p N : Nat} {V : Nat → Int} {B : Nat → Bool} (hn : p + 1 ≤ 4) : bvI (p + 1) V N B = bvI 1 V N B + 2 * bvI p (fun i => V (i + 1)) N B := by
  rw [bvI_yes hn, bvI_yes (show 1 ≤ 4 by omega), bvI_yes (show p ≤ 4 by omega), upI_shift (fun i => metB (V i) N B)]
  show upI _ 1 p * 2 + b01 _ = (upI _ 1 0 * 2 + b01 _) + _
  show upI _ 1 p * 2 + b01 _ = (0 * 2 + b01 _) + _
  rw [show (0 : Nat) + 1 = 1 from rfl]
  omega
theorem bv_bd {n N : Nat} {V : Nat → Int} {B : Nat → Bool} (hn : n ≤ 4) : 0 ≤ bvI n V N B ∧ bvI n V N B < 2 ^ n := by
  rw [bvI_yes hn]; exact upI_bd _ _ _
theorem two_small {k : Nat} (h : k ≤ 4) : (1 : Int) ≤ 2 ^ k ∧ (2 : Int) ^ k ≤ 16 := by
  have : k = 0 ∨ k = 1 ∨ k = 2 ∨ k = 3 ∨ k = 4 := by omega
  rcases this with rfl | rfl | rfl | rfl | rfl <;> decide
theorem below_own1 {w v w' : World} {row : Option Nat} (hb : Below w.heap.size w v) (hg : v.grownBy w' row) (hl : ∀ k, row = some k → w.heap.size ≤ k) : Below w.heap.size w w' :=
  hb.trans ⟨hg.os, hg.tape, hg.output, hg.size, fun k hk => hg.block k (Nat.lt_of_lt_of_le hk hb.size) (fun e => by have := hl k e.symm; omega)⟩
theorem bv_call (a : Option Addr) (l cap : Nat) (V : Nat → Int) (c : Option Addr) (n cap' : Nat) (B : Nat → Bool) (w : World) (x : Int) (hx : bvI l V n B = x) (hd : IntsAt w a l V) (hl : l ≤ 1048576) (hW : ∀ i, i < l → W64 (V i)) (he : BlsAt w c n B) (hn : n ≤ 1048576) :
    Calls Try.prog 8 #[.slice c n cap', .slice a l cap] w fun e w' => e = .returned (.int .i64 x) ∧ w' = w := by
  subst hx; exact iBitsVal_any _ _ _ _ _ _ _ _ _ hd hl hW he hn

namespace bVal
set_option maxHeartbeats 2000000 in
theorem walk (code : Option Addr) (lencode capcode : Nat) (zcode : List Int) (w : World) (wcode : IsRow .u8 w code lencode capcode zcode) :
    Calls Try.prog 4 #[.slice code lencode capcode] w fun e w' => e = .returned (.bool true) ∧ Below w.heap.size w w' := by
  obtain ⟨hby, hlc, hcm⟩ := wcode.byts
  by_cases hl : lencode ≤ 1048576
  · go_enter Try.func4, Try.ntmps4
    go_wp2_with fail
    refine (drawBitsVal_any _ _ _ _ hl hlc hcm hby).mono ?_
    rintro e w1 ⟨q, N, k, g, n, cap, L, rfl, hN, hn, hnc, hg, hL, hll, hV, hI, BL⟩
    have HX : Hid (∀ i, i < n → -6 ≤ at0 L i ∧ at0 L i ≤ 6) := fun i hi => hL _ (at0_mem (by omega))
    have HL := hide hll
    have Y := hide hV
    have I := hide hI
    clear hV hI hL hll wcode hby
    generalize vls N k = B at *
    obtain ⟨V, hVe⟩ : ∃ V, V = at0 L := ⟨_, rfl⟩
    rw [← hVe] at HX I
    clear hVe HL L
    have HW : Hid (∀ i, i < n → W64 (V i)) := fun i hi => by have := unhide HX i hi; unfold W64; omega
    have IA : Hid (IntsAt w1 (some ⟨g, 0, none⟩) n V) := Or.inr ⟨_, _, rfl, hg, unhide I⟩
    obtain ⟨y, hy⟩ : ∃ y, bvI n V N B = y := ⟨_, rfl⟩
    go_wp2_with fail
    refine (bv_call _ _ _ _ _ _ _ _ _ y hy (unhide IA) (by omega) (unhide HW) (unhide Y) (by omega)).mono ?_
    rintro e w2 ⟨rfl, rfl⟩
    have hsy : Calls Try.prog 5 #[.slice (some ⟨q, 0, none⟩) N N, .slice (some ⟨g, 0, none⟩) n cap] w2 fun e w' => e = .returned (.int .i64 y) ∧ w' = w2 := by
      subst hy; exact sBitsVal_any _ _ _ _ _ _ _ _ _ (unhide IA) (by omega) (unhide HW) (unhide Y) (by omega)
    have SY := hide hsy
    have HY := hide hy
    clear hsy hy
    have kb : (y != y) = false := by simp
    by_cases h4 : n ≤ 4
    · have hyb : 0 ≤ y ∧ y < 2 ^ n := by rw [← unhide HY]; exact bv_bd h4
      have h2n := two_small h4
      go_wp2_with fail
      refine (unhide SY).mono ?_
      rintro e w3 ⟨rfl, rfl⟩
      clear SY
      go_wp2
      obtain ⟨w4, hw4⟩ : ∃ v, v = w3.alloc (.cells #[] 3) := ⟨_, rfl⟩
      have b4 : Below w3.heap.size w3 w4 := by rw [hw4]; exact (Below.refl _ _).alloc (Nat.le_refl _) _
      have o4 : w4.ownsRow w3.heap.size 3 1 (.slice (some ⟨w3.heap.size, 0, none⟩) 0 0) 0 (icells []) := by rw [hw4]; exact own_new _ _ _
      rw [← hw4]
      have s4 := b4.size
      have hb1 := BL.size
      clear hw4
      go_loopw [9, 6, 7, 8] (fun i t al v wr => ∃ (k g' c : Nat) (L' : List Int), k ≤ n ∧ i = .int .i64 k ∧ t = .int .i64 (2 ^ k) ∧ al = .bool (allM N V k) ∧ v = .slice (some ⟨g', 0, none⟩) k c ∧ wr.ownsRow w3.heap.size 3 1 v k (icells L') ∧ (∀ i, i < k → at0 L' i = -V i) ∧ Below w3.heap.size w3 wr) (fun i _ _ _ _ => n - (intOf i).toNat)
      case atStart => exact ⟨0, _, 0, [], by omega, rfl, by simp, rfl, rfl, o4, fun i hi => by omega, b4⟩
      case round =>
        clear o4 b4 s4 w4
        obtain ⟨k, g', c, L', hk, rfl, rfl, rfl, rfl, ow, hLt, bl⟩ := hrel
        have OW := hide ow
        have HT := hide hLt
        have gl := (own_cap ow).2
        have gb := own_base ow
        have hll := owns_len ow
        have s5 := bl.size
        have IA5 : Hid (IntsAt wr (some ⟨g, 0, none⟩) n V) := (unhide IA).later bl
        have Y5 : Hid (BlsAt wr (some ⟨q, 0, none⟩) N B) := (unhide Y).later bl
        have I5 : Hid (Ints wr g 0 n V) := (unhide I).later bl
        clear ow hLt
        by_cases hlt : k < n
        · have d0 := unhide I5 k hlt
          rw [Nat.zero_add] at d0
          have hx := unhide HX k hlt
          have gg : g < wr.heap.size := by omega
          have h2k := two_small (show k ≤ 4 by omega)
          have HP : Hid ((2 : Int) ^ (k + 1) = 2 ^ k * 2) := Int.pow_succ _ _
          obtain ⟨g2, c2, w6, hrun, ow6, gr6, hg2⟩ := int_one wr w3.heap.size _ k L' (-V k) (unhide OW) (by omega) (by omega)
          have HR := hide hrun
          have OW6 := hide ow6
          have bl6 : Below w3.heap.size w3 w6 := below_own1 bl gr6 (fun j h => by simp [Value.ownBlock] at h; omega)
          have d6 : w6.cell? ⟨g, k, none⟩ = some (.int .i64 (V k)) := by have := ((unhide I).later bl6) k hlt; rwa [Nat.zero_add] at this
          have HT6 : Hid (∀ i, i < k + 1 → at0 (L' ++ [-V k]) i = -V i) := fun i hi => by
            by_cases e : i = k
            · subst e; unfold at0; rw [← hll]; simp
            · have := unhide HT i (by omega)
              unfold at0 at this ⊢
              rw [List.getD_eq_getElem?_getD, List.getElem?_append_left (by omega), ← List.getD_eq_getElem?_getD]; exact this
          have HA : Hid (allM N V (k + 1) = (allM N V k && mkB N (V k))) := rfl
          clear hrun ow6 gr6 hg2 OW bl
          generalize (2 : Int) ^ k = z at *
          cases ha : allM N V k
          · have HA2 : Hid (allM N V (k + 1) = false) := by rw [unhide HA, ha]; rfl
            clear HA ha
            generalize V k = x at *
            go_wp2_with (first | (at_builtin; refine wpList_append_run _ rfl (.tmp 40) (.tmp 46) 23 rfl _ _ _ _ rfl rfl (unhide HR) ?_))
            go_roundw
            case rel => exact ⟨k + 1, g2, c2, _, by omega, by go_num, congrArg (Value.int .i64) (unhide HP).symm, by first | exact congrArg Value.bool (unhide HA2).symm | (rw [unhide HA2]; exact congrArg Value.bool (by simp; omega)) | (rw [unhide HA2]; exact congrArg Value.bool (by simp [e0])), rfl, unhide OW6, unhide HT6, bl6⟩
            case measure => simp [intOf]; omega
          · rw [ha, Bool.true_and] at HA
            clear ha
            have wy : (V k = 0) ∨ (V k ≠ 0 ∧ (N : Int) < V k) ∨ (V k ≠ 0 ∧ V k ≤ N ∧ V k < -(N : Int)) ∨ (V k ≠ 0 ∧ V k ≤ N ∧ -(N : Int) ≤ V k) := by omega
            rcases wy with e0 | ⟨e0, e1⟩ | ⟨e0, e1, e2⟩ | ⟨e0, e1, e2⟩
            · have HA2 : Hid (allM N V (k + 1) = false) := by rw [unhide HA]; exact decide_eq_false (by omega)
              clear HA
              generalize V k = x at *
              subst e0
              go_wp2_with (first | (at_builtin; refine wpList_append_run _ rfl (.tmp 40) (.tmp 46) 23 rfl _ _ _ _ rfl rfl (unhide HR) ?_))
              go_roundw
              case rel => exact ⟨k + 1, g2, c2, _, by omega, by go_num, congrArg (Value.int .i64) (unhide HP).symm, by first | exact congrArg Value.bool (unhide HA2).symm | (rw [unhide HA2]; exact congrArg Value.bool (by simp; omega)) | (rw [unhide HA2]; exact congrArg Value.bool (by simp [e0])), rfl, unhide OW6, unhide HT6, bl6⟩
              case measure => simp [intOf]; omega
            · have HA2 : Hid (allM N V (k + 1) = false) := by rw [unhide HA]; exact decide_eq_false (by omega)
              clear HA
              generalize V k = x at *
              have f0 : (x == 0) = false := by simp [e0]
              go_wp2_with (first | (at_builtin; refine wpList_append_run _ rfl (.tmp 40) (.tmp 46) 23 rfl _ _ _ _ rfl rfl (unhide HR) ?_))
              go_roundw
              case rel => exact ⟨k + 1, g2, c2, _, by omega, by go_num, congrArg (Value.int .i64) (unhide HP).symm, by first | exact congrArg Value.bool (unhide HA2).symm | (rw [unhide HA2]; exact congrArg Value.bool (by simp; omega)) | (rw [unhide HA2]; exact congrArg Value.bool (by simp [e0])), rfl, unhide OW6, unhide HT6, bl6⟩
              case measure => simp [intOf]; omega
            · have HA2 : Hid (allM N V (k + 1) = false) := by rw [unhide HA]; exact decide_eq_false (by omega)
              clear HA
              generalize V k = x at *
              have f0 : (x == 0) = false := by simp [e0]
              go_wp2_with (first | (at_builtin; refine wpList_append_run _ rfl (.tmp 40) (.tmp 46) 23 rfl _ _ _ _ rfl rfl (unhide HR) ?_))
              go_roundw
              case rel => exact ⟨k + 1, g2, c2, _, by omega, by go_num, congrArg (Value.int .i64) (unhide HP).symm, by first | exact congrArg Value.bool (unhide HA2).symm | (rw [unhide HA2]; exact congrArg Value.bool (by simp; omega)) | (rw [unhide HA2]; exact congrArg Value.bool (by simp [e0])), rfl, unhide OW6, unhide HT6, bl6⟩
              case measure => simp [intOf]; omega
            · have HA2 : Hid (allM N V (k + 1) = true) := by rw [unhide HA]; exact decide_eq_true (by omega)
              clear HA
              generalize V k = x at *
              have f0 : (x == 0) = false := by simp [e0]
              go_wp2_with (first | (at_builtin; refine wpList_append_run _ rfl (.tmp 40) (.tmp 46) 23 rfl _ _ _ _ rfl rfl (unhide HR) ?_))
              go_roundw
              case rel => exact ⟨k + 1, g2, c2, _, by omega, by go_num, congrArg (Value.int .i64) (unhide HP).symm, by first | exact congrArg Value.bool (unhide HA2).symm | (rw [unhide HA2]; exact congrArg Value.bool (by simp; omega)) | (rw [unhide HA2]; exact congrArg Value.bool (by simp [e0])), rfl, unhide OW6, unhide HT6, bl6⟩
              case measure => simp [intOf]; omega
        · have e : k = n := by omega
          subst e
          have IA6 : Hid (IntsAt wr (some ⟨g', 0, none⟩) k (at0 L')) := own_at (unhide OW)
          have HW6 : Hid (∀ i, i < k → W64 (at0 L' i)) := fun i hi => by rw [unhide HT i hi]; have := unhide HX i hi; unfold W64; omega
          have BL2 : Below w.heap.size w wr := BL.trans (bl.mono hb1)
          have HB : Hid (allM N V k = true → bvI k (at0 L') N B = 2 ^ k - 1 - y) := fun ha => by rw [← unhide HY]; exact bv_turn h4 ha (unhide HT)
          clear bl BL HT OW
          obtain ⟨z, hz⟩ : ∃ z, z = (2 : Int) ^ k := ⟨_, rfl⟩
          rw [← hz] at hyb h2n HB
          rw [← hz]
          clear hz
          obtain ⟨hy0, hyz⟩ := hyb
          rcases Nat.eq_zero_or_pos k with e0 | hp
          · have k0 : (k : Int) = 0 := by omega
            clear e0
            go_wp2
            go_quiet (fail)
            obtain ⟨wf, hwf⟩ : ∃ v, v = wr.drewN nq := ⟨_, rfl⟩
            have Y6 : Hid (BlsAt wf (some ⟨q, 0, none⟩) N B) := by rw [hwf]; exact unhide Y5
            have IA7 : Hid (IntsAt wf (some ⟨g', 0, none⟩) k (at0 L')) := by rw [hwf]; exact unhide IA6
            have BL3 : Below w.heap.size w wf := by rw [hwf]; first | exact BL2 | exact below_drewN BL2 _
            rw [← hwf]
            clear hwf
            cases ha : allM N V k
            · go_wp2
              go_ret
              exact ⟨rfl, BL3⟩
            · have hb3 := unhide HB ha
              have k3 : (z - 1 - y == z - 1 - y) = true := by simp
              go_wp2_with fail
              refine (bv_call _ _ _ _ _ _ _ _ _ (z - 1 - y) hb3 (unhide IA7) (by omega) (unhide HW6) (unhide Y6) (by omega)).mono ?_
              rintro e w9 ⟨rfl, rfl⟩
              go_wp2
              go_ret
              exact ⟨ret_bool (by first | rfl | (simp; done)), BL3⟩
          · obtain ⟨p, rfl⟩ : ∃ p, k = p + 1 := ⟨k - 1, by omega⟩
            obtain ⟨x1, hx1⟩ : ∃ x, bvI 1 V N B = x := ⟨_, rfl⟩
            obtain ⟨x2, hx2⟩ : ∃ x, bvI p (fun i => V (i + 1)) N B = x := ⟨_, rfl⟩
            have hs : y = x1 + 2 * x2 := by rw [← unhide HY, bv_split h4, hx1, hx2]
            have hb1 := bv_bd (n := 1) (N := N) (V := V) (B := B) (by omega)
            have hb2 := bv_bd (n := p) (N := N) (V := fun i => V (i + 1)) (B := B) (by omega)
            have h2p := two_small (show p ≤ 4 by omega)
            rw [hx1] at hb1
            rw [hx2] at hb2
            have hb1' : 0 ≤ x1 ∧ x1 ≤ 16 := by have : (2 : Int) ^ 1 = 2 := rfl; omega
            have hb2' : 0 ≤ x2 ∧ x2 ≤ 16 := by omega
            have kb2 : (y != x1 + 2 * x2) = false := by rw [← hs]; simp
            have H1 := hide hx1
            have H2 := hide hx2
            have J1 : Hid (IntsAt wr (some ⟨g, 0, none⟩) 1 V) := Or.inr ⟨_, _, rfl, by omega, fun i hi => unhide I5 i (by omega)⟩
            have W1 : Hid (∀ i, i < 1 → W64 (V i)) := fun i hi => unhide HW i (by omega)
            have W2 : Hid (∀ i, i < p → W64 (V (i + 1))) := fun i hi => unhide HW (i + 1) (by omega)
            obtain ⟨c', hc'⟩ : ∃ c', cap = c' + 1 := ⟨cap - 1, by omega⟩
            subst hc'
            clear hs hx1 hx2 hb1 hb2 h2p
            by_cases hc0 : c' = 0
            · have J2 : Hid (IntsAt wr (some ⟨g, 0, none⟩) p (fun i => V (i + 1))) := Or.inl (by omega)
              subst hc0
              have hp0 : p = 0 := by omega
              subst hp0
              go_wp2
              go_quiet (first | (go_at_call 8; exact Calls.quiet_of_same (bv_call _ _ _ _ _ _ _ _ _ x1 (unhide H1) (unhide J1) (by omega) (unhide W1) (unhide Y5) (by omega))) | (go_at_call 8; exact Calls.quiet_of_same (bv_call _ _ _ _ _ _ _ _ _ x2 (unhide H2) (unhide J2) (by omega) (unhide W2) (unhide Y5) (by omega))))
              obtain ⟨wf, hwf⟩ : ∃ v, v = wr.drewN nq := ⟨_, rfl⟩
              have Y6 : Hid (BlsAt wf (some ⟨q, 0, none⟩) N B) := by rw [hwf]; exact unhide Y5
              have IA7 : Hid (IntsAt wf (some ⟨g', 0, none⟩) (0 + 1) (at0 L')) := by rw [hwf]; exact unhide IA6
              have BL3 : Below w.heap.size w wf := by rw [hwf]; first | exact BL2 | exact below_drewN BL2 _
              rw [← hwf]
              clear hwf
              cases ha : allM N V (0 + 1)
              · go_wp2
                go_ret
                exact ⟨rfl, BL3⟩
              · have hb3 := unhide HB ha
                have k3 : (z - 1 - y == z - 1 - y) = true := by simp
                go_wp2_with fail
                refine (bv_call _ _ _ _ _ _ _ _ _ (z - 1 - y) hb3 (unhide IA7) (by omega) (unhide HW6) (unhide Y6) (by omega)).mono ?_
                rintro e w9 ⟨rfl, rfl⟩
                go_wp2
                go_ret
                exact ⟨ret_bool (by first | rfl | (simp; done)), BL3⟩
            · have J2 : Hid (IntsAt wr (some ⟨g, 1, none⟩) p (fun i => V (i + 1))) := Or.inr ⟨_, _, rfl, by omega, fun i hi => by
                have h6 := unhide I5 (i + 1) (by omega)
                rw [Nat.zero_add, Nat.add_comm i 1] at h6
                show wr.cell? _ = some (.int .i64 (V (i + 1)))
                rw [show V (i + 1) = V (1 + i) by rw [Nat.add_comm]]; exact h6⟩
              go_wp2
              go_quiet (first | (go_at_call 8; exact Calls.quiet_of_same (bv_call _ _ _ _ _ _ _ _ _ x1 (unhide H1) (unhide J1) (by omega) (unhide W1) (unhide Y5) (by omega))) | (go_at_call 8; exact Calls.quiet_of_same (bv_call _ _ _ _ _ _ _ _ _ x2 (unhide H2) (unhide J2) (by omega) (unhide W2) (unhide Y5) (by omega))))
              obtain ⟨wf, hwf⟩ : ∃ v, v = wr.drewN nq := ⟨_, rfl⟩
              have Y6 : Hid (BlsAt wf (some ⟨q, 0, none⟩) N B) := by rw [hwf]; exact unhide Y5
              have IA7 : Hid (IntsAt wf (some ⟨g', 0, none⟩) (p + 1) (at0 L')) := by rw [hwf]; exact unhide IA6
              have BL3 : Below w.heap.size w wf := by rw [hwf]; first | exact BL2 | exact below_drewN BL2 _
              rw [← hwf]
              clear hwf
              cases ha : allM N V (p + 1)
              · go_wp2
                go_ret
                exact ⟨rfl, BL3⟩
              · have hb3 := unhide HB ha
                have k3 : (z - 1 - y == z - 1 - y) = true := by simp
                go_wp2_with fail
                refine (bv_call _ _ _ _ _ _ _ _ _ (z - 1 - y) hb3 (unhide IA7) (by omega) (unhide HW6) (unhide Y6) (by omega)).mono ?_
                rintro e w9 ⟨rfl, rfl⟩
                go_wp2
                go_ret
                exact ⟨ret_bool (by first | rfl | (simp; done)), BL3⟩
    · have hy0 : y = 0 := by rw [← unhide HY]; exact bvI_no h4
      subst hy0
      go_wp2_with fail
      refine (unhide SY).mono ?_
      rintro e w3 ⟨rfl, rfl⟩
      go_wp2
      go_ret
      exact ⟨rfl, BL⟩
  · go_enter Try.func4, Try.ntmps4
    go_wp2
    go_ret
    exact ⟨rfl, (by repeat (first | exact Below.refl _ _ | assumption | refine below_drewN ?_ _ | refine Below.drew ?_ | refine Below.alloc ?_ (by first | exact Nat.le_refl _ | exact Below.size (by assumption) | (simp; done) | (simp; omega)) _ | refine Below.setCell ?_ (by first | exact Nat.le_refl _ | exact Below.size (by assumption) | (simp; done) | (simp; omega)) _ | refine Below.trans ?_ (by assumption)))⟩

set_option maxRecDepth 100000 in
theorem lifted (os : Os) (started : os.Started) (H : Type) (enc : TypeId × Value → H) :
    ReturnsInHanded {} Try.checked os 4 .any (Rows.fnBitsValSpec.pre6 enc Try.prog Try.f4 Rows.fnBitsValRow.domain false) (Rows.fnBitsValSpec.post enc Try.prog Try.f4 false true false false) := by
  refine returnsInHanded_of_change (C := Try.checked) own started (by kernel_rfl) Try.func4
    (ChangeSpec.witness6 (enc := enc) (C := Try.checked) false ⟨#[], #[.slice none 0 0], []⟩ 8 (by kernel_rfl) (by kernel_rfl) (by kernel_rfl) (by kernel_rfl)) ?_
  intro W base args ds gs before hval0 hW hcnd _
  have hval : ∀ (j : Nat) t v, Try.f4.params[j]? = some t → args[j]? = some v → Value.okWide Try.prog W .any base t v := hval0
  have hW' := hW
  obtain ⟨p, q, hA0, hV, rfl, hfz, hnd⟩ := hW
  have hA : DataW.TrodAll enc Try.prog W 0 (fun _ => true) true Try.f4.params.toList args.toList ds p := hA0
  rw [Try.params4] at hA hval
  obtain ⟨v0, vs0, d0, ds0, p0, q0, hargs, rfl, rfl, h0, r0⟩ := trodAll_cons hA
  obtain ⟨rfl, rfl, rfl⟩ := trodAll_nil r0
  obtain rfl : args = #[v0] := by cases args; simp_all
  obtain ⟨rfl, rfl⟩ := trodVars_none hV
  obtain ⟨code, lencode, capcode, rfl⟩ := okWide_slice Try.underlying30 (hval 0 30 v0 rfl rfl)
  have k0 := h0
  have lt0 : ∀ x ∈ p0, x.block < W.heap.size := by obtain ⟨m, hm⟩ := k0; exact DataW.trod_lt m _ _ _ hm
  obtain ⟨zcode, wcode⟩ : ∃ zs, IsRow .u8 W code lencode capcode zs := by
    obtain ⟨fuel, hf⟩ := h0
    rcases open_ints Try.underlying30 Try.underlying5 (by kernel_rfl) hf with ⟨hcs, _⟩ | ⟨x, l, c, zs, hcs, _, hl, hm, hz, _, hcell, hwz⟩
    · simp [Value.cells] at hcs
      obtain ⟨rfl, rfl, rfl⟩ := hcs
      exact ⟨[], .inl ⟨rfl, rfl, rfl, rfl⟩⟩
    · simp [Value.cells] at hcs
      obtain ⟨rfl, rfl, rfl⟩ := hcs
      exact ⟨zs, .inr ⟨_, rfl, hl, hm, by simpa using hz, hcell, hwz⟩⟩
  clear hA0 hval0
  refine (walk code lencode capcode zcode W wcode).mono fun e W' ⟨he, bel⟩ => ?_
  subst he
  exact ⟨_, rfl, _, _, _, [], _, [], hW', trodAll_mk1 (shut_bool Try.underlying4 _), (trodAll_cons_mk (Below.trod laidOut (by kernel_rfl) (of_decide_eq_true (by kernel_rfl)) k0 bel lt0) trodAll_mk0), rfl, bel.frame _, fun h => by cases h⟩

theorem over : Rows.fnBitsValRow.holds Try.pinned (OpenSpec.ofChange Rows.fnBitsValSpec) :=
  OpenClaim.holds_of_wide 4 Try.f4 rfl rfl rfl rfl rfl rfl rfl ⟨rfl, rfl, rfl, rfl, rfl⟩ rfl rfl rfl rfl rfl (by kernel_rfl) Try.func4 (by kernel_rfl)
    (of_decide_eq_true (by kernel_rfl)) (by unfold Func.isWrapper; first | (rw [if_pos (by decide +kernel)]; kernel_rfl) | (rw [if_neg (by decide +kernel)]; exact ⟨rfl, rfl⟩))
    (fun os started H enc _ => lifted os started H enc)
end bVal

theorem bVal_holds : Rows.FnBitsValSaid := bVal.over
#print axioms bVal_holds
end Go.Proofs.Ytlecioaglhlmiaa
