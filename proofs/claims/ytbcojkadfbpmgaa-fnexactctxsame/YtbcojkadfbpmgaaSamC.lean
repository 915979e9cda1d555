/- Whether two terms are one, of the program. -/
import Derived.Test.YtbcojkadfbpmgaaSamS
import Derived.Test.YtbcojkadfbpmgaaTrmC
namespace Go.Proofs.Ytbcojkadfbpmgaa
open Go.ChangeShapes Go.WideShapes Go.ChangeAt Go.RowKit Go.Joins
set_option linter.unusedVariables false

/-- A term as the only Kid. -/
def carrier (t : TT) : TT := .node 0 0 0 ByteArray.empty 1 (fun _ => t)
theorem carrier_N (t : TT) : (carrier t).N = t.N + 1 := by
  unfold carrier
  rw [TT.N_node]
  simp [sumN]
  omega
theorem carrier_same (t u : TT) : LSame (carrier t) (carrier u) ↔ t.Same u := by
  constructor
  · intro h; exact h 0 (by simp [carrier, TT.n])
  · intro h i hi; exact h
theorem carrier_in {w : World} {lo hi b : Nat} {t : TT} {ad : Option Addr} {cp : Nat} (h1 : lo ≤ b) (h2 : b < hi) (h : Five w b 0 t ad cp) (hc : t.n ≤ cp) (hin : t.In w lo hi ad) : (carrier t).In w lo hi (some ⟨b, 0, none⟩) :=
  Or.inr ⟨b, 0, rfl, h1, h2, fun _ => ad, fun _ => cp, fun i hi => by
    obtain rfl : i = 0 := by omega
    exact ⟨by simpa using h, hc, hin⟩⟩
/-- The walk's state between two rounds, and within one. -/
def SOut (X : Prop) (lo h0 hi MB base N0 : Nat) (root : Fr) (v : Value) (w : World) (m : Nat) : Prop :=
  ∃ L M, msr L = m ∧ m ≤ N0 ∧ Stk w base v L ∧ Kept w lo h0 hi MB L M ∧ I1 L (root :: M) ∧ I2 X L
def SIn (X : Prop) (lo h0 hi MB base ms P7 : Nat) (root q : Fr) (k : Nat) (v : Value) (w : World) : Prop :=
  ∃ L M g cap, v = .slice (some ⟨g, 0, none⟩) L.length cap ∧ g ≠ P7 ∧ msr L ≤ ms + sumN (fun j => (q.t.kid j).N) k ∧ Stk w base v L ∧ Kept w lo h0 hi MB (q :: L) M ∧ K1 q k L (root :: M) ∧ I2 X L
theorem fit_kid {t : TT} (h : t.Fit 1048576) {i : Nat} (hi : i < t.n) : (t.kid i).Fit 1048576 := by
  cases t with
  | nil => simp [TT.n] at hi
  | node op a b s n kid => exact h.2.2 i hi
theorem fit_n {t : TT} (h : t.Fit 1048576) : t.n ≤ 1048576 := by
  cases t with
  | nil => simp [TT.n]
  | node op a b s n kid => exact h.1
set_option maxHeartbeats 16000000 in
theorem iSame_any (lo hi0 : Nat) (A B : TT) (ad ad' : Option Addr) (cp cp' : Nat) (w : World) (hA : A.In w lo hi0 ad) (hB : B.In w lo hi0 ad') (hcA : A.n ≤ cp) (hcB : B.n ≤ cp') (hp : Pl w lo hi0) (hhi : hi0 ≤ w.heap.size) (hlo : lo ≤ hi0) (hf : A.Fit 1048576) (hN : A.N ≤ 1048577) :
    Calls Try.prog 34 #[.agg #[.int .i64 A.op, .int .i64 A.a, .int .i64 A.b, .string A.s, .slice ad A.n cp], .agg #[.int .i64 B.op, .int .i64 B.a, .int .i64 B.b, .string B.s, .slice ad' B.n cp']] w fun e w' => e = .returned (.bool (sameB A B)) ∧ Below w.heap.size w w' := by
  have hmm := @run_makeMap Try.prog
  go_enter Try.func34, Try.ntmps34
  go_wp2
  clear hmm
  obtain ⟨w1, hw1⟩ : ∃ v, v = ((((((w.alloc (.cells #[.int .i64 A.op, .int .i64 A.a, .int .i64 A.b, .string A.s, .slice ad A.n cp] 51)).alloc (.cells #[.int .i64 B.op, .int .i64 B.a, .int .i64 B.b, .string B.s, .slice ad' B.n cp'] 51)).alloc (.map #[] 0)).alloc (.cells #[.int .i64 A.op, .int .i64 A.a, .int .i64 A.b, .string A.s, .slice ad A.n cp] 51)).alloc (.cells #[.int .i64 B.op, .int .i64 B.a, .int .i64 B.b, .string B.s, .slice ad' B.n cp'] 51)).alloc (.cells #[.slice (some ⟨w.heap.size + 1 + 1 + 1, 0, none⟩) 1 1, .slice (some ⟨w.heap.size + 1 + 1 + 1 + 1, 0, none⟩) 1 1] 69)) := ⟨_, rfl⟩
  rw [← hw1]
  obtain ⟨s, hs⟩ : ∃ s, s = w.heap.size := ⟨_, rfl⟩
  have b1 : Below w.heap.size w w1 := by
    rw [hw1]
    exact ((((((Below.refl _ _).alloc (by simp) _).alloc (by simp <;> omega) _).alloc (by simp <;> omega) _).alloc (by simp <;> omega) _).alloc (by simp <;> omega) _).alloc (by simp <;> omega) _
  have FA : Five w1 (s + 1 + 1 + 1) 0 A ad cp := by rw [hw1, hs]; exact ⟨by simp [go_sem], by simp [go_sem], by simp [go_sem], by simp [go_sem], by simp [go_sem]⟩
  have FB : Five w1 (s + 1 + 1 + 1 + 1) 0 B ad' cp' := by rw [hw1, hs]; exact ⟨by simp [go_sem], by simp [go_sem], by simp [go_sem], by simp [go_sem], by simp [go_sem]⟩
  obtain ⟨root, hroot⟩ : ∃ r : Fr, r = ⟨carrier A, carrier B, some ⟨s + 1 + 1 + 1, 0, none⟩, some ⟨s + 1 + 1 + 1 + 1, 0, none⟩, 1, 1⟩ := ⟨_, rfl⟩
  have hw1s : w1.heap.size = s + 6 := by rw [hw1, hs]; simp
  have hrt : root.same ↔ A.Same B := by rw [hroot]; exact carrier_same A B
  have hst : SOut (A.Same B) lo hi0 (s + 5) (s + 1 + 1) (s + 5) (A.N + 1) root (.slice (some ⟨s + 1 + 1 + 1 + 1 + 1, 0, none⟩) 1 1) w1 (A.N + 1) := by
    have lroot : Lk w1 lo hi0 (s + 5) root := by
      rw [hroot]
      refine ⟨rfl, TT.N_node _ _ _ _ _ _, fun i hi => ?_⟩
      have hi' : i < 1 := hi
      obtain rfl : i = 0 := by omega
      exact ⟨s + 1 + 1 + 1, 0, s + 1 + 1 + 1 + 1, 0, ad, cp, ad', cp', rfl, rfl, by omega, by omega, FA, FB, hA.later (b1.mono hhi), hB.later (b1.mono hhi)⟩
    have hm : w1.heap[s + 1 + 1]? = some (.map #[] 0) := by
      rw [hw1, hs]
      rw [(World.grownBy_alloc _ _ none).block _ (by simp) (by simp), (World.grownBy_alloc _ _ none).block _ (by simp) (by simp), (World.grownBy_alloc _ _ none).block _ (by simp) (by simp)]
      have := heap_alloc_new ((w.alloc (.cells #[.int .i64 A.op, .int .i64 A.a, .int .i64 A.b, .string A.s, .slice ad A.n cp] 51)).alloc (.cells #[.int .i64 B.op, .int .i64 B.a, .int .i64 B.b, .string B.s, .slice ad' B.n cp'] 51)) (.map #[] 0)
      simpa using this
    have hM : Met w1 (s + 1 + 1) [] := ⟨#[], 0, hm, fun e he => by simp at he⟩
    refine ⟨[root], [], by rw [hroot]; simp [msr, carrier_N], Nat.le_refl _, ?_, ⟨fun f hf' => ?_, fun f hf' => by simp at hf', hp.later (b1.mono hhi), hM, by omega, by omega⟩, ?_, ?_⟩
    · refine ⟨by rw [flat_len], .inr ⟨s + 1 + 1 + 1 + 1 + 1, 1, #[.slice (some ⟨s + 1 + 1 + 1, 0, none⟩) 1 1, .slice (some ⟨s + 1 + 1 + 1 + 1, 0, none⟩) 1 1], rfl, by omega, ?_, by simp, by unfold maxLen; omega, rfl, by rw [hroot]; rfl⟩⟩
      rw [hw1, hs]
      have := heap_alloc_new (((((w.alloc (.cells #[.int .i64 A.op, .int .i64 A.a, .int .i64 A.b, .string A.s, .slice ad A.n cp] 51)).alloc (.cells #[.int .i64 B.op, .int .i64 B.a, .int .i64 B.b, .string B.s, .slice ad' B.n cp'] 51)).alloc (.map #[] 0)).alloc (.cells #[.int .i64 A.op, .int .i64 A.a, .int .i64 A.b, .string A.s, .slice ad A.n cp] 51)).alloc (.cells #[.int .i64 B.op, .int .i64 B.a, .int .i64 B.b, .string B.s, .slice ad' B.n cp'] 51)) (.cells #[.slice (some ⟨w.heap.size + 1 + 1 + 1, 0, none⟩) 1 1, .slice (some ⟨w.heap.size + 1 + 1 + 1 + 1, 0, none⟩) 1 1] 69)
      simpa using this
    · simp only [List.mem_singleton] at hf'
      subst hf'
      exact ⟨lroot, by rw [hroot]; exact ⟨by omega, by simp, fun i hi => hf⟩⟩
    · intro p hp' hns
      simp only [List.mem_singleton] at hp'
      subst hp'
      exact ⟨p, by simp, hns, Nat.le_refl _⟩
    · intro q hq hns
      simp only [List.mem_singleton] at hq
      subst hq
      exact fun h => hns (hrt.2 h)
  rw [← hs]
  obtain ⟨MB, hMB⟩ : ∃ x, x = s + 1 + 1 := ⟨_, rfl⟩
  rw [← hMB] at hst ⊢
  have hMs : w.heap.size ≤ MB := by omega
  have hMb : MB < s + 5 := by omega
  have hbs : w.heap.size ≤ s + 5 := by omega
  generalize s + 5 = base at hst hMb hbs
  have HRT := hide hrt
  have HS : Hid (s = w.heap.size) := hs
  clear hw1 hw1s hroot hMB FA FB hA hB hp hcA hcB hrt hs
  go_loopw [6] (fun v wr => (∃ m, SOut (A.Same B) lo hi0 base MB base (A.N + 1) root v wr m) ∧ Below w.heap.size w wr) (fun v wr => least (SOut (A.Same B) lo hi0 base MB base (A.N + 1) root v wr))
  case atStart => exact ⟨⟨_, hst⟩, b1⟩
  case round =>
    clear hst b1 w1
    obtain ⟨hex, hbel⟩ := hrel
    have hs := least_at hex
    clear hex
    obtain ⟨mm, hmm⟩ : ∃ x, x = least (SOut (A.Same B) lo hi0 base MB base (A.N + 1) root u6 wr) := ⟨_, rfl⟩
    rw [← hmm] at hs
    have HMM := hide hmm
    clear hmm
    obtain ⟨L0, M0, hm, hmN, hstk, hkept, hi1, hi2⟩ := hs
    rcases List.eq_nil_or_concat L0 with rfl | ⟨L, q, rfl⟩
    · obtain ⟨a0, cap0, rfl⟩ := hstk.nil
      have HN : Hid (sameB A B = true) := sameB_yes ((unhide HRT).1 (Classical.byContradiction fun h => by
        obtain ⟨r, hr, _⟩ := hi1 root (by simp) h
        simp at hr))
      clear hstk hkept hi1 hi2
      go_wp2
      rw [unhide HN]
      go_ret
      exact ⟨rfl, hbel⟩
    · rw [List.concat_eq_append] at hm hstk hkept hi1 hi2
      obtain ⟨g, cap0, rfl, hbg, hgl, hcap, c0, c1, hstk'⟩ := hstk.top
      have HKP := hide (hkept.sub (L' := q :: L) (fun f hf => by rcases List.mem_cons.1 hf with rfl | hf <;> simp [*]))
      have HK0 := hide (K_start hi1)
      have HI2 : Hid (I2 (A.Same B) L) := fun r hr => hi2 r (by simp [hr])
      have HQ2 : Hid (¬ q.same → ¬ A.Same B) := hi2 q (by simp)
      have HST := hide hstk'
      have hms : msr L + q.t.N = mm := by rw [← msr_snoc]; exact hm
      have hqk := (hkept.1 q (by simp)).1
      have hq1 := hqk.1
      have hq2 := hqk.2.1
      have hqn := fit_n (hkept.1 q (by simp)).2
      have HQF := hide (hkept.1 q (by simp)).2
      have hwb : base ≤ wr.heap.size := hkept.2.2.2.2.1
      have hle : L.length ≤ msr L := msr_len L (fun f hf => hkept.1 f (by simp [hf]))
      clear hm hstk hkept hi1 hi2 hstk' hqk
      obtain ⟨n, hn⟩ : ∃ n, n = L.length := ⟨_, rfl⟩
      rw [← hn] at c0 c1 hcap hle HMM ⊢
      have HLN := hide hn
      clear hn
      have kn : (((n + 1 : Nat) : Int) - 1) = (n : Int) := by omega
      obtain ⟨m, hqm⟩ : ∃ m, m = q.t.n := ⟨_, rfl⟩
      have hqu : q.u.n = m := by omega
      rw [hqu] at c1
      rw [← hqm] at c0 hqn hq2
      have HQM := hide hqm
      have HQU := hide hqu
      clear hq1 hqm hqu
      obtain ⟨qad, hqa⟩ : ∃ x, x = q.ad := ⟨_, rfl⟩
      obtain ⟨qad', hqa'⟩ : ∃ x, x = q.ad' := ⟨_, rfl⟩
      obtain ⟨qcp, hqc⟩ : ∃ x, x = q.cp := ⟨_, rfl⟩
      obtain ⟨qcp', hqc'⟩ : ∃ x, x = q.cp' := ⟨_, rfl⟩
      rw [← hqa, ← hqc] at c0
      rw [← hqa', ← hqc'] at c1
      have HQA := hide hqa
      have HQA' := hide hqa'
      clear hqa hqa' hqc hqc'
      go_wp2
      obtain ⟨wp, hwp⟩ : ∃ v, v = wr.alloc (.cells #[.slice qad m qcp, .slice qad' m qcp'] 69) := ⟨_, rfl⟩
      have bp : Below wr.heap.size wr wp := by rw [hwp]; exact (Below.refl _ _).alloc (Nat.le_refl _) _
      have p1 : wp.cell? ⟨wr.heap.size, 1, none⟩ = some (.slice qad' m qcp') := by rw [hwp]; simp [go_sem]
      rw [← hwp]
      obtain ⟨P7, hP7⟩ : ∃ x, x = wr.heap.size := ⟨_, rfl⟩
      have hgP : g ≠ P7 := by omega
      have hMP : MB ≠ P7 := by omega
      have hsP : w.heap.size ≤ P7 := by rw [hP7]; exact hbel.size
      have bP : Below w.heap.size w wp := hbel.trans (bp.mono hbel.size)
      rw [← hP7] at p1 ⊢
      have hIn : SIn (A.Same B) lo hi0 base MB base (msr L) P7 root q 0 (.slice (some ⟨g, 0, none⟩) n cap0) wp :=
        ⟨L, M0, g, cap0, by rw [unhide HLN], hgP, by simp [sumN], Stk.keep (row := none) (by rw [unhide HLN]; exact unhide HST) (grown_of_below bp) (fun k h => by cases h), (unhide HKP).below bp, unhide HK0, unhide HI2⟩
      clear HST HKP HK0 HI2 HLN c0 c1 hcap hgl hwp bp hP7 kn
      go_loopw [36, 6] (fun i v wx => ∃ k : Nat, k ≤ m ∧ i = .int .i64 k ∧ SIn (A.Same B) lo hi0 base MB base (msr L) P7 root q k v wx ∧ wx.cell? ⟨P7, 1, none⟩ = some (.slice qad' m qcp') ∧ Below w.heap.size w wx) (fun i _ _ => m - (intOf i).toNat)
      case atStart => exact ⟨0, by omega, rfl, hIn, p1, bP⟩
      case round =>
        clear hIn p1 bP wp hbel
        obtain ⟨k, hk, rfl, hin, p1, hbel⟩ := hrel
        obtain ⟨L1, M1, g1, cap1, rfl, hg1, hm1, hst1, hkp1, hk1, hi2⟩ := hin
        by_cases hlt : k < m
        · obtain ⟨bl, off, bl', off', AD, CP, AD', CP', e1, e2, l1, l2, F1, F2, J1, J2⟩ := (hkp1.1 q (by simp)).1.2.2 k (by rw [← unhide HQM]; exact hlt)
          obtain rfl : qad = some ⟨bl, off, none⟩ := (unhide HQA).trans e1
          obtain rfl : qad' = some ⟨bl', off', none⟩ := (unhide HQA').trans e2
          have HFT := hide (fit_kid (unhide HQF) (i := k) (by rw [← unhide HQM]; exact hlt))
          have hsum : sumN (fun j => (q.t.kid j).N) (k + 1) = sumN (fun j => (q.t.kid j).N) k + (q.t.kid k).N := rfl
          have hsm := sumN_mono (fun j => (q.t.kid j).N) (show k + 1 ≤ m by omega)
          have hlen1 : L1.length ≤ msr L1 := msr_len L1 (fun f hf => hkp1.1 f (by simp [hf]))
          have hwb1 : base ≤ wr.heap.size := hkp1.2.2.2.2.1
          have hl1 : bl < wr.heap.size := by omega
          have hl2 : bl' < wr.heap.size := by omega
          have hlP : P7 < wr.heap.size := World.block_lt_of_cell? _ _ p1
          have hg1l : base ≤ g1 ∧ g1 < wr.heap.size := World.ownsRow.lt hst1 g1 rfl
          have hM1l : MB < wr.heap.size := hkp1.2.2.2.1.lt
          have HT : Hid (∀ h : ¬ (q.t.kid k).Same (q.u.kid k), sameB A B = false) := fun h => sameB_no (unhide HQ2 (fun hq => h (hq k (by rw [← unhide HQM]; exact hlt))))
          obtain ⟨T, hT⟩ : ∃ x, x = q.t.kid k := ⟨_, rfl⟩
          obtain ⟨U, hU⟩ : ∃ x, x = q.u.kid k := ⟨_, rfl⟩
          rw [← hT] at F1 J1 HFT hsum HT
          rw [← hU] at F2 J2 HT
          have HTT := hide hT
          have HUU := hide hU
          have HST := hide hst1
          have HKP := hide hkp1
          have HK1 := hide hk1
          have HI2 := hide hi2
          have HJ1 := hide J1
          have HJ2 := hide J2
          obtain ⟨nl, hnl⟩ : ∃ x, x = L1.length := ⟨_, rfl⟩
          rw [← hnl] at hlen1 ⊢
          have HNL := hide hnl
          clear hT hU hst1 hkp1 hk1 hi2 J1 J2 e1 e2 hnl
          obtain ⟨c0, c1, c2, c3, c4⟩ := id F1
          obtain ⟨d0, d1, d2, d3, d4⟩ := id F2
          have kPr : P7 ≠ wr.heap.size := by omega
          go_wp2_with fail
          obtain ⟨wo, hwo⟩ : ∃ v, v = (wr.alloc (.cells #[.int .i64 T.op, .int .i64 T.a, .int .i64 T.b, .string T.s, .slice AD T.n CP] 51)).alloc (.cells #[.int .i64 U.op, .int .i64 U.a, .int .i64 U.b, .string U.s, .slice AD' U.n CP'] 51) := ⟨_, rfl⟩
          have bo : Below wr.heap.size wr wo := by rw [hwo]; exact ((Below.refl _ _).alloc (Nat.le_refl _) _).alloc (by simp) _
          have G1 : Five wo wr.heap.size 0 T AD CP := by rw [hwo]; exact ⟨by simp [go_sem], by simp [go_sem], by simp [go_sem], by simp [go_sem], by simp [go_sem]⟩
          have G2 : Five wo (wr.heap.size + 1) 0 U AD' CP' := by rw [hwo]; exact ⟨by simp [go_sem], by simp [go_sem], by simp [go_sem], by simp [go_sem], by simp [go_sem]⟩
          have hwol : wo.heap.size = wr.heap.size + 2 := by rw [hwo]; simp
          rw [← hwo]
          refine (headSame_any _ _ _ _ _ _ _ _ _ _ _ _ _ _ _).mono ?_
          rintro e wh ⟨rfl, bh⟩
          have BW : Below wr.heap.size wr wh := bo.trans (bh.mono bo.size)
          have BL : Below w.heap.size w wh := hbel.trans (BW.mono hbel.size)
          replace G1 := G1.later bh
          replace G2 := G2.later bh
          have p1h := cell_later BW p1
          have hwhl : wr.heap.size + 2 ≤ wh.heap.size := by rw [← hwol]; exact bh.size
          clear hwo bo bh c0 c1 c2 c3 c4 d0 d1 d2 d3 d4 F1 F2
          obtain ⟨c0, c1, c2, c3, c4⟩ := id G1
          obtain ⟨d0, d1, d2, d3, d4⟩ := id G2
          obtain ⟨P9, hP9⟩ : ∃ x, x = wr.heap.size := ⟨_, rfl⟩
          obtain ⟨P10, hP10⟩ : ∃ x, x = wr.heap.size + 1 := ⟨_, rfl⟩
          have kP9 : P9 < P10 := by omega
          have kP10 : P10 < wh.heap.size := by omega
          have kP7 : P7 < P9 := by omega
          rw [← hP10] at d0 d1 d2 d3 d4
          rw [← hP9] at c0 c1 c2 c3 c4
          rw [← hP10, ← hP9]
          clear hP9 hP10 G1 G2
          cases hv : hsB T.op T.a T.b T.s U.op U.a U.b U.s
          · have HN := hide (unhide HT (fun h => by
              obtain ⟨h1, h2, h3, h4, _⟩ := (same_iff _ _).1 h
              rw [(hsB_iff _ _ _ _ _ _ _ _).2 ⟨h1, h2, h3, h4⟩] at hv
              cases hv))
            go_wp2
            rw [unhide HN]
            go_ret
            exact ⟨rfl, BL⟩
          · obtain ⟨v1, v2, v3, v4⟩ := (hsB_iff _ _ _ _ _ _ _ _).1 hv
            by_cases hnn : T.n = U.n
            · have knn : ((T.n : Int) != (U.n : Int)) = false := by simp; omega
              have HV : Hid (T.op = U.op ∧ T.a = U.a ∧ T.b = U.b ∧ T.s.toList = U.s.toList ∧ T.n = U.n) := ⟨v1, v2, v3, v4, hnn⟩
              clear v1 v2 v3 v4 hnn
              go_wp2_with fail
              obtain ⟨wn, hwn⟩ : ∃ v, v = wh.alloc (.cells #[.slice AD T.n CP, .slice AD' U.n CP'] 69) := ⟨_, rfl⟩
              have bn : Below wh.heap.size wh wn := by rw [hwn]; exact (Below.refl _ _).alloc (Nat.le_refl _) _
              have r0 : wn.cell? ⟨wh.heap.size, 0, none⟩ = some (.slice AD T.n CP) := by rw [hwn]; simp [go_sem]
              have r1 : wn.cell? ⟨wh.heap.size, 1, none⟩ = some (.slice AD' U.n CP') := by rw [hwn]; simp [go_sem]
              rw [← hwn]
              have BN : Below wr.heap.size wr wn := BW.trans (bn.mono BW.size)
              have BLn : Below w.heap.size w wn := BL.trans (bn.mono BL.size)
              have p1n := cell_later bn p1h
              have lr0 : wh.heap.size < wn.heap.size := World.block_lt_of_cell? _ _ r0
              have hP7n : P7 < wn.heap.size := World.block_lt_of_cell? _ _ p1n
              have KN := (unhide HKP).below BN
              obtain ⟨f, hf'⟩ : ∃ f : Fr, f = ⟨T, U, AD, AD', CP, CP'⟩ := ⟨_, rfl⟩
              have lf : Lies wn lo hi0 f := by
                rw [hf']
                exact ⟨(unhide HJ1).later (BN.mono (by have := KN.2.2.2.2.2; omega)), (unhide HJ2).later (BN.mono (by have := KN.2.2.2.2.2; omega)), (unhide HV).2.2.2.2⟩
              have fT : f.t = q.t.kid k := by rw [hf']; exact unhide HTT
              have fU : f.u = q.u.kid k := by rw [hf']; exact unhide HUU
              have fF : f.t.Fit 1048576 := by rw [hf']; exact unhide HFT
              have fH : f.t.op = f.u.op ∧ f.t.a = f.u.a ∧ f.t.b = f.u.b ∧ f.t.s.toList = f.u.s.toList ∧ f.t.n = f.u.n := by rw [hf']; exact unhide HV
              have hfr := fresh_any lo hi0 f MB M1 wn lf KN.2.1 KN.2.2.1 KN.2.2.2.1 (by have := KN.2.2.2.2; omega) (fit_n fF)
              have hfc : #[Value.agg #[.slice f.ad f.t.n f.cp, .slice f.ad' f.u.n f.cp'], Value.map (some MB)] = #[.agg #[.slice AD T.n CP, .slice AD' U.n CP'], .map (some MB)] := by rw [hf']
              rw [hfc] at hfr
              have SN : Stk wn base (.slice (some ⟨g1, 0, none⟩) L1.length cap1) L1 := (unhide HST).keep (row := none) (grown_of_below BN) (fun k h => by cases h)
              have KN' := hide KN
              have SN' := hide SN
              have LF := hide lf
              have FT := hide fT
              have FU := hide fU
              have FF := hide fF
              have FH := hide fH
              have hMn : MB < wn.heap.size := KN.2.2.2.1.lt
              have hk' : k < q.t.n := by rw [← unhide HQM]; exact hlt
              obtain ⟨P11, hP11⟩ : ∃ x, x = wh.heap.size := ⟨_, rfl⟩
              rw [← hP11] at r0 r1 lr0
              rw [← hP11]
              have kP11 : P10 < P11 := by omega
              clear hwn bn KN SN lf fT fU fF fH hfc hP11
              refine hfr.mono ?_
              rintro e wf ⟨hres, hgr⟩
              have BLf : Below w.heap.size w wf := BLn.grown hgr BLn.size (fun j h => by injection h; omega)
              rcases hres with ⟨rfl, hMf, hwhy⟩ | ⟨rfl, hMf⟩
              · have HIn : Hid (SIn (A.Same B) lo hi0 base MB base (msr L) P7 root q (k + 1) (.slice (some ⟨g1, 0, none⟩) nl cap1) wf) :=
                  ⟨L1, M1, g1, cap1, by rw [unhide HNL], hg1, by rw [hsum]; omega, by rw [unhide HNL]; exact (unhide SN').keep hgr (fun j h => by injection h; omega), (unhide KN').grown hgr hMf (unhide KN').2.1,
                    K_skip (unhide HK1) hk' (unhide FT) (unhide FU) (unhide FH) (by
                      rcases hwhy with h | ⟨p, h1, h2⟩
                      · exact Or.inl h
                      · exact Or.inr ⟨p, by simp [h1], h2⟩), unhide HI2⟩
                have p1f : wf.cell? ⟨P7, 1, none⟩ = some (.slice (some ⟨bl', off', none⟩) m qcp') := (grown_cells hgr (unhide KN').2.2.2.1 hMf P7 1 hP7n).trans p1n
                clear hwhy hMf
                go_wp2
                go_roundw
                case rel => exact ⟨k + 1, by omega, by go_num, unhide HIn, p1f, BLf⟩
                case measure => simp [intOf]; omega
              · have hsf : wn.heap.size ≤ wf.heap.size := hgr.size
                have s0 : wf.cell? ⟨P11, 0, none⟩ = some (.slice AD T.n CP) := (grown_cells hgr (unhide KN').2.2.2.1 hMf P11 0 lr0).trans r0
                have s1 : wf.cell? ⟨P11, 1, none⟩ = some (.slice AD' U.n CP') := (grown_cells hgr (unhide KN').2.2.2.1 hMf P11 1 lr0).trans r1
                have p1f : wf.cell? ⟨P7, 1, none⟩ = some (.slice (some ⟨bl', off', none⟩) m qcp') := (grown_cells hgr (unhide KN').2.2.2.1 hMf P7 1 hP7n).trans p1n
                have KF := ((unhide KN').grown hgr hMf (fun g hg => by
                  rcases List.mem_cons.1 hg with rfl | hg
                  · exact unhide LF
                  · exact (unhide KN').2.1 g hg))
                have LFf : Lies wf lo hi0 f := KF.2.1 f (by simp)
                have SF := (unhide SN').keep hgr (fun j h => by injection h; omega)
                obtain ⟨wt, hwt⟩ : ∃ v, v = wf.alloc (.cells #[.slice AD T.n CP, .slice AD' U.n CP'] 69) := ⟨_, rfl⟩
                have bt : Below wf.heap.size wf wt := by rw [hwt]; exact (Below.refl _ _).alloc (Nat.le_refl _) _
                have t0 : wt.cell? ⟨wf.heap.size, 0, none⟩ = some (.slice AD T.n CP) := by rw [hwt]; simp [go_sem]
                have t1 : wt.cell? ⟨wf.heap.size, 1, none⟩ = some (.slice AD' U.n CP') := by rw [hwt]; simp [go_sem]
                have hwtl : wf.heap.size < wt.heap.size := World.block_lt_of_cell? _ _ t0
                have KT := (KF.push LFf (unhide FF)).below bt
                have ST : Stk wt base (.slice (some ⟨g1, 0, none⟩) L1.length cap1) L1 := SF.keep (row := none) (grown_of_below bt) (fun k h => by cases h)
                have hbt : base ≤ wt.heap.size := by
                  have h1 := KT.2.2.2.2.1
                  exact h1
                have hnl6 : nl ≤ 1048600 := by
                  omega
                obtain ⟨g2, cap2, wa, hrun, SA, ga, hg2⟩ := stk_append wt base g1 cap1 L1 f wf.heap.size ST (by rw [hf']; exact t0) (by rw [hf']; exact t1) (by rw [← unhide HNL]; exact hnl6) hbt
                have KA := KT.stack ga (by omega) (by omega)
                have p1a : wa.cell? ⟨P7, 1, none⟩ = some (.slice (some ⟨bl', off', none⟩) m qcp') := ga.cell (cell_later bt p1f) (fun h => hg1 (by simpa using h.symm))
                have BLa : Below w.heap.size w wa := (BLf.trans (bt.mono BLf.size)).grown ga (by have := BLf.size; omega) (fun j h => by
                  have e : g1 = j := by simpa using h
                  omega)
                have fN : f.t.N = T.N := by rw [hf']
                have HIn : Hid (SIn (A.Same B) lo hi0 base MB base (msr L) P7 root q (k + 1) (.slice (some ⟨g2, 0, none⟩) (nl + 1) cap2) wa) :=
                  ⟨L1 ++ [f], f :: M1, g2, cap2, by rw [unhide HNL]; simp, by omega, by rw [msr_snoc, hsum]; omega, by rw [unhide HNL]; simpa using SA, KA,
                    (by
                      have kp := K_push (unhide HK1) hk' (unhide FT) (unhide FU) (unhide FH)
                      intro p hp hns
                      exact kp p (by
                        simp only [List.mem_cons] at hp ⊢
                        rcases hp with h | h | h
                        · exact Or.inr (Or.inl h)
                        · exact Or.inl h
                        · exact Or.inr (Or.inr h)) hns),
                    (by
                      intro r hr hns
                      rcases List.mem_append.1 hr with hr | hr
                      · exact unhide HI2 r hr hns
                      · simp only [List.mem_singleton] at hr
                        subst hr
                        exact unhide HQ2 (fun hq => hns (by
                          have := (same_iff _ _).1 (hq k hk')
                          unfold Fr.same
                          rw [unhide FT, unhide FU]
                          exact this.2.2.2.2.2)))⟩
                rw [← unhide HNL, hwt] at hrun
                clear KF LFf SF KT ST SA ga KA hMf t0 t1 bt hwt
                have HR := hide hrun
                clear hrun
                go_wp2_with (first | (at_builtin; refine wpList_append_run _ rfl (.tmp 67) (.tmp 69) 70 rfl _ _ _ _ rfl rfl (unhide HR) ?_))
                go_roundw
                case rel => exact ⟨k + 1, by omega, by go_num, unhide HIn, p1a, BLa⟩
                case measure => simp [intOf]; omega
            · have knn : ((T.n : Int) != (U.n : Int)) = true := by simp; omega
              have HN := hide (unhide HT (fun h => hnn ((same_iff _ _).1 h).2.2.2.2.1))
              clear v1 v2 v3 v4
              go_wp2
              rw [unhide HN]
              go_ret
              exact ⟨rfl, BL⟩
        · have e : k = m := by omega
          subst e
          have HO : Hid (SOut (A.Same B) lo hi0 base MB base (A.N + 1) root (.slice (some ⟨g1, 0, none⟩) L1.length cap1) wr (msr L1)) :=
            ⟨L1, M1, rfl, by omega, hst1, hkp1.sub (fun f hf => by simp [hf]), K_end (by rw [← unhide HQM]; exact hk1), hi2⟩
          have hlt' : msr L1 < mm := by omega
          clear hst1 hkp1 hk1 hi2
          go_wp2
          go_roundw
          case rel => exact ⟨⟨_, unhide HO⟩, hbel⟩
          case measure => rw [← unhide HMM]; exact Nat.lt_of_le_of_lt (least_le (unhide HO)) hlt'
end Go.Proofs.Ytbcojkadfbpmgaa
