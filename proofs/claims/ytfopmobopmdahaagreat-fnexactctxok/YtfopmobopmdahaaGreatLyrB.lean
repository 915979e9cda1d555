/- Layers: what the law's count lets through, in all; the names of several layers, one behind the other; which layers are right. -/
import Derived.Test.YtfopmobopmdahaaGreatLyrA
import Derived.Test.YtfopmobopmdahaaGreatStpD
namespace Go.Proofs.YtfopmobopmdahaaGreat
open Go.ChangeShapes Go.WideShapes Go.ChangeAt Go.RowKit Go.Joins
set_option linter.unusedVariables false

/-- How many names and terms layers have in all. -/
def Lyr.c (q : Lyr) : Nat := q.nd + q.nt
theorem sumN_ge (f : Nat → Nat) {n : Nat} (h : ∀ i, i < n → 1 ≤ f i) : n ≤ sumN f n := by
  induction n with
  | zero => simp [sumN]
  | succ n ih => have := ih (fun i hi => h i (by omega)); have := h n (by omega); simp only [sumN]; omega
theorem TT.In.pos {w : World} {lo hi : Nat} {op a b : Int} {s : ByteArray} {n : Nat} {kid : Nat → TT} {ad : Option Addr} (h : (TT.node op a b s n kid).In w lo hi ad) : ∀ i, i < n → 1 ≤ (kid i).N := by
  intro i hi
  rcases h with h | ⟨bl, off, _, _, _, AD, CP, h4⟩
  · omega
  · exact (TT.D_pos (h4 i hi).2.2).2
set_option maxRecDepth 100000 in
set_option maxHeartbeats 1000000 in
theorem szDeclSN_any (a : Option Addr) (n cap : Nat) (S : Nat → ByteArray) (V : Nat → Int) (left : Int) (w : World) (hd : DecsAt w a n S V) (h0 : 0 ≤ left) (h1 : left ≤ 1048576) (hn : n ≤ maxLen) (hs : ∀ i, i < n → (S i).size ≤ maxLen) :
    Calls Tryz.prog 61 #[.slice a n cap, .int .i64 left] w fun e w' => (∃ z : Int, e = .returned (.int .i64 z) ∧ (z < 0 ∨ 0 ≤ z ∧ z + n ≤ left ∧ ∀ i, i < n → (S i).size ≤ left)) ∧ Below w.heap.size w w' := by
  unfold maxLen at hn
  have HS := hide hs
  clear hs
  by_cases h : (n : Int) ≤ left
  · rcases hd with rfl | ⟨b, off, rfl, hb, hd⟩
    · go_enter Tryz.func61, Tryz.ntmps61
      go_wp2
      go_loopw [5, 1] (fun i l wr => i = .int .i64 0 ∧ l = .int .i64 left ∧ Below w.heap.size w wr) (fun _ _ _ => 0)
      case atStart => exact ⟨rfl, by go_num, (by repeat (first | exact Below.refl _ _ | assumption | refine below_drewN ?_ _ | refine Below.drew ?_ | refine Below.alloc ?_ (by first | exact Nat.le_refl _ | exact Below.size (by assumption) | (simp; done) | (simp; omega)) _ | refine Below.setCell ?_ (by first | exact Nat.le_refl _ | exact Below.size (by assumption) | (simp; done) | (simp; omega)) _ | refine Below.trans ?_ (by assumption)))⟩
      case round =>
        obtain ⟨rfl, rfl, hbel⟩ := hrel
        go_wp2
        go_ret
        exact ⟨⟨_, rfl, Or.inr ⟨h0, by omega, fun i hi => by omega⟩⟩, (by repeat (first | exact Below.refl _ _ | assumption | refine below_drewN ?_ _ | refine Below.drew ?_ | refine Below.alloc ?_ (by first | exact Nat.le_refl _ | exact Below.size (by assumption) | (simp; done) | (simp; omega)) _ | refine Below.setCell ?_ (by first | exact Nat.le_refl _ | exact Below.size (by assumption) | (simp; done) | (simp; omega)) _ | refine Below.trans ?_ (by assumption)))⟩
    · have HD := hide hd
      clear hd
      go_enter Tryz.func61, Tryz.ntmps61
      go_wp2
      go_loopw [5, 1] (fun i l wr => ∃ (k : Nat) (z : Int), k ≤ n ∧ i = .int .i64 k ∧ l = .int .i64 z ∧ 0 ≤ z ∧ z + n ≤ left ∧ (∀ j, j < k → (S j).size ≤ left) ∧ Below w.heap.size w wr) (fun i _ _ => n - (intOf i).toNat)
      case atStart => exact ⟨0, left - n, by omega, rfl, by go_num, by omega, by omega, fun j hj => by omega, (by repeat (first | exact Below.refl _ _ | assumption | refine below_drewN ?_ _ | refine Below.drew ?_ | refine Below.alloc ?_ (by first | exact Nat.le_refl _ | exact Below.size (by assumption) | (simp; done) | (simp; omega)) _ | refine Below.setCell ?_ (by first | exact Nat.le_refl _ | exact Below.size (by assumption) | (simp; done) | (simp; omega)) _ | refine Below.trans ?_ (by assumption)))⟩
      case round =>
        obtain ⟨k, z, hk, rfl, rfl, z0, z1, hz, hbel⟩ := hrel
        have HZ := hide hz
        clear hz
        by_cases hlt : k < n
        · obtain ⟨c0, c1⟩ := unhide HD k hlt
          have d0 := (hbel.cell (p := ⟨b, off + k * 2, none⟩) hb).trans c0
          have d1 := (hbel.cell (p := ⟨b, off + k * 2 + 1, none⟩) hb).trans c1
          clear c0 c1
          have hsk := unhide HS k hlt
          go_wp2_with fail
          refine (szDecl_any _ _ _ _ z0 (by omega) hsk).mono ?_
          rintro e w1 ⟨⟨y, rfl, hy⟩, b1⟩
          by_cases hle : 0 ≤ y
          · go_wp2
            go_roundw
            case rel =>
              refine ⟨k + 1, y, by omega, by go_num, rfl, by omega, by omega, ?_, hbel.trans (b1.mono hbel.size)⟩
              intro j hj
              by_cases e : j = k
              · subst e; omega
              · exact unhide HZ j (by omega)
            case measure => simp [intOf]; omega
          · go_wp2
            go_ret
            exact ⟨⟨_, rfl, Or.inl (by omega)⟩, hbel.trans (b1.mono hbel.size)⟩
        · have e : k = n := by omega
          subst e
          go_wp2
          go_ret
          exact ⟨⟨_, rfl, Or.inr ⟨z0, z1, unhide HZ⟩⟩, hbel⟩
  · go_enter Tryz.func61, Tryz.ntmps61
    go_wp2
    go_ret
    exact ⟨⟨_, rfl, Or.inl (by omega)⟩, (by repeat (first | exact Below.refl _ _ | assumption | refine below_drewN ?_ _ | refine Below.drew ?_ | refine Below.alloc ?_ (by first | exact Nat.le_refl _ | exact Below.size (by assumption) | (simp; done) | (simp; omega)) _ | refine Below.setCell ?_ (by first | exact Nat.le_refl _ | exact Below.size (by assumption) | (simp; done) | (simp; omega)) _ | refine Below.trans ?_ (by assumption)))⟩
set_option maxRecDepth 100000 in
set_option maxHeartbeats 1000000 in
theorem szLayerN_any (hi : Nat) (q : Lyr) (da ta : Option Addr) (dc tc : Nat) (left : Int) (w : World) (hin : q.In w 0 hi da ta) (hf : q.Fit maxLen) (h0 : 0 ≤ left) (h1 : left ≤ 1048576) (hhi : hi ≤ w.heap.size) :
    Calls Tryz.prog 35 #[.agg #[.slice da q.nd dc, .slice ta q.nt tc], .int .i64 left] w fun e w' => (∃ z : Int, e = .returned (.int .i64 z) ∧ (z < 0 ∨ 0 ≤ z ∧ z + q.c ≤ left ∧ q.Low)) ∧ Below w.heap.size w w' := by
  obtain ⟨f1, f2, f3, f4⟩ := hf
  go_enter Tryz.func35, Tryz.ntmps35
  go_wp2_with fail
  have e1 : Below w.heap.size w (w.alloc (.cells #[.slice da q.nd dc, .slice ta q.nt tc] 58)) := (Below.refl _ _).alloc (Nat.le_refl _) _
  refine (szDeclSN_any da q.nd dc q.S q.V left _ ((hin.1.at_ hhi).later e1) h0 h1 f1 f2).mono ?_
  rintro e w1 ⟨⟨z, rfl, hz⟩, b1⟩
  have p1 : w1.cell? ⟨w.heap.size, 1, none⟩ = some (.slice ta q.nt tc) := cell_later b1 (by simp [go_sem])
  have BL := e1.trans (b1.mono (by simp <;> omega))
  clear e1 b1
  by_cases hz0 : 0 ≤ z
  · obtain ⟨_, hz1, hz3⟩ := hz.resolve_left (by omega)
    have hpos := sumN_ge (fun i => (q.kid i).N) (n := q.nt) (TT.In.pos hin.2)
    have HZ := hide hz3
    have F4 := hide f4
    have IN := hide (hin.2.later (BL.mono hhi))
    have hh1 := Nat.le_trans hhi BL.size
    clear hz hz3 f2 f4 hin
    go_wp2_with fail
    refine (szTermS_any hi q.nt q.kid f3 (unhide F4) 0 0 0 ByteArray.empty ta tc z w1 (unhide IN) hz0 (by omega) hh1).mono ?_
    rintro e w2 ⟨⟨y, rfl, hy⟩, b2⟩
    replace BL := BL.trans (b2.mono BL.size)
    clear b2 p1
    by_cases hy0 : 0 ≤ y
    · have HL : Hid (q.Low) := by
        obtain ⟨_, hy1, hy2, hy3⟩ := hy.resolve_left (by omega)
        refine ⟨⟨by omega, fun i hi => by have := unhide HZ i hi; omega, hy2, hy3⟩, fun i hi => ?_⟩
        have := sumN_at (fun i => (q.kid i).N) hi
        try simp only at this
        omega
      have hyz : y + q.nt ≤ z := by have := (hy.resolve_left (by omega)).2.1; omega
      clear hy
      go_wp2
      go_ret
      exact ⟨⟨_, rfl, Or.inr ⟨hy0, by unfold Lyr.c; omega, unhide HL⟩⟩, BL⟩
    · clear hy
      go_wp2
      go_ret
      exact ⟨⟨_, rfl, Or.inl (by omega)⟩, BL⟩
  · clear hz hin f2 f4
    go_wp2
    go_ret
    exact ⟨⟨_, rfl, Or.inl (by omega)⟩, BL⟩
set_option maxRecDepth 100000 in
set_option maxHeartbeats 1000000 in
theorem szLayerSN_any (hi : Nat) (a : Option Addr) (n cap : Nat) (Q : Nat → Lyr) (left : Int) (w : World) (hd : LaysIn w 0 hi a n Q) (hf : ∀ i, i < n → (Q i).Fit maxLen) (h0 : 0 ≤ left) (h1 : left ≤ 1048576) (hn : n ≤ maxLen) (hhi : hi ≤ w.heap.size) :
    Calls Tryz.prog 9 #[.slice a n cap, .int .i64 left] w fun e w' => (∃ z : Int, e = .returned (.int .i64 z) ∧ (z < 0 ∨ 0 ≤ z ∧ z + n + sumN (fun i => (Q i).c) n ≤ left ∧ ∀ i, i < n → (Q i).Low)) ∧ Below w.heap.size w w' := by
  unfold maxLen at hn
  have HF := hide hf
  clear hf
  by_cases h : (n : Int) ≤ left
  · rcases hd with rfl | ⟨b, off, rfl, hlo, hb, DA, TA, DC, TC, hd⟩
    · go_enter Tryz.func9, Tryz.ntmps9
      go_wp2
      go_loopw [5, 1] (fun i l wr => i = .int .i64 0 ∧ l = .int .i64 left ∧ Below w.heap.size w wr) (fun _ _ _ => 0)
      case atStart => exact ⟨rfl, by go_num, (by repeat (first | exact Below.refl _ _ | assumption | refine below_drewN ?_ _ | refine Below.drew ?_ | refine Below.alloc ?_ (by first | exact Nat.le_refl _ | exact Below.size (by assumption) | (simp; done) | (simp; omega)) _ | refine Below.setCell ?_ (by first | exact Nat.le_refl _ | exact Below.size (by assumption) | (simp; done) | (simp; omega)) _ | refine Below.trans ?_ (by assumption)))⟩
      case round =>
        obtain ⟨rfl, rfl, hbel⟩ := hrel
        go_wp2
        go_ret
        exact ⟨⟨_, rfl, Or.inr ⟨h0, by simp [sumN], fun i hi => by omega⟩⟩, (by repeat (first | exact Below.refl _ _ | assumption | refine below_drewN ?_ _ | refine Below.drew ?_ | refine Below.alloc ?_ (by first | exact Nat.le_refl _ | exact Below.size (by assumption) | (simp; done) | (simp; omega)) _ | refine Below.setCell ?_ (by first | exact Nat.le_refl _ | exact Below.size (by assumption) | (simp; done) | (simp; omega)) _ | refine Below.trans ?_ (by assumption)))⟩
    · have HD := hide hd
      clear hd
      go_enter Tryz.func9, Tryz.ntmps9
      go_wp2
      go_loopw [5, 1] (fun i l wr => ∃ (k : Nat) (z : Int), k ≤ n ∧ i = .int .i64 k ∧ l = .int .i64 z ∧ 0 ≤ z ∧ z + n + sumN (fun i => (Q i).c) k ≤ left ∧ (∀ j, j < k → (Q j).Low) ∧ Below w.heap.size w wr) (fun i _ _ => n - (intOf i).toNat)
      case atStart => exact ⟨0, left - n, by omega, rfl, by go_num, by omega, by simp [sumN], fun j hj => by omega, (by repeat (first | exact Below.refl _ _ | assumption | refine below_drewN ?_ _ | refine Below.drew ?_ | refine Below.alloc ?_ (by first | exact Nat.le_refl _ | exact Below.size (by assumption) | (simp; done) | (simp; omega)) _ | refine Below.setCell ?_ (by first | exact Nat.le_refl _ | exact Below.size (by assumption) | (simp; done) | (simp; omega)) _ | refine Below.trans ?_ (by assumption)))⟩
      case round =>
        obtain ⟨k, z, hk, rfl, rfl, z0, z1, hz, hbel⟩ := hrel
        have HZ := hide hz
        clear hz
        have hhr := Nat.le_trans hhi hbel.size
        by_cases hlt : k < n
        · obtain ⟨h2, _, hin⟩ := unhide HD k hlt
          obtain ⟨c0, c1⟩ := h2.keep (w' := wr) (fun o => hbel.cell (p := ⟨b, o, none⟩) (Nat.lt_of_lt_of_le hb hhi))
          have hin' := hin.later (hbel.mono hhi)
          have HFk := hide (unhide HF k hlt)
          generalize hq : Q k = q at *
          go_wp2_with fail
          refine (szLayerN_any hi q _ _ _ _ z _ hin' (unhide HFk) z0 (by omega) hhr).mono ?_
          rintro e w1 ⟨⟨y, rfl, hy⟩, b1⟩
          have HY := hide hy
          clear hy hin hin' h2
          by_cases hle : 0 ≤ y
          · go_wp2
            go_roundw
            case rel =>
              obtain ⟨_, hy1, hy2⟩ := (unhide HY).resolve_left (by omega)
              have es : sumN (fun i => (Q i).c) (k + 1) = sumN (fun i => (Q i).c) k + q.c := by rw [← hq]; rfl
              refine ⟨k + 1, y, by omega, by go_num, rfl, by omega, by rw [es]; omega, ?_, hbel.trans (b1.mono hbel.size)⟩
              intro j hj
              by_cases e : j = k
              · subst e; rw [hq]; exact hy2
              · exact unhide HZ j (by omega)
            case measure => simp [intOf]; omega
          · go_wp2
            go_ret
            exact ⟨⟨_, rfl, Or.inl (by omega)⟩, hbel.trans (b1.mono hbel.size)⟩
        · have e : k = n := by omega
          subst e
          go_wp2
          go_ret
          exact ⟨⟨_, rfl, Or.inr ⟨z0, z1, unhide HZ⟩⟩, hbel⟩
  · go_enter Tryz.func9, Tryz.ntmps9
    go_wp2
    go_ret
    exact ⟨⟨_, rfl, Or.inl (by omega)⟩, (by repeat (first | exact Below.refl _ _ | assumption | refine below_drewN ?_ _ | refine Below.drew ?_ | refine Below.alloc ?_ (by first | exact Nat.le_refl _ | exact Below.size (by assumption) | (simp; done) | (simp; omega)) _ | refine Below.setCell ?_ (by first | exact Nat.le_refl _ | exact Below.size (by assumption) | (simp; done) | (simp; omega)) _ | refine Below.trans ?_ (by assumption)))⟩
/-- A list's names by their places. -/
def sL (L : List (ByteArray × Int)) (i : Nat) : ByteArray := (L.getD i (ByteArray.empty, 0)).1
def vL (L : List (ByteArray × Int)) (i : Nat) : Int := (L.getD i (ByteArray.empty, 0)).2
def Lyr.ns (q : Lyr) : List (ByteArray × Int) := dprs q.nd q.S q.V
/-- The names of the first layers, one behind the other. -/
def alN (Q : Nat → Lyr) : Nat → List (ByteArray × Int)
  | 0 => []
  | k + 1 => alN Q k ++ (Q k).ns
/-- How many terms the first layers have. -/
def alT (Q : Nat → Lyr) : Nat → Nat
  | 0 => 0
  | k + 1 => alT Q k + (Q k).nt
theorem alN_bd (Q : Nat → Lyr) : ∀ k, (alN Q k).length + alT Q k = sumN (fun i => (Q i).c) k
  | 0 => rfl
  | k + 1 => by
    have := alN_bd Q k
    simp only [alN, alT, sumN, List.length_append, Lyr.ns, dprs_len, Lyr.c] at this ⊢
    omega
theorem getD_front {L M : List (ByteArray × Int)} {i : Nat} (h : i < L.length) : (L ++ M).getD i (ByteArray.empty, 0) = L.getD i (ByteArray.empty, 0) := by
  rw [List.getD_eq_getElem?_getD, List.getD_eq_getElem?_getD, List.getElem?_append_left h]
theorem sL_front {L M : List (ByteArray × Int)} {i : Nat} (h : i < L.length) : sL (L ++ M) i = sL L i ∧ vL (L ++ M) i = vL L i := by unfold sL vL; rw [getD_front h]; exact ⟨rfl, rfl⟩
/-- Names that are right. -/
def DeclL (L : List (ByteArray × Int)) : Prop := DeclP L.length (sL L) (vL L)
theorem sumV_congr {V V' : Nat → Int} : ∀ n, (∀ i, i < n → V i = V' i) → sumV V n = sumV V' n
  | 0, _ => rfl
  | n + 1, h => by
    have := sumV_congr n (fun i hi => h i (by omega))
    simp only [sumV, this, h n (by omega)]
theorem sumV_more {V : Nat → Int} {m : Nat} : ∀ n, m ≤ n → (∀ i, i < n → 1 ≤ V i) → sumV V m ≤ sumV V n
  | 0, h, _ => by have : m = 0 := by omega
                  subst this; exact Int.le_refl _
  | n + 1, h, hv => by
    by_cases e : m = n + 1
    · subst e; exact Int.le_refl _
    · have := sumV_more (V := V) (m := m) n (by omega) (fun i hi => hv i (by omega))
      have := hv n (by omega)
      simp only [sumV]; omega
/-- What is ahead in right names is right. -/
theorem DeclL.front {L M : List (ByteArray × Int)} (h : DeclL (L ++ M)) : DeclL L := by
  obtain ⟨h1, h2, h3⟩ := h
  rw [List.length_append] at h1 h2 h3
  have hv : ∀ i, i < L.length + M.length → 1 ≤ vL (L ++ M) i := fun i hi => (h2 i hi).2.1
  refine ⟨by omega, fun i hi => ?_, ?_⟩
  · obtain ⟨a, b, c, d⟩ := h2 i (by omega)
    rw [(sL_front hi).1] at a d
    rw [(sL_front hi).2] at b c
    refine ⟨a, b, c, fun j hj => ?_⟩
    have := d j hj
    rwa [(sL_front (by omega : j < L.length)).1] at this
  · have e := sumV_congr (V := vL (L ++ M)) (V' := vL L) L.length (fun i hi => (sL_front hi).2)
    have m := sumV_more (V := vL (L ++ M)) (m := L.length) (L.length + M.length) (by omega) hv
    rw [e] at m
    omega
theorem DeclL.nil : DeclL [] := ⟨by simp, fun i hi => by simp at hi, by simp [sumV]⟩
theorem alN_front (Q : Nat → Lyr) : ∀ k n, k ≤ n → ∃ M, alN Q n = alN Q k ++ M
  | k, 0, h => by have : k = 0 := by omega
                  subst this; exact ⟨[], by simp⟩
  | k, n + 1, h => by
    by_cases e : k = n + 1
    · subst e; exact ⟨[], by simp⟩
    · obtain ⟨M, hM⟩ := alN_front Q k n (by omega)
      exact ⟨M ++ (Q n).ns, by rw [← List.append_assoc, ← hM]; rfl⟩
theorem alT_mono (Q : Nat → Lyr) : ∀ k n, k ≤ n → alT Q k ≤ alT Q n
  | k, 0, h => by have : k = 0 := by omega
                  subst this; exact Nat.le_refl _
  | k, n + 1, h => by
    by_cases e : k = n + 1
    · subst e; exact Nat.le_refl _
    · have := alT_mono Q k n (by omega)
      simp only [alT]; omega
end Go.Proofs.YtfopmobopmdahaaGreat
