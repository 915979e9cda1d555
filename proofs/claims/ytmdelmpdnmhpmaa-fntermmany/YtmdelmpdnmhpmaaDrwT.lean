/- What the model's draws of terms return: some term, in memory of its own; the reader moves on, nothing else that was there turns. -/
import Derived.Test.YtmdelmpdnmhpmaaDrwD
import Derived.Test.YtmdelmpdnmhpmaaTrmC
namespace Go.Proofs.Ytmdelmpdnmhpmaa
open Go.ChangeShapes Go.WideShapes Go.ChangeAt Go.RowKit Go.Joins
set_option linter.unusedVariables false
set_option linter.unusedSimpArgs false

theorem TT.In.mov {w w' : World} {lo hi R : Nat} {t : TT} {ad : Option Addr} (h : t.In w lo hi ad) (hm : Mov R w w') (hR : R < lo) (hh : hi ≤ w.heap.size) : t.In w' lo hi ad :=
  TT.In.keep (fun b o h1 h2 => World.cell?_of_block (a := ⟨b, o, none⟩) (hm.2.2.2.2 b (by omega) (by omega))) t ad h
/-- What a draw of a term gives. -/
def DrewT (w w' : World) (e : Ending) : Prop := ∃ (T : TT) (ad : Option Addr) (cp : Nat), e = .returned (.agg #[.int .i64 T.op, .int .i64 T.a, .int .i64 T.b, .string T.s, .slice ad T.n cp]) ∧ T.In w' w.heap.size w'.heap.size ad ∧ T.n ≤ cp ∧ T.Fit 1048576 ∧ cp ≤ 100
/-- Kids in a list. -/
def kids3 (t0 t1 t2 : TT) : Nat → TT := fun i => if i = 0 then t0 else if i = 1 then t1 else t2
theorem kids_in1 {w : World} {lo : Nat} {t0 : TT} {ad0 : Option Addr} {cp0 : Nat} (h0 : t0.In w lo w.heap.size ad0) (c0 : t0.n ≤ cp0) (hlo : lo ≤ w.heap.size) (op a b : Int) (s : ByteArray) (ty : TypeId) :
    (TT.node op a b s 1 (kids3 t0 t0 t0)).In (w.alloc (.cells #[.int .i64 t0.op, .int .i64 t0.a, .int .i64 t0.b, .string t0.s, .slice ad0 t0.n cp0] ty)) lo (w.heap.size + 1) (some ⟨w.heap.size, 0, none⟩) := by
  have kp : ∀ (t : TT) (ad : Option Addr), t.In w lo w.heap.size ad → t.In (w.alloc (.cells #[.int .i64 t0.op, .int .i64 t0.a, .int .i64 t0.b, .string t0.s, .slice ad0 t0.n cp0] ty)) lo (w.heap.size + 1) ad := fun t ad h => TT.In.wide (Nat.le_refl _) (Nat.le_succ _) _ _ (h.later ((Below.refl _ _).alloc (Nat.le_refl _) _))
  refine Or.inr ⟨w.heap.size, 0, rfl, hlo, by omega, fun _ => ad0, fun _ => cp0, fun i hi => ?_⟩
  obtain rfl : i = 0 := by omega
  exact ⟨⟨by simp [go_sem, kids3], by simp [go_sem, kids3], by simp [go_sem, kids3], by simp [go_sem, kids3], by simp [go_sem, kids3]⟩, c0, kp _ _ h0⟩
theorem kids_in2 {w : World} {lo : Nat} {t0 t1 : TT} {ad0 ad1 : Option Addr} {cp0 cp1 : Nat} (h0 : t0.In w lo w.heap.size ad0) (c0 : t0.n ≤ cp0) (h1 : t1.In w lo w.heap.size ad1) (c1 : t1.n ≤ cp1) (hlo : lo ≤ w.heap.size) (op a b : Int) (s : ByteArray) (ty : TypeId) :
    (TT.node op a b s 2 (kids3 t0 t1 t1)).In (w.alloc (.cells #[.int .i64 t0.op, .int .i64 t0.a, .int .i64 t0.b, .string t0.s, .slice ad0 t0.n cp0, .int .i64 t1.op, .int .i64 t1.a, .int .i64 t1.b, .string t1.s, .slice ad1 t1.n cp1] ty)) lo (w.heap.size + 1) (some ⟨w.heap.size, 0, none⟩) := by
  have kp : ∀ (t : TT) (ad : Option Addr) (o : Obj), t.In w lo w.heap.size ad → t.In (w.alloc o) lo (w.heap.size + 1) ad := fun t ad o h => TT.In.wide (Nat.le_refl _) (Nat.le_succ _) _ _ (h.later ((Below.refl _ _).alloc (Nat.le_refl _) _))
  refine Or.inr ⟨w.heap.size, 0, rfl, hlo, by omega, fun i => if i = 0 then ad0 else ad1, fun i => if i = 0 then cp0 else cp1, fun i hi => ?_⟩
  have : i = 0 ∨ i = 1 := by omega
  rcases this with rfl | rfl
  · exact ⟨⟨by simp [go_sem, kids3], by simp [go_sem, kids3], by simp [go_sem, kids3], by simp [go_sem, kids3], by simp [go_sem, kids3]⟩, c0, kp _ _ _ h0⟩
  · exact ⟨⟨by simp [go_sem, kids3], by simp [go_sem, kids3], by simp [go_sem, kids3], by simp [go_sem, kids3], by simp [go_sem, kids3]⟩, c1, kp _ _ _ h1⟩
theorem kids_in3 {w : World} {lo : Nat} {t0 t1 t2 : TT} {ad0 ad1 ad2 : Option Addr} {cp0 cp1 cp2 : Nat} (h0 : t0.In w lo w.heap.size ad0) (c0 : t0.n ≤ cp0) (h1 : t1.In w lo w.heap.size ad1) (c1 : t1.n ≤ cp1) (h2 : t2.In w lo w.heap.size ad2) (c2 : t2.n ≤ cp2) (hlo : lo ≤ w.heap.size) (op a b : Int) (s : ByteArray) (ty : TypeId) :
    (TT.node op a b s 3 (kids3 t0 t1 t2)).In (w.alloc (.cells #[.int .i64 t0.op, .int .i64 t0.a, .int .i64 t0.b, .string t0.s, .slice ad0 t0.n cp0, .int .i64 t1.op, .int .i64 t1.a, .int .i64 t1.b, .string t1.s, .slice ad1 t1.n cp1, .int .i64 t2.op, .int .i64 t2.a, .int .i64 t2.b, .string t2.s, .slice ad2 t2.n cp2] ty)) lo (w.heap.size + 1) (some ⟨w.heap.size, 0, none⟩) := by
  have kp : ∀ (t : TT) (ad : Option Addr) (o : Obj), t.In w lo w.heap.size ad → t.In (w.alloc o) lo (w.heap.size + 1) ad := fun t ad o h => TT.In.wide (Nat.le_refl _) (Nat.le_succ _) _ _ (h.later ((Below.refl _ _).alloc (Nat.le_refl _) _))
  refine Or.inr ⟨w.heap.size, 0, rfl, hlo, by omega, fun i => if i = 0 then ad0 else if i = 1 then ad1 else ad2, fun i => if i = 0 then cp0 else if i = 1 then cp1 else cp2, fun i hi => ?_⟩
  have : i = 0 ∨ i = 1 ∨ i = 2 := by omega
  rcases this with rfl | rfl | rfl
  · exact ⟨⟨by simp [go_sem, kids3], by simp [go_sem, kids3], by simp [go_sem, kids3], by simp [go_sem, kids3], by simp [go_sem, kids3]⟩, c0, kp _ _ _ h0⟩
  · exact ⟨⟨by simp [go_sem, kids3], by simp [go_sem, kids3], by simp [go_sem, kids3], by simp [go_sem, kids3], by simp [go_sem, kids3]⟩, c1, kp _ _ _ h1⟩
  · exact ⟨⟨by simp [go_sem, kids3], by simp [go_sem, kids3], by simp [go_sem, kids3], by simp [go_sem, kids3], by simp [go_sem, kids3]⟩, c2, kp _ _ _ h2⟩
theorem kids3_fit {t0 t1 t2 : TT} (h0 : t0.Fit 1048576) (h1 : t1.Fit 1048576) (h2 : t2.Fit 1048576) (op a b : Int) (m : Nat) (hm : m ≤ 3) : (TT.node op a b ⟨#[]⟩ m (kids3 t0 t1 t2)).Fit 1048576 := by
  refine ⟨by omega, by decide, fun i hi => ?_⟩
  unfold kids3
  split
  · exact h0
  · split
    · exact h1
    · exact h2
/-- A box of five cells, written, and a block behind it. -/
theorem put_read {w : World} {B : Nat} (h : Made w B 5) (v0 v1 v2 v3 v4 : Value) (o : Obj) :
    ((((((w.setCell ⟨B, 0, none⟩ v0).setCell ⟨B, 1, none⟩ v1).setCell ⟨B, 2, none⟩ v2).setCell ⟨B, 3, none⟩ v3).setCell ⟨B, 4, none⟩ v4).alloc o).cell? ⟨B, 0, none⟩ = some v0 ∧
    ((((((w.setCell ⟨B, 0, none⟩ v0).setCell ⟨B, 1, none⟩ v1).setCell ⟨B, 2, none⟩ v2).setCell ⟨B, 3, none⟩ v3).setCell ⟨B, 4, none⟩ v4).alloc o).cell? ⟨B, 1, none⟩ = some v1 ∧
    ((((((w.setCell ⟨B, 0, none⟩ v0).setCell ⟨B, 1, none⟩ v1).setCell ⟨B, 2, none⟩ v2).setCell ⟨B, 3, none⟩ v3).setCell ⟨B, 4, none⟩ v4).alloc o).cell? ⟨B, 2, none⟩ = some v2 ∧
    ((((((w.setCell ⟨B, 0, none⟩ v0).setCell ⟨B, 1, none⟩ v1).setCell ⟨B, 2, none⟩ v2).setCell ⟨B, 3, none⟩ v3).setCell ⟨B, 4, none⟩ v4).alloc o).cell? ⟨B, 3, none⟩ = some v3 ∧
    ((((((w.setCell ⟨B, 0, none⟩ v0).setCell ⟨B, 1, none⟩ v1).setCell ⟨B, 2, none⟩ v2).setCell ⟨B, 3, none⟩ v3).setCell ⟨B, 4, none⟩ v4).alloc o).cell? ⟨B, 4, none⟩ = some v4 := by
  have m1 := h.set ⟨B, 0, none⟩ v0
  have m2 := m1.set ⟨B, 1, none⟩ v1
  have m3 := m2.set ⟨B, 2, none⟩ v2
  have m4 := m3.set ⟨B, 3, none⟩ v3
  have al : ∀ (W : World) (p : Addr) (v : Value), W.cell? p = some v → (W.alloc o).cell? p = some v := fun W p v hv => cell_later ((Below.refl _ _).alloc (Nat.le_refl _) _) hv
  refine ⟨al _ _ _ ?_, al _ _ _ ?_, al _ _ _ ?_, al _ _ _ ?_, al _ _ _ (set_there m4 _ (by omega) _)⟩
  · rw [World.cell?_setCell_other _ _ _ _ (by simp), World.cell?_setCell_other _ _ _ _ (by simp), World.cell?_setCell_other _ _ _ _ (by simp), World.cell?_setCell_other _ _ _ _ (by simp)]; exact set_there h _ (by omega) _
  · rw [World.cell?_setCell_other _ _ _ _ (by simp), World.cell?_setCell_other _ _ _ _ (by simp), World.cell?_setCell_other _ _ _ _ (by simp)]; exact set_there m1 _ (by omega) _
  · rw [World.cell?_setCell_other _ _ _ _ (by simp), World.cell?_setCell_other _ _ _ _ (by simp)]; exact set_there m2 _ (by omega) _
  · rw [World.cell?_setCell_other _ _ _ _ (by simp)]; exact set_there m3 _ (by omega) _
def put5v (w : World) (B : Nat) (v0 v1 v2 v3 v4 : Value) : World := ((((w.setCell ⟨B, 0, none⟩ v0).setCell ⟨B, 1, none⟩ v1).setCell ⟨B, 2, none⟩ v2).setCell ⟨B, 3, none⟩ v3).setCell ⟨B, 4, none⟩ v4
theorem put5v_size (w : World) (B : Nat) (v0 v1 v2 v3 v4 : Value) : (put5v w B v0 v1 v2 v3 v4).heap.size = w.heap.size := by simp [put5v]
theorem In_put {w : World} {lo hi B : Nat} {t : TT} {ad : Option Addr} (h : t.In w lo hi ad) (hB : B < lo) (v0 v1 v2 v3 v4 : Value) : t.In (put5v w B v0 v1 v2 v3 v4) lo hi ad := by
  unfold put5v
  exact TT.In.set (TT.In.set (TT.In.set (TT.In.set (TT.In.set h (p := ⟨B, 0, none⟩) hB v0) (p := ⟨B, 1, none⟩) hB v1) (p := ⟨B, 2, none⟩) hB v2) (p := ⟨B, 3, none⟩) hB v3) (p := ⟨B, 4, none⟩) hB v4
theorem Rd.put5v {w : World} {R N B : Nat} (h : Rd w R N) (hB : R < B) (v0 v1 v2 v3 v4 : Value) : Rd (put5v w B v0 v1 v2 v3 v4) R N := by
  unfold Go.Proofs.Ytmdelmpdnmhpmaa.put5v
  exact ((((h.set hB _ _).set hB _ _).set hB _ _).set hB _ _).set hB _ _
theorem Mov.put5v {R : Nat} {w w' : World} (h : Mov R w w') (v0 v1 v2 v3 v4 : Value) : Mov R w (put5v w' w.heap.size v0 v1 v2 v3 v4) := by
  unfold Go.Proofs.Ytmdelmpdnmhpmaa.put5v
  exact ((((h.setNew (Nat.le_refl _) _ _).setNew (Nat.le_refl _) _ _).setNew (Nat.le_refl _) _ _).setNew (Nat.le_refl _) _ _).setNew (Nat.le_refl _) _ _
/-- How far a draw of a term moves the reader at most. -/
def cN : Nat → Nat
  | 0 => 20
  | k + 1 => 20 + 3 * cN k
theorem cN_ge : ∀ k, 20 ≤ cN k
  | 0 => Nat.le_refl _
  | k + 1 => by unfold cN; omega
theorem zero_made (w : World) (ty : TypeId) : Made (w.alloc (.cells #[.int .i64 0, .int .i64 0, .int .i64 0, .string ⟨#[]⟩, .slice none 0 0] ty)) w.heap.size 5 := by
  refine ⟨by simp, fun j hj => ?_⟩
  have : j = 0 ∨ j = 1 ∨ j = 2 ∨ j = 3 ∨ j = 4 := by omega
  rcases this with rfl | rfl | rfl | rfl | rfl
  all_goals exact ⟨⟨_, by simp [go_sem]; rfl⟩, by simp [go_sem]⟩
set_option maxHeartbeats 4000000 in
theorem leafy_any (R N b n cap : Nat) (S : Nat → ByteArray) (V : Nat → Int) (sort : Int) (w : World) (hR : Rd w R N) (hN : N ≤ 900000) (hb : b ≠ R) (hbl : b < w.heap.size) (hd : Decs w b 0 n S V) (hn1 : 1 ≤ n) (hn4 : n ≤ 4) (hv : ∀ i, i < n → 1 ≤ V i ∧ V i ≤ 4 ∧ (S i).size ≤ 4) (hs0 : 0 ≤ sort) (hs4 : sort ≤ 4) :
    Calls Try.prog 29 #[.pointer (some ⟨R, 0, none⟩), .slice (some ⟨b, 0, none⟩) n cap, .int .i64 sort] w fun e w' => DrewT w w' e ∧ Rd w' R (N + 20) ∧ Mov R w w' := by
  have hlt := hR.lt
  by_cases hz : sort = 0
  · subst hz
    go_enter Try.func29, Try.ntmps29
    go_wp2
    refine bodyPost_ret (v := .agg #[.int .i64 24, .int .i64 0, .int .i64 0, .string ⟨#[]⟩, .slice none 0 0]) (by simp [results, Try.results29, go_sem]) rfl ⟨⟨TT.node 24 0 0 ⟨#[]⟩ 0 (fun _ => .nil), none, 0, rfl, Or.inl rfl, Nat.le_refl _, ⟨by omega, by decide, fun i hi => by omega⟩, by omega⟩, (hR.alloc _).mono (by omega), (Mov.refl _ _).alloc _⟩
  · have kz : (sort == 0) = false := by simp [hz]
    have hn0 : ¬ (n : Int) = 0 := by omega
    go_enter Try.func29, Try.ntmps29
    go_wp2_with fail
    obtain ⟨w0, hw0⟩ : ∃ v, v = w.alloc (.cells #[.int .i64 0, .int .i64 0, .int .i64 0, .string ⟨#[]⟩, .slice none 0 0] 25) := ⟨_, rfl⟩
    have BX : Made w0 w.heap.size 5 := by rw [hw0]; exact zero_made _ _
    have b0 : Below w.heap.size w w0 := by rw [hw0]; exact (Below.refl _ _).alloc (Nat.le_refl _) _
    have z0 : w.heap.size + 1 ≤ w0.heap.size := by rw [hw0]; simp
    rw [← hw0]
    replace hR := hR.below b0
    have MV : Mov R w w0 := Mov.of b0
    have HD := hide (hd.later b0)
    have HV := hide hv
    clear hw0 b0 hd hv
    refine (pick_any R _ _ _ hR (by omega) (by omega) (by omega)).mono ?_
    rintro e w1 ⟨p, rfl, p0, p1, hRn, hm⟩
    replace hR := hRn
    clear hRn
    replace BX := BX.mov hm (by omega)
    replace HD := hide ((unhide HD).mov hm hb)
    replace MV := MV.trans hm
    replace z0 := Nat.le_trans z0 hm.size
    clear hm
    obtain ⟨pn, rfl⟩ := Int.eq_ofNat_of_zero_le p0
    have BX1 := hide BX
    clear BX
    go_wp2
    go_loopw [9] (fun i wr => ∃ k : Nat, k ≤ n ∧ i = .int .i64 k ∧ Rd wr R (N + 1 + k) ∧ Mov R w wr ∧ Made wr w.heap.size 5 ∧ Decs wr b 0 n S V ∧ w.heap.size + 1 ≤ wr.heap.size) (fun i _ => n - (intOf i).toNat)
    case atStart => exact ⟨0, by omega, rfl, hR, MV, unhide BX1, unhide HD, z0⟩
    case round =>
      clear hR MV BX1 HD z0
      obtain ⟨k, hk, rfl, hR, MV, BX, hd, z0⟩ := hrel
      have HD := hide hd
      clear hd
      by_cases hlt2 : k < n
      · have hix : k < n := hlt2
        go_wp2_with fail
        refine (pick_any R _ _ _ hR (by omega) (by omega) (by omega)).mono ?_
        rintro e w2 ⟨q, rfl, q0, q1, hRn, hm⟩
        replace hR := hRn
        clear hRn
        replace BX := BX.mov hm (by omega)
        replace HD := hide ((unhide HD).mov hm hb)
        replace MV := MV.trans hm
        replace z0 := Nat.le_trans z0 hm.size
        clear hm
        by_cases hq : 0 < q
        · have dq : decide (0 < q) = true := by simp; omega
          have m1 : (pn + k) % n < n := Nat.mod_lt _ (by omega)
          have i1 : ((pn : Int) + (k : Int)) % (n : Int) < (n : Int) := Int.emod_lt_of_pos _ (by omega)
          have j1 : 0 ≤ ((pn : Int) + (k : Int)) % (n : Int) := Int.emod_nonneg _ (by omega)
          obtain ⟨c0, c1⟩ := unhide HD _ m1
          rw [Nat.zero_add] at c0 c1
          by_cases hv : V ((pn + k) % n) = sort
          · have dv : (V ((pn + k) % n) == sort) = true := by simp [hv]
            have hix := m1
            obtain ⟨⟨u0, q0⟩, f0⟩ := BX.2 0 (by omega)
            obtain ⟨⟨u1, q1⟩, f1⟩ := BX.2 1 (by omega)
            obtain ⟨⟨u2, q2⟩, f2⟩ := BX.2 2 (by omega)
            obtain ⟨⟨u3, q3⟩, f3⟩ := BX.2 3 (by omega)
            obtain ⟨⟨u4, q4⟩, f4⟩ := BX.2 4 (by omega)
            have lB := BX.1
            clear BX
            go_wp2
            refine bodyPost_ret (v := .agg #[.int .i64 21, .int .i64 0, .int .i64 0, .string (S ((pn + k) % n)), .slice none 0 0]) (by simp [results, Try.results29, go_sem, q0, q1, q2, q3, q4]) rfl ⟨⟨TT.node 21 0 0 (S ((pn + k) % n)) 0 (fun _ => .nil), _, 0, rfl, ?_, Nat.le_refl _, ⟨by omega, by first | decide | (have := (unhide HV _ hix).2.2; omega), fun i hi => by omega⟩, by omega⟩, ?_, ?_⟩
            · exact Or.inl rfl
            · exact ((((((hR).set hlt _ _).set hlt _ _).set hlt _ _).set hlt _ _).set hlt _ _).mono (by omega)
            · exact (((((MV).setNew (Nat.le_refl _) _ _).setNew (Nat.le_refl _) _ _).setNew (Nat.le_refl _) _ _).setNew (Nat.le_refl _) _ _).setNew (Nat.le_refl _) _ _
          · have dv : (V ((pn + k) % n) == sort) = false := by simp [hv]
            go_wp2
            go_roundw
            case rel => exact ⟨k + 1, by omega, by go_num, hR.mono (by omega), MV, BX, unhide HD, z0⟩
            case measure => simp [intOf]; omega
        · have dq : decide (0 < q) = false := by simp; omega
          go_wp2_with fail
          refine (two_any _ _ (by omega) (by omega)).mono ?_
          rintro e wt ⟨rfl, rfl⟩
          have t1 := (two_bd sort (by omega) (by omega)).1
          have t2 := (two_bd sort (by omega) (by omega)).2
          go_wp2_with fail
          refine (pick_any R _ _ _ hR (by omega) (by omega) (by omega)).mono ?_
          rintro e w3 ⟨x, rfl, x0, x1, hRn, hm⟩
          replace hR := hRn
          clear hRn
          replace BX := BX.mov hm (by omega)
          replace HD := hide ((unhide HD).mov hm hb)
          replace MV := MV.trans hm
          replace z0 := Nat.le_trans z0 hm.size
          clear hm
          obtain ⟨⟨u0, q0⟩, f0⟩ := BX.2 0 (by omega)
          obtain ⟨⟨u1, q1⟩, f1⟩ := BX.2 1 (by omega)
          obtain ⟨⟨u2, q2⟩, f2⟩ := BX.2 2 (by omega)
          obtain ⟨⟨u3, q3⟩, f3⟩ := BX.2 3 (by omega)
          obtain ⟨⟨u4, q4⟩, f4⟩ := BX.2 4 (by omega)
          have lB := BX.1
          clear BX
          go_wp2
          refine bodyPost_ret (v := .agg #[.int .i64 20, .int .i64 sort, .int .i64 x, .string ⟨#[]⟩, .slice none 0 0]) (by simp [results, Try.results29, go_sem, q0, q1, q2, q3, q4]) rfl ⟨⟨TT.node 20 sort x ⟨#[]⟩ 0 (fun _ => .nil), _, 0, rfl, ?_, Nat.le_refl _, ⟨by omega, by first | decide | (have := (unhide HV _ hix).2.2; omega), fun i hi => by omega⟩, by omega⟩, ?_, ?_⟩
          · exact Or.inl rfl
          · exact ((((((hR).set hlt _ _).set hlt _ _).set hlt _ _).set hlt _ _).set hlt _ _).mono (by omega)
          · exact (((((MV).setNew (Nat.le_refl _) _ _).setNew (Nat.le_refl _) _ _).setNew (Nat.le_refl _) _ _).setNew (Nat.le_refl _) _ _).setNew (Nat.le_refl _) _ _
      · have hix : 0 < n := by omega
        go_wp2_with fail
        refine (two_any _ _ (by omega) (by omega)).mono ?_
        rintro e wt ⟨rfl, rfl⟩
        have t1 := (two_bd sort (by omega) (by omega)).1
        have t2 := (two_bd sort (by omega) (by omega)).2
        go_wp2_with fail
        refine (pick_any R _ _ _ hR (by omega) (by omega) (by omega)).mono ?_
        rintro e w2 ⟨x, rfl, x0, x1, hRn, hm⟩
        replace hR := hRn
        clear hRn
        replace BX := BX.mov hm (by omega)
        replace HD := hide ((unhide HD).mov hm hb)
        replace MV := MV.trans hm
        replace z0 := Nat.le_trans z0 hm.size
        clear hm
        obtain ⟨⟨u0, q0⟩, f0⟩ := BX.2 0 (by omega)
        obtain ⟨⟨u1, q1⟩, f1⟩ := BX.2 1 (by omega)
        obtain ⟨⟨u2, q2⟩, f2⟩ := BX.2 2 (by omega)
        obtain ⟨⟨u3, q3⟩, f3⟩ := BX.2 3 (by omega)
        obtain ⟨⟨u4, q4⟩, f4⟩ := BX.2 4 (by omega)
        have lB := BX.1
        clear BX
        go_wp2
        refine bodyPost_ret (v := .agg #[.int .i64 20, .int .i64 sort, .int .i64 x, .string ⟨#[]⟩, .slice none 0 0]) (by simp [results, Try.results29, go_sem, q0, q1, q2, q3, q4]) rfl ⟨⟨TT.node 20 sort x ⟨#[]⟩ 0 (fun _ => .nil), _, 0, rfl, ?_, Nat.le_refl _, ⟨by omega, by first | decide | (have := (unhide HV _ hix).2.2; omega), fun i hi => by omega⟩, by omega⟩, ?_, ?_⟩
        · exact Or.inl rfl
        · exact ((((((hR).set hlt _ _).set hlt _ _).set hlt _ _).set hlt _ _).set hlt _ _).mono (by omega)
        · exact (((((MV).setNew (Nat.le_refl _) _ _).setNew (Nat.le_refl _) _ _).setNew (Nat.le_refl _) _ _).setNew (Nat.le_refl _) _ _).setNew (Nat.le_refl _) _ _
end Go.Proofs.Ytmdelmpdnmhpmaa
