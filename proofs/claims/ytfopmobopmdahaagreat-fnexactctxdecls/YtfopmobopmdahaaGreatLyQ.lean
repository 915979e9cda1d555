/- Layers of names and terms in memory; appends of names and terms; what the laws' counts, copies and comparisons of layers return. -/
import Derived.Test.YtfopmobopmdahaaGreatDrwD
import Derived.Test.YtfopmobopmdahaaGreatIapA
import Derived.Test.YtfopmobopmdahaaGreatSamM
import Derived.Test.YtfopmobopmdahaaGreatPlA
import Derived.Test.YtfopmobopmdahaaGreatDecD
namespace Go.Proofs.YtfopmobopmdahaaGreat
open Go.ChangeShapes Go.WideShapes Go.ChangeAt Go.RowKit Go.Joins
set_option linter.unusedVariables false
theorem step_append_ex {P : Program} {ops : Array Oper} {o : Oper} {a : Act} {w : World} {K : Act → World → Prop} {Q : Exit → Act → World → Prop} {E : Prop} (hgd : o.guard = none) (s x : Operand) (t : TypeId)
    (ho : o.op = .call { callee := .builtin .append, args := #[s, x], argTypes := #[t, t] }) (v xv : Value) (hs : a.eval s = v) (hx : a.eval x = xv) (v' : Value) (w' : World)
    (hr : (Builtin.append_ #[t, t] o.type #[v, xv]).run P w = .ok v' w') (h : K (a.put o.dst v') w') : if Region.wanted o (yielded ops a.tmps) = true then Oper.wp P o a w K Q else E := by
  have hw : Region.wanted o (yielded ops a.tmps) = true := by simp [Region.wanted, hgd]
  rw [if_pos hw]
  unfold Oper.wp
  simp only [execOp, ho, resolve, invoke, builtin, Sem.run_bind, Sem.run_pure, Result.andThen_ok, List.map_toArray, List.map_cons, List.map_nil, hs, hx, hr]
  exact h
/-- Names as a list. -/
def dprs (n : Nat) (S : Nat → ByteArray) (V : Nat → Int) : List (ByteArray × Int) := (List.range n).map fun i => (S i, V i)
theorem dprs_len (n : Nat) (S : Nat → ByteArray) (V : Nat → Int) : (dprs n S V).length = n := by simp [dprs]
theorem dprs_at {n : Nat} {S : Nat → ByteArray} {V : Nat → Int} {i : Nat} (h : i < n) : (dprs n S V).getD i (ByteArray.empty, 0) = (S i, V i) := by simp [dprs, List.getD, h]
theorem dcells_size : ∀ (L : List (ByteArray × Int)), (dcells L).length = L.length * 2
  | [] => rfl
  | p :: L => by
    have e : dcells (p :: L) = .string p.1 :: .int .i64 p.2 :: dcells L := rfl
    rw [e]; simp [dcells_size L]; omega
theorem dcells_app (L M : List (ByteArray × Int)) : dcells (L ++ M) = dcells L ++ dcells M := by simp [dcells]
theorem dcells_cell {L : List (ByteArray × Int)} : ∀ u ∈ dcells L, u.oneCell' = true := by
  intro u hu
  simp [dcells] at hu
  obtain ⟨x, y, _, h | h⟩ := hu <;> subst h <;> rfl
/-- The names of a list, as they lie. -/
theorem dcells_lie {w : World} {b off : Nat} {L : List (ByteArray × Int)} (h : ∀ i (hi : i < L.length), w.cell? ⟨b, off + i * 2, none⟩ = some (.string (L[i]).1) ∧ w.cell? ⟨b, off + i * 2 + 1, none⟩ = some (.int .i64 (L[i]).2)) :
    ∀ j u, (dcells L)[j]? = some u → w.cell? ((⟨b, off, none⟩ : Addr).add j) = some u := by
  intro j u hj
  have hl : j < L.length * 2 := by
    have := (List.getElem?_eq_some_iff.1 hj).1
    rwa [dcells_size] at this
  have hi : j / 2 < L.length := by omega
  obtain ⟨a, c⟩ := dcells_at L (j / 2) hi
  obtain ⟨x, y⟩ := h (j / 2) hi
  rw [Go.WideShapes.add_plain]
  by_cases e : j % 2 = 0
  · have e1 : j / 2 * 2 = j := by omega
    rw [e1] at a x
    rw [a] at hj
    rw [x, ← hj]
  · have e1 : j / 2 * 2 + 1 = j := by omega
    rw [e1] at c
    rw [c] at hj
    have e2 : off + j / 2 * 2 + 1 = off + j := by omega
    rw [e2] at y
    rw [y, ← hj]
theorem decs_lie {w : World} {b off n : Nat} {S : Nat → ByteArray} {V : Nat → Int} (h : Decs w b off n S V) : ∀ j u, (dcells (dprs n S V))[j]? = some u → w.cell? ((⟨b, off, none⟩ : Addr).add j) = some u :=
  dcells_lie (fun i hi => by
    have hi' : i < n := by simpa [dprs_len] using hi
    have e : (dprs n S V)[i] = (S i, V i) := by simp [dprs]
    rw [e]; exact h i hi')
theorem infoDeclS : (Tryz.prog.info? 40).map (fun i => (i.zero, i.size, i.bytes)) = some (some (.agg #[.string ByteArray.empty, .int .i64 0]), 2, 24) := by kernel_rfl
/-- Names behind those of a list of one's own. -/
theorem decs_more (w : World) (base g n cap : Nat) (L M : List (ByteArray × Int)) (a : Addr) (m c : Nat) (hown : w.ownsRow base 40 2 (.slice (some ⟨g, 0, none⟩) n cap) n (dcells L)) (hm : M.length = m) (hM : ∀ j u, (dcells M)[j]? = some u → w.cell? (a.add j) = some u) (hk : n + m ≤ 4000000) (hbase : base ≤ w.heap.size) :
    ∃ g' cap' w', (Builtin.append_ #[29, 29] 29 #[.slice (some ⟨g, 0, none⟩) n cap, .slice (some a) m c]).run Tryz.prog w = .ok (.slice (some ⟨g', 0, none⟩) (n + m) cap') w' ∧ w'.ownsRow base 40 2 (.slice (some ⟨g', 0, none⟩) (n + m) cap') (n + m) (dcells (L ++ M)) ∧ w.grownBy w' (some g) ∧ (g' = g ∨ g' = w.heap.size) := by
  obtain ⟨i0, hi0, hzz⟩ := Option.map_eq_some_iff.1 infoDeclS
  simp only [Prod.mk.injEq] at hzz
  obtain ⟨hz0, hz1, hz2⟩ := hzz
  rw [dcells_app]
  exact append_where (P := Tryz.prog) w base 29 29 40 i0 _ 2 24 Tryz.underlying29 hi0 hz0 hz1 hz2 rfl (by omega) g n cap (dcells L) hown a m c (dcells M) (by rw [dcells_size, hm]) hM dcells_cell (by unfold maxLen; omega) (by omega) hbase
/-- An empty list that has been laid down is one's own. -/
theorem decs_none {w : World} {base X : Nat} (hX : w.heap[X]? = some (.cells #[] 40 (0, 0))) (hb : base ≤ X) : w.ownsRow base 40 2 (.slice (some ⟨X, 0, none⟩) 0 0) 0 (dcells []) :=
  ⟨rfl, .inr ⟨X, 0, #[], rfl, hb, hX, Nat.le_refl _, by unfold maxLen; omega, rfl, rfl⟩⟩
/-- A layer: how many names, these with their bits, how many terms, and these. -/
structure Lyr where
  nd : Nat
  S : Nat → ByteArray
  V : Nat → Int
  nt : Nat
  kid : Nat → TT
/-- Its terms, as the Kids of one. -/
def Lyr.t (q : Lyr) : TT := .node 0 0 0 ByteArray.empty q.nt q.kid
/-- Names that lie in blocks of a range. -/
def DecsIn (w : World) (lo hi : Nat) (a : Option Addr) (n : Nat) (S : Nat → ByteArray) (V : Nat → Int) : Prop := n = 0 ∨ ∃ b off, a = some ⟨b, off, none⟩ ∧ lo ≤ b ∧ b < hi ∧ Decs w b off n S V
theorem DecsIn.keep {w w' : World} {lo hi : Nat} {a : Option Addr} {n : Nat} {S : Nat → ByteArray} {V : Nat → Int} (h : DecsIn w lo hi a n S V) (hk : ∀ b o, lo ≤ b → b < hi → w'.cell? ⟨b, o, none⟩ = w.cell? ⟨b, o, none⟩) : DecsIn w' lo hi a n S V := by
  rcases h with h | ⟨b, off, h1, h2, h3, h4⟩
  · exact Or.inl h
  · exact Or.inr ⟨b, off, h1, h2, h3, fun i hi => ⟨by rw [hk b _ h2 h3]; exact (h4 i hi).1, by rw [hk b _ h2 h3]; exact (h4 i hi).2⟩⟩
theorem DecsIn.wide {w : World} {lo hi lo' hi' : Nat} {a : Option Addr} {n : Nat} {S : Nat → ByteArray} {V : Nat → Int} (h : DecsIn w lo hi a n S V) (hl : lo' ≤ lo) (hh : hi ≤ hi') : DecsIn w lo' hi' a n S V := by
  rcases h with h | ⟨b, off, h1, h2, h3, h4⟩
  · exact Or.inl h
  · exact Or.inr ⟨b, off, h1, by omega, by omega, h4⟩
theorem DecsIn.at_ {w : World} {lo hi : Nat} {a : Option Addr} {n : Nat} {S : Nat → ByteArray} {V : Nat → Int} (h : DecsIn w lo hi a n S V) (hh : hi ≤ w.heap.size) : DecsAt w a n S V := by
  rcases h with h | ⟨b, off, h1, h2, h3, h4⟩
  · exact Or.inl h
  · exact Or.inr ⟨b, off, h1, by omega, h4⟩
/-- A layer's names and terms lie in blocks of a range. -/
def Lyr.In (q : Lyr) (w : World) (lo hi : Nat) (da ta : Option Addr) : Prop := DecsIn w lo hi da q.nd q.S q.V ∧ q.t.In w lo hi ta
theorem Lyr.In.keep {q : Lyr} {w w' : World} {lo hi : Nat} {da ta : Option Addr} (h : q.In w lo hi da ta) (hk : ∀ b o, lo ≤ b → b < hi → w'.cell? ⟨b, o, none⟩ = w.cell? ⟨b, o, none⟩) : q.In w' lo hi da ta := ⟨h.1.keep hk, TT.In.keep hk _ _ h.2⟩
theorem Lyr.In.later {q : Lyr} {w w' : World} {lo hi : Nat} {da ta : Option Addr} (h : q.In w lo hi da ta) (hb : Below hi w w') : q.In w' lo hi da ta := h.keep (fun b o _ h3 => hb.cell (p := ⟨b, o, none⟩) h3)
theorem Lyr.In.wide {q : Lyr} {w : World} {lo hi lo' hi' : Nat} {da ta : Option Addr} (h : q.In w lo hi da ta) (hl : lo' ≤ lo) (hh : hi ≤ hi') : q.In w lo' hi' da ta := ⟨h.1.wide hl hh, TT.In.wide hl hh _ _ h.2⟩
theorem Lyr.In.set {q : Lyr} {w : World} {lo hi : Nat} {da ta : Option Addr} (h : q.In w lo hi da ta) {p : Addr} (hp : p.block < lo) (v : Value) : q.In (w.setCell p v) lo hi da ta :=
  h.keep (fun b o h1 _ => World.cell?_setCell_other _ _ _ _ (by intro e; cases p; simp at hp; injection e; omega))
/-- The two cells of a layer. -/
def Two (w : World) (bl o : Nat) (q : Lyr) (da ta : Option Addr) (dc tc : Nat) : Prop := w.cell? ⟨bl, o, none⟩ = some (.slice da q.nd dc) ∧ w.cell? ⟨bl, o + 1, none⟩ = some (.slice ta q.nt tc)
theorem Two.keep {w w' : World} {bl o : Nat} {q : Lyr} {da ta : Option Addr} {dc tc : Nat} (h : Two w bl o q da ta dc tc) (hk : ∀ o, w'.cell? ⟨bl, o, none⟩ = w.cell? ⟨bl, o, none⟩) : Two w' bl o q da ta dc tc := by
  unfold Two; rw [hk, hk]; exact h
/-- Layers that lie in blocks of a range, their list at an address. -/
def LaysIn (w : World) (lo hi : Nat) (a : Option Addr) (n : Nat) (Q : Nat → Lyr) : Prop :=
  n = 0 ∨ ∃ bl off, a = some ⟨bl, off, none⟩ ∧ lo ≤ bl ∧ bl < hi ∧ ∃ (DA TA : Nat → Option Addr) (DC TC : Nat → Nat), ∀ i, i < n → Two w bl (off + i * 2) (Q i) (DA i) (TA i) (DC i) (TC i) ∧ ((Q i).nd ≤ DC i ∧ (Q i).nt ≤ TC i ∧ (DA i = none → DC i = 0) ∧ (TA i = none → TC i = 0)) ∧ (Q i).In w lo hi (DA i) (TA i)
theorem LaysIn.keep {w w' : World} {lo hi : Nat} {a : Option Addr} {n : Nat} {Q : Nat → Lyr} (h : LaysIn w lo hi a n Q) (hk : ∀ b o, lo ≤ b → b < hi → w'.cell? ⟨b, o, none⟩ = w.cell? ⟨b, o, none⟩) : LaysIn w' lo hi a n Q := by
  rcases h with h | ⟨bl, off, h1, h2, h3, DA, TA, DC, TC, h4⟩
  · exact Or.inl h
  · exact Or.inr ⟨bl, off, h1, h2, h3, DA, TA, DC, TC, fun i hi => ⟨(h4 i hi).1.keep (fun o => hk bl o h2 h3), (h4 i hi).2.1, (h4 i hi).2.2.keep hk⟩⟩
theorem LaysIn.later {w w' : World} {lo hi : Nat} {a : Option Addr} {n : Nat} {Q : Nat → Lyr} (h : LaysIn w lo hi a n Q) (hb : Below hi w w') : LaysIn w' lo hi a n Q := h.keep (fun b o _ h3 => hb.cell (p := ⟨b, o, none⟩) h3)
theorem LaysIn.drew {w : World} {lo hi : Nat} {a : Option Addr} {n : Nat} {Q : Nat → Lyr} (h : LaysIn w lo hi a n Q) : LaysIn w.drew lo hi a n Q := LaysIn.keep (w := w) (w' := w.drew) h (fun _ _ _ _ => rfl)
theorem LaysIn.wide {w : World} {lo hi lo' hi' : Nat} {a : Option Addr} {n : Nat} {Q : Nat → Lyr} (h : LaysIn w lo hi a n Q) (hl : lo' ≤ lo) (hh : hi ≤ hi') : LaysIn w lo' hi' a n Q := by
  rcases h with h | ⟨bl, off, h1, h2, h3, DA, TA, DC, TC, h4⟩
  · exact Or.inl h
  · exact Or.inr ⟨bl, off, h1, by omega, by omega, DA, TA, DC, TC, fun i hi => ⟨(h4 i hi).1, (h4 i hi).2.1, (h4 i hi).2.2.wide hl hh⟩⟩
/-- All lists and names take at most so many signs. -/
def Lyr.Fit (M : Nat) (q : Lyr) : Prop := q.nd ≤ M ∧ (∀ i, i < q.nd → (q.S i).size ≤ M) ∧ q.nt ≤ M ∧ ∀ i, i < q.nt → (q.kid i).Fit M
/-- What the law's count lets through. -/
def Lyr.Low (q : Lyr) : Prop := q.Fit 1048576 ∧ ∀ i, i < q.nt → (q.kid i).N ≤ 1048577

set_option maxRecDepth 100000 in
set_option maxHeartbeats 2000000 in
theorem szTermS_any (hi n : Nat) (kid : Nat → TT) (fn : n ≤ maxLen) (fk : ∀ i, i < n → (kid i).Fit maxLen) (op a b : Int) (s : ByteArray) (ad : Option Addr) (cp : Nat) : ∀ (left : Int) (w : World), (TT.node op a b s n kid).In w 0 hi ad → 0 ≤ left → left ≤ 1048576 → hi ≤ w.heap.size → Calls Tryz.prog 55 #[.slice ad n cp, .int .i64 left] w fun e w' => (∃ z : Int, e = .returned (.int .i64 z) ∧ (z < 0 ∨ 0 ≤ z ∧ z + sumN (fun i => (kid i).N) n ≤ left ∧ n ≤ 1048576 ∧ ∀ i, i < n → (kid i).Fit 1048576)) ∧ Below w.heap.size w w' := by
  have ih := fun k => szTermN_any hi (kid k)
  intro left w hin h0 h1 hhi
  have IH := hide ih
  have FK := hide fk
  clear ih fk
  unfold maxLen at fn
  by_cases h : (n : Int) ≤ left
  · rcases hin with rfl | ⟨bl, off, rfl, hlo, hbl, AD, CP, hd⟩
    · go_enter Tryz.func55, Tryz.ntmps55
      go_wp2
      go_loopw [5, 1] (fun i l wr => i = .int .i64 0 ∧ l = .int .i64 left ∧ Below w.heap.size w wr) (fun _ _ _ => 0)
      case atStart => exact ⟨rfl, by go_num, (by repeat (first | exact Below.refl _ _ | assumption | refine below_drewN ?_ _ | refine Below.drew ?_ | refine Below.alloc ?_ (by first | exact Nat.le_refl _ | exact Below.size (by assumption) | (simp; done) | (simp; omega)) _ | refine Below.setCell ?_ (by first | exact Nat.le_refl _ | exact Below.size (by assumption) | (simp; done) | (simp; omega)) _ | refine Below.trans ?_ (by assumption)))⟩
      case round =>
        obtain ⟨rfl, rfl, hbel⟩ := hrel
        go_wp2
        go_ret
        exact ⟨⟨_, rfl, Or.inr ⟨h0, by simp [sumN], by omega, fun i hi => by omega⟩⟩, (by repeat (first | exact Below.refl _ _ | assumption | refine below_drewN ?_ _ | refine Below.drew ?_ | refine Below.alloc ?_ (by first | exact Nat.le_refl _ | exact Below.size (by assumption) | (simp; done) | (simp; omega)) _ | refine Below.setCell ?_ (by first | exact Nat.le_refl _ | exact Below.size (by assumption) | (simp; done) | (simp; omega)) _ | refine Below.trans ?_ (by assumption)))⟩
    · have HD := hide hd
      clear hd
      go_enter Tryz.func55, Tryz.ntmps55
      go_wp2
      go_loopw [5, 1] (fun i l wr => ∃ (k : Nat) (z : Int), k ≤ n ∧ i = .int .i64 k ∧ l = .int .i64 z ∧ 0 ≤ z ∧ z + sumN (fun i => (kid i).N) k + (n - k) ≤ left ∧ (∀ j, j < k → (kid j).Fit 1048576) ∧ Below w.heap.size w wr) (fun i _ _ => n - (intOf i).toNat)
      case atStart => exact ⟨0, left - n, by omega, rfl, by go_num, by omega, by simp [sumN], fun j hj => by omega, (by repeat (first | exact Below.refl _ _ | assumption | refine below_drewN ?_ _ | refine Below.drew ?_ | refine Below.alloc ?_ (by first | exact Nat.le_refl _ | exact Below.size (by assumption) | (simp; done) | (simp; omega)) _ | refine Below.setCell ?_ (by first | exact Nat.le_refl _ | exact Below.size (by assumption) | (simp; done) | (simp; omega)) _ | refine Below.trans ?_ (by assumption)))⟩
      case round =>
        obtain ⟨k, z, hk, rfl, rfl, z0, z1, hz, hbel⟩ := hrel
        have HZ := hide hz
        clear hz
        have hhr := Nat.le_trans hhi hbel.size
        by_cases hlt : k < n
        · obtain ⟨h5, hcp, hin⟩ := unhide HD k hlt
          obtain ⟨c0, c1, c2, c3, c4⟩ := h5.keep (w' := wr) (fun o => hbel.cell (p := ⟨bl, o, none⟩) (Nat.lt_of_lt_of_le hbl hhi))
          have hin' := hin.later (hbel.mono hhi)
          go_wp2_with fail
          refine (unhide IH k _ _ _ _ hin' (unhide FK k hlt) z0 (by omega) hhr).mono ?_
          rintro e w1 ⟨⟨y, rfl, hy⟩, b1⟩
          by_cases hle : 0 ≤ y
          · go_wp2
            go_roundw
            case rel =>
              obtain ⟨_, hy1, hy2⟩ := hy.resolve_left (by omega)
              have e : sumN (fun i => (kid i).N) (k + 1) = sumN (fun i => (kid i).N) k + (kid k).N := rfl
              refine ⟨k + 1, y, by omega, by go_num, rfl, by omega, by rw [e]; omega, ?_, hbel.trans (b1.mono hbel.size)⟩
              intro j hj
              by_cases e : j = k
              · subst e; exact hy2
              · exact unhide HZ j (by omega)
            case measure => simp [intOf]; omega
          · go_wp2
            go_ret
            exact ⟨⟨_, rfl, Or.inl (by omega)⟩, hbel.trans (b1.mono hbel.size)⟩
        · have e : k = n := by omega
          subst e
          go_wp2
          go_ret
          exact ⟨⟨_, rfl, Or.inr ⟨z0, by omega, by omega, unhide HZ⟩⟩, hbel⟩
  · go_enter Tryz.func55, Tryz.ntmps55
    go_wp2
    go_ret
    exact ⟨⟨_, rfl, Or.inl (by omega)⟩, (by repeat (first | exact Below.refl _ _ | assumption | refine below_drewN ?_ _ | refine Below.drew ?_ | refine Below.alloc ?_ (by first | exact Nat.le_refl _ | exact Below.size (by assumption) | (simp; done) | (simp; omega)) _ | refine Below.setCell ?_ (by first | exact Nat.le_refl _ | exact Below.size (by assumption) | (simp; done) | (simp; omega)) _ | refine Below.trans ?_ (by assumption)))⟩
set_option maxRecDepth 100000 in
set_option maxHeartbeats 1000000 in
theorem szLayer_any (hi : Nat) (q : Lyr) (da ta : Option Addr) (dc tc : Nat) (left : Int) (w : World) (hin : q.In w 0 hi da ta) (hf : q.Fit maxLen) (h0 : 0 ≤ left) (h1 : left ≤ 1048576) (hhi : hi ≤ w.heap.size) :
    Calls Tryz.prog 35 #[.agg #[.slice da q.nd dc, .slice ta q.nt tc], .int .i64 left] w fun e w' => (∃ z : Int, e = .returned (.int .i64 z) ∧ (z < 0 ∨ 0 ≤ z ∧ z ≤ left ∧ q.Low)) ∧ Below w.heap.size w w' := by
  obtain ⟨f1, f2, f3, f4⟩ := hf
  go_enter Tryz.func35, Tryz.ntmps35
  go_wp2_with fail
  have e1 : Below w.heap.size w (w.alloc (.cells #[.slice da q.nd dc, .slice ta q.nt tc] 58)) := (Below.refl _ _).alloc (Nat.le_refl _) _
  refine (szDeclS_any da q.nd dc q.S q.V left _ ((hin.1.at_ hhi).later e1) h0 h1 f1 f2).mono ?_
  rintro e w1 ⟨⟨z, rfl, hz⟩, b1⟩
  have p1 : w1.cell? ⟨w.heap.size, 1, none⟩ = some (.slice ta q.nt tc) := cell_later b1 (by simp [go_sem])
  have BL := e1.trans (b1.mono (by simp <;> omega))
  clear e1 b1
  by_cases hz0 : 0 ≤ z
  · obtain ⟨_, hz1, hz2, hz3⟩ := hz.resolve_left (by omega)
    have HZ := hide hz3
    have F4 := hide f4
    have IN := hide (hin.2.later (BL.mono hhi))
    have hh1 := Nat.le_trans hhi BL.size
    clear hz hz3 f2 f4 hin
    go_wp2_with fail
    refine (szTermS_any hi q.nt q.kid f3 (unhide F4) 0 0 0 ByteArray.empty ta tc z w1 (unhide IN) hz0 (by omega) hh1).mono ?_
    rintro e w2 ⟨⟨y, rfl, hy⟩, b2⟩
    replace BL := BL.trans (b2.mono BL.size)
    clear b2 p1
    by_cases hy0 : 0 ≤ y
    · have HL : Hid (q.Low) := by
        obtain ⟨_, hy1, hy2, hy3⟩ := hy.resolve_left (by omega)
        refine ⟨⟨by omega, fun i hi => by have := unhide HZ i hi; omega, hy2, hy3⟩, fun i hi => ?_⟩
        have := sumN_at (fun i => (q.kid i).N) hi
        try simp only at this
        omega
      have hyz : y ≤ z := by have := (hy.resolve_left (by omega)).2.1; omega
      clear hy
      go_wp2
      go_ret
      exact ⟨⟨_, rfl, Or.inr ⟨hy0, by omega, unhide HL⟩⟩, BL⟩
    · clear hy
      go_wp2
      go_ret
      exact ⟨⟨_, rfl, Or.inl (by omega)⟩, BL⟩
  · clear hz hin f2 f4
    go_wp2
    go_ret
    exact ⟨⟨_, rfl, Or.inl (by omega)⟩, BL⟩
set_option maxRecDepth 100000 in
set_option maxHeartbeats 1000000 in
theorem szLayerS_any (hi : Nat) (a : Option Addr) (n cap : Nat) (Q : Nat → Lyr) (left : Int) (w : World) (hd : LaysIn w 0 hi a n Q) (hf : ∀ i, i < n → (Q i).Fit maxLen) (h0 : 0 ≤ left) (h1 : left ≤ 1048576) (hn : n ≤ maxLen) (hhi : hi ≤ w.heap.size) :
    Calls Tryz.prog 9 #[.slice a n cap, .int .i64 left] w fun e w' => (∃ z : Int, e = .returned (.int .i64 z) ∧ (z < 0 ∨ 0 ≤ z ∧ z ≤ left ∧ n ≤ left ∧ ∀ i, i < n → (Q i).Low)) ∧ Below w.heap.size w w' := by
  unfold maxLen at hn
  have HF := hide hf
  clear hf
  by_cases h : (n : Int) ≤ left
  · rcases hd with rfl | ⟨b, off, rfl, hlo, hb, DA, TA, DC, TC, hd⟩
    · go_enter Tryz.func9, Tryz.ntmps9
      go_wp2
      go_loopw [5, 1] (fun i l wr => i = .int .i64 0 ∧ l = .int .i64 left ∧ Below w.heap.size w wr) (fun _ _ _ => 0)
      case atStart => exact ⟨rfl, by go_num, (by repeat (first | exact Below.refl _ _ | assumption | refine below_drewN ?_ _ | refine Below.drew ?_ | refine Below.alloc ?_ (by first | exact Nat.le_refl _ | exact Below.size (by assumption) | (simp; done) | (simp; omega)) _ | refine Below.setCell ?_ (by first | exact Nat.le_refl _ | exact Below.size (by assumption) | (simp; done) | (simp; omega)) _ | refine Below.trans ?_ (by assumption)))⟩
      case round =>
        obtain ⟨rfl, rfl, hbel⟩ := hrel
        go_wp2
        go_ret
        exact ⟨⟨_, rfl, Or.inr ⟨h0, by omega, by omega, fun i hi => by omega⟩⟩, (by repeat (first | exact Below.refl _ _ | assumption | refine below_drewN ?_ _ | refine Below.drew ?_ | refine Below.alloc ?_ (by first | exact Nat.le_refl _ | exact Below.size (by assumption) | (simp; done) | (simp; omega)) _ | refine Below.setCell ?_ (by first | exact Nat.le_refl _ | exact Below.size (by assumption) | (simp; done) | (simp; omega)) _ | refine Below.trans ?_ (by assumption)))⟩
    · have HD := hide hd
      clear hd
      go_enter Tryz.func9, Tryz.ntmps9
      go_wp2
      go_loopw [5, 1] (fun i l wr => ∃ (k : Nat) (z : Int), k ≤ n ∧ i = .int .i64 k ∧ l = .int .i64 z ∧ 0 ≤ z ∧ z ≤ left ∧ (∀ j, j < k → (Q j).Low) ∧ Below w.heap.size w wr) (fun i _ _ => n - (intOf i).toNat)
      case atStart => exact ⟨0, left - n, by omega, rfl, by go_num, by omega, by omega, fun j hj => by omega, (by repeat (first | exact Below.refl _ _ | assumption | refine below_drewN ?_ _ | refine Below.drew ?_ | refine Below.alloc ?_ (by first | exact Nat.le_refl _ | exact Below.size (by assumption) | (simp; done) | (simp; omega)) _ | refine Below.setCell ?_ (by first | exact Nat.le_refl _ | exact Below.size (by assumption) | (simp; done) | (simp; omega)) _ | refine Below.trans ?_ (by assumption)))⟩
      case round =>
        obtain ⟨k, z, hk, rfl, rfl, z0, z1, hz, hbel⟩ := hrel
        have HZ := hide hz
        clear hz
        have hhr := Nat.le_trans hhi hbel.size
        by_cases hlt : k < n
        · obtain ⟨h2, _, hin⟩ := unhide HD k hlt
          obtain ⟨c0, c1⟩ := h2.keep (w' := wr) (fun o => hbel.cell (p := ⟨b, o, none⟩) (Nat.lt_of_lt_of_le hb hhi))
          have hin' := hin.later (hbel.mono hhi)
          have HFk := hide (unhide HF k hlt)
          generalize hq : Q k = q at *
          go_wp2_with fail
          refine (szLayer_any hi q _ _ _ _ z _ hin' (unhide HFk) z0 (by omega) hhr).mono ?_
          rintro e w1 ⟨⟨y, rfl, hy⟩, b1⟩
          have HY := hide hy
          clear hy hin hin' h2
          by_cases hle : 0 ≤ y
          · go_wp2
            go_roundw
            case rel =>
              obtain ⟨_, hy1, hy2⟩ := (unhide HY).resolve_left (by omega)
              refine ⟨k + 1, y, by omega, by go_num, rfl, by omega, by omega, ?_, hbel.trans (b1.mono hbel.size)⟩
              intro j hj
              by_cases e : j = k
              · subst e; rw [hq]; exact hy2
              · exact unhide HZ j (by omega)
            case measure => simp [intOf]; omega
          · go_wp2
            go_ret
            exact ⟨⟨_, rfl, Or.inl (by omega)⟩, hbel.trans (b1.mono hbel.size)⟩
        · have e : k = n := by omega
          subst e
          go_wp2
          go_ret
          exact ⟨⟨_, rfl, Or.inr ⟨z0, z1, by omega, unhide HZ⟩⟩, hbel⟩
  · go_enter Tryz.func9, Tryz.ntmps9
    go_wp2
    go_ret
    exact ⟨⟨_, rfl, Or.inl (by omega)⟩, (by repeat (first | exact Below.refl _ _ | assumption | refine below_drewN ?_ _ | refine Below.drew ?_ | refine Below.alloc ?_ (by first | exact Nat.le_refl _ | exact Below.size (by assumption) | (simp; done) | (simp; omega)) _ | refine Below.setCell ?_ (by first | exact Nat.le_refl _ | exact Below.size (by assumption) | (simp; done) | (simp; omega)) _ | refine Below.trans ?_ (by assumption)))⟩
set_option maxRecDepth 100000 in
set_option maxHeartbeats 1000000 in
theorem eqDeclS_at (hi : Nat) (a c : Option Addr) (n cap cap' : Nat) (S : Nat → ByteArray) (V : Nat → Int) (w : World) (hd : DecsIn w 0 hi a n S V) (hd' : DecsIn w 0 hi c n S V) (hn : n ≤ 1048576) (hhi : hi ≤ w.heap.size) :
    Calls Tryz.prog 16 #[.slice a n cap, .slice c n cap'] w fun e w' => e = .returned (.bool true) ∧ Below w.heap.size w w' := by
  rcases hd with rfl | ⟨b, off, rfl, _, hb, hd⟩
  · go_enter Tryz.func16, Tryz.ntmps16
    go_wp2
    go_loopw [5] (fun i wr => i = .int .i64 0 ∧ Below w.heap.size w wr) (fun _ _ => 0)
    case atStart => exact ⟨rfl, (by repeat (first | exact Below.refl _ _ | assumption | refine below_drewN ?_ _ | refine Below.drew ?_ | refine Below.alloc ?_ (by first | exact Nat.le_refl _ | exact Below.size (by assumption) | (simp; done) | (simp; omega)) _ | refine Below.setCell ?_ (by first | exact Nat.le_refl _ | exact Below.size (by assumption) | (simp; done) | (simp; omega)) _ | refine Below.trans ?_ (by assumption)))⟩
    case round =>
      obtain ⟨rfl, hbel⟩ := hrel
      go_wp2
      go_ret
      exact ⟨rfl, hbel⟩
  · rcases hd' with rfl | ⟨b', off', rfl, _, hb', hd'⟩
    · go_enter Tryz.func16, Tryz.ntmps16
      go_wp2
      go_loopw [5] (fun i wr => i = .int .i64 0 ∧ Below w.heap.size w wr) (fun _ _ => 0)
      case atStart => exact ⟨rfl, (by repeat (first | exact Below.refl _ _ | assumption | refine below_drewN ?_ _ | refine Below.drew ?_ | refine Below.alloc ?_ (by first | exact Nat.le_refl _ | exact Below.size (by assumption) | (simp; done) | (simp; omega)) _ | refine Below.setCell ?_ (by first | exact Nat.le_refl _ | exact Below.size (by assumption) | (simp; done) | (simp; omega)) _ | refine Below.trans ?_ (by assumption)))⟩
      case round =>
        obtain ⟨rfl, hbel⟩ := hrel
        go_wp2
        go_ret
        exact ⟨rfl, hbel⟩
    · exact eqDeclS_same b off b' off' n cap cap' S V w (by omega) (by omega) hd hd' hn
set_option maxRecDepth 100000 in
set_option maxHeartbeats 4000000 in
theorem eqTermS_any (hi n : Nat) (kid : Nat → TT) (fn : n ≤ 1048576) (fk : ∀ i, i < n → (kid i).Fit 1048576) (op a b : Int) (s : ByteArray) (ad ad' : Option Addr) (cp cp' : Nat) : ∀ (w : World), (TT.node op a b s n kid).In w 0 hi ad → (TT.node op a b s n kid).In w 0 hi ad' → hi ≤ w.heap.size → Calls Tryz.prog 60 #[.slice ad n cp, .slice ad' n cp'] w fun e w' => e = .returned (.bool true) ∧ Below w.heap.size w w' := by
  have ih := fun k => eqTerm_same hi (kid k)
  intro w hin hin' hhi
  have IH := hide ih
  have FK := hide fk
  clear ih fk
  rcases hin with rfl | ⟨bl, off, rfl, hlo, hbl, AD, CP, hd⟩
  · go_enter Tryz.func60, Tryz.ntmps60
    go_wp2
    go_loopw [5] (fun i wr => i = .int .i64 0 ∧ Below w.heap.size w wr) (fun _ _ => 0)
    case atStart => exact ⟨rfl, (by repeat (first | exact Below.refl _ _ | assumption | refine below_drewN ?_ _ | refine Below.drew ?_ | refine Below.alloc ?_ (by first | exact Nat.le_refl _ | exact Below.size (by assumption) | (simp; done) | (simp; omega)) _ | refine Below.setCell ?_ (by first | exact Nat.le_refl _ | exact Below.size (by assumption) | (simp; done) | (simp; omega)) _ | refine Below.trans ?_ (by assumption)))⟩
    case round =>
      obtain ⟨rfl, hbel⟩ := hrel
      go_wp2
      go_ret
      exact ⟨rfl, hbel⟩
  · rcases hin' with rfl | ⟨bl', off', rfl, hlo', hbl', AD', CP', hd'⟩
    · go_enter Tryz.func60, Tryz.ntmps60
      go_wp2
      go_loopw [5] (fun i wr => i = .int .i64 0 ∧ Below w.heap.size w wr) (fun _ _ => 0)
      case atStart => exact ⟨rfl, (by repeat (first | exact Below.refl _ _ | assumption | refine below_drewN ?_ _ | refine Below.drew ?_ | refine Below.alloc ?_ (by first | exact Nat.le_refl _ | exact Below.size (by assumption) | (simp; done) | (simp; omega)) _ | refine Below.setCell ?_ (by first | exact Nat.le_refl _ | exact Below.size (by assumption) | (simp; done) | (simp; omega)) _ | refine Below.trans ?_ (by assumption)))⟩
      case round =>
        obtain ⟨rfl, hbel⟩ := hrel
        go_wp2
        go_ret
        exact ⟨rfl, hbel⟩
    · have HD := hide hd
      have HE := hide hd'
      clear hd hd'
      have kn : ((n : Int) != (n : Int)) = false := by simp
      go_enter Tryz.func60, Tryz.ntmps60
      go_wp2
      go_loopw [5] (fun i wr => ∃ k : Nat, k ≤ n ∧ i = .int .i64 k ∧ Below w.heap.size w wr) (fun i _ => n - (intOf i).toNat)
      case atStart => exact ⟨0, by omega, rfl, (by repeat (first | exact Below.refl _ _ | assumption | refine below_drewN ?_ _ | refine Below.drew ?_ | refine Below.alloc ?_ (by first | exact Nat.le_refl _ | exact Below.size (by assumption) | (simp; done) | (simp; omega)) _ | refine Below.setCell ?_ (by first | exact Nat.le_refl _ | exact Below.size (by assumption) | (simp; done) | (simp; omega)) _ | refine Below.trans ?_ (by assumption)))⟩
      case round =>
        obtain ⟨k, hk, rfl, hbel⟩ := hrel
        by_cases hlt : k < n
        · obtain ⟨h5, hcp, hin⟩ := unhide HD k hlt
          obtain ⟨h5', hcp', hin'⟩ := unhide HE k hlt
          have c := h5.keep (w' := wr) (fun o => hbel.cell (p := ⟨bl, o, none⟩) (Nat.lt_of_lt_of_le hbl hhi))
          have d := h5'.keep (w' := wr) (fun o => hbel.cell (p := ⟨bl', o, none⟩) (Nat.lt_of_lt_of_le hbl' hhi))
          have H1 := hide (hin.later (hbel.mono hhi))
          have H2 := hide (hin'.later (hbel.mono hhi))
          have lb := Nat.lt_of_lt_of_le (Nat.lt_of_lt_of_le hbl hhi) hbel.size
          have lb' := Nat.lt_of_lt_of_le (Nat.lt_of_lt_of_le hbl' hhi) hbel.size
          obtain ⟨c0, c1, c2, c3, c4⟩ := id c
          obtain ⟨d0, d1, d2, d3, d4⟩ := id d
          go_wp2
          go_region_held3 (fun w' => w'.cell? ⟨bl, off + k * 5, none⟩ = some (.int .i64 (kid k).op) ∧ w'.cell? ⟨bl, off + k * 5 + 1, none⟩ = some (.int .i64 (kid k).a) ∧ w'.cell? ⟨bl, off + k * 5 + 2, none⟩ = some (.int .i64 (kid k).b) ∧ w'.cell? ⟨bl, off + k * 5 + 3, none⟩ = some (.string (kid k).s) ∧ w'.cell? ⟨bl, off + k * 5 + 4, none⟩ = some (.slice (AD k) (kid k).n (CP k)) ∧ w'.cell? ⟨bl', off' + k * 5, none⟩ = some (.int .i64 (kid k).op) ∧ w'.cell? ⟨bl', off' + k * 5 + 1, none⟩ = some (.int .i64 (kid k).a) ∧ w'.cell? ⟨bl', off' + k * 5 + 2, none⟩ = some (.int .i64 (kid k).b) ∧ w'.cell? ⟨bl', off' + k * 5 + 3, none⟩ = some (.string (kid k).s) ∧ w'.cell? ⟨bl', off' + k * 5 + 4, none⟩ = some (.slice (AD' k) (kid k).n (CP' k))) (first | go_keep | exact ⟨c.1, c.2.1, c.2.2.1, c.2.2.2.1, c.2.2.2.2, d.1, d.2.1, d.2.2.1, d.2.2.2.1, d.2.2.2.2⟩)
            (first | (go_at_call 33; refine (unhide IH k _ _ _ _ _ (by first | exact unhide H1 | exact (unhide H1).drew) (by first | exact unhide H2 | exact (unhide H2).drew) (unhide FK k hlt) (by exact Nat.le_trans hhi hbel.size)).mono ?_; rintro e wq ⟨rfl, bq⟩; have BL := (by first | exact hbel.trans (bq.mono hbel.size) | exact hbel.drew.trans (bq.mono hbel.size)); have c := c.keep (w' := wq) (fun o => bq.cell (p := ⟨bl, o, none⟩) lb); have d := d.keep (w' := wq) (fun o => bq.cell (p := ⟨bl', o, none⟩) lb')))
          all_goals go_wp2
          all_goals go_roundw
          all_goals first | exact ⟨k + 1, by omega, by go_num, (by first | exact BL | exact BL.drew)⟩ | (simp [intOf]; omega)
        · go_wp2
          go_ret
          exact ⟨rfl, hbel⟩
set_option maxRecDepth 100000 in
set_option maxHeartbeats 1000000 in
theorem eqLayer_same (hi : Nat) (q : Lyr) (da ta da' ta' : Option Addr) (dc tc dc' tc' : Nat) (w : World) (hin : q.In w 0 hi da ta) (hin' : q.In w 0 hi da' ta') (hf : q.Fit 1048576) (hhi : hi ≤ w.heap.size) :
    Calls Tryz.prog 42 #[.agg #[.slice da q.nd dc, .slice ta q.nt tc], .agg #[.slice da' q.nd dc', .slice ta' q.nt tc']] w fun e w' => e = .returned (.bool true) ∧ Below w.heap.size w w' := by
  obtain ⟨f1, f2, f3, f4⟩ := hf
  go_enter Tryz.func42, Tryz.ntmps42
  go_wp2_with fail
  have e1 : Below w.heap.size w ((w.alloc (.cells #[.slice da q.nd dc, .slice ta q.nt tc] 62)).alloc (.cells #[.slice da' q.nd dc', .slice ta' q.nt tc'] 62)) := ((Below.refl _ _).alloc (Nat.le_refl _) _).alloc (by simp) _
  refine (eqDeclS_at hi da da' q.nd dc dc' q.S q.V _ (hin.later (e1.mono hhi)).1 (hin'.later (e1.mono hhi)).1 f1 (by simp; omega)).mono ?_
  rintro e w1 ⟨rfl, b1⟩
  have p0 : w1.cell? ⟨w.heap.size, 1, none⟩ = some (.slice ta q.nt tc) := cell_later b1 (by simp [go_sem])
  have p1 : w1.cell? ⟨w.heap.size + 1, 1, none⟩ = some (.slice ta' q.nt tc') := cell_later b1 (by simp [go_sem])
  have BL := e1.trans (b1.mono (by simp <;> omega))
  have IN := hide (hin.2.later (BL.mono hhi))
  have IN' := hide (hin'.2.later (BL.mono hhi))
  have hh1 := Nat.le_trans hhi BL.size
  have F4 := hide f4
  clear e1 b1 hin hin' f2 f4
  go_wp2_with fail
  refine (eqTermS_any hi q.nt q.kid f3 (unhide F4) 0 0 0 ByteArray.empty ta ta' tc tc' w1 (unhide IN) (unhide IN') hh1).mono ?_
  rintro e w2 ⟨rfl, b2⟩
  replace BL := BL.trans (b2.mono BL.size)
  clear b2
  go_wp2
  go_ret
  exact ⟨rfl, BL⟩
set_option maxRecDepth 100000 in
set_option maxHeartbeats 2000000 in
theorem eqLayerS_same (hi : Nat) (a c : Option Addr) (n cap cap' : Nat) (Q : Nat → Lyr) (w : World) (hd : LaysIn w 0 hi a n Q) (hd' : LaysIn w 0 hi c n Q) (hf : ∀ i, i < n → (Q i).Fit 1048576) (hn : n ≤ 1048576) (hhi : hi ≤ w.heap.size) :
    Calls Tryz.prog 13 #[.slice a n cap, .slice c n cap'] w fun e w' => e = .returned (.bool true) ∧ Below w.heap.size w w' := by
  have HF := hide hf
  clear hf
  rcases hd with rfl | ⟨bl, off, rfl, _, hbl, DA, TA, DC, TC, hd⟩
  · go_enter Tryz.func13, Tryz.ntmps13
    go_wp2
    go_loopw [5] (fun i wr => i = .int .i64 0 ∧ Below w.heap.size w wr) (fun _ _ => 0)
    case atStart => exact ⟨rfl, (by repeat (first | exact Below.refl _ _ | assumption | refine below_drewN ?_ _ | refine Below.drew ?_ | refine Below.alloc ?_ (by first | exact Nat.le_refl _ | exact Below.size (by assumption) | (simp; done) | (simp; omega)) _ | refine Below.setCell ?_ (by first | exact Nat.le_refl _ | exact Below.size (by assumption) | (simp; done) | (simp; omega)) _ | refine Below.trans ?_ (by assumption)))⟩
    case round =>
      obtain ⟨rfl, hbel⟩ := hrel
      go_wp2
      go_ret
      exact ⟨rfl, hbel⟩
  · rcases hd' with rfl | ⟨bl', off', rfl, _, hbl', DA', TA', DC', TC', hd'⟩
    · go_enter Tryz.func13, Tryz.ntmps13
      go_wp2
      go_loopw [5] (fun i wr => i = .int .i64 0 ∧ Below w.heap.size w wr) (fun _ _ => 0)
      case atStart => exact ⟨rfl, (by repeat (first | exact Below.refl _ _ | assumption | refine below_drewN ?_ _ | refine Below.drew ?_ | refine Below.alloc ?_ (by first | exact Nat.le_refl _ | exact Below.size (by assumption) | (simp; done) | (simp; omega)) _ | refine Below.setCell ?_ (by first | exact Nat.le_refl _ | exact Below.size (by assumption) | (simp; done) | (simp; omega)) _ | refine Below.trans ?_ (by assumption)))⟩
      case round =>
        obtain ⟨rfl, hbel⟩ := hrel
        go_wp2
        go_ret
        exact ⟨rfl, hbel⟩
    · have HD := hide hd
      have HE := hide hd'
      clear hd hd'
      have kn : ((n : Int) != (n : Int)) = false := by simp
      go_enter Tryz.func13, Tryz.ntmps13
      go_wp2
      go_loopw [5] (fun i wr => ∃ k : Nat, k ≤ n ∧ i = .int .i64 k ∧ Below w.heap.size w wr) (fun i _ => n - (intOf i).toNat)
      case atStart => exact ⟨0, by omega, rfl, (by repeat (first | exact Below.refl _ _ | assumption | refine below_drewN ?_ _ | refine Below.drew ?_ | refine Below.alloc ?_ (by first | exact Nat.le_refl _ | exact Below.size (by assumption) | (simp; done) | (simp; omega)) _ | refine Below.setCell ?_ (by first | exact Nat.le_refl _ | exact Below.size (by assumption) | (simp; done) | (simp; omega)) _ | refine Below.trans ?_ (by assumption)))⟩
      case round =>
        obtain ⟨k, hk, rfl, hbel⟩ := hrel
        by_cases hlt : k < n
        · obtain ⟨h2, _, hin⟩ := unhide HD k hlt
          obtain ⟨h2', _, hin'⟩ := unhide HE k hlt
          have c := h2.keep (w' := wr) (fun o => hbel.cell (p := ⟨bl, o, none⟩) (Nat.lt_of_lt_of_le hbl hhi))
          have d := h2'.keep (w' := wr) (fun o => hbel.cell (p := ⟨bl', o, none⟩) (Nat.lt_of_lt_of_le hbl' hhi))
          have H1 := hide (hin.later (hbel.mono hhi))
          have H2 := hide (hin'.later (hbel.mono hhi))
          have HFk := hide (unhide HF k hlt)
          have lb := Nat.lt_of_lt_of_le (Nat.lt_of_lt_of_le hbl hhi) hbel.size
          have lb' := Nat.lt_of_lt_of_le (Nat.lt_of_lt_of_le hbl' hhi) hbel.size
          have hhr := Nat.le_trans hhi hbel.size
          generalize Q k = q at *
          generalize DA k = da at *
          generalize TA k = ta at *
          generalize DC k = dc at *
          generalize TC k = tc at *
          generalize DA' k = da' at *
          generalize TA' k = ta' at *
          generalize DC' k = dc' at *
          generalize TC' k = tc' at *
          obtain ⟨c0, c1⟩ := id c
          obtain ⟨d0, d1⟩ := id d
          clear hin hin' h2 h2'
          go_wp2
          go_region_held3 (fun w' => w'.cell? ⟨bl, off + k * 2, none⟩ = some (.slice da q.nd dc) ∧ w'.cell? ⟨bl, off + k * 2 + 1, none⟩ = some (.slice ta q.nt tc) ∧ w'.cell? ⟨bl', off' + k * 2, none⟩ = some (.slice da' q.nd dc') ∧ w'.cell? ⟨bl', off' + k * 2 + 1, none⟩ = some (.slice ta' q.nt tc')) (first | go_keep | exact ⟨c.1, c.2, d.1, d.2⟩)
            (first | (go_at_call 42; refine (eqLayer_same hi q _ _ _ _ _ _ _ _ _ (by first | exact unhide H1 | exact (unhide H1).keep (fun _ _ _ _ => rfl)) (by first | exact unhide H2 | exact (unhide H2).keep (fun _ _ _ _ => rfl)) (unhide HFk) (by exact hhr)).mono ?_; rintro e wq ⟨rfl, bq⟩; have BL := (by first | exact hbel.trans (bq.mono hbel.size) | exact hbel.drew.trans (bq.mono hbel.size)); have c := c.keep (w' := wq) (fun o => bq.cell (p := ⟨bl, o, none⟩) lb); have d := d.keep (w' := wq) (fun o => bq.cell (p := ⟨bl', o, none⟩) lb')))
          all_goals go_wp2
          all_goals go_roundw
          all_goals first | exact ⟨k + 1, by omega, by go_num, (by first | exact BL | exact BL.drew)⟩ | (simp [intOf]; omega)
        · go_wp2
          go_ret
          exact ⟨rfl, hbel⟩
set_option maxRecDepth 100000 in
set_option maxHeartbeats 4000000 in
theorem toTermS_any (hi n : Nat) (kid : Nat → TT) (fn : n ≤ 1048576) (fk : ∀ i, i < n → (kid i).Fit 1048576) (op a b : Int) (s : ByteArray) (ad : Option Addr) (cp : Nat) : ∀ (w : World), (TT.node op a b s n kid).In w 0 hi ad → hi ≤ w.heap.size → Calls Tryz.prog 57 #[.slice ad n cp] w fun e w' => e = .returned (.slice (some ⟨w.heap.size, 0, none⟩) n n) ∧ (TT.node op a b s n kid).In w' w.heap.size w'.heap.size (some ⟨w.heap.size, 0, none⟩) ∧ Pl w' w.heap.size w'.heap.size ∧ Below w.heap.size w w' := by
  have ih := fun k => toTermP_any hi (kid k)
  intro w hin hhi
  have IH := hide ih
  have FK := hide fk
  clear ih fk
  have hmk := run_make_wide (P := Tryz.prog) 48 50 _ 5 64 Tryz.underlying48 infoTerm .i64 .i64 n (by omega) (by omega)
  rcases hin with rfl | ⟨bl, off, rfl, hlo, hbl, AD, CP, hd⟩
  · simp only [Int.natCast_zero, Nat.zero_mul] at hmk
    go_enter Tryz.func57, Tryz.ntmps57
    go_wp2
    go_loopw [4] (fun i wr => i = .int .i64 0 ∧ wr.heap.size = w.heap.size + 1 ∧ Pl wr w.heap.size wr.heap.size ∧ Below w.heap.size w wr) (fun _ _ => 0)
    case atStart => exact ⟨rfl, by simp, Pl.alloc (Pl.none _ _) _ _, (by repeat (first | exact Below.refl _ _ | assumption | refine below_drewN ?_ _ | refine Below.drew ?_ | refine Below.alloc ?_ (by first | exact Nat.le_refl _ | exact Below.size (by assumption) | (simp; done) | (simp; omega)) _ | refine Below.setCell ?_ (by first | exact Nat.le_refl _ | exact Below.size (by assumption) | (simp; done) | (simp; omega)) _ | refine Below.trans ?_ (by assumption)))⟩
    case round =>
      obtain ⟨rfl, hsz, hpl, hbel⟩ := hrel
      have HP := hide hpl
      clear hpl
      go_wp2
      go_ret
      exact ⟨rfl, Or.inl rfl, unhide HP, hbel⟩
  · have HD := hide hd
    clear hd
    go_enter Tryz.func57, Tryz.ntmps57
    go_wp2
    go_loopw [4] (fun i wr => ∃ k : Nat, k ≤ n ∧ i = .int .i64 k ∧ KidsTo wr w.heap.size k kid ∧ Made wr w.heap.size (n * 5) ∧ Pl wr w.heap.size wr.heap.size ∧ Below w.heap.size w wr) (fun i _ => n - (intOf i).toNat)
    case atStart => exact ⟨0, by omega, rfl, ⟨fun _ => none, fun _ => 0, fun i hi => by omega⟩, Made.new _ _ _ _, Pl.alloc (Pl.none _ _) _ _, (by repeat (first | exact Below.refl _ _ | assumption | refine below_drewN ?_ _ | refine Below.drew ?_ | refine Below.alloc ?_ (by first | exact Nat.le_refl _ | exact Below.size (by assumption) | (simp; done) | (simp; omega)) _ | refine Below.setCell ?_ (by first | exact Nat.le_refl _ | exact Below.size (by assumption) | (simp; done) | (simp; omega)) _ | refine Below.trans ?_ (by assumption)))⟩
    case round =>
      obtain ⟨k, hk, rfl, hdk, hmd, hpl, hbel⟩ := hrel
      have HP := hide hpl
      clear hpl
      have HK := hide hdk
      have HM := hide hmd
      clear hdk hmd
      have hlt0 := (unhide HM).1
      by_cases hlt : k < n
      · obtain ⟨h5, hcp, hin⟩ := unhide HD k hlt
        obtain ⟨c0, c1, c2, c3, c4⟩ := h5.keep (w' := wr) (fun o => hbel.cell (p := ⟨bl, o, none⟩) (Nat.lt_of_lt_of_le hbl hhi))
        have hin' := hin.later (hbel.mono hhi)
        go_wp2_with fail
        refine (unhide IH k _ _ _ hin' (unhide FK k hlt) (Nat.le_trans hhi hbel.size)).mono ?_
        rintro e w1 ⟨⟨B1, rfl, in1⟩, pl1, b1⟩
        have HP1 := hide (Pl.join ((unhide HP).later b1) pl1)
        clear pl1
        have HM1 := hide ((unhide HM).later b1)
        have HK1 := hide ((unhide HK).later b1 hlt0)
        have IN1 := hide (TT.In.wide (show w.heap.size + 1 ≤ wr.heap.size from hlt0) (Nat.le_refl _) _ _ in1)
        obtain ⟨⟨u0, q0⟩, f0⟩ := (unhide HM1).2 (k * 5) (by omega)
        obtain ⟨⟨u1, q1⟩, f1⟩ := (unhide HM1).2 (k * 5 + 1) (by omega)
        obtain ⟨⟨u2, q2⟩, f2⟩ := (unhide HM1).2 (k * 5 + 2) (by omega)
        obtain ⟨⟨u3, q3⟩, f3⟩ := (unhide HM1).2 (k * 5 + 3) (by omega)
        obtain ⟨⟨u4, q4⟩, f4⟩ := (unhide HM1).2 (k * 5 + 4) (by omega)
        have l1 := (unhide HM1).1
        clear in1
        have hb1 := hbel.trans (b1.mono hbel.size)
        go_wp2
        go_roundw
        case rel => exact ⟨k + 1, by omega, by go_num, (unhide HK1).put (unhide HM1) (by omega) _ _ (Nat.le_refl _) (unhide IN1), (unhide HM1).put5 _ _ _ _, (by simp only [World.size_setCell]; exact Pl.put5 (unhide HP1) _ _ _ _ _), hb1.trans (put5_below (Nat.le_refl _) _ _ _ _)⟩
        case measure => simp [intOf]; omega
      · have e : k = n := by omega
        subst e
        go_wp2
        go_ret
        exact ⟨rfl, (unhide HK).whole hlt0, unhide HP, hbel⟩
set_option maxRecDepth 100000 in
set_option maxHeartbeats 400000 in
theorem toDeclP_any (s : ByteArray) (v : Int) (w : World) :
    Calls Tryz.prog 27 #[.agg #[.string s, .int .i64 v]] w fun e w' => e = .returned (.agg #[.string s, .int .i64 v]) ∧ Pl w' w.heap.size w'.heap.size ∧ Below w.heap.size w w' := by
  go_enter Tryz.func27, Tryz.ntmps27
  go_wp2
  exact bodyPost_ret (v := .agg #[.string s, .int .i64 v]) (by simp [results, Tryz.results27, go_sem]) rfl ⟨rfl, (by (try simp only [World.size_setCell]); repeat (first | exact Pl.none _ _ | exact Pl.alloc (Pl.none _ _) _ _ | refine Pl.setCell ?_ _ _ | refine Pl.alloc ?_ _ _)), (by repeat (first | exact Below.refl _ _ | assumption | refine below_drewN ?_ _ | refine Below.drew ?_ | refine Below.alloc ?_ (by first | exact Nat.le_refl _ | exact Below.size (by assumption) | (simp; done) | (simp; omega)) _ | refine Below.setCell ?_ (by first | exact Nat.le_refl _ | exact Below.size (by assumption) | (simp; done) | (simp; omega)) _ | refine Below.trans ?_ (by assumption)))⟩
set_option maxRecDepth 100000 in
set_option maxHeartbeats 1000000 in
theorem toDeclSP_any (hi : Nat) (a : Option Addr) (n cap : Nat) (S : Nat → ByteArray) (V : Nat → Int) (w : World) (hd : DecsIn w 0 hi a n S V) (hn : n ≤ 1048576) (hhi : hi ≤ w.heap.size) :
    Calls Tryz.prog 66 #[.slice a n cap] w fun e w' => e = .returned (.slice (some ⟨w.heap.size, 0, none⟩) n n) ∧ DecsIn w' w.heap.size w'.heap.size (some ⟨w.heap.size, 0, none⟩) n S V ∧ Pl w' w.heap.size w'.heap.size ∧ Below w.heap.size w w' := by
  have hmk := run_make_wide (P := Tryz.prog) 29 40 _ 2 24 Tryz.underlying29 infoDecl .i64 .i64 n (by omega) (by omega)
  rcases hd with rfl | ⟨b, off, rfl, _, hb, hd⟩
  · simp only [Int.natCast_zero, Nat.zero_mul] at hmk
    go_enter Tryz.func66, Tryz.ntmps66
    go_wp2
    go_loopw [4] (fun i wr => i = .int .i64 0 ∧ wr.heap.size = w.heap.size + 1 ∧ Pl wr w.heap.size wr.heap.size ∧ Below w.heap.size w wr) (fun _ _ => 0)
    case atStart => exact ⟨rfl, by simp, Pl.alloc (Pl.none _ _) _ _, (by repeat (first | exact Below.refl _ _ | assumption | refine below_drewN ?_ _ | refine Below.drew ?_ | refine Below.alloc ?_ (by first | exact Nat.le_refl _ | exact Below.size (by assumption) | (simp; done) | (simp; omega)) _ | refine Below.setCell ?_ (by first | exact Nat.le_refl _ | exact Below.size (by assumption) | (simp; done) | (simp; omega)) _ | refine Below.trans ?_ (by assumption)))⟩
    case round =>
      obtain ⟨rfl, hsz, hpl, hbel⟩ := hrel
      have HP := hide hpl
      clear hpl
      go_wp2
      go_ret
      exact ⟨rfl, Or.inl rfl, unhide HP, hbel⟩
  · have HD := hide hd
    clear hd
    go_enter Tryz.func66, Tryz.ntmps66
    go_wp2
    go_loopw [4] (fun i wr => ∃ k : Nat, k ≤ n ∧ i = .int .i64 k ∧ Decs wr w.heap.size 0 k S V ∧ Made wr w.heap.size (n * 2) ∧ Pl wr w.heap.size wr.heap.size ∧ Below w.heap.size w wr) (fun i _ => n - (intOf i).toNat)
    case atStart => exact ⟨0, by omega, rfl, fun i hi => by omega, Made.new _ _ _ _, Pl.alloc (Pl.none _ _) _ _, (by repeat (first | exact Below.refl _ _ | assumption | refine below_drewN ?_ _ | refine Below.drew ?_ | refine Below.alloc ?_ (by first | exact Nat.le_refl _ | exact Below.size (by assumption) | (simp; done) | (simp; omega)) _ | refine Below.setCell ?_ (by first | exact Nat.le_refl _ | exact Below.size (by assumption) | (simp; done) | (simp; omega)) _ | refine Below.trans ?_ (by assumption)))⟩
    case round =>
      obtain ⟨k, hk, rfl, hdk, hmd, hpl, hbel⟩ := hrel
      have HK := hide hdk
      have HM := hide hmd
      have HP := hide hpl
      clear hdk hmd hpl
      have hlt0 := (unhide HM).1
      by_cases hlt : k < n
      · obtain ⟨c0, c1⟩ := unhide HD k hlt
        have d0 := (hbel.cell (p := ⟨b, off + k * 2, none⟩) (Nat.lt_of_lt_of_le hb hhi)).trans c0
        have d1 := (hbel.cell (p := ⟨b, off + k * 2 + 1, none⟩) (Nat.lt_of_lt_of_le hb hhi)).trans c1
        clear c0 c1
        go_wp2_with fail
        refine (toDeclP_any _ _ _).mono ?_
        rintro e w1 ⟨rfl, pl1, b1⟩
        have HP1 := hide (Pl.join ((unhide HP).later b1) pl1)
        clear pl1
        have HM1 := hide ((unhide HM).later b1)
        have HK1 := hide ((unhide HK).later b1)
        obtain ⟨⟨u0, q0⟩, f0⟩ := (unhide HM1).2 (k * 2) (by omega)
        obtain ⟨⟨u1, q1⟩, f1⟩ := (unhide HM1).2 (k * 2 + 1) (by omega)
        have l1 := (unhide HM1).1
        go_wp2
        go_roundw
        case rel => exact ⟨k + 1, by omega, by go_num, (unhide HK1).put q0 q1, ((unhide HM1).set _ _).set _ _, (by simp only [World.size_setCell]; exact Pl.setCell (Pl.setCell (unhide HP1) _ _) _ _), ((hbel.trans (b1.mono hbel.size)).setCell (Nat.le_refl _) _).setCell (Nat.le_refl _) _⟩
        case measure => simp [intOf]; omega
      · have e : k = n := by omega
        subst e
        have hK := unhide HK
        clear HK
        have HK := hide hK
        clear hK
        go_wp2
        go_ret
        exact ⟨rfl, Or.inr ⟨_, _, rfl, Nat.le_refl _, hlt0, unhide HK⟩, unhide HP, hbel⟩
set_option maxRecDepth 100000 in
set_option maxHeartbeats 2000000 in
theorem toLayer_any (hi : Nat) (q : Lyr) (da ta : Option Addr) (dc tc : Nat) (w : World) (hin : q.In w 0 hi da ta) (hf : q.Fit 1048576) (hhi : hi ≤ w.heap.size) :
    Calls Tryz.prog 40 #[.agg #[.slice da q.nd dc, .slice ta q.nt tc]] w fun e w' => (∃ B C, e = .returned (.agg #[.slice (some ⟨B, 0, none⟩) q.nd q.nd, .slice (some ⟨C, 0, none⟩) q.nt q.nt]) ∧ q.In w' w.heap.size w'.heap.size (some ⟨B, 0, none⟩) (some ⟨C, 0, none⟩)) ∧ Pl w' w.heap.size w'.heap.size ∧ Below w.heap.size w w' := by
  obtain ⟨f1, f2, f3, f4⟩ := hf
  go_enter Tryz.func40, Tryz.ntmps40
  go_wp2_with fail
  obtain ⟨wa, hwa⟩ : ∃ x, x = ((w.alloc (.cells #[.slice da q.nd dc, .slice ta q.nt tc] 58)).alloc (.cells #[.slice none 0 0, .slice none 0 0] 62)).alloc (.cells #[.slice none 0 0, .slice none 0 0] 62) := ⟨_, rfl⟩
  have e1 : Below w.heap.size w wa := by rw [hwa]; exact (((Below.refl _ _).alloc (Nat.le_refl _) _).alloc (by simp) _).alloc (by simp <;> omega) _
  have ea : wa.heap.size = w.heap.size + 3 := by rw [hwa]; simp
  have pl0 : Pl wa w.heap.size wa.heap.size := by rw [hwa]; exact Pl.alloc (Pl.alloc (Pl.alloc (Pl.none _ _) _ _) _ _) _ _
  have a1 : wa.cell? ⟨w.heap.size, 1, none⟩ = some (.slice ta q.nt tc) := by rw [hwa]; simp [go_sem]
  have r0 : wa.cell? ⟨w.heap.size + 1, 0, none⟩ = some (.slice none 0 0) := by rw [hwa]; simp [go_sem]
  have r1 : wa.cell? ⟨w.heap.size + 1, 1, none⟩ = some (.slice none 0 0) := by rw [hwa]; simp [go_sem]
  have x0 : wa.cell? ⟨w.heap.size + 2, 0, none⟩ = some (.slice none 0 0) := by rw [hwa]; simp [go_sem]
  have x1 : wa.cell? ⟨w.heap.size + 2, 1, none⟩ = some (.slice none 0 0) := by rw [hwa]; simp [go_sem]
  have g0 : wa.frozen? ⟨w.heap.size + 1, 0, none⟩ = false := by rw [hwa]; simp [go_sem]
  have g1 : wa.frozen? ⟨w.heap.size + 1, 1, none⟩ = false := by rw [hwa]; simp [go_sem]
  have f0' : wa.frozen? ⟨w.heap.size + 2, 0, none⟩ = false := by rw [hwa]; simp [go_sem]
  have f1' : wa.frozen? ⟨w.heap.size + 2, 1, none⟩ = false := by rw [hwa]; simp [go_sem]
  rw [← hwa]
  clear hwa
  refine (toDeclSP_any hi da q.nd dc q.S q.V _ (hin.later (e1.mono hhi)).1 f1 (by omega)).mono ?_
  rintro e w1 ⟨rfl, D1, pl1, b1⟩
  replace a1 := cell_later b1 a1
  replace r0 := cell_later b1 r0
  replace r1 := cell_later b1 r1
  replace x0 := cell_later b1 x0
  replace x1 := cell_later b1 x1
  replace g0 := (b1.frozen (p := ⟨w.heap.size + 1, 0, none⟩) (by simp only; omega)).trans g0
  replace g1 := (b1.frozen (p := ⟨w.heap.size + 1, 1, none⟩) (by simp only; omega)).trans g1
  replace f0' := (b1.frozen (p := ⟨w.heap.size + 2, 0, none⟩) (by simp only; omega)).trans f0'
  replace f1' := (b1.frozen (p := ⟨w.heap.size + 2, 1, none⟩) (by simp only; omega)).trans f1'
  have HP1 := hide (Pl.join (Pl.later pl0 b1) pl1)
  rw [ea] at D1
  have BL := e1.trans (b1.mono (by omega))
  have l1 : w.heap.size + 3 ≤ w1.heap.size := by have := b1.size; omega
  have HD1 := hide D1
  have n0 : w.heap.size + 2 ≠ w.heap.size + 1 := by omega
  have n1 : w.heap.size + 1 ≠ w.heap.size + 2 := by omega
  have n2 : w.heap.size ≠ w.heap.size + 2 := by omega
  clear e1 b1 pl0 pl1 D1
  have HIN := hide hin
  have F4 := hide f4
  clear hin f2 f4
  go_wp2_with fail
  obtain ⟨wb, hwb⟩ : ∃ x, x = w1.setCell ⟨w.heap.size + 1 + 1, 0, none⟩ (.slice (some ⟨w.heap.size + 3, 0, none⟩) q.nd q.nd) := ⟨_, rfl⟩
  have eb : Below (w.heap.size + 2) w1 wb := by rw [hwb]; exact (Below.refl _ _).setCell (by simp) _
  have sb : wb.heap.size = w1.heap.size := by rw [hwb]; simp
  have HPb : Hid (Pl wb w.heap.size wb.heap.size) := by show Pl _ _ _; rw [sb, hwb]; exact Pl.setCell (unhide HP1) _ _
  have HDb : Hid (DecsIn wb (w.heap.size + 3) wb.heap.size (some ⟨w.heap.size + 3, 0, none⟩) q.nd q.S q.V) := by
    show DecsIn _ _ _ _ _ _ _
    rw [sb]
    exact (unhide HD1).keep (fun b o h _ => by rw [hwb]; exact World.cell?_setCell_other _ _ _ _ (by simp <;> omega))
  have BLb : Below w.heap.size w wb := BL.trans (eb.mono (by omega))
  have y0 : wb.cell? ⟨w.heap.size + 2, 0, none⟩ = some (.slice (some ⟨w.heap.size + 3, 0, none⟩) q.nd q.nd) := by rw [hwb]; exact World.cell?_setCell_same _ _ _ x0
  have y1 : wb.cell? ⟨w.heap.size + 2, 1, none⟩ = some (.slice none 0 0) := by rw [hwb, World.cell?_setCell_other _ _ _ _ (by simp)]; exact x1
  have a1b : wb.cell? ⟨w.heap.size, 1, none⟩ = some (.slice ta q.nt tc) := (eb.cell (p := ⟨w.heap.size, 1, none⟩) (by simp only; omega)).trans a1
  have r0b : wb.cell? ⟨w.heap.size + 1, 0, none⟩ = some (.slice none 0 0) := (eb.cell (p := ⟨w.heap.size + 1, 0, none⟩) (by simp only; omega)).trans r0
  have r1b : wb.cell? ⟨w.heap.size + 1, 1, none⟩ = some (.slice none 0 0) := (eb.cell (p := ⟨w.heap.size + 1, 1, none⟩) (by simp only; omega)).trans r1
  have g0b := (eb.frozen (p := ⟨w.heap.size + 1, 0, none⟩) (by simp only; omega)).trans g0
  have g1b := (eb.frozen (p := ⟨w.heap.size + 1, 1, none⟩) (by simp only; omega)).trans g1
  have f1b : wb.frozen? ⟨w.heap.size + 2, 1, none⟩ = false := by rw [hwb, World.frozen?_setCell]; exact f1'
  rw [← hwb]
  clear hwb a1 r0 r1 x0 x1 g0 g1 f0' f1' BL HP1 HD1 eb
  refine (toTermS_any hi q.nt q.kid f3 (unhide F4) 0 0 0 ByteArray.empty ta tc wb ((unhide HIN).2.later (BLb.mono hhi)) (by omega)).mono ?_
  rintro e w2 ⟨rfl, T2, pl2, b2⟩
  have HP2 := hide (Pl.join ((unhide HPb).later b2) pl2)
  have HT2 := hide T2
  have HD2 := hide ((unhide HDb).keep (w' := w2) (fun b o _ h3 => b2.cell (p := ⟨b, o, none⟩) h3))
  replace y0 := cell_later b2 y0
  replace y1 := cell_later b2 y1
  replace r0b := cell_later b2 r0b
  replace r1b := cell_later b2 r1b
  replace g0b := (b2.frozen (p := ⟨w.heap.size + 1, 0, none⟩) (by simp only; omega)).trans g0b
  replace g1b := (b2.frozen (p := ⟨w.heap.size + 1, 1, none⟩) (by simp only; omega)).trans g1b
  replace f1b := (b2.frozen (p := ⟨w.heap.size + 2, 1, none⟩) (by simp only; omega)).trans f1b
  have BL2 := BLb.trans (b2.mono BLb.size)
  have l2 := b2.size
  clear b2 pl2 T2 HPb HDb BLb
  go_wp2
  refine bodyPost_ret (v := .agg #[.slice (some ⟨w.heap.size + 3, 0, none⟩) q.nd q.nd, .slice (some ⟨wb.heap.size, 0, none⟩) q.nt q.nt]) (by simp [results, Tryz.results40, go_sem, r0b, r1b]) rfl ⟨⟨_, _, rfl, ?_⟩, ?_, ?_⟩
  · have k2 : Lyr.In q w2 w.heap.size w2.heap.size (some ⟨w.heap.size + 3, 0, none⟩) (some ⟨wb.heap.size, 0, none⟩) := ⟨(unhide HD2).wide (by omega) (by omega), TT.In.wide (by omega) (Nat.le_refl _) _ _ (unhide HT2)⟩
    have k3 : Lyr.In q w2 (w.heap.size + 3) w2.heap.size (some ⟨w.heap.size + 3, 0, none⟩) (some ⟨wb.heap.size, 0, none⟩) := ⟨(unhide HD2).wide (by omega) (by omega), TT.In.wide (by omega) (Nat.le_refl _) _ _ (unhide HT2)⟩
    refine Lyr.In.wide (lo := w.heap.size + 3) (hi := w2.heap.size) ?_ (by omega) (by simp)
    repeat (first | exact k3 | refine Lyr.In.set ?_ (by simp <;> omega) _)
  · simp only [World.size_setCell]
    repeat (first | exact unhide HP2 | refine Pl.setCell ?_ _ _)
  · repeat (first | exact BL2 | refine Below.setCell ?_ (by simp <;> omega) _)
/-- The first k layers of a list that is being written. -/
def LaysTo (w : World) (B k : Nat) (Q : Nat → Lyr) : Prop := ∃ (DA TA : Nat → Option Addr) (DC TC : Nat → Nat), ∀ i, i < k → Two w B (i * 2) (Q i) (DA i) (TA i) (DC i) (TC i) ∧ ((Q i).nd ≤ DC i ∧ (Q i).nt ≤ TC i ∧ (DA i = none → DC i = 0) ∧ (TA i = none → TC i = 0)) ∧ (Q i).In w (B + 1) w.heap.size (DA i) (TA i)
theorem LaysTo.later {w w' : World} {B k : Nat} {Q : Nat → Lyr} (h : LaysTo w B k Q) (hb : Below w.heap.size w w') (hB : B < w.heap.size) : LaysTo w' B k Q := by
  obtain ⟨DA, TA, DC, TC, h⟩ := h
  exact ⟨DA, TA, DC, TC, fun i hi => ⟨(h i hi).1.keep (fun o => hb.cell (p := ⟨B, o, none⟩) hB), (h i hi).2.1, ((h i hi).2.2.later hb).wide (Nat.le_refl _) hb.size⟩⟩
theorem LaysTo.put {w : World} {B k m : Nat} {Q : Nat → Lyr} (h : LaysTo w B k Q) (hm : Made w B m) (hk : k * 2 + 1 < m) (da ta : Option Addr) (dc tc : Nat) (hc : (Q k).nd ≤ dc ∧ (Q k).nt ≤ tc ∧ (da = none → dc = 0) ∧ (ta = none → tc = 0)) (hin : (Q k).In w (B + 1) w.heap.size da ta) :
    LaysTo ((w.setCell ⟨B, k * 2, none⟩ (.slice da (Q k).nd dc)).setCell ⟨B, k * 2 + 1, none⟩ (.slice ta (Q k).nt tc)) B (k + 1) Q := by
  obtain ⟨DA, TA, DC, TC, h⟩ := h
  have oth : ∀ b o, (b ≠ B ∨ o < k * 2 ∨ k * 2 + 2 ≤ o) → ((w.setCell ⟨B, k * 2, none⟩ (.slice da (Q k).nd dc)).setCell ⟨B, k * 2 + 1, none⟩ (.slice ta (Q k).nt tc)).cell? ⟨b, o, none⟩ = w.cell? ⟨b, o, none⟩ := fun b o hh => by
    rw [World.cell?_setCell_other _ _ _ _ (by simp; omega), World.cell?_setCell_other _ _ _ _ (by simp; omega)]
  have keepIn : ∀ (q : Lyr) (x y : Option Addr), q.In w (B + 1) w.heap.size x y → q.In ((w.setCell ⟨B, k * 2, none⟩ (.slice da (Q k).nd dc)).setCell ⟨B, k * 2 + 1, none⟩ (.slice ta (Q k).nt tc)) (B + 1) ((w.setCell ⟨B, k * 2, none⟩ (.slice da (Q k).nd dc)).setCell ⟨B, k * 2 + 1, none⟩ (.slice ta (Q k).nt tc)).heap.size x y := by
    intro q x y hx
    simp only [World.size_setCell]
    exact hx.keep (fun b o h1 _ => oth b o (Or.inl (by omega)))
  refine ⟨fun i => if i = k then da else DA i, fun i => if i = k then ta else TA i, fun i => if i = k then dc else DC i, fun i => if i = k then tc else TC i, fun i hi => ?_⟩
  by_cases e : i = k
  · subst e
    simp only [if_true]
    have m1 := hm.set ⟨B, i * 2, none⟩ (.slice da (Q i).nd dc)
    exact ⟨⟨by rw [World.cell?_setCell_other _ _ _ _ (by simp)]; exact set_there hm _ (by omega) _, set_there m1 _ hk _⟩, hc, keepIn _ _ _ hin⟩
  · simp only [if_neg e]
    obtain ⟨h1, h2, h3⟩ := h i (by omega)
    refine ⟨⟨?_, ?_⟩, h2, keepIn _ _ _ h3⟩
    · rw [oth _ _ (by omega)]; exact h1.1
    · rw [oth _ _ (by omega)]; exact h1.2
theorem LaysTo.whole {w : World} {B n : Nat} {Q : Nat → Lyr} (h : LaysTo w B n Q) (hB : B < w.heap.size) : LaysIn w B w.heap.size (some ⟨B, 0, none⟩) n Q := by
  obtain ⟨DA, TA, DC, TC, h⟩ := h
  exact Or.inr ⟨B, 0, rfl, Nat.le_refl _, hB, DA, TA, DC, TC, fun i hi => ⟨by rw [Nat.zero_add]; exact (h i hi).1, (h i hi).2.1, (h i hi).2.2.wide (Nat.le_succ _) (Nat.le_refl _)⟩⟩
theorem infoLayr : (Tryz.prog.info? 62).map (fun i => (i.zero, i.size, i.bytes)) = some (some (.agg #[.slice none 0 0, .slice none 0 0]), 2, 48) := by kernel_rfl
set_option maxRecDepth 100000 in
set_option maxHeartbeats 2000000 in
theorem toLayerS_any (hi : Nat) (a : Option Addr) (n cap : Nat) (Q : Nat → Lyr) (w : World) (hd : LaysIn w 0 hi a n Q) (hf : ∀ i, i < n → (Q i).Fit 1048576) (hn : n ≤ 1048576) (hhi : hi ≤ w.heap.size) :
    Calls Tryz.prog 11 #[.slice a n cap] w fun e w' => e = .returned (.slice (some ⟨w.heap.size, 0, none⟩) n n) ∧ LaysIn w' w.heap.size w'.heap.size (some ⟨w.heap.size, 0, none⟩) n Q ∧ Pl w' w.heap.size w'.heap.size ∧ Below w.heap.size w w' := by
  have HF := hide hf
  clear hf
  have hmk := run_make_wide (P := Tryz.prog) 25 62 _ 2 48 Tryz.underlying25 infoLayr .i64 .i64 n (by omega) (by omega)
  rcases hd with rfl | ⟨b, off, rfl, _, hb, DA, TA, DC, TC, hd⟩
  · simp only [Int.natCast_zero, Nat.zero_mul] at hmk
    go_enter Tryz.func11, Tryz.ntmps11
    go_wp2
    go_loopw [4] (fun i wr => i = .int .i64 0 ∧ wr.heap.size = w.heap.size + 1 ∧ Pl wr w.heap.size wr.heap.size ∧ Below w.heap.size w wr) (fun _ _ => 0)
    case atStart => exact ⟨rfl, by simp, Pl.alloc (Pl.none _ _) _ _, (by repeat (first | exact Below.refl _ _ | assumption | refine below_drewN ?_ _ | refine Below.drew ?_ | refine Below.alloc ?_ (by first | exact Nat.le_refl _ | exact Below.size (by assumption) | (simp; done) | (simp; omega)) _ | refine Below.setCell ?_ (by first | exact Nat.le_refl _ | exact Below.size (by assumption) | (simp; done) | (simp; omega)) _ | refine Below.trans ?_ (by assumption)))⟩
    case round =>
      obtain ⟨rfl, hsz, hpl, hbel⟩ := hrel
      have HP := hide hpl
      clear hpl
      go_wp2
      go_ret
      exact ⟨rfl, Or.inl rfl, unhide HP, hbel⟩
  · have HD := hide hd
    clear hd
    go_enter Tryz.func11, Tryz.ntmps11
    go_wp2
    go_loopw [4] (fun i wr => ∃ k : Nat, k ≤ n ∧ i = .int .i64 k ∧ LaysTo wr w.heap.size k Q ∧ Made wr w.heap.size (n * 2) ∧ Pl wr w.heap.size wr.heap.size ∧ Below w.heap.size w wr) (fun i _ => n - (intOf i).toNat)
    case atStart => exact ⟨0, by omega, rfl, ⟨fun _ => none, fun _ => none, fun _ => 0, fun _ => 0, fun i hi => by omega⟩, Made.new _ _ _ _, Pl.alloc (Pl.none _ _) _ _, (by repeat (first | exact Below.refl _ _ | assumption | refine below_drewN ?_ _ | refine Below.drew ?_ | refine Below.alloc ?_ (by first | exact Nat.le_refl _ | exact Below.size (by assumption) | (simp; done) | (simp; omega)) _ | refine Below.setCell ?_ (by first | exact Nat.le_refl _ | exact Below.size (by assumption) | (simp; done) | (simp; omega)) _ | refine Below.trans ?_ (by assumption)))⟩
    case round =>
      obtain ⟨k, hk, rfl, hdk, hmd, hpl, hbel⟩ := hrel
      have HK := hide hdk
      have HM := hide hmd
      have HP := hide hpl
      clear hdk hmd hpl
      have hlt0 := (unhide HM).1
      by_cases hlt : k < n
      · obtain ⟨h2, _, hin⟩ := unhide HD k hlt
        obtain ⟨c0, c1⟩ := h2.keep (w' := wr) (fun o => hbel.cell (p := ⟨b, o, none⟩) (Nat.lt_of_lt_of_le hb hhi))
        have hin' := hin.later (hbel.mono hhi)
        go_wp2_with fail
        refine (toLayer_any hi (Q k) _ _ _ _ _ hin' (unhide HF k hlt) (Nat.le_trans hhi hbel.size)).mono ?_
        rintro e w1 ⟨⟨B1, C1, rfl, in1⟩, pl1, b1⟩
        have HP1 := hide (Pl.join ((unhide HP).later b1) pl1)
        have HM1 := hide ((unhide HM).later b1)
        have HK1 := hide ((unhide HK).later b1 hlt0)
        have IN1 := hide (in1.wide (show w.heap.size + 1 ≤ wr.heap.size from hlt0) (Nat.le_refl _))
        obtain ⟨⟨u0, q0⟩, f0⟩ := (unhide HM1).2 (k * 2) (by omega)
        obtain ⟨⟨u1, q1⟩, f1⟩ := (unhide HM1).2 (k * 2 + 1) (by omega)
        have l1 := (unhide HM1).1
        clear in1 pl1 hin hin' h2
        have hb1 := hbel.trans (b1.mono hbel.size)
        go_wp2
        go_roundw
        case rel => exact ⟨k + 1, by omega, by go_num, (unhide HK1).put (unhide HM1) (by omega) _ _ _ _ ⟨Nat.le_refl _, Nat.le_refl _, by simp, by simp⟩ (unhide IN1), ((unhide HM1).set _ _).set _ _, (by simp only [World.size_setCell]; exact Pl.setCell (Pl.setCell (unhide HP1) _ _) _ _), (hb1.setCell (Nat.le_refl _) _).setCell (Nat.le_refl _) _⟩
        case measure => simp [intOf]; omega
      · have e : k = n := by omega
        subst e
        go_wp2
        go_ret
        exact ⟨rfl, (unhide HK).whole hlt0, unhide HP, hbel⟩
instance : Inhabited Lyr := ⟨⟨0, fun _ => ByteArray.empty, fun _ => 0, 0, fun _ => .nil⟩⟩
theorem terms_in {H : Type} {enc : TypeId × Value → H} {w : World} {a : Option Addr} {len cap : Nat} {d : DataW H} {p : List MemPlace} {sp : Nat → Bool} {held : Bool}
    (h : DataW.Trod enc Tryz.prog w 0 sp held 43 (.slice a len cap) d p) : len ≤ cap ∧ len ≤ maxLen ∧ ∃ kid, (TT.node 0 0 0 ByteArray.empty len kid).In w 0 w.heap.size a ∧ ∀ i, i < len → (kid i).Fit maxLen := by
  obtain ⟨fuel, hf⟩ := h
  rcases Go.Deep.open_slice Tryz.underlying43 hf with ⟨hcs, _⟩ | ⟨ad, l, c, mm, nn, D, Pl, hcs, _, hl, hmx, hmm, hy4, hel⟩
  · simp [Value.cells] at hcs
    obtain ⟨rfl, rfl, rfl⟩ := hcs
    exact ⟨Nat.le_refl _, by unfold maxLen; omega, fun _ => .nil, Or.inl rfl, fun i hi => by omega⟩
  · simp [Value.cells] at hcs
    obtain ⟨rfl, rfl, rfl⟩ := hcs
    have hlm : len ≤ mm := by rw [hmm]; split <;> omega
    refine ⟨hl, by omega, ?_⟩
    have each : ∀ i, i < len → ∃ q : TT × Option Addr × Nat, w.cells? 0 (ad.add (i * 5)) 5 = some [.int .i64 q.1.op, .int .i64 q.1.a, .int .i64 q.1.b, .string q.1.s, .slice q.2.1 q.1.n q.2.2] ∧ q.1.n ≤ q.2.2 ∧ q.1.In w 0 w.heap.size q.2.1 ∧ q.1.Fit maxLen := by
      intro i hi
      obtain ⟨cs', h1, h2⟩ := hel i (by omega)
      rw [cellsT] at h1
      obtain ⟨t, x, c, rfl, h3, h4, h5⟩ := term_cells _ _ _ _ (Nat.lt_succ_self _) h2
      exact ⟨(t, x, c), h1, h3, h4, h5⟩
    obtain ⟨q, hq⟩ := Go.Deep.choose_lt each
    refine ⟨fun i => (q i).1, ?_, fun i hi => (hq i hi).2.2.2⟩
    by_cases h0 : len = 0
    · exact Or.inl h0
    · have cell : ∀ i, i < len → ∀ j, j < 5 → w.cell? ((ad.add (i * 5)).add j) = [Value.int .i64 (q i).1.op, .int .i64 (q i).1.a, .int .i64 (q i).1.b, .string (q i).1.s, .slice (q i).2.1 (q i).1.n (q i).2.2][j]? := by
        intro i hi j hj
        obtain ⟨_, _, hc⟩ := World.cells?_some (hq i hi).1
        exact hc j hj
      obtain ⟨bl, off, spot⟩ := ad
      have hspot : spot = none := by
        have := cell 0 (by omega) 0 (by omega)
        simpa [Addr.add] using World.cell?_spot this
      subst hspot
      simp only [Go.WideShapes.add_plain] at cell
      refine Or.inr ⟨bl, off, rfl, Nat.zero_le _, World.block_lt_of_cell? _ _ (cell 0 (by omega) 0 (by omega)), fun i => (q i).2.1, fun i => (q i).2.2, fun i hi => ⟨?_, (hq i hi).2.1, (hq i hi).2.2.1⟩⟩
      exact ⟨cell i hi 0 (by omega), cell i hi 1 (by omega), cell i hi 2 (by omega), cell i hi 3 (by omega), cell i hi 4 (by omega)⟩
theorem layers_in {H : Type} {enc : TypeId × Value → H} {w : World} {a : Option Addr} {len cap : Nat} {d : DataW H} {p : List MemPlace} {sp : Nat → Bool} {held : Bool}
    (h : DataW.Trod enc Tryz.prog w 0 sp held 22 (.slice a len cap) d p) : len ≤ cap ∧ len ≤ maxLen ∧ ∃ Q, LaysIn w 0 w.heap.size a len Q ∧ ∀ i, i < len → (Q i).Fit maxLen := by
  obtain ⟨fuel, hf⟩ := h
  rcases Go.Deep.open_slice_pairs Tryz.underlying22 Tryz.underlying58 (by kernel_rfl) rfl rfl (by kernel_rfl) (by kernel_rfl) hf with ⟨hcs, _⟩ | ⟨x, l, c, m, n, V0, V1, D0, D1, P0, P1, hcs, _, hl, hm, hmm, _, hx⟩
  · simp [Value.cells] at hcs
    obtain ⟨rfl, rfl, rfl⟩ := hcs
    exact ⟨Nat.le_refl _, by unfold maxLen; omega, fun _ => default, Or.inl rfl, fun i hi => by omega⟩
  · simp [Value.cells] at hcs
    obtain ⟨rfl, rfl, rfl⟩ := hcs
    have hlm : len ≤ m := by rw [hmm]; split <;> omega
    refine ⟨hl, by omega, ?_⟩
    have one : ∀ (t e : TypeId) (n : Nat) (V : Value) (x : DataW H × List MemPlace), Tryz.prog.underlying t = some (.slice e) → DataW.trod enc Tryz.prog w 0 sp held n t [V] = some x → ∃ a l c, V = .slice a l c ∧ (a = none → c = 0) := by
      intro t e n V x ht hv
      rcases Go.Deep.open_slice ht hv with ⟨hcs, _⟩ | ⟨ad, l, c, mm, nn, D, Pl, hcs, _⟩
      · simp at hcs; exact ⟨_, _, _, hcs, fun _ => rfl⟩
      · simp at hcs; exact ⟨_, _, _, hcs, fun h => by cases h⟩
    have each : ∀ i, i < len → ∃ q : Lyr × (Option Addr × Option Addr) × (Nat × Nat), w.cell? (x.add (i * 2)) = some (.slice q.2.1.1 q.1.nd q.2.2.1) ∧ w.cell? (x.add (i * 2 + 1)) = some (.slice q.2.1.2 q.1.nt q.2.2.2) ∧ (q.1.nd ≤ q.2.2.1 ∧ q.1.nt ≤ q.2.2.2 ∧ (q.2.1.1 = none → q.2.2.1 = 0) ∧ (q.2.1.2 = none → q.2.2.2 = 0)) ∧ q.1.In w 0 w.heap.size q.2.1.1 q.2.1.2 ∧ q.1.Fit maxLen := by
      intro i hi
      obtain ⟨h0, h1, h2, h3⟩ := hx i (by omega)
      obtain ⟨a0, l0, c0, e0, z0⟩ := one _ _ _ _ _ Tryz.underlying56 h2
      obtain ⟨a1, l1, c1, e1, z1⟩ := one _ _ _ _ _ Tryz.underlying43 h3
      rw [e0] at h0 h2
      rw [e1] at h1 h3
      obtain ⟨k1, k2, S, V, k3, k4⟩ := decls_in (d := D0 i) (p := P0 i) ⟨n, h2⟩
      obtain ⟨m1, m2, kid, m3, m4⟩ := terms_in (d := D1 i) (p := P1 i) ⟨n, h3⟩
      refine ⟨(⟨l0, S, V, l1, kid⟩, (a0, a1), (c0, c1)), h0, h1, ⟨k1, m1, z0, z1⟩, ⟨?_, m3⟩, ⟨k2, fun j hj => (k4 j hj).1, m2, m4⟩⟩
      rcases k3 with k3 | ⟨b, off, q1, q2, q3⟩
      · exact Or.inl k3
      · exact Or.inr ⟨b, off, q1, Nat.zero_le _, q2, q3⟩
    obtain ⟨q, hq⟩ := Go.Deep.choose_lt each
    refine ⟨fun i => (q i).1, ?_, fun i hi => (hq i hi).2.2.2.2⟩
    by_cases h0 : len = 0
    · exact Or.inl h0
    · obtain ⟨bl, off, spot⟩ := x
      have hspot : spot = none := by simpa [Addr.add] using World.cell?_spot (hq 0 (by omega)).1
      subst hspot
      refine Or.inr ⟨bl, off, rfl, Nat.zero_le _, World.block_lt_of_cell? _ _ (hq 0 (by omega)).1, fun i => (q i).2.1.1, fun i => (q i).2.1.2, fun i => (q i).2.2.1, fun i => (q i).2.2.2, fun i hi => ?_⟩
      have := hq i hi
      rw [Go.WideShapes.add_plain, Go.WideShapes.add_plain] at this
      exact ⟨⟨this.1, by rw [Nat.add_assoc]; exact this.2.1⟩, this.2.2.1, this.2.2.2.1⟩
/-- How many names and terms layers have in all. -/
def Lyr.c (q : Lyr) : Nat := q.nd + q.nt
theorem sumN_ge (f : Nat → Nat) {n : Nat} (h : ∀ i, i < n → 1 ≤ f i) : n ≤ sumN f n := by
  induction n with
  | zero => simp [sumN]
  | succ n ih => have := ih (fun i hi => h i (by omega)); have := h n (by omega); simp only [sumN]; omega
theorem TT.In.pos {w : World} {lo hi : Nat} {op a b : Int} {s : ByteArray} {n : Nat} {kid : Nat → TT} {ad : Option Addr} (h : (TT.node op a b s n kid).In w lo hi ad) : ∀ i, i < n → 1 ≤ (kid i).N := by
  intro i hi
  rcases h with h | ⟨bl, off, _, _, _, AD, CP, h4⟩
  · omega
  · exact (TT.D_pos (h4 i hi).2.2).2
set_option maxRecDepth 100000 in
set_option maxHeartbeats 1000000 in
theorem szDeclSN_any (a : Option Addr) (n cap : Nat) (S : Nat → ByteArray) (V : Nat → Int) (left : Int) (w : World) (hd : DecsAt w a n S V) (h0 : 0 ≤ left) (h1 : left ≤ 1048576) (hn : n ≤ maxLen) (hs : ∀ i, i < n → (S i).size ≤ maxLen) :
    Calls Tryz.prog 61 #[.slice a n cap, .int .i64 left] w fun e w' => (∃ z : Int, e = .returned (.int .i64 z) ∧ (z < 0 ∨ 0 ≤ z ∧ z + n ≤ left ∧ ∀ i, i < n → (S i).size ≤ left)) ∧ Below w.heap.size w w' := by
  unfold maxLen at hn
  have HS := hide hs
  clear hs
  by_cases h : (n : Int) ≤ left
  · rcases hd with rfl | ⟨b, off, rfl, hb, hd⟩
    · go_enter Tryz.func61, Tryz.ntmps61
      go_wp2
      go_loopw [5, 1] (fun i l wr => i = .int .i64 0 ∧ l = .int .i64 left ∧ Below w.heap.size w wr) (fun _ _ _ => 0)
      case atStart => exact ⟨rfl, by go_num, (by repeat (first | exact Below.refl _ _ | assumption | refine below_drewN ?_ _ | refine Below.drew ?_ | refine Below.alloc ?_ (by first | exact Nat.le_refl _ | exact Below.size (by assumption) | (simp; done) | (simp; omega)) _ | refine Below.setCell ?_ (by first | exact Nat.le_refl _ | exact Below.size (by assumption) | (simp; done) | (simp; omega)) _ | refine Below.trans ?_ (by assumption)))⟩
      case round =>
        obtain ⟨rfl, rfl, hbel⟩ := hrel
        go_wp2
        go_ret
        exact ⟨⟨_, rfl, Or.inr ⟨h0, by omega, fun i hi => by omega⟩⟩, (by repeat (first | exact Below.refl _ _ | assumption | refine below_drewN ?_ _ | refine Below.drew ?_ | refine Below.alloc ?_ (by first | exact Nat.le_refl _ | exact Below.size (by assumption) | (simp; done) | (simp; omega)) _ | refine Below.setCell ?_ (by first | exact Nat.le_refl _ | exact Below.size (by assumption) | (simp; done) | (simp; omega)) _ | refine Below.trans ?_ (by assumption)))⟩
    · have HD := hide hd
      clear hd
      go_enter Tryz.func61, Tryz.ntmps61
      go_wp2
      go_loopw [5, 1] (fun i l wr => ∃ (k : Nat) (z : Int), k ≤ n ∧ i = .int .i64 k ∧ l = .int .i64 z ∧ 0 ≤ z ∧ z + n ≤ left ∧ (∀ j, j < k → (S j).size ≤ left) ∧ Below w.heap.size w wr) (fun i _ _ => n - (intOf i).toNat)
      case atStart => exact ⟨0, left - n, by omega, rfl, by go_num, by omega, by omega, fun j hj => by omega, (by repeat (first | exact Below.refl _ _ | assumption | refine below_drewN ?_ _ | refine Below.drew ?_ | refine Below.alloc ?_ (by first | exact Nat.le_refl _ | exact Below.size (by assumption) | (simp; done) | (simp; omega)) _ | refine Below.setCell ?_ (by first | exact Nat.le_refl _ | exact Below.size (by assumption) | (simp; done) | (simp; omega)) _ | refine Below.trans ?_ (by assumption)))⟩
      case round =>
        obtain ⟨k, z, hk, rfl, rfl, z0, z1, hz, hbel⟩ := hrel
        have HZ := hide hz
        clear hz
        by_cases hlt : k < n
        · obtain ⟨c0, c1⟩ := unhide HD k hlt
          have d0 := (hbel.cell (p := ⟨b, off + k * 2, none⟩) hb).trans c0
          have d1 := (hbel.cell (p := ⟨b, off + k * 2 + 1, none⟩) hb).trans c1
          clear c0 c1
          have hsk := unhide HS k hlt
          go_wp2_with fail
          refine (szDecl_any _ _ _ _ z0 (by omega) hsk).mono ?_
          rintro e w1 ⟨⟨y, rfl, hy⟩, b1⟩
          by_cases hle : 0 ≤ y
          · go_wp2
            go_roundw
            case rel =>
              refine ⟨k + 1, y, by omega, by go_num, rfl, by omega, by omega, ?_, hbel.trans (b1.mono hbel.size)⟩
              intro j hj
              by_cases e : j = k
              · subst e; omega
              · exact unhide HZ j (by omega)
            case measure => simp [intOf]; omega
          · go_wp2
            go_ret
            exact ⟨⟨_, rfl, Or.inl (by omega)⟩, hbel.trans (b1.mono hbel.size)⟩
        · have e : k = n := by omega
          subst e
          go_wp2
          go_ret
          exact ⟨⟨_, rfl, Or.inr ⟨z0, z1, unhide HZ⟩⟩, hbel⟩
  · go_enter Tryz.func61, Tryz.ntmps61
    go_wp2
    go_ret
    exact ⟨⟨_, rfl, Or.inl (by omega)⟩, (by repeat (first | exact Below.refl _ _ | assumption | refine below_drewN ?_ _ | refine Below.drew ?_ | refine Below.alloc ?_ (by first | exact Nat.le_refl _ | exact Below.size (by assumption) | (simp; done) | (simp; omega)) _ | refine Below.setCell ?_ (by first | exact Nat.le_refl _ | exact Below.size (by assumption) | (simp; done) | (simp; omega)) _ | refine Below.trans ?_ (by assumption)))⟩
set_option maxRecDepth 100000 in
set_option maxHeartbeats 1000000 in
theorem szLayerN_any (hi : Nat) (q : Lyr) (da ta : Option Addr) (dc tc : Nat) (left : Int) (w : World) (hin : q.In w 0 hi da ta) (hf : q.Fit maxLen) (h0 : 0 ≤ left) (h1 : left ≤ 1048576) (hhi : hi ≤ w.heap.size) :
    Calls Tryz.prog 35 #[.agg #[.slice da q.nd dc, .slice ta q.nt tc], .int .i64 left] w fun e w' => (∃ z : Int, e = .returned (.int .i64 z) ∧ (z < 0 ∨ 0 ≤ z ∧ z + q.c ≤ left ∧ q.Low)) ∧ Below w.heap.size w w' := by
  obtain ⟨f1, f2, f3, f4⟩ := hf
  go_enter Tryz.func35, Tryz.ntmps35
  go_wp2_with fail
  have e1 : Below w.heap.size w (w.alloc (.cells #[.slice da q.nd dc, .slice ta q.nt tc] 58)) := (Below.refl _ _).alloc (Nat.le_refl _) _
  refine (szDeclSN_any da q.nd dc q.S q.V left _ ((hin.1.at_ hhi).later e1) h0 h1 f1 f2).mono ?_
  rintro e w1 ⟨⟨z, rfl, hz⟩, b1⟩
  have p1 : w1.cell? ⟨w.heap.size, 1, none⟩ = some (.slice ta q.nt tc) := cell_later b1 (by simp [go_sem])
  have BL := e1.trans (b1.mono (by simp <;> omega))
  clear e1 b1
  by_cases hz0 : 0 ≤ z
  · obtain ⟨_, hz1, hz3⟩ := hz.resolve_left (by omega)
    have hpos := sumN_ge (fun i => (q.kid i).N) (n := q.nt) (TT.In.pos hin.2)
    have HZ := hide hz3
    have F4 := hide f4
    have IN := hide (hin.2.later (BL.mono hhi))
    have hh1 := Nat.le_trans hhi BL.size
    clear hz hz3 f2 f4 hin
    go_wp2_with fail
    refine (szTermS_any hi q.nt q.kid f3 (unhide F4) 0 0 0 ByteArray.empty ta tc z w1 (unhide IN) hz0 (by omega) hh1).mono ?_
    rintro e w2 ⟨⟨y, rfl, hy⟩, b2⟩
    replace BL := BL.trans (b2.mono BL.size)
    clear b2 p1
    by_cases hy0 : 0 ≤ y
    · have HL : Hid (q.Low) := by
        obtain ⟨_, hy1, hy2, hy3⟩ := hy.resolve_left (by omega)
        refine ⟨⟨by omega, fun i hi => by have := unhide HZ i hi; omega, hy2, hy3⟩, fun i hi => ?_⟩
        have := sumN_at (fun i => (q.kid i).N) hi
        try simp only at this
        omega
      have hyz : y + q.nt ≤ z := by have := (hy.resolve_left (by omega)).2.1; omega
      clear hy
      go_wp2
      go_ret
      exact ⟨⟨_, rfl, Or.inr ⟨hy0, by unfold Lyr.c; omega, unhide HL⟩⟩, BL⟩
    · clear hy
      go_wp2
      go_ret
      exact ⟨⟨_, rfl, Or.inl (by omega)⟩, BL⟩
  · clear hz hin f2 f4
    go_wp2
    go_ret
    exact ⟨⟨_, rfl, Or.inl (by omega)⟩, BL⟩
set_option maxRecDepth 100000 in
set_option maxHeartbeats 1000000 in
theorem szLayerSN_any (hi : Nat) (a : Option Addr) (n cap : Nat) (Q : Nat → Lyr) (left : Int) (w : World) (hd : LaysIn w 0 hi a n Q) (hf : ∀ i, i < n → (Q i).Fit maxLen) (h0 : 0 ≤ left) (h1 : left ≤ 1048576) (hn : n ≤ maxLen) (hhi : hi ≤ w.heap.size) :
    Calls Tryz.prog 9 #[.slice a n cap, .int .i64 left] w fun e w' => (∃ z : Int, e = .returned (.int .i64 z) ∧ (z < 0 ∨ 0 ≤ z ∧ z + n + sumN (fun i => (Q i).c) n ≤ left ∧ ∀ i, i < n → (Q i).Low)) ∧ Below w.heap.size w w' := by
  unfold maxLen at hn
  have HF := hide hf
  clear hf
  by_cases h : (n : Int) ≤ left
  · rcases hd with rfl | ⟨b, off, rfl, hlo, hb, DA, TA, DC, TC, hd⟩
    · go_enter Tryz.func9, Tryz.ntmps9
      go_wp2
      go_loopw [5, 1] (fun i l wr => i = .int .i64 0 ∧ l = .int .i64 left ∧ Below w.heap.size w wr) (fun _ _ _ => 0)
      case atStart => exact ⟨rfl, by go_num, (by repeat (first | exact Below.refl _ _ | assumption | refine below_drewN ?_ _ | refine Below.drew ?_ | refine Below.alloc ?_ (by first | exact Nat.le_refl _ | exact Below.size (by assumption) | (simp; done) | (simp; omega)) _ | refine Below.setCell ?_ (by first | exact Nat.le_refl _ | exact Below.size (by assumption) | (simp; done) | (simp; omega)) _ | refine Below.trans ?_ (by assumption)))⟩
      case round =>
        obtain ⟨rfl, rfl, hbel⟩ := hrel
        go_wp2
        go_ret
        exact ⟨⟨_, rfl, Or.inr ⟨h0, by simp [sumN], fun i hi => by omega⟩⟩, (by repeat (first | exact Below.refl _ _ | assumption | refine below_drewN ?_ _ | refine Below.drew ?_ | refine Below.alloc ?_ (by first | exact Nat.le_refl _ | exact Below.size (by assumption) | (simp; done) | (simp; omega)) _ | refine Below.setCell ?_ (by first | exact Nat.le_refl _ | exact Below.size (by assumption) | (simp; done) | (simp; omega)) _ | refine Below.trans ?_ (by assumption)))⟩
    · have HD := hide hd
      clear hd
      go_enter Tryz.func9, Tryz.ntmps9
      go_wp2
      go_loopw [5, 1] (fun i l wr => ∃ (k : Nat) (z : Int), k ≤ n ∧ i = .int .i64 k ∧ l = .int .i64 z ∧ 0 ≤ z ∧ z + n + sumN (fun i => (Q i).c) k ≤ left ∧ (∀ j, j < k → (Q j).Low) ∧ Below w.heap.size w wr) (fun i _ _ => n - (intOf i).toNat)
      case atStart => exact ⟨0, left - n, by omega, rfl, by go_num, by omega, by simp [sumN], fun j hj => by omega, (by repeat (first | exact Below.refl _ _ | assumption | refine below_drewN ?_ _ | refine Below.drew ?_ | refine Below.alloc ?_ (by first | exact Nat.le_refl _ | exact Below.size (by assumption) | (simp; done) | (simp; omega)) _ | refine Below.setCell ?_ (by first | exact Nat.le_refl _ | exact Below.size (by assumption) | (simp; done) | (simp; omega)) _ | refine Below.trans ?_ (by assumption)))⟩
      case round =>
        obtain ⟨k, z, hk, rfl, rfl, z0, z1, hz, hbel⟩ := hrel
        have HZ := hide hz
        clear hz
        have hhr := Nat.le_trans hhi hbel.size
        by_cases hlt : k < n
        · obtain ⟨h2, _, hin⟩ := unhide HD k hlt
          obtain ⟨c0, c1⟩ := h2.keep (w' := wr) (fun o => hbel.cell (p := ⟨b, o, none⟩) (Nat.lt_of_lt_of_le hb hhi))
          have hin' := hin.later (hbel.mono hhi)
          have HFk := hide (unhide HF k hlt)
          generalize hq : Q k = q at *
          go_wp2_with fail
          refine (szLayerN_any hi q _ _ _ _ z _ hin' (unhide HFk) z0 (by omega) hhr).mono ?_
          rintro e w1 ⟨⟨y, rfl, hy⟩, b1⟩
          have HY := hide hy
          clear hy hin hin' h2
          by_cases hle : 0 ≤ y
          · go_wp2
            go_roundw
            case rel =>
              obtain ⟨_, hy1, hy2⟩ := (unhide HY).resolve_left (by omega)
              have es : sumN (fun i => (Q i).c) (k + 1) = sumN (fun i => (Q i).c) k + q.c := by rw [← hq]; rfl
              refine ⟨k + 1, y, by omega, by go_num, rfl, by omega, by rw [es]; omega, ?_, hbel.trans (b1.mono hbel.size)⟩
              intro j hj
              by_cases e : j = k
              · subst e; rw [hq]; exact hy2
              · exact unhide HZ j (by omega)
            case measure => simp [intOf]; omega
          · go_wp2
            go_ret
            exact ⟨⟨_, rfl, Or.inl (by omega)⟩, hbel.trans (b1.mono hbel.size)⟩
        · have e : k = n := by omega
          subst e
          go_wp2
          go_ret
          exact ⟨⟨_, rfl, Or.inr ⟨z0, z1, unhide HZ⟩⟩, hbel⟩
  · go_enter Tryz.func9, Tryz.ntmps9
    go_wp2
    go_ret
    exact ⟨⟨_, rfl, Or.inl (by omega)⟩, (by repeat (first | exact Below.refl _ _ | assumption | refine below_drewN ?_ _ | refine Below.drew ?_ | refine Below.alloc ?_ (by first | exact Nat.le_refl _ | exact Below.size (by assumption) | (simp; done) | (simp; omega)) _ | refine Below.setCell ?_ (by first | exact Nat.le_refl _ | exact Below.size (by assumption) | (simp; done) | (simp; omega)) _ | refine Below.trans ?_ (by assumption)))⟩
/-- A list's names by their places. -/
def sL (L : List (ByteArray × Int)) (i : Nat) : ByteArray := (L.getD i (ByteArray.empty, 0)).1
def vL (L : List (ByteArray × Int)) (i : Nat) : Int := (L.getD i (ByteArray.empty, 0)).2
def Lyr.ns (q : Lyr) : List (ByteArray × Int) := dprs q.nd q.S q.V
/-- The names of the first layers, one behind the other. -/
def alN (Q : Nat → Lyr) : Nat → List (ByteArray × Int)
  | 0 => []
  | k + 1 => alN Q k ++ (Q k).ns
/-- How many terms the first layers have. -/
def alT (Q : Nat → Lyr) : Nat → Nat
  | 0 => 0
  | k + 1 => alT Q k + (Q k).nt
theorem alN_bd (Q : Nat → Lyr) : ∀ k, (alN Q k).length + alT Q k = sumN (fun i => (Q i).c) k
  | 0 => rfl
  | k + 1 => by
    have := alN_bd Q k
    simp only [alN, alT, sumN, List.length_append, Lyr.ns, dprs_len, Lyr.c] at this ⊢
    omega
theorem getD_front {L M : List (ByteArray × Int)} {i : Nat} (h : i < L.length) : (L ++ M).getD i (ByteArray.empty, 0) = L.getD i (ByteArray.empty, 0) := by
  rw [List.getD_eq_getElem?_getD, List.getD_eq_getElem?_getD, List.getElem?_append_left h]
theorem sL_front {L M : List (ByteArray × Int)} {i : Nat} (h : i < L.length) : sL (L ++ M) i = sL L i ∧ vL (L ++ M) i = vL L i := by unfold sL vL; rw [getD_front h]; exact ⟨rfl, rfl⟩
/-- Names that are right. -/
def DeclL (L : List (ByteArray × Int)) : Prop := DeclP L.length (sL L) (vL L)
theorem sumV_congr {V V' : Nat → Int} : ∀ n, (∀ i, i < n → V i = V' i) → sumV V n = sumV V' n
  | 0, _ => rfl
  | n + 1, h => by
    have := sumV_congr n (fun i hi => h i (by omega))
    simp only [sumV, this, h n (by omega)]
theorem sumV_more {V : Nat → Int} {m : Nat} : ∀ n, m ≤ n → (∀ i, i < n → 1 ≤ V i) → sumV V m ≤ sumV V n
  | 0, h, _ => by have : m = 0 := by omega
                  subst this; exact Int.le_refl _
  | n + 1, h, hv => by
    by_cases e : m = n + 1
    · subst e; exact Int.le_refl _
    · have := sumV_more (V := V) (m := m) n (by omega) (fun i hi => hv i (by omega))
      have := hv n (by omega)
      simp only [sumV]; omega
/-- What is ahead in right names is right. -/
theorem DeclL.front {L M : List (ByteArray × Int)} (h : DeclL (L ++ M)) : DeclL L := by
  obtain ⟨h1, h2, h3⟩ := h
  rw [List.length_append] at h1 h2 h3
  have hv : ∀ i, i < L.length + M.length → 1 ≤ vL (L ++ M) i := fun i hi => (h2 i hi).2.1
  refine ⟨by omega, fun i hi => ?_, ?_⟩
  · obtain ⟨a, b, c, d⟩ := h2 i (by omega)
    rw [(sL_front hi).1] at a d
    rw [(sL_front hi).2] at b c
    refine ⟨a, b, c, fun j hj => ?_⟩
    have := d j hj
    rwa [(sL_front (by omega : j < L.length)).1] at this
  · have e := sumV_congr (V := vL (L ++ M)) (V' := vL L) L.length (fun i hi => (sL_front hi).2)
    have m := sumV_more (V := vL (L ++ M)) (m := L.length) (L.length + M.length) (by omega) hv
    rw [e] at m
    omega
theorem DeclL.nil : DeclL [] := ⟨by simp, fun i hi => by simp at hi, by simp [sumV]⟩
theorem alN_front (Q : Nat → Lyr) : ∀ k n, k ≤ n → ∃ M, alN Q n = alN Q k ++ M
  | k, 0, h => by have : k = 0 := by omega
                  subst this; exact ⟨[], by simp⟩
  | k, n + 1, h => by
    by_cases e : k = n + 1
    · subst e; exact ⟨[], by simp⟩
    · obtain ⟨M, hM⟩ := alN_front Q k n (by omega)
      exact ⟨M ++ (Q n).ns, by rw [← List.append_assoc, ← hM]; rfl⟩
theorem alT_mono (Q : Nat → Lyr) : ∀ k n, k ≤ n → alT Q k ≤ alT Q n
  | k, 0, h => by have : k = 0 := by omega
                  subst this; exact Nat.le_refl _
  | k, n + 1, h => by
    by_cases e : k = n + 1
    · subst e; exact Nat.le_refl _
    · have := alT_mono Q k n (by omega)
      simp only [alT]; omega
/-- A term, with where its Kids lie. -/
abbrev Lt := TT × Option Addr × Nat
def tcell (p : Lt) : List Value := [.int .i64 p.1.op, .int .i64 p.1.a, .int .i64 p.1.b, .string p.1.s, .slice p.2.1 p.1.n p.2.2]
def tcells (L : List Lt) : List Value := L.flatMap tcell
theorem tcells_app (L M : List Lt) : tcells (L ++ M) = tcells L ++ tcells M := by simp [tcells]
theorem tcells_size : ∀ (L : List Lt), (tcells L).length = L.length * 5
  | [] => rfl
  | p :: L => by
    have e : tcells (p :: L) = tcell p ++ tcells L := rfl
    rw [e, List.length_append, tcells_size L]; simp [tcell]; omega
theorem tcells_cell {L : List Lt} : ∀ u ∈ tcells L, u.oneCell' = true := by
  intro u hu
  unfold tcells at hu
  rw [List.mem_flatMap] at hu
  obtain ⟨p, _, h⟩ := hu
  unfold tcell at h
  simp only [List.mem_cons, List.not_mem_nil, or_false] at h
  rcases h with h | h | h | h | h <;> subst h <;> rfl
theorem tcells_at : ∀ (L : List Lt) (i j : Nat) (h : i < L.length), j < 5 → (tcells L)[i * 5 + j]? = (tcell L[i])[j]?
  | [], i, j, h, _ => by simp at h
  | p :: L, 0, j, h, hj => by
    have e : tcells (p :: L) = tcell p ++ tcells L := rfl
    rw [e, Nat.zero_mul, Nat.zero_add, List.getElem?_append_left (by simp [tcell]; omega)]
    rfl
  | p :: L, i + 1, j, h, hj => by
    have e : tcells (p :: L) = tcell p ++ tcells L := rfl
    have h' : i < L.length := by simpa using h
    have ih := tcells_at L i j h' hj
    have hl : (tcell p).length = 5 := rfl
    rw [e, List.getElem?_append_right (by rw [hl]; omega), hl, show (i + 1) * 5 + j - 5 = i * 5 + j by omega]
    simpa using ih
/-- The terms of a list, as they lie. -/
theorem tcells_lie {w : World} {b off : Nat} {L : List Lt} (h : ∀ i (hi : i < L.length), Five w b (off + i * 5) L[i].1 L[i].2.1 L[i].2.2) :
    ∀ j u, (tcells L)[j]? = some u → w.cell? ((⟨b, off, none⟩ : Addr).add j) = some u := by
  intro j u hj
  have hl : j < L.length * 5 := by
    have := (List.getElem?_eq_some_iff.1 hj).1
    rwa [tcells_size] at this
  have hi : j / 5 < L.length := by omega
  have hm : j % 5 < 5 := Nat.mod_lt _ (by omega)
  have e : j / 5 * 5 + j % 5 = j := by omega
  have ha := tcells_at L (j / 5) (j % 5) hi hm
  rw [e] at ha
  rw [ha] at hj
  obtain ⟨f0, f1, f2, f3, f4⟩ := h (j / 5) hi
  rw [Go.WideShapes.add_plain]
  have e2 : off + j = off + j / 5 * 5 + j % 5 := by omega
  rw [e2]
  have : j % 5 = 0 ∨ j % 5 = 1 ∨ j % 5 = 2 ∨ j % 5 = 3 ∨ j % 5 = 4 := by omega
  rcases this with q | q | q | q | q <;> rw [q] at hj ⊢ <;> simp [tcell] at hj <;> subst hj
  · exact f0
  · exact f1
  · exact f2
  · exact f3
  · exact f4
theorem infoTermS : (Tryz.prog.info? 50).map (fun i => (i.zero, i.size, i.bytes)) = some (some (.agg #[.int .i64 0, .int .i64 0, .int .i64 0, .string ByteArray.empty, .slice none 0 0]), 5, 64) := by kernel_rfl
/-- Terms behind those of a list of one's own. -/
theorem terms_more (w : World) (base g n cap : Nat) (L M : List Lt) (a : Addr) (m c : Nat) (hown : w.ownsRow base 50 5 (.slice (some ⟨g, 0, none⟩) n cap) n (tcells L)) (hm : M.length = m) (hM : ∀ j u, (tcells M)[j]? = some u → w.cell? (a.add j) = some u) (hk : n + m ≤ 4000000) (hbase : base ≤ w.heap.size) :
    ∃ g' cap' w', (Builtin.append_ #[48, 48] 48 #[.slice (some ⟨g, 0, none⟩) n cap, .slice (some a) m c]).run Tryz.prog w = .ok (.slice (some ⟨g', 0, none⟩) (n + m) cap') w' ∧ w'.ownsRow base 50 5 (.slice (some ⟨g', 0, none⟩) (n + m) cap') (n + m) (tcells (L ++ M)) ∧ w.grownBy w' (some g) ∧ (g' = g ∨ g' = w.heap.size) := by
  obtain ⟨i0, hi0, hzz⟩ := Option.map_eq_some_iff.1 infoTermS
  simp only [Prod.mk.injEq] at hzz
  obtain ⟨hz0, hz1, hz2⟩ := hzz
  rw [tcells_app]
  exact append_where (P := Tryz.prog) w base 48 48 50 i0 _ 5 64 Tryz.underlying48 hi0 hz0 hz1 hz2 rfl (by omega) g n cap (tcells L) hown a m c (tcells M) (by rw [tcells_size, hm]) hM tcells_cell (by unfold maxLen; omega) (by omega) hbase
theorem terms_none {w : World} {base X : Nat} (hX : w.heap[X]? = some (.cells #[] 50 (0, 0))) (hb : base ≤ X) : w.ownsRow base 50 5 (.slice (some ⟨X, 0, none⟩) 0 0) 0 (tcells []) :=
  ⟨rfl, .inr ⟨X, 0, #[], rfl, hb, hX, Nat.le_refl _, by unfold maxLen; omega, rfl, rfl⟩⟩
/-- A layer's names behind those of a list of one's own. -/
theorem decs_put (w : World) (base g n cap hi : Nat) (L : List (ByteArray × Int)) (q : Lyr) (da : Option Addr) (dc : Nat) (hown : w.ownsRow base 40 2 (.slice (some ⟨g, 0, none⟩) n cap) n (dcells L)) (hd : DecsIn w 0 hi da q.nd q.S q.V) (hz : da = none → dc = 0) (hk : n + q.nd ≤ 4000000) (hbase : base ≤ w.heap.size) :
    ∃ g' cap' w', (Builtin.append_ #[29, 29] 29 #[.slice (some ⟨g, 0, none⟩) n cap, .slice da q.nd dc]).run Tryz.prog w = .ok (.slice (some ⟨g', 0, none⟩) (n + q.nd) cap') w' ∧ w'.ownsRow base 40 2 (.slice (some ⟨g', 0, none⟩) (n + q.nd) cap') (n + q.nd) (dcells (L ++ q.ns)) ∧ w.grownBy w' (some g) ∧ (g' = g ∨ g' = w.heap.size) := by
  cases hda : da with
  | none =>
    have h0 : q.nd = 0 := by
      rcases hd with h | ⟨b, off, h, _⟩
      · exact h
      · rw [hda] at h; cases h
    have e : q.ns = [] := by unfold Lyr.ns; rw [h0]; rfl
    obtain ⟨i0, hi0, hzz⟩ := Option.map_eq_some_iff.1 infoDeclS
    simp only [Prod.mk.injEq] at hzz
    obtain ⟨hz0, hz1, hz2⟩ := hzz
    rw [h0, hz hda, e, List.append_nil, Nat.add_zero]
    exact ⟨g, cap, w, run_append_owned_none (P := Tryz.prog) (w := w) base 29 29 40 i0 2 Tryz.underlying29 hi0 _ n _ hown, hown, ⟨rfl, rfl, rfl, Nat.le_refl _, fun _ _ _ => rfl⟩, Or.inl rfl⟩
  | some x =>
    refine decs_more w base g n cap L q.ns x q.nd dc hown (dprs_len _ _ _) ?_ hk hbase
    rcases hd with h0 | ⟨b, off, h, _, _, hD⟩
    · have e : q.ns = [] := by unfold Lyr.ns; rw [h0]; rfl
      rw [e]; intro j u hj; simp [dcells] at hj
    · rw [hda] at h; injection h with h; subst h
      exact decs_lie hD
/-- Terms as a list, with where their Kids lie. -/
def tprs (n : Nat) (kid : Nat → TT) (AD : Nat → Option Addr) (CP : Nat → Nat) : List Lt := (List.range n).map fun i => (kid i, AD i, CP i)
theorem tprs_len (n : Nat) (kid : Nat → TT) (AD : Nat → Option Addr) (CP : Nat → Nat) : (tprs n kid AD CP).length = n := by simp [tprs]
/-- A layer's terms behind those of a list of one's own. -/
theorem terms_put (w : World) (base g n cap hi : Nat) (L : List Lt) (q : Lyr) (ta : Option Addr) (tc : Nat) (hown : w.ownsRow base 50 5 (.slice (some ⟨g, 0, none⟩) n cap) n (tcells L)) (hd : q.t.In w 0 hi ta) (hz : ta = none → tc = 0) (hk : n + q.nt ≤ 4000000) (hbase : base ≤ w.heap.size) :
    ∃ g' cap' w' AD CP, (Builtin.append_ #[48, 48] 48 #[.slice (some ⟨g, 0, none⟩) n cap, .slice ta q.nt tc]).run Tryz.prog w = .ok (.slice (some ⟨g', 0, none⟩) (n + q.nt) cap') w' ∧ w'.ownsRow base 50 5 (.slice (some ⟨g', 0, none⟩) (n + q.nt) cap') (n + q.nt) (tcells (L ++ tprs q.nt q.kid AD CP)) ∧ w.grownBy w' (some g) ∧ (g' = g ∨ g' = w.heap.size) ∧ ∀ i, i < q.nt → (q.kid i).n ≤ CP i ∧ (q.kid i).In w 0 hi (AD i) := by
  cases hta : ta with
  | none =>
    have h0 : q.nt = 0 := by
      rcases hd with h | ⟨b, off, h, _⟩
      · exact h
      · rw [hta] at h; cases h
    obtain ⟨i0, hi0, hzz⟩ := Option.map_eq_some_iff.1 infoTermS
    simp only [Prod.mk.injEq] at hzz
    obtain ⟨hz0, hz1, hz2⟩ := hzz
    rw [h0, hz hta, Nat.add_zero]
    exact ⟨g, cap, w, fun _ => none, fun _ => 0, run_append_owned_none (P := Tryz.prog) (w := w) base 48 48 50 i0 5 Tryz.underlying48 hi0 _ n _ hown, by simpa [tprs] using hown, ⟨rfl, rfl, rfl, Nat.le_refl _, fun _ _ _ => rfl⟩, Or.inl rfl, fun i hi => by omega⟩
  | some x =>
    rcases hd with h0 | ⟨b, off, h, _, _, AD, CP, hD⟩
    · have h0' : q.nt = 0 := h0
      obtain ⟨g', cap', w', h1, h2, h3, h4⟩ := terms_more w base g n cap L [] x q.nt tc hown h0'.symm (by intro j u hj; simp [tcells] at hj) hk hbase
      exact ⟨g', cap', w', fun _ => none, fun _ => 0, h1, by rw [h0'] at h2 ⊢; simpa [tprs] using h2, h3, h4, fun i hi => by omega⟩
    · rw [hta] at h; injection h with h; subst h
      obtain ⟨g', cap', w', h1, h2, h3, h4⟩ := terms_more w base g n cap L (tprs q.nt q.kid AD CP) ⟨b, off, none⟩ q.nt tc hown (tprs_len _ _ _ _) (tcells_lie (fun i hi => by
        have hi' : i < q.nt := by simpa [tprs_len] using hi
        have e : (tprs q.nt q.kid AD CP)[i] = (q.kid i, AD i, CP i) := by simp [tprs]
        rw [e]; exact (hD i hi').1)) hk hbase
      exact ⟨g', cap', w', AD, CP, h1, h2, h3, h4, fun i hi => ⟨(hD i hi).2.1, (hD i hi).2.2⟩⟩
end Go.Proofs.YtfopmobopmdahaaGreat
