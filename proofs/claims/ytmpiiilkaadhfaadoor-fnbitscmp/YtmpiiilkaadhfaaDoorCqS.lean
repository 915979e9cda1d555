/- Two numbers held against each other: pure, and of the model. -/
import Derived.Test.YtmpiiilkaadhfaaDoorBkV
import Derived.Test.YtmpiiilkaadhfaaDoorGapA
import Derived.Test.YtmpiiilkaadhfaaDoorIapA
namespace Go.Proofs.YtmpiiilkaadhfaaDoor
open Go.ChangeShapes Go.WideShapes Go.ChangeAt Go.RowKit Go.Joins
set_option linter.unusedVariables false
set_option maxRecDepth 100000
set_option linter.unusedSimpArgs false
/-- A mark that is carried along two rows. -/
def foldK (f : KS → Int → Int → Int → KS × Int) (s : KS) (c : Int) (L M : List Int) : Nat → KS × Int
  | 0 => (s, c)
  | i + 1 => f (foldK f s c L M i).1 (foldK f s c L M i).2 (at0 L i) (at0 M i)
theorem foldK_good {f : KS → Int → Int → Int → KS × Int} {s : KS} {c : Int} {L M : List Int} (hf : ∀ t r x y, KOk t → Mk t r → Mk t x → Mk t y → Good t (f t r x y)) (hs : KOk s) (hc : Mk s c) (hL : MkL s L) (hM : MkL s M) : ∀ i, i ≤ L.length → i ≤ M.length → Good s (foldK f s c L M i)
  | 0, _, _ => ⟨hs, hc, Le.refl _⟩
  | i + 1, h1, h2 => by
    obtain ⟨q1, q2, q3⟩ := foldK_good hf hs hc hL hM i (by omega) (by omega)
    obtain ⟨r1, r2, r3⟩ := hf _ _ _ _ q1 q2 ((hL i (by omega)).le q3) ((hM i (by omega)).le q3)
    exact ⟨r1, r2, q3.trans r3⟩
theorem foldK_rl {f g : KS → Int → Int → Int → KS × Int} (h : ∀ u v r r' x y, Rl u v → (u.ok = true → r = r') → RlV (f u r x y) (g v r' x y)) (s : KS) (c : Int) (L M : List Int) : ∀ i, RlV (foldK f s c L M i) (foldK g s c L M i)
  | 0 => ⟨Rl.refl _, fun _ => rfl⟩
  | i + 1 => by
    obtain ⟨q1, q2⟩ := foldK_rl h s c L M i
    exact h _ _ _ _ _ _ q1 q2
def sameR (z : Int) (s : KS) (r x y : Int) : KS × Int := andK z (xorK z s x y).1 r (-(xorK z s x y).2)
def lessR (z : Int) (s : KS) (r x y : Int) : KS × Int := oneK z (xorK z s x y).1 (xorK z s x y).2 y r
theorem sameR_good {z : Int} (hz : -700 ≤ z ∧ z ≤ 700) (t : KS) (r x y : Int) (ht : KOk t) (hr : Mk t r) (hx : Mk t x) (hy : Mk t y) : Good t (sameR z t r x y) := by
  obtain ⟨p1, p2, p3⟩ := xorK_good hz ht hx hy
  obtain ⟨q1, q2, q3⟩ := andK_good hz p1 (hr.le p3) p2.neg
  exact ⟨q1, q2, p3.trans q3⟩
theorem lessR_good {z : Int} (hz : -700 ≤ z ∧ z ≤ 700) (t : KS) (r x y : Int) (ht : KOk t) (hr : Mk t r) (hx : Mk t x) (hy : Mk t y) : Good t (lessR z t r x y) := by
  obtain ⟨p1, p2, p3⟩ := xorK_good hz ht hx hy
  obtain ⟨q1, q2, q3⟩ := oneK_good hz p1 p2 (hy.le p3) (hr.le p3)
  exact ⟨q1, q2, p3.trans q3⟩
theorem sameR_rl {z z' : Int} (u v : KS) (r r' x y : Int) (h : Rl u v) (hr : u.ok = true → r = r') : RlV (sameR z u r x y) (sameR z' v r' x y) := by
  obtain ⟨p1, p2⟩ := xorK_rl (z := z) (z' := z') h (a := x) (a' := x) (b := y) (b' := y) (fun _ => rfl) (fun _ => rfl)
  exact andK_rl p1 (fun k => hr (xorK_ok k)) (fun k => by rw [p2 k])
theorem lessR_rl {z z' : Int} (u v : KS) (r r' x y : Int) (h : Rl u v) (hr : u.ok = true → r = r') : RlV (lessR z u r x y) (lessR z' v r' x y) := by
  obtain ⟨p1, p2⟩ := xorK_rl (z := z) (z' := z') h (a := x) (a' := x) (b := y) (b' := y) (fun _ => rfl) (fun _ => rfl)
  exact oneK_rl p1 p2 (fun _ => rfl) (fun k => hr (xorK_ok k))
/-- A row with another one's highest bit. -/
def topL (L M : List Int) : List Int := L.take (L.length - 1) ++ [at0 M (L.length - 1)]
theorem topL_len {L M : List Int} (h : 1 ≤ L.length) : (topL L M).length = L.length := by simp [topL]; omega
theorem topL_at {L M : List Int} {i : Nat} (h : i < L.length) : at0 (topL L M) i = if i = L.length - 1 then at0 M i else at0 L i := by
  unfold at0 topL
  rw [List.getD_eq_getElem?_getD, List.getD_eq_getElem?_getD, List.getD_eq_getElem?_getD]
  by_cases e : i = L.length - 1
  · subst e
    rw [if_pos rfl, List.getElem?_append_right (by simp)]
    simp [at0, List.getD_eq_getElem?_getD]
  · rw [if_neg e, List.getElem?_append_left (by simp; omega), List.getElem?_take_of_lt (by omega)]
theorem MkL.top {s : KS} {L M : List Int} (hL : MkL s L) (hM : MkL s M) (he : L.length = M.length) (h1 : 1 ≤ L.length) : MkL s (topL L M) := fun i hi => by
  rw [topL_len h1] at hi
  rw [topL_at hi]
  split
  · exact hM i (by omega)
  · exact hL i hi
/-- What is asked of two numbers. -/
def cmpK (z op : Int) (s : KS) (L M : List Int) : KS × Int :=
  if op = 15 then foldK (sameR z) s 1 L M L.length else if op = 16 then foldK (lessR z) s (-1) L M L.length else foldK (lessR z) s (-1) (topL L M) (topL M L) L.length
theorem cmpK_good {z op : Int} {s : KS} {L M : List Int} (hz : -700 ≤ z ∧ z ≤ 700) (hs : KOk s) (hL : MkL s L) (hM : MkL s M) (he : L.length = M.length) (h1 : 1 ≤ L.length) : Good s (cmpK z op s L M) := by
  unfold cmpK
  split
  · exact foldK_good (sameR_good hz) hs (Mk.one hs) hL hM _ (Nat.le_refl _) (by omega)
  · split
    · exact foldK_good (lessR_good hz) hs (Mk.not hs) hL hM _ (Nat.le_refl _) (by omega)
    · exact foldK_good (lessR_good hz) hs (Mk.not hs) (hL.top hM he h1) (hM.top hL he.symm (by omega)) _ (by rw [topL_len h1]; exact Nat.le_refl _) (by rw [topL_len (by omega)]; omega)
theorem cmpK_rl (op : Int) (s : KS) (L M : List Int) : RlV (cmpK 0 op s L M) (cmpK 1 op s L M) := by
  unfold cmpK
  split
  · exact foldK_rl sameR_rl _ _ _ _ _
  · split
    · exact foldK_rl lessR_rl _ _ _ _ _
    · exact foldK_rl lessR_rl _ _ _ _ _
/-- What BitsCmp is given is right. -/
def CmpP (m : Int) (n : Nat) (G : Nat → Gt) (op : Int) (L M : List Int) : Prop := netB m n G = true ∧ RgtP m n L ∧ RgtP m n M ∧ L.length = M.length ∧ 15 ≤ op ∧ op ≤ 17
/-- What BitsCmp hands back: the net, and the mark as a list of one (of none: the mark is 0). -/
noncomputable def cmpBR (m : Int) (n : Nat) (G : Nat → Gt) (op : Int) (L M : List Int) : BR := @ite _ (CmpP m n G op L M) (Classical.propDecidable _) (brK ((cmpK 1 op (kS m n G) L M).1, [(cmpK 1 op (kS m n G) L M).2])) nilB
theorem cmpBR_no {m : Int} {n : Nat} {G : Nat → Gt} {op : Int} {L M : List Int} (h : ¬ CmpP m n G op L M) : cmpBR m n G op L M = nilB := if_neg h
theorem cmpBR_yes {m : Int} {n : Nat} {G : Nat → Gt} {op : Int} {L M : List Int} (h : CmpP m n G op L M) : cmpBR m n G op L M = brK ((cmpK 1 op (kS m n G) L M).1, [(cmpK 1 op (kS m n G) L M).2]) := if_pos h
theorem cmpBR_z {m : Int} {n : Nat} {G : Nat → Gt} {op : Int} {L M : List Int} : brK ((cmpK 1 op (kS m n G) L M).1, [(cmpK 1 op (kS m n G) L M).2]) = brK ((cmpK 0 op (kS m n G) L M).1, [(cmpK 0 op (kS m n G) L M).2]) :=
  (brK_rl ⟨(cmpK_rl op (kS m n G) L M).1, fun k => by rw [(cmpK_rl op (kS m n G) L M).2 k]⟩).symm
/-- A type of lists of numbers, by what the program says of it. -/
structure LsT (t e : TypeId) : Prop where
  u : Tryd.prog.underlying t = some (.slice e)
  i : (Tryd.prog.info? e).map (fun i => (i.zero, i.size, i.bytes)) = some (some (.int .i64 0), 1, 8)
theorem lsInt : LsT 26 3 := ⟨Tryd.underlying26, infoInt⟩
theorem ints_where {t e : TypeId} (hT : LsT t e) (ty : TypeId) (w : World) (base g n cap0 : Nat) (L M : List Int) (b off m cap : Nat) (hown : w.ownsRow base e 1 (.slice (some ⟨g, 0, none⟩) n cap0) n (icells L)) (hM : M.length = m) (hi : Ints w b off m (at0 M)) (h63 : n + m ≤ 1000000) (hbase : base ≤ w.heap.size) :
    ∃ g' cap' w', (Builtin.append_ #[t, t] ty #[.slice (some ⟨g, 0, none⟩) n cap0, .slice (some ⟨b, off, none⟩) m cap]).run Tryd.prog w = .ok (.slice (some ⟨g', 0, none⟩) (n + m) cap') w' ∧ w'.ownsRow base e 1 (.slice (some ⟨g', 0, none⟩) (n + m) cap') (n + m) (icells (L ++ M)) ∧ w.grownBy w' (some g) ∧ (g' = g ∨ g' = w.heap.size) := by
  obtain ⟨i0, hi0, hzz⟩ := Option.map_eq_some_iff.1 hT.i
  simp only [Prod.mk.injEq] at hzz
  obtain ⟨hz0, hz1, hz2⟩ := hzz
  have e1 : icells (L ++ M) = icells L ++ icells M := by simp [icells]
  rw [e1]
  refine append_where (P := Tryd.prog) w base t ty e i0 _ 1 8 hT.u hi0 hz0 hz1 hz2 rfl (by omega) g n cap0 (icells L) hown ⟨b, off, none⟩ m cap (icells M) (by simp [icells, hM]) ?_ ?_ (by unfold maxLen; omega) (by omega) hbase
  · intro j u hj
    have hj' : j < M.length := by
      have := (List.getElem?_eq_some_iff.1 hj).1
      simpa [icells] using this
    have := hi j (by omega)
    rw [Go.WideShapes.add_plain, this]
    simp [icells, hj'] at hj
    rw [← hj]
    simp [at0, List.getD, hj']
  · intro u hu
    simp [icells] at hu
    obtain ⟨x, _, rfl⟩ := hu
    rfl
/-- An empty list that has been laid down is one's own. -/
theorem own_fresh {w : World} {base X : Nat} {e : TypeId} (hX : w.heap[X]? = some (.cells #[] e (0, 0))) (hb : base ≤ X) : w.ownsRow base e 1 (.slice (some ⟨X, 0, none⟩) 0 0) 0 (icells []) := ⟨by simp [icells], .inr ⟨X, 0, #[], rfl, hb, hX, Nat.le_refl _, by unfold maxLen; omega, by simp, by simp [icells]⟩⟩
/-- Numbers onto a list of one's own, as a step. -/
theorem step_ints {t e : TypeId} (hT : LsT t e) {ops : Array Oper} {o : Oper} {a : Act} {w : World} {K : Act → World → Prop} {Q : Exit → Act → World → Prop} {E : Prop} (hgd : o.guard = none) (s x : Operand)
    (ho : o.op = .call { callee := .builtin .append, args := #[s, x], argTypes := #[t, t] }) (L M : List Int) (base g n cap b off m c : Nat) (hs : a.eval s = .slice (some ⟨g, 0, none⟩) n cap) (hown : w.ownsRow base e 1 (.slice (some ⟨g, 0, none⟩) n cap) n (icells L)) (hbase : base ≤ w.heap.size)
    (hx : a.eval x = .slice (some ⟨b, off, none⟩) m c) (hM : M.length = m) (hi : Ints w b off m (at0 M)) (hl : n + m ≤ 1000000)
    (h : ∀ g' cap' w', w'.ownsRow base e 1 (.slice (some ⟨g', 0, none⟩) (n + m) cap') (n + m) (icells (L ++ M)) → w.grownBy w' (some g) → (g' = g ∨ g' = w.heap.size) → g' < w'.heap.size → K (a.put o.dst (.slice (some ⟨g', 0, none⟩) (n + m) cap')) w') :
    if Region.wanted o (yielded ops a.tmps) = true then Oper.wp Tryd.prog o a w K Q else E := by
  obtain ⟨g', cap', w', h1, h2, h3, h4⟩ := ints_where hT o.type w base g n cap L M b off m c hown hM hi hl hbase
  refine step_app_ex hgd s x _ ho _ _ hs hx _ _ h1 ?_
  exact h g' cap' w' h2 h3 h4 (own_cap h2).2
theorem at0_take {L : List Int} {k i : Nat} (h : i < k) (hk : k ≤ L.length) : at0 (L.take k) i = at0 L i := by
  unfold at0
  rw [List.getD_eq_getElem?_getD, List.getD_eq_getElem?_getD, List.getElem?_take_of_lt h]
/-- What holds at each round: the box, the results' box, the gates. -/
structure KI (w wr : World) (s : KS) (ad ga : Option Addr) (gc : Nat) : Prop where
  k : KBox wr w.heap.size s ga gc
  kf : ∀ o, wr.frozen? ⟨w.heap.size, o, none⟩ = false
  i : KIn wr s ga gc
  pl : Pl ad ga (w.heap.size + 2)
  s0 : wr.cell? ⟨w.heap.size + 1, 0, none⟩ = some (.int .i64 0)
  s1 : wr.cell? ⟨w.heap.size + 1, 1, none⟩ = some (.slice none 0 0)
  s2 : wr.cell? ⟨w.heap.size + 1, 2, none⟩ = some (.bool false)
  sf : ∀ o, wr.frozen? ⟨w.heap.size + 1, o, none⟩ = false
  lo : w.heap.size + 2 ≤ wr.heap.size
  be : Below w.heap.size w wr
theorem KI.drew {w wr : World} {s : KS} {ad ga : Option Addr} {gc : Nat} (h : KI w wr s ad ga gc) : KI w wr.drew s ad ga gc := ⟨h.k, h.kf, h.i, h.pl, h.s0, h.s1, h.s2, h.sf, h.lo, h.be.drew⟩
/-- Behind a call that hands back a net in the making: the box is still the elder one. -/
theorem KI.call {w wr w1 : World} {s t : KS} {ad ga ga' : Option Addr} {gc gc' : Nat} (h : KI w wr s ad ga gc) (hb : Below wr.heap.size wr w1) (hi : KIn w1 t ga' gc') (hp : Pl ga ga' wr.heap.size) (hw : ∀ q, ad = some q → q.block < w.heap.size) :
    (KBox w1 w.heap.size s ga gc ∧ (∀ o, w1.frozen? ⟨w.heap.size, o, none⟩ = false)) ∧
    ∀ v, v = ((w1.setCell ⟨w.heap.size, 0, none⟩ (.int .i64 t.m)).setCell ⟨w.heap.size, 1, none⟩ (.slice ga' t.n gc')).setCell ⟨w.heap.size, 2, none⟩ (.bool t.ok) → KI w v t ad ga' gc' := by
  have hk := h.k.later hb
  have hlt := h.k.lt
  have hkf : ∀ o, w1.frozen? ⟨w.heap.size, o, none⟩ = false := fun o => (hb.frozen (p := ⟨w.heap.size, o, none⟩) hlt).trans (h.kf o)
  refine ⟨⟨hk, hkf⟩, fun v hv => ?_⟩
  have mv : Mov w.heap.size w1 v := by rw [hv]; exact mov3 _ _ _ _ _
  have hpl : Pl ad ga' (w.heap.size + 2) := h.pl.trans hp h.lo
  have s0' := cell_later hb h.s0
  refine ⟨by rw [hv]; exact KBox.put hk, fun o => by rw [hv]; simp [go_sem]; exact hkf o, hi.mov (hpl.apart hw (Nat.le_refl _) (by omega)) mv, hpl, mv.cell s0' (by simp only; omega), mv.cell (cell_later hb h.s1) (by simp only; omega), mv.cell (cell_later hb h.s2) (by simp only; omega), fun o => ?_, Nat.le_trans h.lo (Nat.le_trans hb.size mv.size), (h.be.trans (hb.mono h.be.size)).trans (mv.below (Nat.le_refl _) (Nat.le_trans h.be.size hb.size))⟩
  have lt := World.block_lt_of_cell? _ _ h.s0
  have e1 := (hb.frozen (p := ⟨w.heap.size + 1, o, none⟩) lt).trans (h.sf o)
  exact (World.frozen?_of_block (mv.2.2.2.2 (w.heap.size + 1) (World.block_lt_of_cell? _ _ s0') (by omega))).trans e1
set_option maxRecDepth 100000 in
set_option maxHeartbeats 2000000 in
theorem l7Same_any (s : KS) (ad : Option Addr) (cap : Nat) (la : Option Addr) (nl cl : Nat) (L : List Int) (lb : Option Addr) (cm : Nat) (M : List Int) (w : World) (hk : KOk s) (hi : KIn w s ad cap) (hdL : IntsAt w la nl (at0 L)) (hdM : IntsAt w lb nl (at0 M)) (hL : L.length = nl) (hM : M.length = nl) (hl : nl ≤ 100) (mL : MkL s L) (mM : MkL s M) :
    Calls Tryd.prog 72 #[.agg #[.int .i64 s.m, .slice ad s.n cap, .bool s.ok], .slice la nl cl, .slice lb nl cm] w fun e w' => KPost (foldK (sameR 1) s (1) L M nl) ad w.heap.size e w' ∧ Below w.heap.size w w' := by
  have HGD : Hid (∀ i, i ≤ nl → Good s (foldK (sameR 1) s (1) L M i)) := fun i hi => foldK_good (sameR_good (by omega)) hk (Mk.one hk) mL mM i (by omega) (by omega)
  have HI := hide hi
  have HL := hide hdL
  have HM := hide hdM
  have HmL := hide mL
  have HmM := hide mM
  have HeL := hide hL
  have HeM := hide hM
  have h0 : Hid (KI w ((w.alloc (.cells #[.int .i64 s.m, .slice ad s.n cap, .bool s.ok] 70)).alloc (.cells #[.int .i64 0, .slice none 0 0, .bool false] 70)) s ad ad cap) := by
    have b3 : Below w.heap.size w ((w.alloc (.cells #[.int .i64 s.m, .slice ad s.n cap, .bool s.ok] 70)).alloc (.cells #[.int .i64 0, .slice none 0 0, .bool false] 70)) := ((Below.refl _ _).alloc (Nat.le_refl _) _).alloc (by simp) _
    exact ⟨⟨by simp [go_sem], by simp [go_sem], by simp [go_sem]⟩, fun o => by simp [go_sem], hi.later b3, Pl.refl _ _, by simp [go_sem], by simp [go_sem], by simp [go_sem], fun o => by simp [go_sem], by simp, b3⟩
  clear hk hi hdL hdM mL mM hL hM
  go_enter Tryd.func72, Tryd.ntmps72
  go_wp2
  go_loopw [9, 8] (fun i k wr => ∃ j : Nat, j ≤ nl ∧ i = .int .i64 j ∧ k = .int .i64 (foldK (sameR 1) s (1) L M j).2 ∧ ∃ ga gc, KI w wr (foldK (sameR 1) s (1) L M j).1 ad ga gc) (fun i _ _ => nl - (intOf i).toNat)
  case atStart => exact ⟨0, by omega, rfl, rfl, ad, cap, unhide h0⟩
  case round =>
    obtain ⟨j, hj, rfl, rfl, ga, gc, hI⟩ := hrel
    have HR := hide hI
    have HGj := unhide HGD j hj
    by_cases hlt : j < nl
    · obtain ⟨bL, oL, rfl, lL, dL0⟩ := at0_in (unhide HL) hlt
      obtain ⟨bM, oM, rfl, lM, dM0⟩ := at0_in (unhide HM) hlt
      have mx := ((unhide HmL) j (by rw [unhide HeL]; exact hlt)).le HGj.2.2
      have my := ((unhide HmM) j (by rw [unhide HeM]; exact hlt)).le HGj.2.2
      have HN : Hid (foldK (sameR 1) s (1) L M (j + 1) = sameR 1 (foldK (sameR 1) s (1) L M j).1 (foldK (sameR 1) s (1) L M j).2 (at0 L j) (at0 M j)) := rfl
      have gS := HGj.1
      have mC := HGj.2.1
      clear hI HGj
      generalize at0 L j = x at *
      generalize at0 M j = y at *
      generalize (foldK (sameR 1) s (1) L M j).1 = S at *
      generalize (foldK (sameR 1) s (1) L M j).2 = C at *
      have Clo := mC.1
      have Chi := mC.2.1
      obtain ⟨u1, hu1⟩ : ∃ u, u = xorK 1 S x y := ⟨_, rfl⟩
      have g1 : Good S u1 := by rw [hu1]; exact xorK_good (by omega) gS mx my
      obtain ⟨u2, hu2⟩ : ∃ u, u = andK 1 u1.1 C (-u1.2) := ⟨_, rfl⟩
      have g2 : Good u1.1 u2 := by rw [hu2]; exact andK_good (by omega) g1.1 (mC.le g1.2.2) g1.2.1.neg
      have HN2 : Hid (foldK (sameR 1) s (1) L M (j + 1) = u2) := by rw [unhide HN, hu2, hu1]; rfl
      have HU1 := hide hu1
      have HU2 := hide hu2
      have ub1 := g1.2.1.1
      have uc1 := g1.2.1.2.1
      have ub2 := g2.2.1.1
      have uc2 := g2.2.1.2.1
      clear hu1 hu2 HN
      have HC1 : Hid (∀ w', KIn w' S ga gc → Calls Tryd.prog 94 #[.agg #[.int .i64 S.m, .slice ga S.n gc, .bool S.ok], .int .i64 x, .int .i64 y] w' fun e w'' => KPost u1 ga w'.heap.size e w'' ∧ Below w'.heap.size w' w'') := fun w' hw' => by have h := l7Xor_any S ga gc x y w' gS hw' mx my; rw [← unhide HU1] at h; exact h
      obtain ⟨kp0, kp1, kp2⟩ := (unhide HR).k
      have kq0 := (unhide HR).kf 0
      have kq1 := (unhide HR).kf 1
      have kq2 := (unhide HR).kf 2
      have kl := (unhide HR).k.lt
      have dL := ((unhide HR).be.cell (p := ⟨bL, oL + j, none⟩) lL).trans dL0
      have dM := ((unhide HR).be.cell (p := ⟨bM, oM + j, none⟩) lM).trans dM0
      go_wp2
      refine wp_region_held_drew (S := fun w' => w'.cell? ⟨bL, oL + j, none⟩ = some (.int .i64 x) ∧ w'.cell? ⟨bM, oM + j, none⟩ = some (.int .i64 y)) (by kernel_rfl) ?_ (fun hHeld => ?_)
      · exact ⟨dL, dM⟩
      refine wpAnyH_take (i := 1) (v := ?_) rfl (by kernel_rfl) (by kernel_rfl) (by kernel_rfl) (fun _ _ _ h => h) (Or.inl ⟨by rfl, ?_⟩) (by assumption) ?_
      rotate_left
      · (intro w hSw; (try dsimp only at hSw); first | (go_simp; done) | (go_simp; with_reducible rfl))
      try simp only [List.getElem_toArray, List.getElem_cons_succ, List.getElem_cons_zero, Act.put, List.setIfInBounds_toArray, List.set_cons_zero, List.set_cons_succ]
      refine wpAnyH_take (i := 2) (v := ?_) rfl (by kernel_rfl) (by kernel_rfl) (by kernel_rfl) (fun _ _ _ h => h) (Or.inl ⟨by rfl, ?_⟩) (by assumption) ?_
      rotate_left
      · (intro w hSw; (try dsimp only at hSw); first | (go_simp; done) | (go_simp; with_reducible rfl))
      try simp only [List.getElem_toArray, List.getElem_cons_succ, List.getElem_cons_zero, Act.put, List.setIfInBounds_toArray, List.set_cons_zero, List.set_cons_succ]
      refine wpAnyH_take (i := 3) (v := ?_) rfl (by kernel_rfl) (by kernel_rfl) (by kernel_rfl) (fun _ _ _ h => h) (Or.inl ⟨by rfl, ?_⟩) (by assumption) ?_
      rotate_left
      · (intro w hSw; (try dsimp only at hSw); first | (go_simp; done) | (go_simp; with_reducible rfl))
      try simp only [List.getElem_toArray, List.getElem_cons_succ, List.getElem_cons_zero, Act.put, List.setIfInBounds_toArray, List.set_cons_zero, List.set_cons_succ]
      refine wpAnyH_take (i := 4) (v := ?_) rfl (by kernel_rfl) (by kernel_rfl) (by kernel_rfl) (fun _ _ _ h => h) (Or.inl ⟨by rfl, ?_⟩) (by assumption) ?_
      rotate_left
      · (intro w hSw; (try dsimp only at hSw); first | (go_simp; done) | (go_simp; with_reducible rfl))
      try simp only [List.getElem_toArray, List.getElem_cons_succ, List.getElem_cons_zero, Act.put, List.setIfInBounds_toArray, List.set_cons_zero, List.set_cons_succ]
      refine wpAnyH_take (i := 5) (v := ?_) rfl (by kernel_rfl) (by kernel_rfl) (by kernel_rfl) (fun _ _ _ h => h) (Or.inl ⟨by rfl, ?_⟩) (by assumption) ?_
      rotate_left
      · (intro w hSw; (try dsimp only at hSw); first | (go_simp; done) | (go_simp; with_reducible rfl))
      try simp only [List.getElem_toArray, List.getElem_cons_succ, List.getElem_cons_zero, Act.put, List.setIfInBounds_toArray, List.set_cons_zero, List.set_cons_succ]
      refine wpAnyH_take (i := 6) (v := ?_) rfl (by kernel_rfl) (by kernel_rfl) (by kernel_rfl) (fun _ _ _ h => h) (Or.inl ⟨by rfl, ?_⟩) (by assumption) ?_
      rotate_left
      · (intro w hSw; (try dsimp only at hSw); first | (go_simp; done) | (go_simp; with_reducible rfl))
      try simp only [List.getElem_toArray, List.getElem_cons_succ, List.getElem_cons_zero, Act.put, List.setIfInBounds_toArray, List.set_cons_zero, List.set_cons_succ]
      refine wpAnyH_take (i := 7) (v := ?_) rfl (by kernel_rfl) (by kernel_rfl) (by kernel_rfl) (fun _ _ _ h => h) (Or.inl ⟨by rfl, ?_⟩) (by assumption) ?_
      rotate_left
      · (intro w hSw; (try dsimp only at hSw); first | (go_simp; done) | (go_simp; with_reducible rfl))
      try simp only [List.getElem_toArray, List.getElem_cons_succ, List.getElem_cons_zero, Act.put, List.setIfInBounds_toArray, List.set_cons_zero, List.set_cons_succ]
      refine wpAnyH_take (i := 8) (v := ?_) rfl (by kernel_rfl) (by kernel_rfl) (by kernel_rfl) (fun _ _ _ h => h) (Or.inl ⟨by rfl, ?_⟩) (by assumption) ?_
      rotate_left
      · (intro w hSw; (try dsimp only at hSw); first | (go_simp; done) | (go_simp; with_reducible rfl))
      try simp only [List.getElem_toArray, List.getElem_cons_succ, List.getElem_cons_zero, Act.put, List.setIfInBounds_toArray, List.set_cons_zero, List.set_cons_succ]
      refine wpAnyH_ready (rs := [0]) (by kernel_rfl) (by simp) ?_
      refine AllReadyH.cons rfl (fun K hK => ?_) AllReadyH.nil
      go_simp
      refine hK.out _ _ ?_ (fun hHeld => ?_)
      · exact ⟨dL, dM⟩
      clear hK K
      try simp only [List.getElem_toArray, List.getElem_cons_succ, List.getElem_cons_zero, Act.put, List.setIfInBounds_toArray, List.set_cons_zero, List.set_cons_succ]
      refine wpAnyH_ready (rs := [9]) (by kernel_rfl) (by simp) ?_
      refine AllReadyH.cons rfl (fun K hK => ?_) AllReadyH.nil
      go_simp
      refine (unhide HC1 _ (by first | exact (unhide HR).i | exact (unhide HR).drew.i)).mono ?_
      rintro e w1 ⟨⟨ga1, gc1, rfl, hi1, pl1⟩, b1⟩
      have hcl := (KI.call (by first | exact unhide HR | exact (unhide HR).drew) b1 hi1 pl1 (unhide HI).2.2.2)
      obtain ⟨⟨⟨kp0, kp1, kp2⟩, kf⟩, hput⟩ := hcl
      have kq0 := kf 0
      have kq1 := kf 1
      have kq2 := kf 2
      have HP1 := hide hput
      replace dL := cell_later b1 (by exact dL)
      replace dM := cell_later b1 (by exact dM)
      have lg1 : w.heap.size < w1.heap.size := World.block_lt_of_cell? _ _ kp0
      clear hput kf b1 hi1 pl1
      go_wp2_with fail
      refine hK.out _ _ ?_ (fun hHeld => ?_)
      · exact ⟨dL, dM⟩
      clear hK K
      try simp only [List.getElem_toArray, List.getElem_cons_succ, List.getElem_cons_zero, Act.put, List.setIfInBounds_toArray, List.set_cons_zero, List.set_cons_succ]
      refine wpAnyH_take (i := 10) (v := ?_) rfl (by kernel_rfl) (by kernel_rfl) (by kernel_rfl) (fun _ _ _ h => h) (Or.inl ⟨by rfl, ?_⟩) (by assumption) ?_
      rotate_left
      · (intro w hSw; (try dsimp only at hSw); first | (go_simp; done) | (go_simp; with_reducible rfl))
      try simp only [List.getElem_toArray, List.getElem_cons_succ, List.getElem_cons_zero, Act.put, List.setIfInBounds_toArray, List.set_cons_zero, List.set_cons_succ]
      refine wpAnyH_take (i := 11) (v := ?_) rfl (by kernel_rfl) (by kernel_rfl) (by kernel_rfl) (fun _ _ _ h => h) (Or.inl ⟨by rfl, ?_⟩) (by assumption) ?_
      rotate_left
      · (intro w hSw; (try dsimp only at hSw); first | (go_simp; done) | (go_simp; with_reducible rfl))
      try simp only [List.getElem_toArray, List.getElem_cons_succ, List.getElem_cons_zero, Act.put, List.setIfInBounds_toArray, List.set_cons_zero, List.set_cons_succ]
      refine wpAnyH_take (i := 12) (v := ?_) rfl (by kernel_rfl) (by kernel_rfl) (by kernel_rfl) (fun _ _ _ h => h) (Or.inl ⟨by rfl, ?_⟩) (by assumption) ?_
      rotate_left
      · (intro w hSw; (try dsimp only at hSw); first | (go_simp; done) | (go_simp; with_reducible rfl))
      try simp only [List.getElem_toArray, List.getElem_cons_succ, List.getElem_cons_zero, Act.put, List.setIfInBounds_toArray, List.set_cons_zero, List.set_cons_succ]
      refine wpAnyH_ready (rs := [13]) (by kernel_rfl) (by simp) ?_
      refine AllReadyH.cons rfl (fun K hK => ?_) AllReadyH.nil
      go_simp
      refine hK.out _ _ ?_ (fun hHeld => ?_)
      · exact ⟨by rw [World.cell?_setCell_other _ _ _ _ (by simp <;> omega), World.cell?_setCell_other _ _ _ _ (by simp <;> omega), World.cell?_setCell_other _ _ _ _ (by simp <;> omega)]; exact dL, by rw [World.cell?_setCell_other _ _ _ _ (by simp <;> omega), World.cell?_setCell_other _ _ _ _ (by simp <;> omega), World.cell?_setCell_other _ _ _ _ (by simp <;> omega)]; exact dM⟩
      clear hK K
      try simp only [List.getElem_toArray, List.getElem_cons_succ, List.getElem_cons_zero, Act.put, List.setIfInBounds_toArray, List.set_cons_zero, List.set_cons_succ]
      refine wpAnyH_ready (rs := [14]) (by kernel_rfl) (by simp) ?_
      refine AllReadyH.cons rfl (fun K hK => ?_) AllReadyH.nil
      go_simp
      refine hK.out _ _ ?_ (fun hHeld => ?_)
      · exact ⟨by rw [World.cell?_setCell_other _ _ _ _ (by simp <;> omega), World.cell?_setCell_other _ _ _ _ (by simp <;> omega), World.cell?_setCell_other _ _ _ _ (by simp <;> omega)]; exact dL, by rw [World.cell?_setCell_other _ _ _ _ (by simp <;> omega), World.cell?_setCell_other _ _ _ _ (by simp <;> omega), World.cell?_setCell_other _ _ _ _ (by simp <;> omega)]; exact dM⟩
      clear hK K
      try simp only [List.getElem_toArray, List.getElem_cons_succ, List.getElem_cons_zero, Act.put, List.setIfInBounds_toArray, List.set_cons_zero, List.set_cons_succ]
      refine wpAnyH_done (by kernel_rfl) ?_ _
      have lg2 := lg1
      clear lg1 lg2
      obtain ⟨v1, hv1⟩ : ∃ v, v = ((w1.setCell ⟨w.heap.size, 0, none⟩ (.int .i64 u1.1.m)).setCell ⟨w.heap.size, 1, none⟩ (.slice ga1 u1.1.n gc1)).setCell ⟨w.heap.size, 2, none⟩ (.bool u1.1.ok) := ⟨_, rfl⟩
      replace HR := hide (unhide HP1 v1 hv1)
      rw [← hv1]
      clear hv1 kp0 kp1 kp2 kq0 kq1 kq2 dL dM kl
      have HC2 : Hid (∀ w', KIn w' u1.1 ga1 gc1 → Calls Tryd.prog 95 #[.agg #[.int .i64 u1.1.m, .slice ga1 u1.1.n gc1, .bool u1.1.ok], .int .i64 C, .int .i64 (-u1.2)] w' fun e w'' => KPost u2 ga1 w'.heap.size e w'' ∧ Below w'.heap.size w' w'') := fun w' hw' => by have h := l7And_any u1.1 ga1 gc1 C (-u1.2) w' g1.1 hw' (mC.le g1.2.2) g1.2.1.neg; rw [← unhide HU2] at h; exact h
      obtain ⟨kp0, kp1, kp2⟩ := (unhide HR).k
      have kq0 := (unhide HR).kf 0
      have kq1 := (unhide HR).kf 1
      have kq2 := (unhide HR).kf 2
      have kl := (unhide HR).k.lt
      have dL := ((unhide HR).be.cell (p := ⟨bL, oL + j, none⟩) lL).trans dL0
      have dM := ((unhide HR).be.cell (p := ⟨bM, oM + j, none⟩) lM).trans dM0
      go_wp2_with fail
      refine (unhide HC2 _ (by first | exact (unhide HR).i | exact (unhide HR).drew.i)).mono ?_
      rintro e w2 ⟨⟨ga2, gc2, rfl, hi1, pl1⟩, b1⟩
      have hcl := (KI.call (by first | exact unhide HR | exact (unhide HR).drew) b1 hi1 pl1 (unhide HI).2.2.2)
      obtain ⟨⟨⟨kp0, kp1, kp2⟩, kf⟩, hput⟩ := hcl
      have kq0 := kf 0
      have kq1 := kf 1
      have kq2 := kf 2
      have HP2 := hide hput
      clear hput kf b1 hi1 pl1
      clear dL dM
      obtain ⟨v2, hv2⟩ : ∃ v, v = ((w2.setCell ⟨w.heap.size, 0, none⟩ (.int .i64 u2.1.m)).setCell ⟨w.heap.size, 1, none⟩ (.slice ga2 u2.1.n gc2)).setCell ⟨w.heap.size, 2, none⟩ (.bool u2.1.ok) := ⟨_, rfl⟩
      replace HR := hide (unhide HP2 v2 hv2)
      go_wp2_with fail
      rw [← hv2]
      clear hv2 kp0 kp1 kp2 kq0 kq1 kq2 kl
      go_roundw
      case rel => exact ⟨j + 1, by omega, by go_num, by rw [unhide HN2], ga2, gc2, by rw [unhide HN2]; exact unhide HR⟩
      case measure => simp [intOf]; omega
    · have ej : j = nl := by omega
      subst ej
      obtain ⟨q, hq⟩ : ∃ q, q = foldK (sameR 1) s (1) L M j := ⟨_, rfl⟩
      rw [← hq] at hI HR
      have HQ := hide hq
      have HQ2 : Hid ((foldK (sameR 1) s (1) L M j).2 = q.2) := by show _ = _; rw [hq]
      clear hq
      obtain ⟨kp0, kp1, kp2⟩ := hI.k
      have kl := hI.k.lt
      have s0 := hI.s0
      have s1 := hI.s1
      have s2 := hI.s2
      have f0 := hI.sf 0
      have f1 := hI.sf 1
      have f2 := hI.sf 2
      have be := hI.be
      clear hI
      rw [unhide HQ2]
      go_wp2
      refine bodyPost_ret (v := .tuple #[.agg #[.int .i64 q.1.m, .slice ga q.1.n gc, .bool q.1.ok], .int .i64 q.2]) (by simp [results, Tryd.results72, go_sem, s0, s1, s2]) rfl ?_
      rw [← unhide HQ]
      have mv := mov3 wr (w.heap.size + 1) (.int .i64 q.1.m) (.slice ga q.1.n gc) (.bool q.1.ok)
      exact ⟨⟨ga, gc, rfl, (unhide HR).i.mov ((unhide HR).pl.apart (unhide HI).2.2.2 (by omega) (by omega)) mv, (unhide HR).pl.mono (by omega)⟩, bel3 be (by omega) _ _ _⟩
set_option maxRecDepth 100000 in
set_option maxHeartbeats 2000000 in
theorem l7Less_any (s : KS) (ad : Option Addr) (cap : Nat) (la : Option Addr) (nl cl : Nat) (L : List Int) (lb : Option Addr) (cm : Nat) (M : List Int) (w : World) (hk : KOk s) (hi : KIn w s ad cap) (hdL : IntsAt w la nl (at0 L)) (hdM : IntsAt w lb nl (at0 M)) (hL : L.length = nl) (hM : M.length = nl) (hl : nl ≤ 100) (mL : MkL s L) (mM : MkL s M) :
    Calls Tryd.prog 73 #[.agg #[.int .i64 s.m, .slice ad s.n cap, .bool s.ok], .slice la nl cl, .slice lb nl cm] w fun e w' => KPost (foldK (lessR 1) s (-1) L M nl) ad w.heap.size e w' ∧ Below w.heap.size w w' := by
  have HGD : Hid (∀ i, i ≤ nl → Good s (foldK (lessR 1) s (-1) L M i)) := fun i hi => foldK_good (lessR_good (by omega)) hk (Mk.not hk) mL mM i (by omega) (by omega)
  have HI := hide hi
  have HL := hide hdL
  have HM := hide hdM
  have HmL := hide mL
  have HmM := hide mM
  have HeL := hide hL
  have HeM := hide hM
  have h0 : Hid (KI w ((w.alloc (.cells #[.int .i64 s.m, .slice ad s.n cap, .bool s.ok] 70)).alloc (.cells #[.int .i64 0, .slice none 0 0, .bool false] 70)) s ad ad cap) := by
    have b3 : Below w.heap.size w ((w.alloc (.cells #[.int .i64 s.m, .slice ad s.n cap, .bool s.ok] 70)).alloc (.cells #[.int .i64 0, .slice none 0 0, .bool false] 70)) := ((Below.refl _ _).alloc (Nat.le_refl _) _).alloc (by simp) _
    exact ⟨⟨by simp [go_sem], by simp [go_sem], by simp [go_sem]⟩, fun o => by simp [go_sem], hi.later b3, Pl.refl _ _, by simp [go_sem], by simp [go_sem], by simp [go_sem], fun o => by simp [go_sem], by simp, b3⟩
  clear hk hi hdL hdM mL mM hL hM
  go_enter Tryd.func73, Tryd.ntmps73
  go_wp2
  go_loopw [9, 8] (fun i k wr => ∃ j : Nat, j ≤ nl ∧ i = .int .i64 j ∧ k = .int .i64 (foldK (lessR 1) s (-1) L M j).2 ∧ ∃ ga gc, KI w wr (foldK (lessR 1) s (-1) L M j).1 ad ga gc) (fun i _ _ => nl - (intOf i).toNat)
  case atStart => exact ⟨0, by omega, rfl, rfl, ad, cap, unhide h0⟩
  case round =>
    obtain ⟨j, hj, rfl, rfl, ga, gc, hI⟩ := hrel
    have HR := hide hI
    have HGj := unhide HGD j hj
    by_cases hlt : j < nl
    · obtain ⟨bL, oL, rfl, lL, dL0⟩ := at0_in (unhide HL) hlt
      obtain ⟨bM, oM, rfl, lM, dM0⟩ := at0_in (unhide HM) hlt
      have mx := ((unhide HmL) j (by rw [unhide HeL]; exact hlt)).le HGj.2.2
      have my := ((unhide HmM) j (by rw [unhide HeM]; exact hlt)).le HGj.2.2
      have HN : Hid (foldK (lessR 1) s (-1) L M (j + 1) = lessR 1 (foldK (lessR 1) s (-1) L M j).1 (foldK (lessR 1) s (-1) L M j).2 (at0 L j) (at0 M j)) := rfl
      have gS := HGj.1
      have mC := HGj.2.1
      clear hI HGj
      generalize at0 L j = x at *
      generalize at0 M j = y at *
      generalize (foldK (lessR 1) s (-1) L M j).1 = S at *
      generalize (foldK (lessR 1) s (-1) L M j).2 = C at *
      have Clo := mC.1
      have Chi := mC.2.1
      obtain ⟨u1, hu1⟩ : ∃ u, u = xorK 1 S x y := ⟨_, rfl⟩
      have g1 : Good S u1 := by rw [hu1]; exact xorK_good (by omega) gS mx my
      obtain ⟨u2, hu2⟩ : ∃ u, u = oneK 1 u1.1 u1.2 y C := ⟨_, rfl⟩
      have g2 : Good u1.1 u2 := by rw [hu2]; exact oneK_good (by omega) g1.1 g1.2.1 (my.le g1.2.2) (mC.le g1.2.2)
      have HN2 : Hid (foldK (lessR 1) s (-1) L M (j + 1) = u2) := by rw [unhide HN, hu2, hu1]; rfl
      have HU1 := hide hu1
      have HU2 := hide hu2
      have ub1 := g1.2.1.1
      have uc1 := g1.2.1.2.1
      have ub2 := g2.2.1.1
      have uc2 := g2.2.1.2.1
      clear hu1 hu2 HN
      have HC1 : Hid (∀ w', KIn w' S ga gc → Calls Tryd.prog 94 #[.agg #[.int .i64 S.m, .slice ga S.n gc, .bool S.ok], .int .i64 x, .int .i64 y] w' fun e w'' => KPost u1 ga w'.heap.size e w'' ∧ Below w'.heap.size w' w'') := fun w' hw' => by have h := l7Xor_any S ga gc x y w' gS hw' mx my; rw [← unhide HU1] at h; exact h
      obtain ⟨kp0, kp1, kp2⟩ := (unhide HR).k
      have kq0 := (unhide HR).kf 0
      have kq1 := (unhide HR).kf 1
      have kq2 := (unhide HR).kf 2
      have kl := (unhide HR).k.lt
      have dL := ((unhide HR).be.cell (p := ⟨bL, oL + j, none⟩) lL).trans dL0
      have dM := ((unhide HR).be.cell (p := ⟨bM, oM + j, none⟩) lM).trans dM0
      go_wp2
      refine wp_region_held_drew (S := fun w' => w'.cell? ⟨bL, oL + j, none⟩ = some (.int .i64 x) ∧ w'.cell? ⟨bM, oM + j, none⟩ = some (.int .i64 y)) (by kernel_rfl) ?_ (fun hHeld => ?_)
      · exact ⟨dL, dM⟩
      refine wpAnyH_take (i := 1) (v := ?_) rfl (by kernel_rfl) (by kernel_rfl) (by kernel_rfl) (fun _ _ _ h => h) (Or.inl ⟨by rfl, ?_⟩) (by assumption) ?_
      rotate_left
      · (intro w hSw; (try dsimp only at hSw); first | (go_simp; done) | (go_simp; with_reducible rfl))
      try simp only [List.getElem_toArray, List.getElem_cons_succ, List.getElem_cons_zero, Act.put, List.setIfInBounds_toArray, List.set_cons_zero, List.set_cons_succ]
      refine wpAnyH_take (i := 2) (v := ?_) rfl (by kernel_rfl) (by kernel_rfl) (by kernel_rfl) (fun _ _ _ h => h) (Or.inl ⟨by rfl, ?_⟩) (by assumption) ?_
      rotate_left
      · (intro w hSw; (try dsimp only at hSw); first | (go_simp; done) | (go_simp; with_reducible rfl))
      try simp only [List.getElem_toArray, List.getElem_cons_succ, List.getElem_cons_zero, Act.put, List.setIfInBounds_toArray, List.set_cons_zero, List.set_cons_succ]
      refine wpAnyH_take (i := 3) (v := ?_) rfl (by kernel_rfl) (by kernel_rfl) (by kernel_rfl) (fun _ _ _ h => h) (Or.inl ⟨by rfl, ?_⟩) (by assumption) ?_
      rotate_left
      · (intro w hSw; (try dsimp only at hSw); first | (go_simp; done) | (go_simp; with_reducible rfl))
      try simp only [List.getElem_toArray, List.getElem_cons_succ, List.getElem_cons_zero, Act.put, List.setIfInBounds_toArray, List.set_cons_zero, List.set_cons_succ]
      refine wpAnyH_take (i := 4) (v := ?_) rfl (by kernel_rfl) (by kernel_rfl) (by kernel_rfl) (fun _ _ _ h => h) (Or.inl ⟨by rfl, ?_⟩) (by assumption) ?_
      rotate_left
      · (intro w hSw; (try dsimp only at hSw); first | (go_simp; done) | (go_simp; with_reducible rfl))
      try simp only [List.getElem_toArray, List.getElem_cons_succ, List.getElem_cons_zero, Act.put, List.setIfInBounds_toArray, List.set_cons_zero, List.set_cons_succ]
      refine wpAnyH_take (i := 5) (v := ?_) rfl (by kernel_rfl) (by kernel_rfl) (by kernel_rfl) (fun _ _ _ h => h) (Or.inl ⟨by rfl, ?_⟩) (by assumption) ?_
      rotate_left
      · (intro w hSw; (try dsimp only at hSw); first | (go_simp; done) | (go_simp; with_reducible rfl))
      try simp only [List.getElem_toArray, List.getElem_cons_succ, List.getElem_cons_zero, Act.put, List.setIfInBounds_toArray, List.set_cons_zero, List.set_cons_succ]
      refine wpAnyH_take (i := 6) (v := ?_) rfl (by kernel_rfl) (by kernel_rfl) (by kernel_rfl) (fun _ _ _ h => h) (Or.inl ⟨by rfl, ?_⟩) (by assumption) ?_
      rotate_left
      · (intro w hSw; (try dsimp only at hSw); first | (go_simp; done) | (go_simp; with_reducible rfl))
      try simp only [List.getElem_toArray, List.getElem_cons_succ, List.getElem_cons_zero, Act.put, List.setIfInBounds_toArray, List.set_cons_zero, List.set_cons_succ]
      refine wpAnyH_take (i := 7) (v := ?_) rfl (by kernel_rfl) (by kernel_rfl) (by kernel_rfl) (fun _ _ _ h => h) (Or.inl ⟨by rfl, ?_⟩) (by assumption) ?_
      rotate_left
      · (intro w hSw; (try dsimp only at hSw); first | (go_simp; done) | (go_simp; with_reducible rfl))
      try simp only [List.getElem_toArray, List.getElem_cons_succ, List.getElem_cons_zero, Act.put, List.setIfInBounds_toArray, List.set_cons_zero, List.set_cons_succ]
      refine wpAnyH_take (i := 8) (v := ?_) rfl (by kernel_rfl) (by kernel_rfl) (by kernel_rfl) (fun _ _ _ h => h) (Or.inl ⟨by rfl, ?_⟩) (by assumption) ?_
      rotate_left
      · (intro w hSw; (try dsimp only at hSw); first | (go_simp; done) | (go_simp; with_reducible rfl))
      try simp only [List.getElem_toArray, List.getElem_cons_succ, List.getElem_cons_zero, Act.put, List.setIfInBounds_toArray, List.set_cons_zero, List.set_cons_succ]
      refine wpAnyH_ready (rs := [0]) (by kernel_rfl) (by simp) ?_
      refine AllReadyH.cons rfl (fun K hK => ?_) AllReadyH.nil
      go_simp
      refine hK.out _ _ ?_ (fun hHeld => ?_)
      · exact ⟨dL, dM⟩
      clear hK K
      try simp only [List.getElem_toArray, List.getElem_cons_succ, List.getElem_cons_zero, Act.put, List.setIfInBounds_toArray, List.set_cons_zero, List.set_cons_succ]
      refine wpAnyH_ready (rs := [9]) (by kernel_rfl) (by simp) ?_
      refine AllReadyH.cons rfl (fun K hK => ?_) AllReadyH.nil
      go_simp
      refine (unhide HC1 _ (by first | exact (unhide HR).i | exact (unhide HR).drew.i)).mono ?_
      rintro e w1 ⟨⟨ga1, gc1, rfl, hi1, pl1⟩, b1⟩
      have hcl := (KI.call (by first | exact unhide HR | exact (unhide HR).drew) b1 hi1 pl1 (unhide HI).2.2.2)
      obtain ⟨⟨⟨kp0, kp1, kp2⟩, kf⟩, hput⟩ := hcl
      have kq0 := kf 0
      have kq1 := kf 1
      have kq2 := kf 2
      have HP1 := hide hput
      replace dL := cell_later b1 (by exact dL)
      replace dM := cell_later b1 (by exact dM)
      have lg1 : w.heap.size < w1.heap.size := World.block_lt_of_cell? _ _ kp0
      clear hput kf b1 hi1 pl1
      go_wp2_with fail
      refine hK.out _ _ ?_ (fun hHeld => ?_)
      · exact ⟨dL, dM⟩
      clear hK K
      try simp only [List.getElem_toArray, List.getElem_cons_succ, List.getElem_cons_zero, Act.put, List.setIfInBounds_toArray, List.set_cons_zero, List.set_cons_succ]
      refine wpAnyH_take (i := 10) (v := ?_) rfl (by kernel_rfl) (by kernel_rfl) (by kernel_rfl) (fun _ _ _ h => h) (Or.inl ⟨by rfl, ?_⟩) (by assumption) ?_
      rotate_left
      · (intro w hSw; (try dsimp only at hSw); first | (go_simp; done) | (go_simp; with_reducible rfl))
      try simp only [List.getElem_toArray, List.getElem_cons_succ, List.getElem_cons_zero, Act.put, List.setIfInBounds_toArray, List.set_cons_zero, List.set_cons_succ]
      refine wpAnyH_take (i := 11) (v := ?_) rfl (by kernel_rfl) (by kernel_rfl) (by kernel_rfl) (fun _ _ _ h => h) (Or.inl ⟨by rfl, ?_⟩) (by assumption) ?_
      rotate_left
      · (intro w hSw; (try dsimp only at hSw); first | (go_simp; done) | (go_simp; with_reducible rfl))
      try simp only [List.getElem_toArray, List.getElem_cons_succ, List.getElem_cons_zero, Act.put, List.setIfInBounds_toArray, List.set_cons_zero, List.set_cons_succ]
      refine wpAnyH_take (i := 12) (v := ?_) rfl (by kernel_rfl) (by kernel_rfl) (by kernel_rfl) (fun _ _ _ h => h) (Or.inl ⟨by rfl, ?_⟩) (by assumption) ?_
      rotate_left
      · (intro w hSw; (try dsimp only at hSw); first | (go_simp; done) | (go_simp; with_reducible rfl))
      try simp only [List.getElem_toArray, List.getElem_cons_succ, List.getElem_cons_zero, Act.put, List.setIfInBounds_toArray, List.set_cons_zero, List.set_cons_succ]
      refine wpAnyH_ready (rs := [13]) (by kernel_rfl) (by simp) ?_
      refine AllReadyH.cons rfl (fun K hK => ?_) AllReadyH.nil
      go_simp
      refine hK.out _ _ ?_ (fun hHeld => ?_)
      · exact ⟨by rw [World.cell?_setCell_other _ _ _ _ (by simp <;> omega), World.cell?_setCell_other _ _ _ _ (by simp <;> omega), World.cell?_setCell_other _ _ _ _ (by simp <;> omega)]; exact dL, by rw [World.cell?_setCell_other _ _ _ _ (by simp <;> omega), World.cell?_setCell_other _ _ _ _ (by simp <;> omega), World.cell?_setCell_other _ _ _ _ (by simp <;> omega)]; exact dM⟩
      clear hK K
      try simp only [List.getElem_toArray, List.getElem_cons_succ, List.getElem_cons_zero, Act.put, List.setIfInBounds_toArray, List.set_cons_zero, List.set_cons_succ]
      refine wpAnyH_ready (rs := [14]) (by kernel_rfl) (by simp) ?_
      refine AllReadyH.cons rfl (fun K hK => ?_) AllReadyH.nil
      go_simp
      refine hK.out _ _ ?_ (fun hHeld => ?_)
      · exact ⟨by rw [World.cell?_setCell_other _ _ _ _ (by simp <;> omega), World.cell?_setCell_other _ _ _ _ (by simp <;> omega), World.cell?_setCell_other _ _ _ _ (by simp <;> omega)]; exact dL, by rw [World.cell?_setCell_other _ _ _ _ (by simp <;> omega), World.cell?_setCell_other _ _ _ _ (by simp <;> omega), World.cell?_setCell_other _ _ _ _ (by simp <;> omega)]; exact dM⟩
      clear hK K
      try simp only [List.getElem_toArray, List.getElem_cons_succ, List.getElem_cons_zero, Act.put, List.setIfInBounds_toArray, List.set_cons_zero, List.set_cons_succ]
      refine wpAnyH_done (by kernel_rfl) ?_ _
      have lg2 := lg1
      clear lg1 lg2
      obtain ⟨v1, hv1⟩ : ∃ v, v = ((w1.setCell ⟨w.heap.size, 0, none⟩ (.int .i64 u1.1.m)).setCell ⟨w.heap.size, 1, none⟩ (.slice ga1 u1.1.n gc1)).setCell ⟨w.heap.size, 2, none⟩ (.bool u1.1.ok) := ⟨_, rfl⟩
      replace HR := hide (unhide HP1 v1 hv1)
      rw [← hv1]
      clear hv1 kp0 kp1 kp2 kq0 kq1 kq2 dL dM kl
      have HC2 : Hid (∀ w', KIn w' u1.1 ga1 gc1 → Calls Tryd.prog 84 #[.agg #[.int .i64 u1.1.m, .slice ga1 u1.1.n gc1, .bool u1.1.ok], .int .i64 u1.2, .int .i64 y, .int .i64 C] w' fun e w'' => KPost u2 ga1 w'.heap.size e w'' ∧ Below w'.heap.size w' w'') := fun w' hw' => by have h := l7One_any u1.1 ga1 gc1 u1.2 y C w' g1.1 hw' g1.2.1 (my.le g1.2.2) (mC.le g1.2.2); rw [← unhide HU2] at h; exact h
      obtain ⟨kp0, kp1, kp2⟩ := (unhide HR).k
      have kq0 := (unhide HR).kf 0
      have kq1 := (unhide HR).kf 1
      have kq2 := (unhide HR).kf 2
      have kl := (unhide HR).k.lt
      have dL := ((unhide HR).be.cell (p := ⟨bL, oL + j, none⟩) lL).trans dL0
      have dM := ((unhide HR).be.cell (p := ⟨bM, oM + j, none⟩) lM).trans dM0
      go_wp2
      refine wp_region_held_drew (S := fun w' => w'.cell? ⟨bL, oL + j, none⟩ = some (.int .i64 x) ∧ w'.cell? ⟨bM, oM + j, none⟩ = some (.int .i64 y)) (by kernel_rfl) ?_ (fun hHeld => ?_)
      · exact ⟨dL, dM⟩
      refine wpAnyH_take (i := 1) (v := ?_) rfl (by kernel_rfl) (by kernel_rfl) (by kernel_rfl) (fun _ _ _ h => h) (Or.inl ⟨by rfl, ?_⟩) (by assumption) ?_
      rotate_left
      · (intro w hSw; (try dsimp only at hSw); first | (go_simp; done) | (go_simp; with_reducible rfl))
      try simp only [List.getElem_toArray, List.getElem_cons_succ, List.getElem_cons_zero, Act.put, List.setIfInBounds_toArray, List.set_cons_zero, List.set_cons_succ]
      refine wpAnyH_take (i := 2) (v := ?_) rfl (by kernel_rfl) (by kernel_rfl) (by kernel_rfl) (fun _ _ _ h => h) (Or.inl ⟨by rfl, ?_⟩) (by assumption) ?_
      rotate_left
      · (intro w hSw; (try dsimp only at hSw); first | (go_simp; done) | (go_simp; with_reducible rfl))
      try simp only [List.getElem_toArray, List.getElem_cons_succ, List.getElem_cons_zero, Act.put, List.setIfInBounds_toArray, List.set_cons_zero, List.set_cons_succ]
      refine wpAnyH_take (i := 3) (v := ?_) rfl (by kernel_rfl) (by kernel_rfl) (by kernel_rfl) (fun _ _ _ h => h) (Or.inl ⟨by rfl, ?_⟩) (by assumption) ?_
      rotate_left
      · (intro w hSw; (try dsimp only at hSw); first | (go_simp; done) | (go_simp; with_reducible rfl))
      try simp only [List.getElem_toArray, List.getElem_cons_succ, List.getElem_cons_zero, Act.put, List.setIfInBounds_toArray, List.set_cons_zero, List.set_cons_succ]
      refine wpAnyH_take (i := 4) (v := ?_) rfl (by kernel_rfl) (by kernel_rfl) (by kernel_rfl) (fun _ _ _ h => h) (Or.inl ⟨by rfl, ?_⟩) (by assumption) ?_
      rotate_left
      · (intro w hSw; (try dsimp only at hSw); first | (go_simp; done) | (go_simp; with_reducible rfl))
      try simp only [List.getElem_toArray, List.getElem_cons_succ, List.getElem_cons_zero, Act.put, List.setIfInBounds_toArray, List.set_cons_zero, List.set_cons_succ]
      refine wpAnyH_take (i := 5) (v := ?_) rfl (by kernel_rfl) (by kernel_rfl) (by kernel_rfl) (fun _ _ _ h => h) (Or.inl ⟨by rfl, ?_⟩) (by assumption) ?_
      rotate_left
      · (intro w hSw; (try dsimp only at hSw); first | (go_simp; done) | (go_simp; with_reducible rfl))
      try simp only [List.getElem_toArray, List.getElem_cons_succ, List.getElem_cons_zero, Act.put, List.setIfInBounds_toArray, List.set_cons_zero, List.set_cons_succ]
      refine wpAnyH_take (i := 6) (v := ?_) rfl (by kernel_rfl) (by kernel_rfl) (by kernel_rfl) (fun _ _ _ h => h) (Or.inl ⟨by rfl, ?_⟩) (by assumption) ?_
      rotate_left
      · (intro w hSw; (try dsimp only at hSw); first | (go_simp; done) | (go_simp; with_reducible rfl))
      try simp only [List.getElem_toArray, List.getElem_cons_succ, List.getElem_cons_zero, Act.put, List.setIfInBounds_toArray, List.set_cons_zero, List.set_cons_succ]
      refine wpAnyH_ready (rs := [0]) (by kernel_rfl) (by simp) ?_
      refine AllReadyH.cons rfl (fun K hK => ?_) AllReadyH.nil
      go_simp
      refine hK.out _ _ ?_ (fun hHeld => ?_)
      · exact ⟨dL, dM⟩
      clear hK K
      try simp only [List.getElem_toArray, List.getElem_cons_succ, List.getElem_cons_zero, Act.put, List.setIfInBounds_toArray, List.set_cons_zero, List.set_cons_succ]
      refine wpAnyH_ready (rs := [7]) (by kernel_rfl) (by simp) ?_
      refine AllReadyH.cons rfl (fun K hK => ?_) AllReadyH.nil
      go_simp
      refine (unhide HC2 _ (by first | exact (unhide HR).i | exact (unhide HR).drew.i)).mono ?_
      rintro e w2 ⟨⟨ga2, gc2, rfl, hi1, pl1⟩, b1⟩
      have hcl := (KI.call (by first | exact unhide HR | exact (unhide HR).drew) b1 hi1 pl1 (unhide HI).2.2.2)
      obtain ⟨⟨⟨kp0, kp1, kp2⟩, kf⟩, hput⟩ := hcl
      have kq0 := kf 0
      have kq1 := kf 1
      have kq2 := kf 2
      have HP2 := hide hput
      replace dL := cell_later b1 (by exact dL)
      replace dM := cell_later b1 (by exact dM)
      have lg1 : w.heap.size < w2.heap.size := World.block_lt_of_cell? _ _ kp0
      clear hput kf b1 hi1 pl1
      go_wp2_with fail
      refine hK.out _ _ ?_ (fun hHeld => ?_)
      · exact ⟨dL, dM⟩
      clear hK K
      try simp only [List.getElem_toArray, List.getElem_cons_succ, List.getElem_cons_zero, Act.put, List.setIfInBounds_toArray, List.set_cons_zero, List.set_cons_succ]
      refine wpAnyH_take (i := 8) (v := ?_) rfl (by kernel_rfl) (by kernel_rfl) (by kernel_rfl) (fun _ _ _ h => h) (Or.inl ⟨by rfl, ?_⟩) (by assumption) ?_
      rotate_left
      · (intro w hSw; (try dsimp only at hSw); first | (go_simp; done) | (go_simp; with_reducible rfl))
      try simp only [List.getElem_toArray, List.getElem_cons_succ, List.getElem_cons_zero, Act.put, List.setIfInBounds_toArray, List.set_cons_zero, List.set_cons_succ]
      refine wpAnyH_take (i := 9) (v := ?_) rfl (by kernel_rfl) (by kernel_rfl) (by kernel_rfl) (fun _ _ _ h => h) (Or.inl ⟨by rfl, ?_⟩) (by assumption) ?_
      rotate_left
      · (intro w hSw; (try dsimp only at hSw); first | (go_simp; done) | (go_simp; with_reducible rfl))
      try simp only [List.getElem_toArray, List.getElem_cons_succ, List.getElem_cons_zero, Act.put, List.setIfInBounds_toArray, List.set_cons_zero, List.set_cons_succ]
      refine wpAnyH_take (i := 10) (v := ?_) rfl (by kernel_rfl) (by kernel_rfl) (by kernel_rfl) (fun _ _ _ h => h) (Or.inl ⟨by rfl, ?_⟩) (by assumption) ?_
      rotate_left
      · (intro w hSw; (try dsimp only at hSw); first | (go_simp; done) | (go_simp; with_reducible rfl))
      try simp only [List.getElem_toArray, List.getElem_cons_succ, List.getElem_cons_zero, Act.put, List.setIfInBounds_toArray, List.set_cons_zero, List.set_cons_succ]
      refine wpAnyH_ready (rs := [11]) (by kernel_rfl) (by simp) ?_
      refine AllReadyH.cons rfl (fun K hK => ?_) AllReadyH.nil
      go_simp
      refine hK.out _ _ ?_ (fun hHeld => ?_)
      · exact ⟨by rw [World.cell?_setCell_other _ _ _ _ (by simp <;> omega), World.cell?_setCell_other _ _ _ _ (by simp <;> omega), World.cell?_setCell_other _ _ _ _ (by simp <;> omega)]; exact dL, by rw [World.cell?_setCell_other _ _ _ _ (by simp <;> omega), World.cell?_setCell_other _ _ _ _ (by simp <;> omega), World.cell?_setCell_other _ _ _ _ (by simp <;> omega)]; exact dM⟩
      clear hK K
      try simp only [List.getElem_toArray, List.getElem_cons_succ, List.getElem_cons_zero, Act.put, List.setIfInBounds_toArray, List.set_cons_zero, List.set_cons_succ]
      refine wpAnyH_ready (rs := [12]) (by kernel_rfl) (by simp) ?_
      refine AllReadyH.cons rfl (fun K hK => ?_) AllReadyH.nil
      go_simp
      refine hK.out _ _ ?_ (fun hHeld => ?_)
      · exact ⟨by rw [World.cell?_setCell_other _ _ _ _ (by simp <;> omega), World.cell?_setCell_other _ _ _ _ (by simp <;> omega), World.cell?_setCell_other _ _ _ _ (by simp <;> omega)]; exact dL, by rw [World.cell?_setCell_other _ _ _ _ (by simp <;> omega), World.cell?_setCell_other _ _ _ _ (by simp <;> omega), World.cell?_setCell_other _ _ _ _ (by simp <;> omega)]; exact dM⟩
      clear hK K
      try simp only [List.getElem_toArray, List.getElem_cons_succ, List.getElem_cons_zero, Act.put, List.setIfInBounds_toArray, List.set_cons_zero, List.set_cons_succ]
      refine wpAnyH_done (by kernel_rfl) ?_ _
      have lg2 := lg1
      clear lg1 lg2
      obtain ⟨v2, hv2⟩ : ∃ v, v = ((w2.setCell ⟨w.heap.size, 0, none⟩ (.int .i64 u2.1.m)).setCell ⟨w.heap.size, 1, none⟩ (.slice ga2 u2.1.n gc2)).setCell ⟨w.heap.size, 2, none⟩ (.bool u2.1.ok) := ⟨_, rfl⟩
      replace HR := hide (unhide HP2 v2 hv2)
      rw [← hv2]
      clear hv2 kp0 kp1 kp2 kq0 kq1 kq2 dL dM kl
      go_wp2_with fail
      go_roundw
      case rel => exact ⟨j + 1, by omega, by go_num, by rw [unhide HN2], ga2, gc2, by rw [unhide HN2]; exact unhide HR⟩
      case measure => simp [intOf]; omega
    · have ej : j = nl := by omega
      subst ej
      obtain ⟨q, hq⟩ : ∃ q, q = foldK (lessR 1) s (-1) L M j := ⟨_, rfl⟩
      rw [← hq] at hI HR
      have HQ := hide hq
      have HQ2 : Hid ((foldK (lessR 1) s (-1) L M j).2 = q.2) := by show _ = _; rw [hq]
      clear hq
      obtain ⟨kp0, kp1, kp2⟩ := hI.k
      have kl := hI.k.lt
      have s0 := hI.s0
      have s1 := hI.s1
      have s2 := hI.s2
      have f0 := hI.sf 0
      have f1 := hI.sf 1
      have f2 := hI.sf 2
      have be := hI.be
      clear hI
      rw [unhide HQ2]
      go_wp2
      refine bodyPost_ret (v := .tuple #[.agg #[.int .i64 q.1.m, .slice ga q.1.n gc, .bool q.1.ok], .int .i64 q.2]) (by simp [results, Tryd.results73, go_sem, s0, s1, s2]) rfl ?_
      rw [← unhide HQ]
      have mv := mov3 wr (w.heap.size + 1) (.int .i64 q.1.m) (.slice ga q.1.n gc) (.bool q.1.ok)
      exact ⟨⟨ga, gc, rfl, (unhide HR).i.mov ((unhide HR).pl.apart (unhide HI).2.2.2 (by omega) (by omega)) mv, (unhide HR).pl.mono (by omega)⟩, bel3 be (by omega) _ _ _⟩
theorem World.lt_of_heap {w : World} {g : Nat} {o : Obj} (h : w.heap[g]? = some o) : g < w.heap.size := (Array.getElem?_eq_some_iff.1 h).1
theorem KI.later {w wr w' : World} {s : KS} {ad ga : Option Addr} {gc : Nat} (h : KI w wr s ad ga gc) (hb : Below wr.heap.size wr w') : KI w w' s ad ga gc :=
  ⟨h.k.later hb, fun o => (hb.frozen (p := ⟨w.heap.size, o, none⟩) h.k.lt).trans (h.kf o), h.i.later hb, h.pl, cell_later hb h.s0, cell_later hb h.s1, cell_later hb h.s2, fun o => (hb.frozen (p := ⟨w.heap.size + 1, o, none⟩) (show w.heap.size + 1 < wr.heap.size from World.block_lt_of_cell? _ _ h.s0)).trans (h.sf o), Nat.le_trans h.lo hb.size, h.be.trans (hb.mono h.be.size)⟩
set_option maxRecDepth 100000 in
set_option maxHeartbeats 4000000 in
theorem l7Cmp_any (s : KS) (ad : Option Addr) (cap : Nat) (op : Int) (la : Option Addr) (nl cl : Nat) (L : List Int) (lb : Option Addr) (cm : Nat) (M : List Int) (w : World) (hk : KOk s) (hi : KIn w s ad cap) (o1 : 15 ≤ op) (o2 : op ≤ 17) (hdL : IntsAt w la nl (at0 L)) (hdM : IntsAt w lb nl (at0 M)) (hL : L.length = nl) (hM : M.length = nl) (h1 : 1 ≤ nl) (hl : nl ≤ 100) (hcl : nl ≤ cl) (hcm : nl ≤ cm) (mL : MkL s L) (mM : MkL s M) :
    Calls Tryd.prog 38 #[.agg #[.int .i64 s.m, .slice ad s.n cap, .bool s.ok], .int .i64 op, .slice la nl cl, .slice lb nl cm] w fun e w' => KPost (cmpK 1 op s L M) ad w.heap.size e w' ∧ Below w.heap.size w w' := by
  obtain ⟨wz, hwz⟩ : ∃ wz, wz = (w.alloc (.cells #[.int .i64 s.m, .slice ad s.n cap, .bool s.ok] 70)).alloc (.cells #[.int .i64 0, .slice none 0 0, .bool false] 70) := ⟨_, rfl⟩
  have BZ : Below w.heap.size w wz := by rw [hwz]; exact ((Below.refl _ _).alloc (Nat.le_refl _) _).alloc (by simp) _
  have h0 : KI w wz s ad ad cap := ⟨by rw [hwz]; exact ⟨by simp [go_sem], by simp [go_sem], by simp [go_sem]⟩, fun o => by rw [hwz]; simp [go_sem], hi.later BZ, Pl.refl _ _, by rw [hwz]; simp [go_sem], by rw [hwz]; simp [go_sem], by rw [hwz]; simp [go_sem], fun o => by rw [hwz]; simp [go_sem], by rw [hwz]; simp, BZ⟩
  have HK := hide hk
  have HI := hide hi
  have HDL := hide (hdL.later BZ)
  have HDM := hide (hdM.later BZ)
  have HL := hide hL
  have HM := hide hM
  have HmL := hide mL
  have HmM := hide mM
  have HZ0 := hide hwz
  have H0 := hide h0
  clear hk hi hdL hdM hL hM mL mM hwz BZ
  obtain ⟨⟨kp0, kp1, kp2⟩, kf, _, _, s0, s1, s2, sf, lo, _⟩ := h0
  have kq0 := kf 0
  have kq1 := kf 1
  have kq2 := kf 2
  have f0 := sf 0
  have f1 := sf 1
  have f2 := sf 2
  clear kf sf
  have lo9 := lo
  by_cases e15 : op = 15
  · subst e15
    rw [show cmpK 1 15 s L M = foldK (sameR 1) s 1 L M nl from by rw [← unhide HL]; rfl]
    obtain ⟨u, hu⟩ : ∃ u, u = foldK (sameR 1) s 1 L M nl := ⟨_, rfl⟩
    rw [← hu]
    have HU := hide hu
    clear hu
    go_enter Tryd.func38, Tryd.ntmps38
    go_wp2_with fail
    rw [← unhide HZ0]
    clear kp0 kp1 kp2 kq0 kq1 kq2 s0 s1 s2 f0 f1 f2
    have HC := hide (l7Same_any s ad cap la nl cl L lb cm M wz (unhide HK) (unhide H0).i (unhide HDL) (unhide HDM) (unhide HL) (unhide HM) hl (unhide HmL) (unhide HmM))
    rw [← unhide HU] at HC
    refine (unhide HC).mono ?_
    rintro e w5 ⟨⟨a5, c5, rfl, hi5, pl5⟩, b5⟩
    have hI5 := KI.later (unhide H0) b5
    obtain ⟨⟨kp0, kp1, kp2⟩, _, _, _, s0, s1, s2, sf, lo, be⟩ := hI5
    have f0 := sf 0
    have f1 := sf 1
    have f2 := sf 2
    have HI5 := hide hi5
    have HPL := hide (Pl.mono (b := w.heap.size + 2) pl5 (by first | exact lo9 | exact Nat.le_trans lo9 (unhide HB).size))
    clear hi5 pl5 b5
    go_wp2
    refine bodyPost_ret (v := .tuple #[.agg #[.int .i64 u.1.m, .slice a5 u.1.n c5, .bool u.1.ok], .int .i64 u.2]) (by simp [results, Tryd.results38, go_sem, s0, s1, s2]) rfl ?_
    have mv := mov3 w5 (w.heap.size + 1) (.int .i64 u.1.m) (.slice a5 u.1.n c5) (.bool u.1.ok)
    exact ⟨⟨a5, c5, rfl, (unhide HI5).mov ((unhide HPL).apart (unhide HI).2.2.2 (by omega) (by omega)) mv, (unhide HPL).mono (by omega)⟩, bel3 be (by omega) _ _ _⟩
  · by_cases e16 : op = 16
    · subst e16
      rw [show cmpK 1 16 s L M = foldK (lessR 1) s (-1) L M nl from by rw [← unhide HL]; rfl]
      obtain ⟨u, hu⟩ : ∃ u, u = foldK (lessR 1) s (-1) L M nl := ⟨_, rfl⟩
      rw [← hu]
      have HU := hide hu
      clear hu
      go_enter Tryd.func38, Tryd.ntmps38
      go_wp2_with fail
      rw [← unhide HZ0]
      clear kp0 kp1 kp2 kq0 kq1 kq2 s0 s1 s2 f0 f1 f2
      have HC := hide (l7Less_any s ad cap la nl cl L lb cm M wz (unhide HK) (unhide H0).i (unhide HDL) (unhide HDM) (unhide HL) (unhide HM) hl (unhide HmL) (unhide HmM))
      rw [← unhide HU] at HC
      refine (unhide HC).mono ?_
      rintro e w5 ⟨⟨a5, c5, rfl, hi5, pl5⟩, b5⟩
      have hI5 := KI.later (unhide H0) b5
      obtain ⟨⟨kp0, kp1, kp2⟩, _, _, _, s0, s1, s2, sf, lo, be⟩ := hI5
      have f0 := sf 0
      have f1 := sf 1
      have f2 := sf 2
      have HI5 := hide hi5
      have HPL := hide (Pl.mono (b := w.heap.size + 2) pl5 (by first | exact lo9 | exact Nat.le_trans lo9 (unhide HB).size))
      clear hi5 pl5 b5
      go_wp2
      refine bodyPost_ret (v := .tuple #[.agg #[.int .i64 u.1.m, .slice a5 u.1.n c5, .bool u.1.ok], .int .i64 u.2]) (by simp [results, Tryd.results38, go_sem, s0, s1, s2]) rfl ?_
      have mv := mov3 w5 (w.heap.size + 1) (.int .i64 u.1.m) (.slice a5 u.1.n c5) (.bool u.1.ok)
      exact ⟨⟨a5, c5, rfl, (unhide HI5).mov ((unhide HPL).apart (unhide HI).2.2.2 (by omega) (by omega)) mv, (unhide HPL).mono (by omega)⟩, bel3 be (by omega) _ _ _⟩
    · obtain rfl : op = 17 := by omega
      obtain ⟨q, rfl⟩ : ∃ q, nl = q + 1 := ⟨nl - 1, by omega⟩
      have hki : ((q + 1 : Nat) : Int) - 1 = (q : Int) := by omega
      have hwi : IntKind.i64.wrap (q : Int) = (q : Int) := by rw [IntKind.wrap_i64]; omega
      obtain ⟨bL, oL, rfl, lL, dL⟩ := (unhide HDL).resolve_left (by omega)
      obtain ⟨bM, oM, rfl, lM, dM⟩ := (unhide HDM).resolve_left (by omega)
      have wtL : ∀ i, i < q + 1 → wz.cell? ⟨bL, oL + i, none⟩ = some (.int .i64 (at0 L i)) ∧ bL < wz.heap.size := fun i hi => ⟨dL i hi, lL⟩
      have wtM : ∀ i, i < q + 1 → wz.cell? ⟨bM, oM + i, none⟩ = some (.int .i64 (at0 M i)) ∧ bM < wz.heap.size := fun i hi => ⟨dM i hi, lM⟩
      have lnL := unhide HL
      have lnM := unhide HM
      have tkL : (List.take q L).length = q := by rw [List.length_take]; omega
      have tkM : (List.take q M).length = q := by rw [List.length_take]; omega
      have e17 : cmpK 1 17 s L M = foldK (lessR 1) s (-1) (topL L M) (topL M L) (q + 1) := by rw [← lnL]; rfl
      have HTL : Hid (List.take q L ++ [at0 M q] = topL L M) := by show _ = _; unfold topL; rw [lnL]; rfl
      have HTM : Hid (List.take q M ++ [at0 L q] = topL M L) := by show _ = _; unfold topL; rw [lnM]; rfl
      have HGL : Hid ((topL L M).length = q + 1 ∧ (topL M L).length = q + 1 ∧ MkL s (topL L M) ∧ MkL s (topL M L)) := ⟨(topL_len (by omega)).trans lnL, (topL_len (by omega)).trans lnM, (unhide HmL).top (unhide HmM) (by omega) (by omega), (unhide HmM).top (unhide HmL) (by omega) (by omega)⟩
      obtain ⟨ya, hya⟩ : ∃ y, y = at0 M q := ⟨_, rfl⟩
      obtain ⟨yb, hyb⟩ : ∃ y, y = at0 L q := ⟨_, rfl⟩
      have dy : wz.cell? ⟨bM, oM + q, none⟩ = some (.int .i64 ya) := by rw [hya]; exact (wtM q (by omega)).1
      have HYB : Hid (wz.cell? ⟨bL, oL + q, none⟩ = some (.int .i64 yb)) := by rw [hyb]; exact (wtL q (by omega)).1
      rw [← hya] at HTL
      rw [← hyb] at HTM
      clear hya hyb dL dM
      rw [e17]
      obtain ⟨u, hu⟩ : ∃ u, u = foldK (lessR 1) s (-1) (topL L M) (topL M L) (q + 1) := ⟨_, rfl⟩
      rw [← hu]
      have HU := hide hu
      clear hu
      have hqa : q ≤ cl := by omega
      have hqb : q ≤ cm := by omega
      have hqi : (q : Int) < (q : Int) + 1 := by omega
      go_enter Tryd.func38, Tryd.ntmps38
      go_wp2_with fail
      rw [← unhide HZ0]
      clear kp0 kp1 kp2 kq0 kq1 kq2 s0 s1 s2 f0 f1 f2
      try simp only [hki, hwi]
      refine wp_region_held_drew (S := fun w' => w'.cell? ⟨bM, oM + q, none⟩ = some (.int .i64 ya)) (by kernel_rfl) ?_ (fun hHeld => ?_)
      · exact dy
      obtain ⟨wda, hwda⟩ : ∃ x, x = wz.drew := ⟨_, rfl⟩
      have HBa : Hid (Below wz.heap.size wz wda) := by show _; rw [hwda]; exact (Below.refl _ _).drew
      replace dy : wda.cell? ⟨bM, oM + q, none⟩ = some (.int .i64 ya) := by rw [hwda]; exact dy
      rw [← hwda]
      clear hwda
      refine wpAnyH_take (i := 1) (v := ?_) rfl (by kernel_rfl) (by kernel_rfl) (by kernel_rfl) (fun _ _ _ h => h) (Or.inl ⟨by rfl, ?_⟩) (by assumption) ?_
      rotate_left
      · (intro w hSw; (try dsimp only at hSw); first | (go_simp; done) | (go_simp; with_reducible rfl))
      try simp only [List.getElem_toArray, List.getElem_cons_succ, List.getElem_cons_zero, Act.put, List.setIfInBounds_toArray, List.set_cons_zero, List.set_cons_succ]
      refine wpAnyH_take (i := 2) (v := ?_) rfl (by kernel_rfl) (by kernel_rfl) (by kernel_rfl) (fun _ _ _ h => h) (Or.inl ⟨by rfl, ?_⟩) (by assumption) ?_
      rotate_left
      · (intro w hSw; (try dsimp only at hSw); first | (go_simp; done) | (go_simp; with_reducible rfl))
      try simp only [List.getElem_toArray, List.getElem_cons_succ, List.getElem_cons_zero, Act.put, List.setIfInBounds_toArray, List.set_cons_zero, List.set_cons_succ]
      refine wpAnyH_take (i := 3) (v := ?_) rfl (by kernel_rfl) (by kernel_rfl) (by kernel_rfl) (fun _ _ _ h => h) (Or.inl ⟨by rfl, ?_⟩) (by assumption) ?_
      rotate_left
      · (intro w hSw; (try dsimp only at hSw); first | (go_simp; done) | (go_simp; with_reducible rfl))
      try simp only [List.getElem_toArray, List.getElem_cons_succ, List.getElem_cons_zero, Act.put, List.setIfInBounds_toArray, List.set_cons_zero, List.set_cons_succ]
      refine wpAnyH_take (i := 5) (v := ?_) rfl (by kernel_rfl) (by kernel_rfl) (by kernel_rfl) (fun _ _ _ h => h) (Or.inl ⟨by rfl, ?_⟩) (by assumption) ?_
      rotate_left
      · (intro w hSw; (try dsimp only at hSw); first | (go_simp; done) | (go_simp; with_reducible rfl))
      try simp only [List.getElem_toArray, List.getElem_cons_succ, List.getElem_cons_zero, Act.put, List.setIfInBounds_toArray, List.set_cons_zero, List.set_cons_succ]
      refine wpAnyH_take (i := 6) (v := ?_) rfl (by kernel_rfl) (by kernel_rfl) (by kernel_rfl) (fun _ _ _ h => h) (Or.inl ⟨by rfl, ?_⟩) (by assumption) ?_
      rotate_left
      · (intro w hSw; (try dsimp only at hSw); first | (go_simp; done) | (go_simp; with_reducible rfl))
      try simp only [List.getElem_toArray, List.getElem_cons_succ, List.getElem_cons_zero, Act.put, List.setIfInBounds_toArray, List.set_cons_zero, List.set_cons_succ]
      refine wpAnyH_take (i := 7) (v := ?_) rfl (by kernel_rfl) (by kernel_rfl) (by kernel_rfl) (fun _ _ _ h => h) (Or.inl ⟨by rfl, ?_⟩) (by assumption) ?_
      rotate_left
      · (intro w hSw; (try dsimp only at hSw); first | (go_simp; done) | (go_simp; with_reducible rfl))
      try simp only [List.getElem_toArray, List.getElem_cons_succ, List.getElem_cons_zero, Act.put, List.setIfInBounds_toArray, List.set_cons_zero, List.set_cons_succ]
      refine wpAnyH_take (i := 8) (v := ?_) rfl (by kernel_rfl) (by kernel_rfl) (by kernel_rfl) (fun _ _ _ h => h) (Or.inl ⟨by rfl, ?_⟩) (by assumption) ?_
      rotate_left
      · (intro w hSw; (try dsimp only at hSw); first | (go_simp; done) | (go_simp; with_reducible rfl))
      try simp only [List.getElem_toArray, List.getElem_cons_succ, List.getElem_cons_zero, Act.put, List.setIfInBounds_toArray, List.set_cons_zero, List.set_cons_succ]
      refine wpAnyH_ready (rs := [0, 9]) (by kernel_rfl) (by simp) ?_
      refine AllReadyH.cons rfl (fun K hK => ?_) (AllReadyH.cons rfl (fun K hK => ?_) AllReadyH.nil)
      · go_simp
        obtain ⟨v0a, hv0a⟩ : ∃ x, x = wda.alloc (.cells #[] 3) := ⟨_, rfl⟩
        have b0 : Below wda.heap.size wda v0a := by rw [hv0a]; exact (Below.refl _ _).alloc (Nat.le_refl _) _
        have l0 : wda.heap.size < v0a.heap.size := by rw [hv0a]; simp
        have lz0 : wz.heap.size ≤ wda.heap.size := (unhide HBa).size
        have HXa : Hid (v0a.ownsRow wz.heap.size 3 1 (.slice (some ⟨wda.heap.size, 0, none⟩) 0 0) 0 (icells [])) := by rw [hv0a]; exact own_mono (own_new wda 3 1) lz0
        have HBa := hide ((unhide HBa).trans (b0.mono (unhide HBa).size))
        replace dy := cell_later b0 dy
        rw [← hv0a]
        obtain ⟨Xa, hXa⟩ : ∃ x, x = wda.heap.size := ⟨_, rfl⟩
        rw [← hXa] at HXa  ⊢
        have lxa : wz.heap.size ≤ Xa ∧ Xa < v0a.heap.size := by omega
        clear hv0a b0 l0 lz0 hXa
        refine hK.out _ _ ?_ (fun hHeld => ?_)
        · exact dy
        clear hK K
        try simp only [List.getElem_toArray, List.getElem_cons_succ, List.getElem_cons_zero, Act.put, List.setIfInBounds_toArray, List.set_cons_zero, List.set_cons_succ]
        refine wpAnyH_ready (rs := [4, 9]) (by kernel_rfl) (by simp) ?_
        refine AllReadyH.cons rfl (fun K hK => ?_) (AllReadyH.cons rfl (fun K hK => ?_) AllReadyH.nil)
        · apply step_ints (hT := lsInt) (L := []) (M := List.take q L) (base := wz.heap.size)
          case hgd => rfl
          case ho => rfl
          case hs => rfl
          case hown => exact unhide HXa
          case hbase => exact (unhide HBa).size
          case hx => rfl
          case hM => exact tkL
          case hi => exact fun i hi => (by rw [at0_take hi (by rw [lnL]; omega)]; exact ((unhide HBa).cell (p := ⟨bL, oL + i, none⟩) (wtL i (by omega)).2).trans (wtL i (by omega)).1)
          case hl => omega
          case' h => intro ga ca v4a o4 gr4 at4 lt4
          simp only [Nat.zero_add, List.nil_append] at o4 ⊢
          have HOa := hide o4
          have HBa := hide ((unhide HBa).trans ((mov_of_grown gr4).below lxa.1 (unhide HBa).size))
          replace dy := (mov_of_grown gr4).cell dy (by have := lxa.1; simp only; omega)
          clear o4 gr4 at4 lt4 HXa lxa
          refine hK.out _ _ ?_ (fun hHeld => ?_)
          · exact dy
          clear hK K
          try simp only [List.getElem_toArray, List.getElem_cons_succ, List.getElem_cons_zero, Act.put, List.setIfInBounds_toArray, List.set_cons_zero, List.set_cons_succ]
          refine wpAnyH_ready (rs := [9]) (by kernel_rfl) (by simp) ?_
          refine AllReadyH.cons rfl (fun K hK => ?_) AllReadyH.nil
          go_simp
          obtain ⟨v9a, hv9a⟩ : ∃ x, x = v4a.alloc (.cells #[.int .i64 ya] 3) := ⟨_, rfl⟩
          have b9 : Below v4a.heap.size v4a v9a := by rw [hv9a]; exact (Below.refl _ _).alloc (Nat.le_refl _) _
          have l9 : v4a.heap.size < v9a.heap.size := by rw [hv9a]; simp
          have lz9 : wz.heap.size ≤ v4a.heap.size := (unhide HBa).size
          have HZa : Hid (Ints v9a v4a.heap.size 0 1 (at0 [ya])) := fun i hi => by (obtain rfl : i = 0 := by omega); rw [hv9a]; simp [go_sem, at0]
          have nza : v4a.heap.size ≠ ga := by have := (own_cap (unhide HOa)).2; omega
          have HOa := hide (World.ownsRow.kept (w' := v9a) (unhide HOa) (grown_below b9) (by simp [Value.ownBlock]))
          have HBa := hide ((unhide HBa).trans (b9.mono (unhide HBa).size))
          replace dy := cell_later b9 dy
          rw [← hv9a]
          obtain ⟨Za, hZa⟩ : ∃ x, x = v4a.heap.size := ⟨_, rfl⟩
          rw [← hZa] at HZa nza ⊢
          have lZa : Za < v9a.heap.size := by omega
          clear hv9a b9 l9 lz9 hZa
          refine hK.out _ _ ?_ (fun hHeld => ?_)
          · exact dy
          clear hK K
          try simp only [List.getElem_toArray, List.getElem_cons_succ, List.getElem_cons_zero, Act.put, List.setIfInBounds_toArray, List.set_cons_zero, List.set_cons_succ]
          refine wpAnyH_ready (rs := [10]) (by kernel_rfl) (by simp) ?_
          refine AllReadyH.cons rfl (fun K hK => ?_) AllReadyH.nil
          apply step_ints (hT := lsInt) (L := List.take q L) (M := [ya]) (base := wz.heap.size)
          case hgd => rfl
          case ho => rfl
          case hs => rfl
          case hown => exact unhide HOa
          case hbase => exact (unhide HBa).size
          case hx => rfl
          case hM => rfl
          case hi => exact unhide HZa
          case hl => omega
          case' h => intro Ga Ca v10a o10 gr10 at10 lt10
          have lg := own_base (unhide HOa)
          have HRa := hide o10
          have HBa := hide ((unhide HBa).trans ((mov_of_grown gr10).below lg (unhide HBa).size))
          replace dy := (mov_of_grown gr10).cell dy (by simp only; omega)
          clear o10 gr10 at10 lt10 lg HOa HZa nza lZa
          refine hK.out _ _ ?_ (fun hHeld => ?_)
          · exact dy
          clear hK K
          try simp only [List.getElem_toArray, List.getElem_cons_succ, List.getElem_cons_zero, Act.put, List.setIfInBounds_toArray, List.set_cons_zero, List.set_cons_succ]
          refine wpAnyH_ready (rs := [11]) (by kernel_rfl) (by simp) ?_
          refine AllReadyH.cons rfl (fun K hK => ?_) AllReadyH.nil
          go_simp
          refine hK.out _ _ ?_ (fun hHeld => ?_)
          · exact dy
          clear hK K
          try simp only [List.getElem_toArray, List.getElem_cons_succ, List.getElem_cons_zero, Act.put, List.setIfInBounds_toArray, List.set_cons_zero, List.set_cons_succ]
          refine wpAnyH_done (by kernel_rfl) ?_ _
          clear dy
          have lLb : bL < v10a.heap.size := Nat.lt_of_lt_of_le lL (unhide HBa).size
          have dy := ((unhide HBa).cell (p := ⟨bL, oL + q, none⟩) (wtL q (by omega)).2).trans (unhide HYB)
          have wtM2 : ∀ i, i < q + 1 → v10a.cell? ⟨bM, oM + i, none⟩ = some (.int .i64 (at0 M i)) ∧ bM < v10a.heap.size := fun i hi => ⟨((unhide HBa).cell (p := ⟨bM, oM + i, none⟩) (wtM i hi).2).trans (wtM i hi).1, Nat.lt_of_lt_of_le (wtM i hi).2 (unhide HBa).size⟩
          go_wp2
          refine wp_region_held_drew (S := fun w' => w'.cell? ⟨bL, oL + q, none⟩ = some (.int .i64 yb)) (by kernel_rfl) ?_ (fun hHeld => ?_)
          · exact dy
          obtain ⟨wdb, hwdb⟩ : ∃ x, x = v10a.drew := ⟨_, rfl⟩
          have HBb : Hid (Below v10a.heap.size v10a wdb) := by show _; rw [hwdb]; exact (Below.refl _ _).drew
          replace dy : wdb.cell? ⟨bL, oL + q, none⟩ = some (.int .i64 yb) := by rw [hwdb]; exact dy
          rw [← hwdb]
          clear hwdb
          refine wpAnyH_take (i := 1) (v := ?_) rfl (by kernel_rfl) (by kernel_rfl) (by kernel_rfl) (fun _ _ _ h => h) (Or.inl ⟨by rfl, ?_⟩) (by assumption) ?_
          rotate_left
          · (intro w hSw; (try dsimp only at hSw); first | (go_simp; done) | (go_simp; with_reducible rfl))
          try simp only [List.getElem_toArray, List.getElem_cons_succ, List.getElem_cons_zero, Act.put, List.setIfInBounds_toArray, List.set_cons_zero, List.set_cons_succ]
          refine wpAnyH_take (i := 2) (v := ?_) rfl (by kernel_rfl) (by kernel_rfl) (by kernel_rfl) (fun _ _ _ h => h) (Or.inl ⟨by rfl, ?_⟩) (by assumption) ?_
          rotate_left
          · (intro w hSw; (try dsimp only at hSw); first | (go_simp; done) | (go_simp; with_reducible rfl))
          try simp only [List.getElem_toArray, List.getElem_cons_succ, List.getElem_cons_zero, Act.put, List.setIfInBounds_toArray, List.set_cons_zero, List.set_cons_succ]
          refine wpAnyH_take (i := 3) (v := ?_) rfl (by kernel_rfl) (by kernel_rfl) (by kernel_rfl) (fun _ _ _ h => h) (Or.inl ⟨by rfl, ?_⟩) (by assumption) ?_
          rotate_left
          · (intro w hSw; (try dsimp only at hSw); first | (go_simp; done) | (go_simp; with_reducible rfl))
          try simp only [List.getElem_toArray, List.getElem_cons_succ, List.getElem_cons_zero, Act.put, List.setIfInBounds_toArray, List.set_cons_zero, List.set_cons_succ]
          refine wpAnyH_take (i := 5) (v := ?_) rfl (by kernel_rfl) (by kernel_rfl) (by kernel_rfl) (fun _ _ _ h => h) (Or.inl ⟨by rfl, ?_⟩) (by assumption) ?_
          rotate_left
          · (intro w hSw; (try dsimp only at hSw); first | (go_simp; done) | (go_simp; with_reducible rfl))
          try simp only [List.getElem_toArray, List.getElem_cons_succ, List.getElem_cons_zero, Act.put, List.setIfInBounds_toArray, List.set_cons_zero, List.set_cons_succ]
          refine wpAnyH_take (i := 6) (v := ?_) rfl (by kernel_rfl) (by kernel_rfl) (by kernel_rfl) (fun _ _ _ h => h) (Or.inl ⟨by rfl, ?_⟩) (by assumption) ?_
          rotate_left
          · (intro w hSw; (try dsimp only at hSw); first | (go_simp; done) | (go_simp; with_reducible rfl))
          try simp only [List.getElem_toArray, List.getElem_cons_succ, List.getElem_cons_zero, Act.put, List.setIfInBounds_toArray, List.set_cons_zero, List.set_cons_succ]
          refine wpAnyH_take (i := 7) (v := ?_) rfl (by kernel_rfl) (by kernel_rfl) (by kernel_rfl) (fun _ _ _ h => h) (Or.inl ⟨by rfl, ?_⟩) (by assumption) ?_
          rotate_left
          · (intro w hSw; (try dsimp only at hSw); first | (go_simp; done) | (go_simp; with_reducible rfl))
          try simp only [List.getElem_toArray, List.getElem_cons_succ, List.getElem_cons_zero, Act.put, List.setIfInBounds_toArray, List.set_cons_zero, List.set_cons_succ]
          refine wpAnyH_take (i := 8) (v := ?_) rfl (by kernel_rfl) (by kernel_rfl) (by kernel_rfl) (fun _ _ _ h => h) (Or.inl ⟨by rfl, ?_⟩) (by assumption) ?_
          rotate_left
          · (intro w hSw; (try dsimp only at hSw); first | (go_simp; done) | (go_simp; with_reducible rfl))
          try simp only [List.getElem_toArray, List.getElem_cons_succ, List.getElem_cons_zero, Act.put, List.setIfInBounds_toArray, List.set_cons_zero, List.set_cons_succ]
          refine wpAnyH_ready (rs := [0, 9]) (by kernel_rfl) (by simp) ?_
          refine AllReadyH.cons rfl (fun K hK => ?_) (AllReadyH.cons rfl (fun K hK => ?_) AllReadyH.nil)
          · go_simp
            obtain ⟨v0b, hv0b⟩ : ∃ x, x = wdb.alloc (.cells #[] 3) := ⟨_, rfl⟩
            have b0 : Below wdb.heap.size wdb v0b := by rw [hv0b]; exact (Below.refl _ _).alloc (Nat.le_refl _) _
            have l0 : wdb.heap.size < v0b.heap.size := by rw [hv0b]; simp
            have lz0 : v10a.heap.size ≤ wdb.heap.size := (unhide HBb).size
            have HXb : Hid (v0b.ownsRow v10a.heap.size 3 1 (.slice (some ⟨wdb.heap.size, 0, none⟩) 0 0) 0 (icells [])) := by rw [hv0b]; exact own_mono (own_new wdb 3 1) lz0
            have HBb := hide ((unhide HBb).trans (b0.mono (unhide HBb).size))
            replace dy := cell_later b0 dy
            rw [← hv0b]
            obtain ⟨Xb, hXb⟩ : ∃ x, x = wdb.heap.size := ⟨_, rfl⟩
            rw [← hXb] at HXb  ⊢
            have lxb : v10a.heap.size ≤ Xb ∧ Xb < v0b.heap.size := by omega
            clear hv0b b0 l0 lz0 hXb
            refine hK.out _ _ ?_ (fun hHeld => ?_)
            · exact dy
            clear hK K
            try simp only [List.getElem_toArray, List.getElem_cons_succ, List.getElem_cons_zero, Act.put, List.setIfInBounds_toArray, List.set_cons_zero, List.set_cons_succ]
            refine wpAnyH_ready (rs := [4, 9]) (by kernel_rfl) (by simp) ?_
            refine AllReadyH.cons rfl (fun K hK => ?_) (AllReadyH.cons rfl (fun K hK => ?_) AllReadyH.nil)
            · apply step_ints (hT := lsInt) (L := []) (M := List.take q M) (base := v10a.heap.size)
              case hgd => rfl
              case ho => rfl
              case hs => rfl
              case hown => exact unhide HXb
              case hbase => exact (unhide HBb).size
              case hx => rfl
              case hM => exact tkM
              case hi => exact fun i hi => (by rw [at0_take hi (by rw [lnM]; omega)]; exact ((unhide HBb).cell (p := ⟨bM, oM + i, none⟩) (wtM2 i (by omega)).2).trans (wtM2 i (by omega)).1)
              case hl => omega
              case' h => intro gb cb v4b o4 gr4 at4 lt4
              simp only [Nat.zero_add, List.nil_append] at o4 ⊢
              have HOb := hide o4
              have HBb := hide ((unhide HBb).trans ((mov_of_grown gr4).below lxb.1 (unhide HBb).size))
              replace dy := (mov_of_grown gr4).cell dy (by have := lxb.1; simp only; omega)
              clear o4 gr4 at4 lt4 HXb lxb
              refine hK.out _ _ ?_ (fun hHeld => ?_)
              · exact dy
              clear hK K
              try simp only [List.getElem_toArray, List.getElem_cons_succ, List.getElem_cons_zero, Act.put, List.setIfInBounds_toArray, List.set_cons_zero, List.set_cons_succ]
              refine wpAnyH_ready (rs := [9]) (by kernel_rfl) (by simp) ?_
              refine AllReadyH.cons rfl (fun K hK => ?_) AllReadyH.nil
              go_simp
              obtain ⟨v9b, hv9b⟩ : ∃ x, x = v4b.alloc (.cells #[.int .i64 yb] 3) := ⟨_, rfl⟩
              have b9 : Below v4b.heap.size v4b v9b := by rw [hv9b]; exact (Below.refl _ _).alloc (Nat.le_refl _) _
              have l9 : v4b.heap.size < v9b.heap.size := by rw [hv9b]; simp
              have lz9 : v10a.heap.size ≤ v4b.heap.size := (unhide HBb).size
              have HZb : Hid (Ints v9b v4b.heap.size 0 1 (at0 [yb])) := fun i hi => by (obtain rfl : i = 0 := by omega); rw [hv9b]; simp [go_sem, at0]
              have nzb : v4b.heap.size ≠ gb := by have := (own_cap (unhide HOb)).2; omega
              have HOb := hide (World.ownsRow.kept (w' := v9b) (unhide HOb) (grown_below b9) (by simp [Value.ownBlock]))
              have HBb := hide ((unhide HBb).trans (b9.mono (unhide HBb).size))
              replace dy := cell_later b9 dy
              rw [← hv9b]
              obtain ⟨Zb, hZb⟩ : ∃ x, x = v4b.heap.size := ⟨_, rfl⟩
              rw [← hZb] at HZb nzb ⊢
              have lZb : Zb < v9b.heap.size := by omega
              clear hv9b b9 l9 lz9 hZb
              refine hK.out _ _ ?_ (fun hHeld => ?_)
              · exact dy
              clear hK K
              try simp only [List.getElem_toArray, List.getElem_cons_succ, List.getElem_cons_zero, Act.put, List.setIfInBounds_toArray, List.set_cons_zero, List.set_cons_succ]
              refine wpAnyH_ready (rs := [10]) (by kernel_rfl) (by simp) ?_
              refine AllReadyH.cons rfl (fun K hK => ?_) AllReadyH.nil
              apply step_ints (hT := lsInt) (L := List.take q M) (M := [yb]) (base := v10a.heap.size)
              case hgd => rfl
              case ho => rfl
              case hs => rfl
              case hown => exact unhide HOb
              case hbase => exact (unhide HBb).size
              case hx => rfl
              case hM => rfl
              case hi => exact unhide HZb
              case hl => omega
              case' h => intro Gb Cb v10b o10 gr10 at10 lt10
              have lg := own_base (unhide HOb)
              have HRb := hide o10
              have HBb := hide ((unhide HBb).trans ((mov_of_grown gr10).below lg (unhide HBb).size))
              replace dy := (mov_of_grown gr10).cell dy (by simp only; omega)
              clear o10 gr10 at10 lt10 lg HOb HZb nzb lZb
              refine hK.out _ _ ?_ (fun hHeld => ?_)
              · exact dy
              clear hK K
              try simp only [List.getElem_toArray, List.getElem_cons_succ, List.getElem_cons_zero, Act.put, List.setIfInBounds_toArray, List.set_cons_zero, List.set_cons_succ]
              refine wpAnyH_ready (rs := [11]) (by kernel_rfl) (by simp) ?_
              refine AllReadyH.cons rfl (fun K hK => ?_) AllReadyH.nil
              go_simp
              refine hK.out _ _ ?_ (fun hHeld => ?_)
              · exact dy
              clear hK K
              try simp only [List.getElem_toArray, List.getElem_cons_succ, List.getElem_cons_zero, Act.put, List.setIfInBounds_toArray, List.set_cons_zero, List.set_cons_succ]
              refine wpAnyH_done (by kernel_rfl) ?_ _
              clear dy
              have HRa2 := hide (World.ownsRow.kept (w' := v10b) (unhide HRa) (grown_below (unhide HBb)) (by simp [Value.ownBlock]))
              have HB := hide ((unhide HBa).trans ((unhide HBb).mono (unhide HBa).size))
              have hIw := KI.later (unhide H0) (unhide HB)
              obtain ⟨kp0, kp1, kp2⟩ := hIw.k
              have kq0 := hIw.kf 0
              have kq1 := hIw.kf 1
              have kq2 := hIw.kf 2
              have HIW := hide hIw
              clear hIw
              go_wp2_with fail
              clear kp0 kp1 kp2 kq0 kq1 kq2
              have HC := hide (l7Less_any s ad cap (some ⟨Ga, 0, none⟩) (q + 1) Ca (topL L M) (some ⟨Gb, 0, none⟩) Cb (topL M L) v10b (unhide HK) (unhide HIW).i (own_at (by rw [← unhide HTL]; exact unhide HRa2)) (own_at (by rw [← unhide HTM]; exact unhide HRb)) (unhide HGL).1 (unhide HGL).2.1 hl (unhide HGL).2.2.1 (unhide HGL).2.2.2)
              rw [← unhide HU] at HC
              refine (unhide HC).mono ?_
              rintro e w5 ⟨⟨a5, c5, rfl, hi5, pl5⟩, b5⟩
              have hI5 := KI.later (unhide HIW) b5
              obtain ⟨⟨kp0, kp1, kp2⟩, _, _, _, s0, s1, s2, sf, lo, be⟩ := hI5
              have f0 := sf 0
              have f1 := sf 1
              have f2 := sf 2
              have HI5 := hide hi5
              have HPL := hide (Pl.mono (b := w.heap.size + 2) pl5 (by first | exact lo9 | exact Nat.le_trans lo9 (unhide HB).size))
              clear hi5 pl5 b5
              go_wp2
              refine bodyPost_ret (v := .tuple #[.agg #[.int .i64 u.1.m, .slice a5 u.1.n c5, .bool u.1.ok], .int .i64 u.2]) (by simp [results, Tryd.results38, go_sem, s0, s1, s2]) rfl ?_
              have mv := mov3 w5 (w.heap.size + 1) (.int .i64 u.1.m) (.slice a5 u.1.n c5) (.bool u.1.ok)
              exact ⟨⟨a5, c5, rfl, (unhide HI5).mov ((unhide HPL).apart (unhide HI).2.2.2 (by omega) (by omega)) mv, (unhide HPL).mono (by omega)⟩, bel3 be (by omega) _ _ _⟩
            · go_simp
              obtain ⟨v9b, hv9b⟩ : ∃ x, x = v0b.alloc (.cells #[.int .i64 yb] 3) := ⟨_, rfl⟩
              have b9 : Below v0b.heap.size v0b v9b := by rw [hv9b]; exact (Below.refl _ _).alloc (Nat.le_refl _) _
              have l9 : v0b.heap.size < v9b.heap.size := by rw [hv9b]; simp
              have lz9 : v10a.heap.size ≤ v0b.heap.size := (unhide HBb).size
              have HZb : Hid (Ints v9b v0b.heap.size 0 1 (at0 [yb])) := fun i hi => by (obtain rfl : i = 0 := by omega); rw [hv9b]; simp [go_sem, at0]
              have HXb := hide (World.ownsRow.kept (w' := v9b) (unhide HXb) (grown_below b9) (by simp [Value.ownBlock]))
              have nzb : v0b.heap.size ≠ Xb := by omega
              have HBb := hide ((unhide HBb).trans (b9.mono (unhide HBb).size))
              replace dy := cell_later b9 dy
              rw [← hv9b]
              obtain ⟨Zb, hZb⟩ : ∃ x, x = v0b.heap.size := ⟨_, rfl⟩
              rw [← hZb] at HZb nzb ⊢
              have lZb : Zb < v9b.heap.size := by omega
              clear hv9b b9 l9 lz9 hZb
              replace lxb : v10a.heap.size ≤ Xb ∧ Xb < v9b.heap.size := ⟨lxb.1, (own_cap (unhide HXb)).2⟩
              refine hK.out _ _ ?_ (fun hHeld => ?_)
              · exact dy
              clear hK K
              try simp only [List.getElem_toArray, List.getElem_cons_succ, List.getElem_cons_zero, Act.put, List.setIfInBounds_toArray, List.set_cons_zero, List.set_cons_succ]
              refine wpAnyH_ready (rs := [4]) (by kernel_rfl) (by simp) ?_
              refine AllReadyH.cons rfl (fun K hK => ?_) AllReadyH.nil
              apply step_ints (hT := lsInt) (L := []) (M := List.take q M) (base := v10a.heap.size)
              case hgd => rfl
              case ho => rfl
              case hs => rfl
              case hown => exact unhide HXb
              case hbase => exact (unhide HBb).size
              case hx => rfl
              case hM => exact tkM
              case hi => exact fun i hi => (by rw [at0_take hi (by rw [lnM]; omega)]; exact ((unhide HBb).cell (p := ⟨bM, oM + i, none⟩) (wtM2 i (by omega)).2).trans (wtM2 i (by omega)).1)
              case hl => omega
              case' h => intro gb cb v4b o4 gr4 at4 lt4
              simp only [Nat.zero_add, List.nil_append] at o4 ⊢
              have HOb := hide o4
              have HBb := hide ((unhide HBb).trans ((mov_of_grown gr4).below lxb.1 (unhide HBb).size))
              replace dy := (mov_of_grown gr4).cell dy (by have := lxb.1; simp only; omega)
              have HZb : Hid (Ints v4b Zb 0 1 (at0 [yb])) := fun i hi => (mov_of_grown gr4).cell (unhide HZb i hi) nzb
              replace nzb : Zb ≠ gb := by rcases at4 with e | e <;> omega
              replace lZb : Zb < v4b.heap.size := Nat.lt_of_lt_of_le lZb gr4.size
              clear o4 gr4 at4 lt4 HXb lxb
              refine hK.out _ _ ?_ (fun hHeld => ?_)
              · exact dy
              clear hK K
              try simp only [List.getElem_toArray, List.getElem_cons_succ, List.getElem_cons_zero, Act.put, List.setIfInBounds_toArray, List.set_cons_zero, List.set_cons_succ]
              refine wpAnyH_ready (rs := [10]) (by kernel_rfl) (by simp) ?_
              refine AllReadyH.cons rfl (fun K hK => ?_) AllReadyH.nil
              apply step_ints (hT := lsInt) (L := List.take q M) (M := [yb]) (base := v10a.heap.size)
              case hgd => rfl
              case ho => rfl
              case hs => rfl
              case hown => exact unhide HOb
              case hbase => exact (unhide HBb).size
              case hx => rfl
              case hM => rfl
              case hi => exact unhide HZb
              case hl => omega
              case' h => intro Gb Cb v10b o10 gr10 at10 lt10
              have lg := own_base (unhide HOb)
              have HRb := hide o10
              have HBb := hide ((unhide HBb).trans ((mov_of_grown gr10).below lg (unhide HBb).size))
              replace dy := (mov_of_grown gr10).cell dy (by simp only; omega)
              clear o10 gr10 at10 lt10 lg HOb HZb nzb lZb
              refine hK.out _ _ ?_ (fun hHeld => ?_)
              · exact dy
              clear hK K
              try simp only [List.getElem_toArray, List.getElem_cons_succ, List.getElem_cons_zero, Act.put, List.setIfInBounds_toArray, List.set_cons_zero, List.set_cons_succ]
              refine wpAnyH_ready (rs := [11]) (by kernel_rfl) (by simp) ?_
              refine AllReadyH.cons rfl (fun K hK => ?_) AllReadyH.nil
              go_simp
              refine hK.out _ _ ?_ (fun hHeld => ?_)
              · exact dy
              clear hK K
              try simp only [List.getElem_toArray, List.getElem_cons_succ, List.getElem_cons_zero, Act.put, List.setIfInBounds_toArray, List.set_cons_zero, List.set_cons_succ]
              refine wpAnyH_done (by kernel_rfl) ?_ _
              clear dy
              have HRa2 := hide (World.ownsRow.kept (w' := v10b) (unhide HRa) (grown_below (unhide HBb)) (by simp [Value.ownBlock]))
              have HB := hide ((unhide HBa).trans ((unhide HBb).mono (unhide HBa).size))
              have hIw := KI.later (unhide H0) (unhide HB)
              obtain ⟨kp0, kp1, kp2⟩ := hIw.k
              have kq0 := hIw.kf 0
              have kq1 := hIw.kf 1
              have kq2 := hIw.kf 2
              have HIW := hide hIw
              clear hIw
              go_wp2_with fail
              clear kp0 kp1 kp2 kq0 kq1 kq2
              have HC := hide (l7Less_any s ad cap (some ⟨Ga, 0, none⟩) (q + 1) Ca (topL L M) (some ⟨Gb, 0, none⟩) Cb (topL M L) v10b (unhide HK) (unhide HIW).i (own_at (by rw [← unhide HTL]; exact unhide HRa2)) (own_at (by rw [← unhide HTM]; exact unhide HRb)) (unhide HGL).1 (unhide HGL).2.1 hl (unhide HGL).2.2.1 (unhide HGL).2.2.2)
              rw [← unhide HU] at HC
              refine (unhide HC).mono ?_
              rintro e w5 ⟨⟨a5, c5, rfl, hi5, pl5⟩, b5⟩
              have hI5 := KI.later (unhide HIW) b5
              obtain ⟨⟨kp0, kp1, kp2⟩, _, _, _, s0, s1, s2, sf, lo, be⟩ := hI5
              have f0 := sf 0
              have f1 := sf 1
              have f2 := sf 2
              have HI5 := hide hi5
              have HPL := hide (Pl.mono (b := w.heap.size + 2) pl5 (by first | exact lo9 | exact Nat.le_trans lo9 (unhide HB).size))
              clear hi5 pl5 b5
              go_wp2
              refine bodyPost_ret (v := .tuple #[.agg #[.int .i64 u.1.m, .slice a5 u.1.n c5, .bool u.1.ok], .int .i64 u.2]) (by simp [results, Tryd.results38, go_sem, s0, s1, s2]) rfl ?_
              have mv := mov3 w5 (w.heap.size + 1) (.int .i64 u.1.m) (.slice a5 u.1.n c5) (.bool u.1.ok)
              exact ⟨⟨a5, c5, rfl, (unhide HI5).mov ((unhide HPL).apart (unhide HI).2.2.2 (by omega) (by omega)) mv, (unhide HPL).mono (by omega)⟩, bel3 be (by omega) _ _ _⟩
          · go_simp
            obtain ⟨v9b, hv9b⟩ : ∃ x, x = wdb.alloc (.cells #[.int .i64 yb] 3) := ⟨_, rfl⟩
            have b9 : Below wdb.heap.size wdb v9b := by rw [hv9b]; exact (Below.refl _ _).alloc (Nat.le_refl _) _
            have l9 : wdb.heap.size < v9b.heap.size := by rw [hv9b]; simp
            have lz9 : v10a.heap.size ≤ wdb.heap.size := (unhide HBb).size
            have HZb : Hid (Ints v9b wdb.heap.size 0 1 (at0 [yb])) := fun i hi => by (obtain rfl : i = 0 := by omega); rw [hv9b]; simp [go_sem, at0]
            have HBb := hide ((unhide HBb).trans (b9.mono (unhide HBb).size))
            replace dy := cell_later b9 dy
            rw [← hv9b]
            obtain ⟨Zb, hZb⟩ : ∃ x, x = wdb.heap.size := ⟨_, rfl⟩
            rw [← hZb] at HZb  ⊢
            have lZb : Zb < v9b.heap.size := by omega
            clear hv9b b9 l9 lz9 hZb
            refine hK.out _ _ ?_ (fun hHeld => ?_)
            · exact dy
            clear hK K
            try simp only [List.getElem_toArray, List.getElem_cons_succ, List.getElem_cons_zero, Act.put, List.setIfInBounds_toArray, List.set_cons_zero, List.set_cons_succ]
            refine wpAnyH_ready (rs := [0]) (by kernel_rfl) (by simp) ?_
            refine AllReadyH.cons rfl (fun K hK => ?_) AllReadyH.nil
            go_simp
            obtain ⟨v0b, hv0b⟩ : ∃ x, x = v9b.alloc (.cells #[] 3) := ⟨_, rfl⟩
            have b0 : Below v9b.heap.size v9b v0b := by rw [hv0b]; exact (Below.refl _ _).alloc (Nat.le_refl _) _
            have l0 : v9b.heap.size < v0b.heap.size := by rw [hv0b]; simp
            have lz0 : v10a.heap.size ≤ v9b.heap.size := (unhide HBb).size
            have HXb : Hid (v0b.ownsRow v10a.heap.size 3 1 (.slice (some ⟨v9b.heap.size, 0, none⟩) 0 0) 0 (icells [])) := by rw [hv0b]; exact own_mono (own_new v9b 3 1) lz0
            have HZb := hide ((unhide HZb).later b0)
            have nzb : Zb ≠ v9b.heap.size := by omega
            replace lZb : Zb < v0b.heap.size := by omega
            have HBb := hide ((unhide HBb).trans (b0.mono (unhide HBb).size))
            replace dy := cell_later b0 dy
            rw [← hv0b]
            obtain ⟨Xb, hXb⟩ : ∃ x, x = v9b.heap.size := ⟨_, rfl⟩
            rw [← hXb] at HXb nzb ⊢
            have lxb : v10a.heap.size ≤ Xb ∧ Xb < v0b.heap.size := by omega
            clear hv0b b0 l0 lz0 hXb
            refine hK.out _ _ ?_ (fun hHeld => ?_)
            · exact dy
            clear hK K
            try simp only [List.getElem_toArray, List.getElem_cons_succ, List.getElem_cons_zero, Act.put, List.setIfInBounds_toArray, List.set_cons_zero, List.set_cons_succ]
            refine wpAnyH_ready (rs := [4]) (by kernel_rfl) (by simp) ?_
            refine AllReadyH.cons rfl (fun K hK => ?_) AllReadyH.nil
            apply step_ints (hT := lsInt) (L := []) (M := List.take q M) (base := v10a.heap.size)
            case hgd => rfl
            case ho => rfl
            case hs => rfl
            case hown => exact unhide HXb
            case hbase => exact (unhide HBb).size
            case hx => rfl
            case hM => exact tkM
            case hi => exact fun i hi => (by rw [at0_take hi (by rw [lnM]; omega)]; exact ((unhide HBb).cell (p := ⟨bM, oM + i, none⟩) (wtM2 i (by omega)).2).trans (wtM2 i (by omega)).1)
            case hl => omega
            case' h => intro gb cb v4b o4 gr4 at4 lt4
            simp only [Nat.zero_add, List.nil_append] at o4 ⊢
            have HOb := hide o4
            have HBb := hide ((unhide HBb).trans ((mov_of_grown gr4).below lxb.1 (unhide HBb).size))
            replace dy := (mov_of_grown gr4).cell dy (by have := lxb.1; simp only; omega)
            have HZb : Hid (Ints v4b Zb 0 1 (at0 [yb])) := fun i hi => (mov_of_grown gr4).cell (unhide HZb i hi) nzb
            replace nzb : Zb ≠ gb := by rcases at4 with e | e <;> omega
            replace lZb : Zb < v4b.heap.size := Nat.lt_of_lt_of_le lZb gr4.size
            clear o4 gr4 at4 lt4 HXb lxb
            refine hK.out _ _ ?_ (fun hHeld => ?_)
            · exact dy
            clear hK K
            try simp only [List.getElem_toArray, List.getElem_cons_succ, List.getElem_cons_zero, Act.put, List.setIfInBounds_toArray, List.set_cons_zero, List.set_cons_succ]
            refine wpAnyH_ready (rs := [10]) (by kernel_rfl) (by simp) ?_
            refine AllReadyH.cons rfl (fun K hK => ?_) AllReadyH.nil
            apply step_ints (hT := lsInt) (L := List.take q M) (M := [yb]) (base := v10a.heap.size)
            case hgd => rfl
            case ho => rfl
            case hs => rfl
            case hown => exact unhide HOb
            case hbase => exact (unhide HBb).size
            case hx => rfl
            case hM => rfl
            case hi => exact unhide HZb
            case hl => omega
            case' h => intro Gb Cb v10b o10 gr10 at10 lt10
            have lg := own_base (unhide HOb)
            have HRb := hide o10
            have HBb := hide ((unhide HBb).trans ((mov_of_grown gr10).below lg (unhide HBb).size))
            replace dy := (mov_of_grown gr10).cell dy (by simp only; omega)
            clear o10 gr10 at10 lt10 lg HOb HZb nzb lZb
            refine hK.out _ _ ?_ (fun hHeld => ?_)
            · exact dy
            clear hK K
            try simp only [List.getElem_toArray, List.getElem_cons_succ, List.getElem_cons_zero, Act.put, List.setIfInBounds_toArray, List.set_cons_zero, List.set_cons_succ]
            refine wpAnyH_ready (rs := [11]) (by kernel_rfl) (by simp) ?_
            refine AllReadyH.cons rfl (fun K hK => ?_) AllReadyH.nil
            go_simp
            refine hK.out _ _ ?_ (fun hHeld => ?_)
            · exact dy
            clear hK K
            try simp only [List.getElem_toArray, List.getElem_cons_succ, List.getElem_cons_zero, Act.put, List.setIfInBounds_toArray, List.set_cons_zero, List.set_cons_succ]
            refine wpAnyH_done (by kernel_rfl) ?_ _
            clear dy
            have HRa2 := hide (World.ownsRow.kept (w' := v10b) (unhide HRa) (grown_below (unhide HBb)) (by simp [Value.ownBlock]))
            have HB := hide ((unhide HBa).trans ((unhide HBb).mono (unhide HBa).size))
            have hIw := KI.later (unhide H0) (unhide HB)
            obtain ⟨kp0, kp1, kp2⟩ := hIw.k
            have kq0 := hIw.kf 0
            have kq1 := hIw.kf 1
            have kq2 := hIw.kf 2
            have HIW := hide hIw
            clear hIw
            go_wp2_with fail
            clear kp0 kp1 kp2 kq0 kq1 kq2
            have HC := hide (l7Less_any s ad cap (some ⟨Ga, 0, none⟩) (q + 1) Ca (topL L M) (some ⟨Gb, 0, none⟩) Cb (topL M L) v10b (unhide HK) (unhide HIW).i (own_at (by rw [← unhide HTL]; exact unhide HRa2)) (own_at (by rw [← unhide HTM]; exact unhide HRb)) (unhide HGL).1 (unhide HGL).2.1 hl (unhide HGL).2.2.1 (unhide HGL).2.2.2)
            rw [← unhide HU] at HC
            refine (unhide HC).mono ?_
            rintro e w5 ⟨⟨a5, c5, rfl, hi5, pl5⟩, b5⟩
            have hI5 := KI.later (unhide HIW) b5
            obtain ⟨⟨kp0, kp1, kp2⟩, _, _, _, s0, s1, s2, sf, lo, be⟩ := hI5
            have f0 := sf 0
            have f1 := sf 1
            have f2 := sf 2
            have HI5 := hide hi5
            have HPL := hide (Pl.mono (b := w.heap.size + 2) pl5 (by first | exact lo9 | exact Nat.le_trans lo9 (unhide HB).size))
            clear hi5 pl5 b5
            go_wp2
            refine bodyPost_ret (v := .tuple #[.agg #[.int .i64 u.1.m, .slice a5 u.1.n c5, .bool u.1.ok], .int .i64 u.2]) (by simp [results, Tryd.results38, go_sem, s0, s1, s2]) rfl ?_
            have mv := mov3 w5 (w.heap.size + 1) (.int .i64 u.1.m) (.slice a5 u.1.n c5) (.bool u.1.ok)
            exact ⟨⟨a5, c5, rfl, (unhide HI5).mov ((unhide HPL).apart (unhide HI).2.2.2 (by omega) (by omega)) mv, (unhide HPL).mono (by omega)⟩, bel3 be (by omega) _ _ _⟩
        · go_simp
          obtain ⟨v9a, hv9a⟩ : ∃ x, x = v0a.alloc (.cells #[.int .i64 ya] 3) := ⟨_, rfl⟩
          have b9 : Below v0a.heap.size v0a v9a := by rw [hv9a]; exact (Below.refl _ _).alloc (Nat.le_refl _) _
          have l9 : v0a.heap.size < v9a.heap.size := by rw [hv9a]; simp
          have lz9 : wz.heap.size ≤ v0a.heap.size := (unhide HBa).size
          have HZa : Hid (Ints v9a v0a.heap.size 0 1 (at0 [ya])) := fun i hi => by (obtain rfl : i = 0 := by omega); rw [hv9a]; simp [go_sem, at0]
          have HXa := hide (World.ownsRow.kept (w' := v9a) (unhide HXa) (grown_below b9) (by simp [Value.ownBlock]))
          have nza : v0a.heap.size ≠ Xa := by omega
          have HBa := hide ((unhide HBa).trans (b9.mono (unhide HBa).size))
          replace dy := cell_later b9 dy
          rw [← hv9a]
          obtain ⟨Za, hZa⟩ : ∃ x, x = v0a.heap.size := ⟨_, rfl⟩
          rw [← hZa] at HZa nza ⊢
          have lZa : Za < v9a.heap.size := by omega
          clear hv9a b9 l9 lz9 hZa
          replace lxa : wz.heap.size ≤ Xa ∧ Xa < v9a.heap.size := ⟨lxa.1, (own_cap (unhide HXa)).2⟩
          refine hK.out _ _ ?_ (fun hHeld => ?_)
          · exact dy
          clear hK K
          try simp only [List.getElem_toArray, List.getElem_cons_succ, List.getElem_cons_zero, Act.put, List.setIfInBounds_toArray, List.set_cons_zero, List.set_cons_succ]
          refine wpAnyH_ready (rs := [4]) (by kernel_rfl) (by simp) ?_
          refine AllReadyH.cons rfl (fun K hK => ?_) AllReadyH.nil
          apply step_ints (hT := lsInt) (L := []) (M := List.take q L) (base := wz.heap.size)
          case hgd => rfl
          case ho => rfl
          case hs => rfl
          case hown => exact unhide HXa
          case hbase => exact (unhide HBa).size
          case hx => rfl
          case hM => exact tkL
          case hi => exact fun i hi => (by rw [at0_take hi (by rw [lnL]; omega)]; exact ((unhide HBa).cell (p := ⟨bL, oL + i, none⟩) (wtL i (by omega)).2).trans (wtL i (by omega)).1)
          case hl => omega
          case' h => intro ga ca v4a o4 gr4 at4 lt4
          simp only [Nat.zero_add, List.nil_append] at o4 ⊢
          have HOa := hide o4
          have HBa := hide ((unhide HBa).trans ((mov_of_grown gr4).below lxa.1 (unhide HBa).size))
          replace dy := (mov_of_grown gr4).cell dy (by have := lxa.1; simp only; omega)
          have HZa : Hid (Ints v4a Za 0 1 (at0 [ya])) := fun i hi => (mov_of_grown gr4).cell (unhide HZa i hi) nza
          replace nza : Za ≠ ga := by rcases at4 with e | e <;> omega
          replace lZa : Za < v4a.heap.size := Nat.lt_of_lt_of_le lZa gr4.size
          clear o4 gr4 at4 lt4 HXa lxa
          refine hK.out _ _ ?_ (fun hHeld => ?_)
          · exact dy
          clear hK K
          try simp only [List.getElem_toArray, List.getElem_cons_succ, List.getElem_cons_zero, Act.put, List.setIfInBounds_toArray, List.set_cons_zero, List.set_cons_succ]
          refine wpAnyH_ready (rs := [10]) (by kernel_rfl) (by simp) ?_
          refine AllReadyH.cons rfl (fun K hK => ?_) AllReadyH.nil
          apply step_ints (hT := lsInt) (L := List.take q L) (M := [ya]) (base := wz.heap.size)
          case hgd => rfl
          case ho => rfl
          case hs => rfl
          case hown => exact unhide HOa
          case hbase => exact (unhide HBa).size
          case hx => rfl
          case hM => rfl
          case hi => exact unhide HZa
          case hl => omega
          case' h => intro Ga Ca v10a o10 gr10 at10 lt10
          have lg := own_base (unhide HOa)
          have HRa := hide o10
          have HBa := hide ((unhide HBa).trans ((mov_of_grown gr10).below lg (unhide HBa).size))
          replace dy := (mov_of_grown gr10).cell dy (by simp only; omega)
          clear o10 gr10 at10 lt10 lg HOa HZa nza lZa
          refine hK.out _ _ ?_ (fun hHeld => ?_)
          · exact dy
          clear hK K
          try simp only [List.getElem_toArray, List.getElem_cons_succ, List.getElem_cons_zero, Act.put, List.setIfInBounds_toArray, List.set_cons_zero, List.set_cons_succ]
          refine wpAnyH_ready (rs := [11]) (by kernel_rfl) (by simp) ?_
          refine AllReadyH.cons rfl (fun K hK => ?_) AllReadyH.nil
          go_simp
          refine hK.out _ _ ?_ (fun hHeld => ?_)
          · exact dy
          clear hK K
          try simp only [List.getElem_toArray, List.getElem_cons_succ, List.getElem_cons_zero, Act.put, List.setIfInBounds_toArray, List.set_cons_zero, List.set_cons_succ]
          refine wpAnyH_done (by kernel_rfl) ?_ _
          clear dy
          have lLb : bL < v10a.heap.size := Nat.lt_of_lt_of_le lL (unhide HBa).size
          have dy := ((unhide HBa).cell (p := ⟨bL, oL + q, none⟩) (wtL q (by omega)).2).trans (unhide HYB)
          have wtM2 : ∀ i, i < q + 1 → v10a.cell? ⟨bM, oM + i, none⟩ = some (.int .i64 (at0 M i)) ∧ bM < v10a.heap.size := fun i hi => ⟨((unhide HBa).cell (p := ⟨bM, oM + i, none⟩) (wtM i hi).2).trans (wtM i hi).1, Nat.lt_of_lt_of_le (wtM i hi).2 (unhide HBa).size⟩
          go_wp2
          refine wp_region_held_drew (S := fun w' => w'.cell? ⟨bL, oL + q, none⟩ = some (.int .i64 yb)) (by kernel_rfl) ?_ (fun hHeld => ?_)
          · exact dy
          obtain ⟨wdb, hwdb⟩ : ∃ x, x = v10a.drew := ⟨_, rfl⟩
          have HBb : Hid (Below v10a.heap.size v10a wdb) := by show _; rw [hwdb]; exact (Below.refl _ _).drew
          replace dy : wdb.cell? ⟨bL, oL + q, none⟩ = some (.int .i64 yb) := by rw [hwdb]; exact dy
          rw [← hwdb]
          clear hwdb
          refine wpAnyH_take (i := 1) (v := ?_) rfl (by kernel_rfl) (by kernel_rfl) (by kernel_rfl) (fun _ _ _ h => h) (Or.inl ⟨by rfl, ?_⟩) (by assumption) ?_
          rotate_left
          · (intro w hSw; (try dsimp only at hSw); first | (go_simp; done) | (go_simp; with_reducible rfl))
          try simp only [List.getElem_toArray, List.getElem_cons_succ, List.getElem_cons_zero, Act.put, List.setIfInBounds_toArray, List.set_cons_zero, List.set_cons_succ]
          refine wpAnyH_take (i := 2) (v := ?_) rfl (by kernel_rfl) (by kernel_rfl) (by kernel_rfl) (fun _ _ _ h => h) (Or.inl ⟨by rfl, ?_⟩) (by assumption) ?_
          rotate_left
          · (intro w hSw; (try dsimp only at hSw); first | (go_simp; done) | (go_simp; with_reducible rfl))
          try simp only [List.getElem_toArray, List.getElem_cons_succ, List.getElem_cons_zero, Act.put, List.setIfInBounds_toArray, List.set_cons_zero, List.set_cons_succ]
          refine wpAnyH_take (i := 3) (v := ?_) rfl (by kernel_rfl) (by kernel_rfl) (by kernel_rfl) (fun _ _ _ h => h) (Or.inl ⟨by rfl, ?_⟩) (by assumption) ?_
          rotate_left
          · (intro w hSw; (try dsimp only at hSw); first | (go_simp; done) | (go_simp; with_reducible rfl))
          try simp only [List.getElem_toArray, List.getElem_cons_succ, List.getElem_cons_zero, Act.put, List.setIfInBounds_toArray, List.set_cons_zero, List.set_cons_succ]
          refine wpAnyH_take (i := 5) (v := ?_) rfl (by kernel_rfl) (by kernel_rfl) (by kernel_rfl) (fun _ _ _ h => h) (Or.inl ⟨by rfl, ?_⟩) (by assumption) ?_
          rotate_left
          · (intro w hSw; (try dsimp only at hSw); first | (go_simp; done) | (go_simp; with_reducible rfl))
          try simp only [List.getElem_toArray, List.getElem_cons_succ, List.getElem_cons_zero, Act.put, List.setIfInBounds_toArray, List.set_cons_zero, List.set_cons_succ]
          refine wpAnyH_take (i := 6) (v := ?_) rfl (by kernel_rfl) (by kernel_rfl) (by kernel_rfl) (fun _ _ _ h => h) (Or.inl ⟨by rfl, ?_⟩) (by assumption) ?_
          rotate_left
          · (intro w hSw; (try dsimp only at hSw); first | (go_simp; done) | (go_simp; with_reducible rfl))
          try simp only [List.getElem_toArray, List.getElem_cons_succ, List.getElem_cons_zero, Act.put, List.setIfInBounds_toArray, List.set_cons_zero, List.set_cons_succ]
          refine wpAnyH_take (i := 7) (v := ?_) rfl (by kernel_rfl) (by kernel_rfl) (by kernel_rfl) (fun _ _ _ h => h) (Or.inl ⟨by rfl, ?_⟩) (by assumption) ?_
          rotate_left
          · (intro w hSw; (try dsimp only at hSw); first | (go_simp; done) | (go_simp; with_reducible rfl))
          try simp only [List.getElem_toArray, List.getElem_cons_succ, List.getElem_cons_zero, Act.put, List.setIfInBounds_toArray, List.set_cons_zero, List.set_cons_succ]
          refine wpAnyH_take (i := 8) (v := ?_) rfl (by kernel_rfl) (by kernel_rfl) (by kernel_rfl) (fun _ _ _ h => h) (Or.inl ⟨by rfl, ?_⟩) (by assumption) ?_
          rotate_left
          · (intro w hSw; (try dsimp only at hSw); first | (go_simp; done) | (go_simp; with_reducible rfl))
          try simp only [List.getElem_toArray, List.getElem_cons_succ, List.getElem_cons_zero, Act.put, List.setIfInBounds_toArray, List.set_cons_zero, List.set_cons_succ]
          refine wpAnyH_ready (rs := [0, 9]) (by kernel_rfl) (by simp) ?_
          refine AllReadyH.cons rfl (fun K hK => ?_) (AllReadyH.cons rfl (fun K hK => ?_) AllReadyH.nil)
          · go_simp
            obtain ⟨v0b, hv0b⟩ : ∃ x, x = wdb.alloc (.cells #[] 3) := ⟨_, rfl⟩
            have b0 : Below wdb.heap.size wdb v0b := by rw [hv0b]; exact (Below.refl _ _).alloc (Nat.le_refl _) _
            have l0 : wdb.heap.size < v0b.heap.size := by rw [hv0b]; simp
            have lz0 : v10a.heap.size ≤ wdb.heap.size := (unhide HBb).size
            have HXb : Hid (v0b.ownsRow v10a.heap.size 3 1 (.slice (some ⟨wdb.heap.size, 0, none⟩) 0 0) 0 (icells [])) := by rw [hv0b]; exact own_mono (own_new wdb 3 1) lz0
            have HBb := hide ((unhide HBb).trans (b0.mono (unhide HBb).size))
            replace dy := cell_later b0 dy
            rw [← hv0b]
            obtain ⟨Xb, hXb⟩ : ∃ x, x = wdb.heap.size := ⟨_, rfl⟩
            rw [← hXb] at HXb  ⊢
            have lxb : v10a.heap.size ≤ Xb ∧ Xb < v0b.heap.size := by omega
            clear hv0b b0 l0 lz0 hXb
            refine hK.out _ _ ?_ (fun hHeld => ?_)
            · exact dy
            clear hK K
            try simp only [List.getElem_toArray, List.getElem_cons_succ, List.getElem_cons_zero, Act.put, List.setIfInBounds_toArray, List.set_cons_zero, List.set_cons_succ]
            refine wpAnyH_ready (rs := [4, 9]) (by kernel_rfl) (by simp) ?_
            refine AllReadyH.cons rfl (fun K hK => ?_) (AllReadyH.cons rfl (fun K hK => ?_) AllReadyH.nil)
            · apply step_ints (hT := lsInt) (L := []) (M := List.take q M) (base := v10a.heap.size)
              case hgd => rfl
              case ho => rfl
              case hs => rfl
              case hown => exact unhide HXb
              case hbase => exact (unhide HBb).size
              case hx => rfl
              case hM => exact tkM
              case hi => exact fun i hi => (by rw [at0_take hi (by rw [lnM]; omega)]; exact ((unhide HBb).cell (p := ⟨bM, oM + i, none⟩) (wtM2 i (by omega)).2).trans (wtM2 i (by omega)).1)
              case hl => omega
              case' h => intro gb cb v4b o4 gr4 at4 lt4
              simp only [Nat.zero_add, List.nil_append] at o4 ⊢
              have HOb := hide o4
              have HBb := hide ((unhide HBb).trans ((mov_of_grown gr4).below lxb.1 (unhide HBb).size))
              replace dy := (mov_of_grown gr4).cell dy (by have := lxb.1; simp only; omega)
              clear o4 gr4 at4 lt4 HXb lxb
              refine hK.out _ _ ?_ (fun hHeld => ?_)
              · exact dy
              clear hK K
              try simp only [List.getElem_toArray, List.getElem_cons_succ, List.getElem_cons_zero, Act.put, List.setIfInBounds_toArray, List.set_cons_zero, List.set_cons_succ]
              refine wpAnyH_ready (rs := [9]) (by kernel_rfl) (by simp) ?_
              refine AllReadyH.cons rfl (fun K hK => ?_) AllReadyH.nil
              go_simp
              obtain ⟨v9b, hv9b⟩ : ∃ x, x = v4b.alloc (.cells #[.int .i64 yb] 3) := ⟨_, rfl⟩
              have b9 : Below v4b.heap.size v4b v9b := by rw [hv9b]; exact (Below.refl _ _).alloc (Nat.le_refl _) _
              have l9 : v4b.heap.size < v9b.heap.size := by rw [hv9b]; simp
              have lz9 : v10a.heap.size ≤ v4b.heap.size := (unhide HBb).size
              have HZb : Hid (Ints v9b v4b.heap.size 0 1 (at0 [yb])) := fun i hi => by (obtain rfl : i = 0 := by omega); rw [hv9b]; simp [go_sem, at0]
              have nzb : v4b.heap.size ≠ gb := by have := (own_cap (unhide HOb)).2; omega
              have HOb := hide (World.ownsRow.kept (w' := v9b) (unhide HOb) (grown_below b9) (by simp [Value.ownBlock]))
              have HBb := hide ((unhide HBb).trans (b9.mono (unhide HBb).size))
              replace dy := cell_later b9 dy
              rw [← hv9b]
              obtain ⟨Zb, hZb⟩ : ∃ x, x = v4b.heap.size := ⟨_, rfl⟩
              rw [← hZb] at HZb nzb ⊢
              have lZb : Zb < v9b.heap.size := by omega
              clear hv9b b9 l9 lz9 hZb
              refine hK.out _ _ ?_ (fun hHeld => ?_)
              · exact dy
              clear hK K
              try simp only [List.getElem_toArray, List.getElem_cons_succ, List.getElem_cons_zero, Act.put, List.setIfInBounds_toArray, List.set_cons_zero, List.set_cons_succ]
              refine wpAnyH_ready (rs := [10]) (by kernel_rfl) (by simp) ?_
              refine AllReadyH.cons rfl (fun K hK => ?_) AllReadyH.nil
              apply step_ints (hT := lsInt) (L := List.take q M) (M := [yb]) (base := v10a.heap.size)
              case hgd => rfl
              case ho => rfl
              case hs => rfl
              case hown => exact unhide HOb
              case hbase => exact (unhide HBb).size
              case hx => rfl
              case hM => rfl
              case hi => exact unhide HZb
              case hl => omega
              case' h => intro Gb Cb v10b o10 gr10 at10 lt10
              have lg := own_base (unhide HOb)
              have HRb := hide o10
              have HBb := hide ((unhide HBb).trans ((mov_of_grown gr10).below lg (unhide HBb).size))
              replace dy := (mov_of_grown gr10).cell dy (by simp only; omega)
              clear o10 gr10 at10 lt10 lg HOb HZb nzb lZb
              refine hK.out _ _ ?_ (fun hHeld => ?_)
              · exact dy
              clear hK K
              try simp only [List.getElem_toArray, List.getElem_cons_succ, List.getElem_cons_zero, Act.put, List.setIfInBounds_toArray, List.set_cons_zero, List.set_cons_succ]
              refine wpAnyH_ready (rs := [11]) (by kernel_rfl) (by simp) ?_
              refine AllReadyH.cons rfl (fun K hK => ?_) AllReadyH.nil
              go_simp
              refine hK.out _ _ ?_ (fun hHeld => ?_)
              · exact dy
              clear hK K
              try simp only [List.getElem_toArray, List.getElem_cons_succ, List.getElem_cons_zero, Act.put, List.setIfInBounds_toArray, List.set_cons_zero, List.set_cons_succ]
              refine wpAnyH_done (by kernel_rfl) ?_ _
              clear dy
              have HRa2 := hide (World.ownsRow.kept (w' := v10b) (unhide HRa) (grown_below (unhide HBb)) (by simp [Value.ownBlock]))
              have HB := hide ((unhide HBa).trans ((unhide HBb).mono (unhide HBa).size))
              have hIw := KI.later (unhide H0) (unhide HB)
              obtain ⟨kp0, kp1, kp2⟩ := hIw.k
              have kq0 := hIw.kf 0
              have kq1 := hIw.kf 1
              have kq2 := hIw.kf 2
              have HIW := hide hIw
              clear hIw
              go_wp2_with fail
              clear kp0 kp1 kp2 kq0 kq1 kq2
              have HC := hide (l7Less_any s ad cap (some ⟨Ga, 0, none⟩) (q + 1) Ca (topL L M) (some ⟨Gb, 0, none⟩) Cb (topL M L) v10b (unhide HK) (unhide HIW).i (own_at (by rw [← unhide HTL]; exact unhide HRa2)) (own_at (by rw [← unhide HTM]; exact unhide HRb)) (unhide HGL).1 (unhide HGL).2.1 hl (unhide HGL).2.2.1 (unhide HGL).2.2.2)
              rw [← unhide HU] at HC
              refine (unhide HC).mono ?_
              rintro e w5 ⟨⟨a5, c5, rfl, hi5, pl5⟩, b5⟩
              have hI5 := KI.later (unhide HIW) b5
              obtain ⟨⟨kp0, kp1, kp2⟩, _, _, _, s0, s1, s2, sf, lo, be⟩ := hI5
              have f0 := sf 0
              have f1 := sf 1
              have f2 := sf 2
              have HI5 := hide hi5
              have HPL := hide (Pl.mono (b := w.heap.size + 2) pl5 (by first | exact lo9 | exact Nat.le_trans lo9 (unhide HB).size))
              clear hi5 pl5 b5
              go_wp2
              refine bodyPost_ret (v := .tuple #[.agg #[.int .i64 u.1.m, .slice a5 u.1.n c5, .bool u.1.ok], .int .i64 u.2]) (by simp [results, Tryd.results38, go_sem, s0, s1, s2]) rfl ?_
              have mv := mov3 w5 (w.heap.size + 1) (.int .i64 u.1.m) (.slice a5 u.1.n c5) (.bool u.1.ok)
              exact ⟨⟨a5, c5, rfl, (unhide HI5).mov ((unhide HPL).apart (unhide HI).2.2.2 (by omega) (by omega)) mv, (unhide HPL).mono (by omega)⟩, bel3 be (by omega) _ _ _⟩
            · go_simp
              obtain ⟨v9b, hv9b⟩ : ∃ x, x = v0b.alloc (.cells #[.int .i64 yb] 3) := ⟨_, rfl⟩
              have b9 : Below v0b.heap.size v0b v9b := by rw [hv9b]; exact (Below.refl _ _).alloc (Nat.le_refl _) _
              have l9 : v0b.heap.size < v9b.heap.size := by rw [hv9b]; simp
              have lz9 : v10a.heap.size ≤ v0b.heap.size := (unhide HBb).size
              have HZb : Hid (Ints v9b v0b.heap.size 0 1 (at0 [yb])) := fun i hi => by (obtain rfl : i = 0 := by omega); rw [hv9b]; simp [go_sem, at0]
              have HXb := hide (World.ownsRow.kept (w' := v9b) (unhide HXb) (grown_below b9) (by simp [Value.ownBlock]))
              have nzb : v0b.heap.size ≠ Xb := by omega
              have HBb := hide ((unhide HBb).trans (b9.mono (unhide HBb).size))
              replace dy := cell_later b9 dy
              rw [← hv9b]
              obtain ⟨Zb, hZb⟩ : ∃ x, x = v0b.heap.size := ⟨_, rfl⟩
              rw [← hZb] at HZb nzb ⊢
              have lZb : Zb < v9b.heap.size := by omega
              clear hv9b b9 l9 lz9 hZb
              replace lxb : v10a.heap.size ≤ Xb ∧ Xb < v9b.heap.size := ⟨lxb.1, (own_cap (unhide HXb)).2⟩
              refine hK.out _ _ ?_ (fun hHeld => ?_)
              · exact dy
              clear hK K
              try simp only [List.getElem_toArray, List.getElem_cons_succ, List.getElem_cons_zero, Act.put, List.setIfInBounds_toArray, List.set_cons_zero, List.set_cons_succ]
              refine wpAnyH_ready (rs := [4]) (by kernel_rfl) (by simp) ?_
              refine AllReadyH.cons rfl (fun K hK => ?_) AllReadyH.nil
              apply step_ints (hT := lsInt) (L := []) (M := List.take q M) (base := v10a.heap.size)
              case hgd => rfl
              case ho => rfl
              case hs => rfl
              case hown => exact unhide HXb
              case hbase => exact (unhide HBb).size
              case hx => rfl
              case hM => exact tkM
              case hi => exact fun i hi => (by rw [at0_take hi (by rw [lnM]; omega)]; exact ((unhide HBb).cell (p := ⟨bM, oM + i, none⟩) (wtM2 i (by omega)).2).trans (wtM2 i (by omega)).1)
              case hl => omega
              case' h => intro gb cb v4b o4 gr4 at4 lt4
              simp only [Nat.zero_add, List.nil_append] at o4 ⊢
              have HOb := hide o4
              have HBb := hide ((unhide HBb).trans ((mov_of_grown gr4).below lxb.1 (unhide HBb).size))
              replace dy := (mov_of_grown gr4).cell dy (by have := lxb.1; simp only; omega)
              have HZb : Hid (Ints v4b Zb 0 1 (at0 [yb])) := fun i hi => (mov_of_grown gr4).cell (unhide HZb i hi) nzb
              replace nzb : Zb ≠ gb := by rcases at4 with e | e <;> omega
              replace lZb : Zb < v4b.heap.size := Nat.lt_of_lt_of_le lZb gr4.size
              clear o4 gr4 at4 lt4 HXb lxb
              refine hK.out _ _ ?_ (fun hHeld => ?_)
              · exact dy
              clear hK K
              try simp only [List.getElem_toArray, List.getElem_cons_succ, List.getElem_cons_zero, Act.put, List.setIfInBounds_toArray, List.set_cons_zero, List.set_cons_succ]
              refine wpAnyH_ready (rs := [10]) (by kernel_rfl) (by simp) ?_
              refine AllReadyH.cons rfl (fun K hK => ?_) AllReadyH.nil
              apply step_ints (hT := lsInt) (L := List.take q M) (M := [yb]) (base := v10a.heap.size)
              case hgd => rfl
              case ho => rfl
              case hs => rfl
              case hown => exact unhide HOb
              case hbase => exact (unhide HBb).size
              case hx => rfl
              case hM => rfl
              case hi => exact unhide HZb
              case hl => omega
              case' h => intro Gb Cb v10b o10 gr10 at10 lt10
              have lg := own_base (unhide HOb)
              have HRb := hide o10
              have HBb := hide ((unhide HBb).trans ((mov_of_grown gr10).below lg (unhide HBb).size))
              replace dy := (mov_of_grown gr10).cell dy (by simp only; omega)
              clear o10 gr10 at10 lt10 lg HOb HZb nzb lZb
              refine hK.out _ _ ?_ (fun hHeld => ?_)
              · exact dy
              clear hK K
              try simp only [List.getElem_toArray, List.getElem_cons_succ, List.getElem_cons_zero, Act.put, List.setIfInBounds_toArray, List.set_cons_zero, List.set_cons_succ]
              refine wpAnyH_ready (rs := [11]) (by kernel_rfl) (by simp) ?_
              refine AllReadyH.cons rfl (fun K hK => ?_) AllReadyH.nil
              go_simp
              refine hK.out _ _ ?_ (fun hHeld => ?_)
              · exact dy
              clear hK K
              try simp only [List.getElem_toArray, List.getElem_cons_succ, List.getElem_cons_zero, Act.put, List.setIfInBounds_toArray, List.set_cons_zero, List.set_cons_succ]
              refine wpAnyH_done (by kernel_rfl) ?_ _
              clear dy
              have HRa2 := hide (World.ownsRow.kept (w' := v10b) (unhide HRa) (grown_below (unhide HBb)) (by simp [Value.ownBlock]))
              have HB := hide ((unhide HBa).trans ((unhide HBb).mono (unhide HBa).size))
              have hIw := KI.later (unhide H0) (unhide HB)
              obtain ⟨kp0, kp1, kp2⟩ := hIw.k
              have kq0 := hIw.kf 0
              have kq1 := hIw.kf 1
              have kq2 := hIw.kf 2
              have HIW := hide hIw
              clear hIw
              go_wp2_with fail
              clear kp0 kp1 kp2 kq0 kq1 kq2
              have HC := hide (l7Less_any s ad cap (some ⟨Ga, 0, none⟩) (q + 1) Ca (topL L M) (some ⟨Gb, 0, none⟩) Cb (topL M L) v10b (unhide HK) (unhide HIW).i (own_at (by rw [← unhide HTL]; exact unhide HRa2)) (own_at (by rw [← unhide HTM]; exact unhide HRb)) (unhide HGL).1 (unhide HGL).2.1 hl (unhide HGL).2.2.1 (unhide HGL).2.2.2)
              rw [← unhide HU] at HC
              refine (unhide HC).mono ?_
              rintro e w5 ⟨⟨a5, c5, rfl, hi5, pl5⟩, b5⟩
              have hI5 := KI.later (unhide HIW) b5
              obtain ⟨⟨kp0, kp1, kp2⟩, _, _, _, s0, s1, s2, sf, lo, be⟩ := hI5
              have f0 := sf 0
              have f1 := sf 1
              have f2 := sf 2
              have HI5 := hide hi5
              have HPL := hide (Pl.mono (b := w.heap.size + 2) pl5 (by first | exact lo9 | exact Nat.le_trans lo9 (unhide HB).size))
              clear hi5 pl5 b5
              go_wp2
              refine bodyPost_ret (v := .tuple #[.agg #[.int .i64 u.1.m, .slice a5 u.1.n c5, .bool u.1.ok], .int .i64 u.2]) (by simp [results, Tryd.results38, go_sem, s0, s1, s2]) rfl ?_
              have mv := mov3 w5 (w.heap.size + 1) (.int .i64 u.1.m) (.slice a5 u.1.n c5) (.bool u.1.ok)
              exact ⟨⟨a5, c5, rfl, (unhide HI5).mov ((unhide HPL).apart (unhide HI).2.2.2 (by omega) (by omega)) mv, (unhide HPL).mono (by omega)⟩, bel3 be (by omega) _ _ _⟩
          · go_simp
            obtain ⟨v9b, hv9b⟩ : ∃ x, x = wdb.alloc (.cells #[.int .i64 yb] 3) := ⟨_, rfl⟩
            have b9 : Below wdb.heap.size wdb v9b := by rw [hv9b]; exact (Below.refl _ _).alloc (Nat.le_refl _) _
            have l9 : wdb.heap.size < v9b.heap.size := by rw [hv9b]; simp
            have lz9 : v10a.heap.size ≤ wdb.heap.size := (unhide HBb).size
            have HZb : Hid (Ints v9b wdb.heap.size 0 1 (at0 [yb])) := fun i hi => by (obtain rfl : i = 0 := by omega); rw [hv9b]; simp [go_sem, at0]
            have HBb := hide ((unhide HBb).trans (b9.mono (unhide HBb).size))
            replace dy := cell_later b9 dy
            rw [← hv9b]
            obtain ⟨Zb, hZb⟩ : ∃ x, x = wdb.heap.size := ⟨_, rfl⟩
            rw [← hZb] at HZb  ⊢
            have lZb : Zb < v9b.heap.size := by omega
            clear hv9b b9 l9 lz9 hZb
            refine hK.out _ _ ?_ (fun hHeld => ?_)
            · exact dy
            clear hK K
            try simp only [List.getElem_toArray, List.getElem_cons_succ, List.getElem_cons_zero, Act.put, List.setIfInBounds_toArray, List.set_cons_zero, List.set_cons_succ]
            refine wpAnyH_ready (rs := [0]) (by kernel_rfl) (by simp) ?_
            refine AllReadyH.cons rfl (fun K hK => ?_) AllReadyH.nil
            go_simp
            obtain ⟨v0b, hv0b⟩ : ∃ x, x = v9b.alloc (.cells #[] 3) := ⟨_, rfl⟩
            have b0 : Below v9b.heap.size v9b v0b := by rw [hv0b]; exact (Below.refl _ _).alloc (Nat.le_refl _) _
            have l0 : v9b.heap.size < v0b.heap.size := by rw [hv0b]; simp
            have lz0 : v10a.heap.size ≤ v9b.heap.size := (unhide HBb).size
            have HXb : Hid (v0b.ownsRow v10a.heap.size 3 1 (.slice (some ⟨v9b.heap.size, 0, none⟩) 0 0) 0 (icells [])) := by rw [hv0b]; exact own_mono (own_new v9b 3 1) lz0
            have HZb := hide ((unhide HZb).later b0)
            have nzb : Zb ≠ v9b.heap.size := by omega
            replace lZb : Zb < v0b.heap.size := by omega
            have HBb := hide ((unhide HBb).trans (b0.mono (unhide HBb).size))
            replace dy := cell_later b0 dy
            rw [← hv0b]
            obtain ⟨Xb, hXb⟩ : ∃ x, x = v9b.heap.size := ⟨_, rfl⟩
            rw [← hXb] at HXb nzb ⊢
            have lxb : v10a.heap.size ≤ Xb ∧ Xb < v0b.heap.size := by omega
            clear hv0b b0 l0 lz0 hXb
            refine hK.out _ _ ?_ (fun hHeld => ?_)
            · exact dy
            clear hK K
            try simp only [List.getElem_toArray, List.getElem_cons_succ, List.getElem_cons_zero, Act.put, List.setIfInBounds_toArray, List.set_cons_zero, List.set_cons_succ]
            refine wpAnyH_ready (rs := [4]) (by kernel_rfl) (by simp) ?_
            refine AllReadyH.cons rfl (fun K hK => ?_) AllReadyH.nil
            apply step_ints (hT := lsInt) (L := []) (M := List.take q M) (base := v10a.heap.size)
            case hgd => rfl
            case ho => rfl
            case hs => rfl
            case hown => exact unhide HXb
            case hbase => exact (unhide HBb).size
            case hx => rfl
            case hM => exact tkM
            case hi => exact fun i hi => (by rw [at0_take hi (by rw [lnM]; omega)]; exact ((unhide HBb).cell (p := ⟨bM, oM + i, none⟩) (wtM2 i (by omega)).2).trans (wtM2 i (by omega)).1)
            case hl => omega
            case' h => intro gb cb v4b o4 gr4 at4 lt4
            simp only [Nat.zero_add, List.nil_append] at o4 ⊢
            have HOb := hide o4
            have HBb := hide ((unhide HBb).trans ((mov_of_grown gr4).below lxb.1 (unhide HBb).size))
            replace dy := (mov_of_grown gr4).cell dy (by have := lxb.1; simp only; omega)
            have HZb : Hid (Ints v4b Zb 0 1 (at0 [yb])) := fun i hi => (mov_of_grown gr4).cell (unhide HZb i hi) nzb
            replace nzb : Zb ≠ gb := by rcases at4 with e | e <;> omega
            replace lZb : Zb < v4b.heap.size := Nat.lt_of_lt_of_le lZb gr4.size
            clear o4 gr4 at4 lt4 HXb lxb
            refine hK.out _ _ ?_ (fun hHeld => ?_)
            · exact dy
            clear hK K
            try simp only [List.getElem_toArray, List.getElem_cons_succ, List.getElem_cons_zero, Act.put, List.setIfInBounds_toArray, List.set_cons_zero, List.set_cons_succ]
            refine wpAnyH_ready (rs := [10]) (by kernel_rfl) (by simp) ?_
            refine AllReadyH.cons rfl (fun K hK => ?_) AllReadyH.nil
            apply step_ints (hT := lsInt) (L := List.take q M) (M := [yb]) (base := v10a.heap.size)
            case hgd => rfl
            case ho => rfl
            case hs => rfl
            case hown => exact unhide HOb
            case hbase => exact (unhide HBb).size
            case hx => rfl
            case hM => rfl
            case hi => exact unhide HZb
            case hl => omega
            case' h => intro Gb Cb v10b o10 gr10 at10 lt10
            have lg := own_base (unhide HOb)
            have HRb := hide o10
            have HBb := hide ((unhide HBb).trans ((mov_of_grown gr10).below lg (unhide HBb).size))
            replace dy := (mov_of_grown gr10).cell dy (by simp only; omega)
            clear o10 gr10 at10 lt10 lg HOb HZb nzb lZb
            refine hK.out _ _ ?_ (fun hHeld => ?_)
            · exact dy
            clear hK K
            try simp only [List.getElem_toArray, List.getElem_cons_succ, List.getElem_cons_zero, Act.put, List.setIfInBounds_toArray, List.set_cons_zero, List.set_cons_succ]
            refine wpAnyH_ready (rs := [11]) (by kernel_rfl) (by simp) ?_
            refine AllReadyH.cons rfl (fun K hK => ?_) AllReadyH.nil
            go_simp
            refine hK.out _ _ ?_ (fun hHeld => ?_)
            · exact dy
            clear hK K
            try simp only [List.getElem_toArray, List.getElem_cons_succ, List.getElem_cons_zero, Act.put, List.setIfInBounds_toArray, List.set_cons_zero, List.set_cons_succ]
            refine wpAnyH_done (by kernel_rfl) ?_ _
            clear dy
            have HRa2 := hide (World.ownsRow.kept (w' := v10b) (unhide HRa) (grown_below (unhide HBb)) (by simp [Value.ownBlock]))
            have HB := hide ((unhide HBa).trans ((unhide HBb).mono (unhide HBa).size))
            have hIw := KI.later (unhide H0) (unhide HB)
            obtain ⟨kp0, kp1, kp2⟩ := hIw.k
            have kq0 := hIw.kf 0
            have kq1 := hIw.kf 1
            have kq2 := hIw.kf 2
            have HIW := hide hIw
            clear hIw
            go_wp2_with fail
            clear kp0 kp1 kp2 kq0 kq1 kq2
            have HC := hide (l7Less_any s ad cap (some ⟨Ga, 0, none⟩) (q + 1) Ca (topL L M) (some ⟨Gb, 0, none⟩) Cb (topL M L) v10b (unhide HK) (unhide HIW).i (own_at (by rw [← unhide HTL]; exact unhide HRa2)) (own_at (by rw [← unhide HTM]; exact unhide HRb)) (unhide HGL).1 (unhide HGL).2.1 hl (unhide HGL).2.2.1 (unhide HGL).2.2.2)
            rw [← unhide HU] at HC
            refine (unhide HC).mono ?_
            rintro e w5 ⟨⟨a5, c5, rfl, hi5, pl5⟩, b5⟩
            have hI5 := KI.later (unhide HIW) b5
            obtain ⟨⟨kp0, kp1, kp2⟩, _, _, _, s0, s1, s2, sf, lo, be⟩ := hI5
            have f0 := sf 0
            have f1 := sf 1
            have f2 := sf 2
            have HI5 := hide hi5
            have HPL := hide (Pl.mono (b := w.heap.size + 2) pl5 (by first | exact lo9 | exact Nat.le_trans lo9 (unhide HB).size))
            clear hi5 pl5 b5
            go_wp2
            refine bodyPost_ret (v := .tuple #[.agg #[.int .i64 u.1.m, .slice a5 u.1.n c5, .bool u.1.ok], .int .i64 u.2]) (by simp [results, Tryd.results38, go_sem, s0, s1, s2]) rfl ?_
            have mv := mov3 w5 (w.heap.size + 1) (.int .i64 u.1.m) (.slice a5 u.1.n c5) (.bool u.1.ok)
            exact ⟨⟨a5, c5, rfl, (unhide HI5).mov ((unhide HPL).apart (unhide HI).2.2.2 (by omega) (by omega)) mv, (unhide HPL).mono (by omega)⟩, bel3 be (by omega) _ _ _⟩
      · go_simp
        obtain ⟨v9a, hv9a⟩ : ∃ x, x = wda.alloc (.cells #[.int .i64 ya] 3) := ⟨_, rfl⟩
        have b9 : Below wda.heap.size wda v9a := by rw [hv9a]; exact (Below.refl _ _).alloc (Nat.le_refl _) _
        have l9 : wda.heap.size < v9a.heap.size := by rw [hv9a]; simp
        have lz9 : wz.heap.size ≤ wda.heap.size := (unhide HBa).size
        have HZa : Hid (Ints v9a wda.heap.size 0 1 (at0 [ya])) := fun i hi => by (obtain rfl : i = 0 := by omega); rw [hv9a]; simp [go_sem, at0]
        have HBa := hide ((unhide HBa).trans (b9.mono (unhide HBa).size))
        replace dy := cell_later b9 dy
        rw [← hv9a]
        obtain ⟨Za, hZa⟩ : ∃ x, x = wda.heap.size := ⟨_, rfl⟩
        rw [← hZa] at HZa  ⊢
        have lZa : Za < v9a.heap.size := by omega
        clear hv9a b9 l9 lz9 hZa
        refine hK.out _ _ ?_ (fun hHeld => ?_)
        · exact dy
        clear hK K
        try simp only [List.getElem_toArray, List.getElem_cons_succ, List.getElem_cons_zero, Act.put, List.setIfInBounds_toArray, List.set_cons_zero, List.set_cons_succ]
        refine wpAnyH_ready (rs := [0]) (by kernel_rfl) (by simp) ?_
        refine AllReadyH.cons rfl (fun K hK => ?_) AllReadyH.nil
        go_simp
        obtain ⟨v0a, hv0a⟩ : ∃ x, x = v9a.alloc (.cells #[] 3) := ⟨_, rfl⟩
        have b0 : Below v9a.heap.size v9a v0a := by rw [hv0a]; exact (Below.refl _ _).alloc (Nat.le_refl _) _
        have l0 : v9a.heap.size < v0a.heap.size := by rw [hv0a]; simp
        have lz0 : wz.heap.size ≤ v9a.heap.size := (unhide HBa).size
        have HXa : Hid (v0a.ownsRow wz.heap.size 3 1 (.slice (some ⟨v9a.heap.size, 0, none⟩) 0 0) 0 (icells [])) := by rw [hv0a]; exact own_mono (own_new v9a 3 1) lz0
        have HZa := hide ((unhide HZa).later b0)
        have nza : Za ≠ v9a.heap.size := by omega
        replace lZa : Za < v0a.heap.size := by omega
        have HBa := hide ((unhide HBa).trans (b0.mono (unhide HBa).size))
        replace dy := cell_later b0 dy
        rw [← hv0a]
        obtain ⟨Xa, hXa⟩ : ∃ x, x = v9a.heap.size := ⟨_, rfl⟩
        rw [← hXa] at HXa nza ⊢
        have lxa : wz.heap.size ≤ Xa ∧ Xa < v0a.heap.size := by omega
        clear hv0a b0 l0 lz0 hXa
        refine hK.out _ _ ?_ (fun hHeld => ?_)
        · exact dy
        clear hK K
        try simp only [List.getElem_toArray, List.getElem_cons_succ, List.getElem_cons_zero, Act.put, List.setIfInBounds_toArray, List.set_cons_zero, List.set_cons_succ]
        refine wpAnyH_ready (rs := [4]) (by kernel_rfl) (by simp) ?_
        refine AllReadyH.cons rfl (fun K hK => ?_) AllReadyH.nil
        apply step_ints (hT := lsInt) (L := []) (M := List.take q L) (base := wz.heap.size)
        case hgd => rfl
        case ho => rfl
        case hs => rfl
        case hown => exact unhide HXa
        case hbase => exact (unhide HBa).size
        case hx => rfl
        case hM => exact tkL
        case hi => exact fun i hi => (by rw [at0_take hi (by rw [lnL]; omega)]; exact ((unhide HBa).cell (p := ⟨bL, oL + i, none⟩) (wtL i (by omega)).2).trans (wtL i (by omega)).1)
        case hl => omega
        case' h => intro ga ca v4a o4 gr4 at4 lt4
        simp only [Nat.zero_add, List.nil_append] at o4 ⊢
        have HOa := hide o4
        have HBa := hide ((unhide HBa).trans ((mov_of_grown gr4).below lxa.1 (unhide HBa).size))
        replace dy := (mov_of_grown gr4).cell dy (by have := lxa.1; simp only; omega)
        have HZa : Hid (Ints v4a Za 0 1 (at0 [ya])) := fun i hi => (mov_of_grown gr4).cell (unhide HZa i hi) nza
        replace nza : Za ≠ ga := by rcases at4 with e | e <;> omega
        replace lZa : Za < v4a.heap.size := Nat.lt_of_lt_of_le lZa gr4.size
        clear o4 gr4 at4 lt4 HXa lxa
        refine hK.out _ _ ?_ (fun hHeld => ?_)
        · exact dy
        clear hK K
        try simp only [List.getElem_toArray, List.getElem_cons_succ, List.getElem_cons_zero, Act.put, List.setIfInBounds_toArray, List.set_cons_zero, List.set_cons_succ]
        refine wpAnyH_ready (rs := [10]) (by kernel_rfl) (by simp) ?_
        refine AllReadyH.cons rfl (fun K hK => ?_) AllReadyH.nil
        apply step_ints (hT := lsInt) (L := List.take q L) (M := [ya]) (base := wz.heap.size)
        case hgd => rfl
        case ho => rfl
        case hs => rfl
        case hown => exact unhide HOa
        case hbase => exact (unhide HBa).size
        case hx => rfl
        case hM => rfl
        case hi => exact unhide HZa
        case hl => omega
        case' h => intro Ga Ca v10a o10 gr10 at10 lt10
        have lg := own_base (unhide HOa)
        have HRa := hide o10
        have HBa := hide ((unhide HBa).trans ((mov_of_grown gr10).below lg (unhide HBa).size))
        replace dy := (mov_of_grown gr10).cell dy (by simp only; omega)
        clear o10 gr10 at10 lt10 lg HOa HZa nza lZa
        refine hK.out _ _ ?_ (fun hHeld => ?_)
        · exact dy
        clear hK K
        try simp only [List.getElem_toArray, List.getElem_cons_succ, List.getElem_cons_zero, Act.put, List.setIfInBounds_toArray, List.set_cons_zero, List.set_cons_succ]
        refine wpAnyH_ready (rs := [11]) (by kernel_rfl) (by simp) ?_
        refine AllReadyH.cons rfl (fun K hK => ?_) AllReadyH.nil
        go_simp
        refine hK.out _ _ ?_ (fun hHeld => ?_)
        · exact dy
        clear hK K
        try simp only [List.getElem_toArray, List.getElem_cons_succ, List.getElem_cons_zero, Act.put, List.setIfInBounds_toArray, List.set_cons_zero, List.set_cons_succ]
        refine wpAnyH_done (by kernel_rfl) ?_ _
        clear dy
        have lLb : bL < v10a.heap.size := Nat.lt_of_lt_of_le lL (unhide HBa).size
        have dy := ((unhide HBa).cell (p := ⟨bL, oL + q, none⟩) (wtL q (by omega)).2).trans (unhide HYB)
        have wtM2 : ∀ i, i < q + 1 → v10a.cell? ⟨bM, oM + i, none⟩ = some (.int .i64 (at0 M i)) ∧ bM < v10a.heap.size := fun i hi => ⟨((unhide HBa).cell (p := ⟨bM, oM + i, none⟩) (wtM i hi).2).trans (wtM i hi).1, Nat.lt_of_lt_of_le (wtM i hi).2 (unhide HBa).size⟩
        go_wp2
        refine wp_region_held_drew (S := fun w' => w'.cell? ⟨bL, oL + q, none⟩ = some (.int .i64 yb)) (by kernel_rfl) ?_ (fun hHeld => ?_)
        · exact dy
        obtain ⟨wdb, hwdb⟩ : ∃ x, x = v10a.drew := ⟨_, rfl⟩
        have HBb : Hid (Below v10a.heap.size v10a wdb) := by show _; rw [hwdb]; exact (Below.refl _ _).drew
        replace dy : wdb.cell? ⟨bL, oL + q, none⟩ = some (.int .i64 yb) := by rw [hwdb]; exact dy
        rw [← hwdb]
        clear hwdb
        refine wpAnyH_take (i := 1) (v := ?_) rfl (by kernel_rfl) (by kernel_rfl) (by kernel_rfl) (fun _ _ _ h => h) (Or.inl ⟨by rfl, ?_⟩) (by assumption) ?_
        rotate_left
        · (intro w hSw; (try dsimp only at hSw); first | (go_simp; done) | (go_simp; with_reducible rfl))
        try simp only [List.getElem_toArray, List.getElem_cons_succ, List.getElem_cons_zero, Act.put, List.setIfInBounds_toArray, List.set_cons_zero, List.set_cons_succ]
        refine wpAnyH_take (i := 2) (v := ?_) rfl (by kernel_rfl) (by kernel_rfl) (by kernel_rfl) (fun _ _ _ h => h) (Or.inl ⟨by rfl, ?_⟩) (by assumption) ?_
        rotate_left
        · (intro w hSw; (try dsimp only at hSw); first | (go_simp; done) | (go_simp; with_reducible rfl))
        try simp only [List.getElem_toArray, List.getElem_cons_succ, List.getElem_cons_zero, Act.put, List.setIfInBounds_toArray, List.set_cons_zero, List.set_cons_succ]
        refine wpAnyH_take (i := 3) (v := ?_) rfl (by kernel_rfl) (by kernel_rfl) (by kernel_rfl) (fun _ _ _ h => h) (Or.inl ⟨by rfl, ?_⟩) (by assumption) ?_
        rotate_left
        · (intro w hSw; (try dsimp only at hSw); first | (go_simp; done) | (go_simp; with_reducible rfl))
        try simp only [List.getElem_toArray, List.getElem_cons_succ, List.getElem_cons_zero, Act.put, List.setIfInBounds_toArray, List.set_cons_zero, List.set_cons_succ]
        refine wpAnyH_take (i := 5) (v := ?_) rfl (by kernel_rfl) (by kernel_rfl) (by kernel_rfl) (fun _ _ _ h => h) (Or.inl ⟨by rfl, ?_⟩) (by assumption) ?_
        rotate_left
        · (intro w hSw; (try dsimp only at hSw); first | (go_simp; done) | (go_simp; with_reducible rfl))
        try simp only [List.getElem_toArray, List.getElem_cons_succ, List.getElem_cons_zero, Act.put, List.setIfInBounds_toArray, List.set_cons_zero, List.set_cons_succ]
        refine wpAnyH_take (i := 6) (v := ?_) rfl (by kernel_rfl) (by kernel_rfl) (by kernel_rfl) (fun _ _ _ h => h) (Or.inl ⟨by rfl, ?_⟩) (by assumption) ?_
        rotate_left
        · (intro w hSw; (try dsimp only at hSw); first | (go_simp; done) | (go_simp; with_reducible rfl))
        try simp only [List.getElem_toArray, List.getElem_cons_succ, List.getElem_cons_zero, Act.put, List.setIfInBounds_toArray, List.set_cons_zero, List.set_cons_succ]
        refine wpAnyH_take (i := 7) (v := ?_) rfl (by kernel_rfl) (by kernel_rfl) (by kernel_rfl) (fun _ _ _ h => h) (Or.inl ⟨by rfl, ?_⟩) (by assumption) ?_
        rotate_left
        · (intro w hSw; (try dsimp only at hSw); first | (go_simp; done) | (go_simp; with_reducible rfl))
        try simp only [List.getElem_toArray, List.getElem_cons_succ, List.getElem_cons_zero, Act.put, List.setIfInBounds_toArray, List.set_cons_zero, List.set_cons_succ]
        refine wpAnyH_take (i := 8) (v := ?_) rfl (by kernel_rfl) (by kernel_rfl) (by kernel_rfl) (fun _ _ _ h => h) (Or.inl ⟨by rfl, ?_⟩) (by assumption) ?_
        rotate_left
        · (intro w hSw; (try dsimp only at hSw); first | (go_simp; done) | (go_simp; with_reducible rfl))
        try simp only [List.getElem_toArray, List.getElem_cons_succ, List.getElem_cons_zero, Act.put, List.setIfInBounds_toArray, List.set_cons_zero, List.set_cons_succ]
        refine wpAnyH_ready (rs := [0, 9]) (by kernel_rfl) (by simp) ?_
        refine AllReadyH.cons rfl (fun K hK => ?_) (AllReadyH.cons rfl (fun K hK => ?_) AllReadyH.nil)
        · go_simp
          obtain ⟨v0b, hv0b⟩ : ∃ x, x = wdb.alloc (.cells #[] 3) := ⟨_, rfl⟩
          have b0 : Below wdb.heap.size wdb v0b := by rw [hv0b]; exact (Below.refl _ _).alloc (Nat.le_refl _) _
          have l0 : wdb.heap.size < v0b.heap.size := by rw [hv0b]; simp
          have lz0 : v10a.heap.size ≤ wdb.heap.size := (unhide HBb).size
          have HXb : Hid (v0b.ownsRow v10a.heap.size 3 1 (.slice (some ⟨wdb.heap.size, 0, none⟩) 0 0) 0 (icells [])) := by rw [hv0b]; exact own_mono (own_new wdb 3 1) lz0
          have HBb := hide ((unhide HBb).trans (b0.mono (unhide HBb).size))
          replace dy := cell_later b0 dy
          rw [← hv0b]
          obtain ⟨Xb, hXb⟩ : ∃ x, x = wdb.heap.size := ⟨_, rfl⟩
          rw [← hXb] at HXb  ⊢
          have lxb : v10a.heap.size ≤ Xb ∧ Xb < v0b.heap.size := by omega
          clear hv0b b0 l0 lz0 hXb
          refine hK.out _ _ ?_ (fun hHeld => ?_)
          · exact dy
          clear hK K
          try simp only [List.getElem_toArray, List.getElem_cons_succ, List.getElem_cons_zero, Act.put, List.setIfInBounds_toArray, List.set_cons_zero, List.set_cons_succ]
          refine wpAnyH_ready (rs := [4, 9]) (by kernel_rfl) (by simp) ?_
          refine AllReadyH.cons rfl (fun K hK => ?_) (AllReadyH.cons rfl (fun K hK => ?_) AllReadyH.nil)
          · apply step_ints (hT := lsInt) (L := []) (M := List.take q M) (base := v10a.heap.size)
            case hgd => rfl
            case ho => rfl
            case hs => rfl
            case hown => exact unhide HXb
            case hbase => exact (unhide HBb).size
            case hx => rfl
            case hM => exact tkM
            case hi => exact fun i hi => (by rw [at0_take hi (by rw [lnM]; omega)]; exact ((unhide HBb).cell (p := ⟨bM, oM + i, none⟩) (wtM2 i (by omega)).2).trans (wtM2 i (by omega)).1)
            case hl => omega
            case' h => intro gb cb v4b o4 gr4 at4 lt4
            simp only [Nat.zero_add, List.nil_append] at o4 ⊢
            have HOb := hide o4
            have HBb := hide ((unhide HBb).trans ((mov_of_grown gr4).below lxb.1 (unhide HBb).size))
            replace dy := (mov_of_grown gr4).cell dy (by have := lxb.1; simp only; omega)
            clear o4 gr4 at4 lt4 HXb lxb
            refine hK.out _ _ ?_ (fun hHeld => ?_)
            · exact dy
            clear hK K
            try simp only [List.getElem_toArray, List.getElem_cons_succ, List.getElem_cons_zero, Act.put, List.setIfInBounds_toArray, List.set_cons_zero, List.set_cons_succ]
            refine wpAnyH_ready (rs := [9]) (by kernel_rfl) (by simp) ?_
            refine AllReadyH.cons rfl (fun K hK => ?_) AllReadyH.nil
            go_simp
            obtain ⟨v9b, hv9b⟩ : ∃ x, x = v4b.alloc (.cells #[.int .i64 yb] 3) := ⟨_, rfl⟩
            have b9 : Below v4b.heap.size v4b v9b := by rw [hv9b]; exact (Below.refl _ _).alloc (Nat.le_refl _) _
            have l9 : v4b.heap.size < v9b.heap.size := by rw [hv9b]; simp
            have lz9 : v10a.heap.size ≤ v4b.heap.size := (unhide HBb).size
            have HZb : Hid (Ints v9b v4b.heap.size 0 1 (at0 [yb])) := fun i hi => by (obtain rfl : i = 0 := by omega); rw [hv9b]; simp [go_sem, at0]
            have nzb : v4b.heap.size ≠ gb := by have := (own_cap (unhide HOb)).2; omega
            have HOb := hide (World.ownsRow.kept (w' := v9b) (unhide HOb) (grown_below b9) (by simp [Value.ownBlock]))
            have HBb := hide ((unhide HBb).trans (b9.mono (unhide HBb).size))
            replace dy := cell_later b9 dy
            rw [← hv9b]
            obtain ⟨Zb, hZb⟩ : ∃ x, x = v4b.heap.size := ⟨_, rfl⟩
            rw [← hZb] at HZb nzb ⊢
            have lZb : Zb < v9b.heap.size := by omega
            clear hv9b b9 l9 lz9 hZb
            refine hK.out _ _ ?_ (fun hHeld => ?_)
            · exact dy
            clear hK K
            try simp only [List.getElem_toArray, List.getElem_cons_succ, List.getElem_cons_zero, Act.put, List.setIfInBounds_toArray, List.set_cons_zero, List.set_cons_succ]
            refine wpAnyH_ready (rs := [10]) (by kernel_rfl) (by simp) ?_
            refine AllReadyH.cons rfl (fun K hK => ?_) AllReadyH.nil
            apply step_ints (hT := lsInt) (L := List.take q M) (M := [yb]) (base := v10a.heap.size)
            case hgd => rfl
            case ho => rfl
            case hs => rfl
            case hown => exact unhide HOb
            case hbase => exact (unhide HBb).size
            case hx => rfl
            case hM => rfl
            case hi => exact unhide HZb
            case hl => omega
            case' h => intro Gb Cb v10b o10 gr10 at10 lt10
            have lg := own_base (unhide HOb)
            have HRb := hide o10
            have HBb := hide ((unhide HBb).trans ((mov_of_grown gr10).below lg (unhide HBb).size))
            replace dy := (mov_of_grown gr10).cell dy (by simp only; omega)
            clear o10 gr10 at10 lt10 lg HOb HZb nzb lZb
            refine hK.out _ _ ?_ (fun hHeld => ?_)
            · exact dy
            clear hK K
            try simp only [List.getElem_toArray, List.getElem_cons_succ, List.getElem_cons_zero, Act.put, List.setIfInBounds_toArray, List.set_cons_zero, List.set_cons_succ]
            refine wpAnyH_ready (rs := [11]) (by kernel_rfl) (by simp) ?_
            refine AllReadyH.cons rfl (fun K hK => ?_) AllReadyH.nil
            go_simp
            refine hK.out _ _ ?_ (fun hHeld => ?_)
            · exact dy
            clear hK K
            try simp only [List.getElem_toArray, List.getElem_cons_succ, List.getElem_cons_zero, Act.put, List.setIfInBounds_toArray, List.set_cons_zero, List.set_cons_succ]
            refine wpAnyH_done (by kernel_rfl) ?_ _
            clear dy
            have HRa2 := hide (World.ownsRow.kept (w' := v10b) (unhide HRa) (grown_below (unhide HBb)) (by simp [Value.ownBlock]))
            have HB := hide ((unhide HBa).trans ((unhide HBb).mono (unhide HBa).size))
            have hIw := KI.later (unhide H0) (unhide HB)
            obtain ⟨kp0, kp1, kp2⟩ := hIw.k
            have kq0 := hIw.kf 0
            have kq1 := hIw.kf 1
            have kq2 := hIw.kf 2
            have HIW := hide hIw
            clear hIw
            go_wp2_with fail
            clear kp0 kp1 kp2 kq0 kq1 kq2
            have HC := hide (l7Less_any s ad cap (some ⟨Ga, 0, none⟩) (q + 1) Ca (topL L M) (some ⟨Gb, 0, none⟩) Cb (topL M L) v10b (unhide HK) (unhide HIW).i (own_at (by rw [← unhide HTL]; exact unhide HRa2)) (own_at (by rw [← unhide HTM]; exact unhide HRb)) (unhide HGL).1 (unhide HGL).2.1 hl (unhide HGL).2.2.1 (unhide HGL).2.2.2)
            rw [← unhide HU] at HC
            refine (unhide HC).mono ?_
            rintro e w5 ⟨⟨a5, c5, rfl, hi5, pl5⟩, b5⟩
            have hI5 := KI.later (unhide HIW) b5
            obtain ⟨⟨kp0, kp1, kp2⟩, _, _, _, s0, s1, s2, sf, lo, be⟩ := hI5
            have f0 := sf 0
            have f1 := sf 1
            have f2 := sf 2
            have HI5 := hide hi5
            have HPL := hide (Pl.mono (b := w.heap.size + 2) pl5 (by first | exact lo9 | exact Nat.le_trans lo9 (unhide HB).size))
            clear hi5 pl5 b5
            go_wp2
            refine bodyPost_ret (v := .tuple #[.agg #[.int .i64 u.1.m, .slice a5 u.1.n c5, .bool u.1.ok], .int .i64 u.2]) (by simp [results, Tryd.results38, go_sem, s0, s1, s2]) rfl ?_
            have mv := mov3 w5 (w.heap.size + 1) (.int .i64 u.1.m) (.slice a5 u.1.n c5) (.bool u.1.ok)
            exact ⟨⟨a5, c5, rfl, (unhide HI5).mov ((unhide HPL).apart (unhide HI).2.2.2 (by omega) (by omega)) mv, (unhide HPL).mono (by omega)⟩, bel3 be (by omega) _ _ _⟩
          · go_simp
            obtain ⟨v9b, hv9b⟩ : ∃ x, x = v0b.alloc (.cells #[.int .i64 yb] 3) := ⟨_, rfl⟩
            have b9 : Below v0b.heap.size v0b v9b := by rw [hv9b]; exact (Below.refl _ _).alloc (Nat.le_refl _) _
            have l9 : v0b.heap.size < v9b.heap.size := by rw [hv9b]; simp
            have lz9 : v10a.heap.size ≤ v0b.heap.size := (unhide HBb).size
            have HZb : Hid (Ints v9b v0b.heap.size 0 1 (at0 [yb])) := fun i hi => by (obtain rfl : i = 0 := by omega); rw [hv9b]; simp [go_sem, at0]
            have HXb := hide (World.ownsRow.kept (w' := v9b) (unhide HXb) (grown_below b9) (by simp [Value.ownBlock]))
            have nzb : v0b.heap.size ≠ Xb := by omega
            have HBb := hide ((unhide HBb).trans (b9.mono (unhide HBb).size))
            replace dy := cell_later b9 dy
            rw [← hv9b]
            obtain ⟨Zb, hZb⟩ : ∃ x, x = v0b.heap.size := ⟨_, rfl⟩
            rw [← hZb] at HZb nzb ⊢
            have lZb : Zb < v9b.heap.size := by omega
            clear hv9b b9 l9 lz9 hZb
            replace lxb : v10a.heap.size ≤ Xb ∧ Xb < v9b.heap.size := ⟨lxb.1, (own_cap (unhide HXb)).2⟩
            refine hK.out _ _ ?_ (fun hHeld => ?_)
            · exact dy
            clear hK K
            try simp only [List.getElem_toArray, List.getElem_cons_succ, List.getElem_cons_zero, Act.put, List.setIfInBounds_toArray, List.set_cons_zero, List.set_cons_succ]
            refine wpAnyH_ready (rs := [4]) (by kernel_rfl) (by simp) ?_
            refine AllReadyH.cons rfl (fun K hK => ?_) AllReadyH.nil
            apply step_ints (hT := lsInt) (L := []) (M := List.take q M) (base := v10a.heap.size)
            case hgd => rfl
            case ho => rfl
            case hs => rfl
            case hown => exact unhide HXb
            case hbase => exact (unhide HBb).size
            case hx => rfl
            case hM => exact tkM
            case hi => exact fun i hi => (by rw [at0_take hi (by rw [lnM]; omega)]; exact ((unhide HBb).cell (p := ⟨bM, oM + i, none⟩) (wtM2 i (by omega)).2).trans (wtM2 i (by omega)).1)
            case hl => omega
            case' h => intro gb cb v4b o4 gr4 at4 lt4
            simp only [Nat.zero_add, List.nil_append] at o4 ⊢
            have HOb := hide o4
            have HBb := hide ((unhide HBb).trans ((mov_of_grown gr4).below lxb.1 (unhide HBb).size))
            replace dy := (mov_of_grown gr4).cell dy (by have := lxb.1; simp only; omega)
            have HZb : Hid (Ints v4b Zb 0 1 (at0 [yb])) := fun i hi => (mov_of_grown gr4).cell (unhide HZb i hi) nzb
            replace nzb : Zb ≠ gb := by rcases at4 with e | e <;> omega
            replace lZb : Zb < v4b.heap.size := Nat.lt_of_lt_of_le lZb gr4.size
            clear o4 gr4 at4 lt4 HXb lxb
            refine hK.out _ _ ?_ (fun hHeld => ?_)
            · exact dy
            clear hK K
            try simp only [List.getElem_toArray, List.getElem_cons_succ, List.getElem_cons_zero, Act.put, List.setIfInBounds_toArray, List.set_cons_zero, List.set_cons_succ]
            refine wpAnyH_ready (rs := [10]) (by kernel_rfl) (by simp) ?_
            refine AllReadyH.cons rfl (fun K hK => ?_) AllReadyH.nil
            apply step_ints (hT := lsInt) (L := List.take q M) (M := [yb]) (base := v10a.heap.size)
            case hgd => rfl
            case ho => rfl
            case hs => rfl
            case hown => exact unhide HOb
            case hbase => exact (unhide HBb).size
            case hx => rfl
            case hM => rfl
            case hi => exact unhide HZb
            case hl => omega
            case' h => intro Gb Cb v10b o10 gr10 at10 lt10
            have lg := own_base (unhide HOb)
            have HRb := hide o10
            have HBb := hide ((unhide HBb).trans ((mov_of_grown gr10).below lg (unhide HBb).size))
            replace dy := (mov_of_grown gr10).cell dy (by simp only; omega)
            clear o10 gr10 at10 lt10 lg HOb HZb nzb lZb
            refine hK.out _ _ ?_ (fun hHeld => ?_)
            · exact dy
            clear hK K
            try simp only [List.getElem_toArray, List.getElem_cons_succ, List.getElem_cons_zero, Act.put, List.setIfInBounds_toArray, List.set_cons_zero, List.set_cons_succ]
            refine wpAnyH_ready (rs := [11]) (by kernel_rfl) (by simp) ?_
            refine AllReadyH.cons rfl (fun K hK => ?_) AllReadyH.nil
            go_simp
            refine hK.out _ _ ?_ (fun hHeld => ?_)
            · exact dy
            clear hK K
            try simp only [List.getElem_toArray, List.getElem_cons_succ, List.getElem_cons_zero, Act.put, List.setIfInBounds_toArray, List.set_cons_zero, List.set_cons_succ]
            refine wpAnyH_done (by kernel_rfl) ?_ _
            clear dy
            have HRa2 := hide (World.ownsRow.kept (w' := v10b) (unhide HRa) (grown_below (unhide HBb)) (by simp [Value.ownBlock]))
            have HB := hide ((unhide HBa).trans ((unhide HBb).mono (unhide HBa).size))
            have hIw := KI.later (unhide H0) (unhide HB)
            obtain ⟨kp0, kp1, kp2⟩ := hIw.k
            have kq0 := hIw.kf 0
            have kq1 := hIw.kf 1
            have kq2 := hIw.kf 2
            have HIW := hide hIw
            clear hIw
            go_wp2_with fail
            clear kp0 kp1 kp2 kq0 kq1 kq2
            have HC := hide (l7Less_any s ad cap (some ⟨Ga, 0, none⟩) (q + 1) Ca (topL L M) (some ⟨Gb, 0, none⟩) Cb (topL M L) v10b (unhide HK) (unhide HIW).i (own_at (by rw [← unhide HTL]; exact unhide HRa2)) (own_at (by rw [← unhide HTM]; exact unhide HRb)) (unhide HGL).1 (unhide HGL).2.1 hl (unhide HGL).2.2.1 (unhide HGL).2.2.2)
            rw [← unhide HU] at HC
            refine (unhide HC).mono ?_
            rintro e w5 ⟨⟨a5, c5, rfl, hi5, pl5⟩, b5⟩
            have hI5 := KI.later (unhide HIW) b5
            obtain ⟨⟨kp0, kp1, kp2⟩, _, _, _, s0, s1, s2, sf, lo, be⟩ := hI5
            have f0 := sf 0
            have f1 := sf 1
            have f2 := sf 2
            have HI5 := hide hi5
            have HPL := hide (Pl.mono (b := w.heap.size + 2) pl5 (by first | exact lo9 | exact Nat.le_trans lo9 (unhide HB).size))
            clear hi5 pl5 b5
            go_wp2
            refine bodyPost_ret (v := .tuple #[.agg #[.int .i64 u.1.m, .slice a5 u.1.n c5, .bool u.1.ok], .int .i64 u.2]) (by simp [results, Tryd.results38, go_sem, s0, s1, s2]) rfl ?_
            have mv := mov3 w5 (w.heap.size + 1) (.int .i64 u.1.m) (.slice a5 u.1.n c5) (.bool u.1.ok)
            exact ⟨⟨a5, c5, rfl, (unhide HI5).mov ((unhide HPL).apart (unhide HI).2.2.2 (by omega) (by omega)) mv, (unhide HPL).mono (by omega)⟩, bel3 be (by omega) _ _ _⟩
        · go_simp
          obtain ⟨v9b, hv9b⟩ : ∃ x, x = wdb.alloc (.cells #[.int .i64 yb] 3) := ⟨_, rfl⟩
          have b9 : Below wdb.heap.size wdb v9b := by rw [hv9b]; exact (Below.refl _ _).alloc (Nat.le_refl _) _
          have l9 : wdb.heap.size < v9b.heap.size := by rw [hv9b]; simp
          have lz9 : v10a.heap.size ≤ wdb.heap.size := (unhide HBb).size
          have HZb : Hid (Ints v9b wdb.heap.size 0 1 (at0 [yb])) := fun i hi => by (obtain rfl : i = 0 := by omega); rw [hv9b]; simp [go_sem, at0]
          have HBb := hide ((unhide HBb).trans (b9.mono (unhide HBb).size))
          replace dy := cell_later b9 dy
          rw [← hv9b]
          obtain ⟨Zb, hZb⟩ : ∃ x, x = wdb.heap.size := ⟨_, rfl⟩
          rw [← hZb] at HZb  ⊢
          have lZb : Zb < v9b.heap.size := by omega
          clear hv9b b9 l9 lz9 hZb
          refine hK.out _ _ ?_ (fun hHeld => ?_)
          · exact dy
          clear hK K
          try simp only [List.getElem_toArray, List.getElem_cons_succ, List.getElem_cons_zero, Act.put, List.setIfInBounds_toArray, List.set_cons_zero, List.set_cons_succ]
          refine wpAnyH_ready (rs := [0]) (by kernel_rfl) (by simp) ?_
          refine AllReadyH.cons rfl (fun K hK => ?_) AllReadyH.nil
          go_simp
          obtain ⟨v0b, hv0b⟩ : ∃ x, x = v9b.alloc (.cells #[] 3) := ⟨_, rfl⟩
          have b0 : Below v9b.heap.size v9b v0b := by rw [hv0b]; exact (Below.refl _ _).alloc (Nat.le_refl _) _
          have l0 : v9b.heap.size < v0b.heap.size := by rw [hv0b]; simp
          have lz0 : v10a.heap.size ≤ v9b.heap.size := (unhide HBb).size
          have HXb : Hid (v0b.ownsRow v10a.heap.size 3 1 (.slice (some ⟨v9b.heap.size, 0, none⟩) 0 0) 0 (icells [])) := by rw [hv0b]; exact own_mono (own_new v9b 3 1) lz0
          have HZb := hide ((unhide HZb).later b0)
          have nzb : Zb ≠ v9b.heap.size := by omega
          replace lZb : Zb < v0b.heap.size := by omega
          have HBb := hide ((unhide HBb).trans (b0.mono (unhide HBb).size))
          replace dy := cell_later b0 dy
          rw [← hv0b]
          obtain ⟨Xb, hXb⟩ : ∃ x, x = v9b.heap.size := ⟨_, rfl⟩
          rw [← hXb] at HXb nzb ⊢
          have lxb : v10a.heap.size ≤ Xb ∧ Xb < v0b.heap.size := by omega
          clear hv0b b0 l0 lz0 hXb
          refine hK.out _ _ ?_ (fun hHeld => ?_)
          · exact dy
          clear hK K
          try simp only [List.getElem_toArray, List.getElem_cons_succ, List.getElem_cons_zero, Act.put, List.setIfInBounds_toArray, List.set_cons_zero, List.set_cons_succ]
          refine wpAnyH_ready (rs := [4]) (by kernel_rfl) (by simp) ?_
          refine AllReadyH.cons rfl (fun K hK => ?_) AllReadyH.nil
          apply step_ints (hT := lsInt) (L := []) (M := List.take q M) (base := v10a.heap.size)
          case hgd => rfl
          case ho => rfl
          case hs => rfl
          case hown => exact unhide HXb
          case hbase => exact (unhide HBb).size
          case hx => rfl
          case hM => exact tkM
          case hi => exact fun i hi => (by rw [at0_take hi (by rw [lnM]; omega)]; exact ((unhide HBb).cell (p := ⟨bM, oM + i, none⟩) (wtM2 i (by omega)).2).trans (wtM2 i (by omega)).1)
          case hl => omega
          case' h => intro gb cb v4b o4 gr4 at4 lt4
          simp only [Nat.zero_add, List.nil_append] at o4 ⊢
          have HOb := hide o4
          have HBb := hide ((unhide HBb).trans ((mov_of_grown gr4).below lxb.1 (unhide HBb).size))
          replace dy := (mov_of_grown gr4).cell dy (by have := lxb.1; simp only; omega)
          have HZb : Hid (Ints v4b Zb 0 1 (at0 [yb])) := fun i hi => (mov_of_grown gr4).cell (unhide HZb i hi) nzb
          replace nzb : Zb ≠ gb := by rcases at4 with e | e <;> omega
          replace lZb : Zb < v4b.heap.size := Nat.lt_of_lt_of_le lZb gr4.size
          clear o4 gr4 at4 lt4 HXb lxb
          refine hK.out _ _ ?_ (fun hHeld => ?_)
          · exact dy
          clear hK K
          try simp only [List.getElem_toArray, List.getElem_cons_succ, List.getElem_cons_zero, Act.put, List.setIfInBounds_toArray, List.set_cons_zero, List.set_cons_succ]
          refine wpAnyH_ready (rs := [10]) (by kernel_rfl) (by simp) ?_
          refine AllReadyH.cons rfl (fun K hK => ?_) AllReadyH.nil
          apply step_ints (hT := lsInt) (L := List.take q M) (M := [yb]) (base := v10a.heap.size)
          case hgd => rfl
          case ho => rfl
          case hs => rfl
          case hown => exact unhide HOb
          case hbase => exact (unhide HBb).size
          case hx => rfl
          case hM => rfl
          case hi => exact unhide HZb
          case hl => omega
          case' h => intro Gb Cb v10b o10 gr10 at10 lt10
          have lg := own_base (unhide HOb)
          have HRb := hide o10
          have HBb := hide ((unhide HBb).trans ((mov_of_grown gr10).below lg (unhide HBb).size))
          replace dy := (mov_of_grown gr10).cell dy (by simp only; omega)
          clear o10 gr10 at10 lt10 lg HOb HZb nzb lZb
          refine hK.out _ _ ?_ (fun hHeld => ?_)
          · exact dy
          clear hK K
          try simp only [List.getElem_toArray, List.getElem_cons_succ, List.getElem_cons_zero, Act.put, List.setIfInBounds_toArray, List.set_cons_zero, List.set_cons_succ]
          refine wpAnyH_ready (rs := [11]) (by kernel_rfl) (by simp) ?_
          refine AllReadyH.cons rfl (fun K hK => ?_) AllReadyH.nil
          go_simp
          refine hK.out _ _ ?_ (fun hHeld => ?_)
          · exact dy
          clear hK K
          try simp only [List.getElem_toArray, List.getElem_cons_succ, List.getElem_cons_zero, Act.put, List.setIfInBounds_toArray, List.set_cons_zero, List.set_cons_succ]
          refine wpAnyH_done (by kernel_rfl) ?_ _
          clear dy
          have HRa2 := hide (World.ownsRow.kept (w' := v10b) (unhide HRa) (grown_below (unhide HBb)) (by simp [Value.ownBlock]))
          have HB := hide ((unhide HBa).trans ((unhide HBb).mono (unhide HBa).size))
          have hIw := KI.later (unhide H0) (unhide HB)
          obtain ⟨kp0, kp1, kp2⟩ := hIw.k
          have kq0 := hIw.kf 0
          have kq1 := hIw.kf 1
          have kq2 := hIw.kf 2
          have HIW := hide hIw
          clear hIw
          go_wp2_with fail
          clear kp0 kp1 kp2 kq0 kq1 kq2
          have HC := hide (l7Less_any s ad cap (some ⟨Ga, 0, none⟩) (q + 1) Ca (topL L M) (some ⟨Gb, 0, none⟩) Cb (topL M L) v10b (unhide HK) (unhide HIW).i (own_at (by rw [← unhide HTL]; exact unhide HRa2)) (own_at (by rw [← unhide HTM]; exact unhide HRb)) (unhide HGL).1 (unhide HGL).2.1 hl (unhide HGL).2.2.1 (unhide HGL).2.2.2)
          rw [← unhide HU] at HC
          refine (unhide HC).mono ?_
          rintro e w5 ⟨⟨a5, c5, rfl, hi5, pl5⟩, b5⟩
          have hI5 := KI.later (unhide HIW) b5
          obtain ⟨⟨kp0, kp1, kp2⟩, _, _, _, s0, s1, s2, sf, lo, be⟩ := hI5
          have f0 := sf 0
          have f1 := sf 1
          have f2 := sf 2
          have HI5 := hide hi5
          have HPL := hide (Pl.mono (b := w.heap.size + 2) pl5 (by first | exact lo9 | exact Nat.le_trans lo9 (unhide HB).size))
          clear hi5 pl5 b5
          go_wp2
          refine bodyPost_ret (v := .tuple #[.agg #[.int .i64 u.1.m, .slice a5 u.1.n c5, .bool u.1.ok], .int .i64 u.2]) (by simp [results, Tryd.results38, go_sem, s0, s1, s2]) rfl ?_
          have mv := mov3 w5 (w.heap.size + 1) (.int .i64 u.1.m) (.slice a5 u.1.n c5) (.bool u.1.ok)
          exact ⟨⟨a5, c5, rfl, (unhide HI5).mov ((unhide HPL).apart (unhide HI).2.2.2 (by omega) (by omega)) mv, (unhide HPL).mono (by omega)⟩, bel3 be (by omega) _ _ _⟩
/-- What the model hands back: the mark is the list's one number, or 0. -/
def SCPost (r : BR) (base : Nat) (e : Ending) (w' : World) : Prop := ∃ a cap, e = .returned (.tuple #[.agg #[.int .i64 r.m, .slice a r.n cap], .int .i64 (at0 r.L 0)]) ∧ GtsAt w' a r.n r.G ∧ Lo a r.n base
set_option maxRecDepth 100000 in
set_option maxHeartbeats 2000000 in
theorem sBitsCmp_any (m : Int) (ad : Option Addr) (n cap : Nat) (G : Nat → Gt) (op : Int) (la : Option Addr) (nl cl : Nat) (L : List Int) (lb : Option Addr) (nm cm : Nat) (M : List Int) (w : World) (hd : GtsAt w ad n G) (hw : WG n G) (hnn : ad = none → n = 0 ∧ cap = 0) (hspot : ∀ p, ad = some p → p.spot = none) (hlow : ∀ p, ad = some p → p.block < w.heap.size) (hn : n ≤ 1048576)
    (hdL : IntsAt w la nl (at0 L)) (hdM : IntsAt w lb nm (at0 M)) (hL : L.length = nl) (hM : M.length = nm) (hl : nl ≤ 1048576) (hm : nm ≤ 1048576) (hcl : nl ≤ cl) (hcm : nm ≤ cm) :
    Calls Tryd.prog 8 #[.agg #[.int .i64 m, .slice ad n cap], .int .i64 op, .slice la nl cl, .slice lb nm cm] w fun e w' => SCPost (cmpBR m n G op L M) w.heap.size e w' ∧ Below w.heap.size w w' := by
  obtain ⟨wz, hwz⟩ : ∃ wz, wz = (w.alloc (.cells #[.int .i64 m, .slice ad n cap] 25)).alloc (.cells #[.int .i64 0, .slice none 0 0] 25) := ⟨_, rfl⟩
  have BL : Below w.heap.size w wz := by rw [hwz]; exact ((Below.refl _ _).alloc (Nat.le_refl _) _).alloc (by simp) _
  have p0 : wz.cell? ⟨w.heap.size, 0, none⟩ = some (.int .i64 m) := by rw [hwz]; simp [go_sem]
  have p1 : wz.cell? ⟨w.heap.size, 1, none⟩ = some (.slice ad n cap) := by rw [hwz]; simp [go_sem]
  have s0 : wz.cell? ⟨w.heap.size + 1, 0, none⟩ = some (.int .i64 0) := by rw [hwz]; simp [go_sem]
  have s1 : wz.cell? ⟨w.heap.size + 1, 1, none⟩ = some (.slice none 0 0) := by rw [hwz]; simp [go_sem]
  have f0 : wz.frozen? ⟨w.heap.size + 1, 0, none⟩ = false := by rw [hwz]; simp [go_sem]
  have f1 : wz.frozen? ⟨w.heap.size + 1, 1, none⟩ = false := by rw [hwz]; simp [go_sem]
  have lo : w.heap.size + 2 ≤ wz.heap.size := by rw [hwz]; simp
  have HI0 : Hid (KIn w (kS m n G) ad cap) := ⟨hd, hnn, hspot, hlow⟩
  have HW := hide hw
  have HDL := hide hdL
  have HDM := hide hdM
  have HL := hide hL
  have HM := hide hM
  have HZ := hide hwz
  clear hd hwz hw hnn hspot hlow hdL hdM hL hM
  go_enter Tryd.func8, Tryd.ntmps8
  go_wp2_with fail
  rw [← unhide HZ]
  refine (sNetOk_any m ad n cap G _ ((unhide HI0).1.later BL) (unhide HW) hn).mono ?_
  rintro e w1 ⟨rfl, b1⟩
  replace p0 := cell_later b1 p0
  replace p1 := cell_later b1 p1
  replace f0 := (b1.frozen (p := ⟨w.heap.size + 1, 0, none⟩) (World.block_lt_of_cell? _ _ s0)).trans f0
  replace f1 := (b1.frozen (p := ⟨w.heap.size + 1, 1, none⟩) (World.block_lt_of_cell? _ _ s1)).trans f1
  replace s0 := cell_later b1 s0
  replace s1 := cell_later b1 s1
  replace lo := Nat.le_trans lo b1.size
  replace BL := BL.trans (b1.mono BL.size)
  clear b1
  cases hP : netB m n G
  · have HN := hide (cmpBR_no (m := m) (n := n) (G := G) (op := op) (L := L) (M := M) (fun h => by have := h.1; rw [hP] at this; cases this))
    have e1 : w.heap.size + 1 < w1.heap.size := by omega
    go_wp2
    refine bodyPost_ret (v := .tuple #[.agg #[.int .i64 0, .slice none 0 0], .int .i64 0]) (by simp [results, Tryd.results8, go_sem, s0, s1, e1]) rfl ?_
    rw [unhide HN]
    exact ⟨⟨none, 0, by simp [nilB, at0], Or.inl rfl, Or.inl rfl⟩, (BL.trans ((mov2c w1 (w.heap.size + 1) _ _).below (by omega) BL.size))⟩
  · obtain ⟨hm0, hm1, hn6, _⟩ := netB_iff.1 hP
    go_wp2_with fail
    refine (l7Right_any m ad n cap la nl cl L _ hm0 hm1 hn6 ((unhide HDL).later BL) (unhide HL) hl).mono ?_
    rintro e w2 ⟨rfl, b2⟩
    replace p0 := cell_later b2 p0
    replace p1 := cell_later b2 p1
    replace f0 := (b2.frozen (p := ⟨w.heap.size + 1, 0, none⟩) (World.block_lt_of_cell? _ _ s0)).trans f0
    replace f1 := (b2.frozen (p := ⟨w.heap.size + 1, 1, none⟩) (World.block_lt_of_cell? _ _ s1)).trans f1
    replace s0 := cell_later b2 s0
    replace s1 := cell_later b2 s1
    replace lo := Nat.le_trans lo b2.size
    replace BL := BL.trans (b2.mono BL.size)
    clear b2
    cases hA : rgtB m n L
    · have HN := hide (cmpBR_no (m := m) (n := n) (G := G) (op := op) (L := L) (M := M) (fun h => by have := rgtB_yes h.2.1; rw [hA] at this; cases this))
      have e1 : w.heap.size + 1 < w2.heap.size := by omega
      go_wp2
      refine bodyPost_ret (v := .tuple #[.agg #[.int .i64 0, .slice none 0 0], .int .i64 0]) (by simp [results, Tryd.results8, go_sem, s0, s1, e1]) rfl ?_
      rw [unhide HN]
      exact ⟨⟨none, 0, by simp [nilB, at0], Or.inl rfl, Or.inl rfl⟩, (BL.trans ((mov2c w2 (w.heap.size + 1) _ _).below (by omega) BL.size))⟩
    · have hA' := rgtB_iff.1 hA
      go_wp2_with fail
      refine (l7Right_any m ad n cap lb nm cm M _ hm0 hm1 hn6 ((unhide HDM).later BL) (unhide HM) hm).mono ?_
      rintro e w3 ⟨rfl, b3⟩
      replace p0 := cell_later b3 p0
      replace p1 := cell_later b3 p1
      replace f0 := (b3.frozen (p := ⟨w.heap.size + 1, 0, none⟩) (World.block_lt_of_cell? _ _ s0)).trans f0
      replace f1 := (b3.frozen (p := ⟨w.heap.size + 1, 1, none⟩) (World.block_lt_of_cell? _ _ s1)).trans f1
      replace s0 := cell_later b3 s0
      replace s1 := cell_later b3 s1
      replace lo := Nat.le_trans lo b3.size
      replace BL := BL.trans (b3.mono BL.size)
      clear b3
      cases hB : rgtB m n M
      · have HN := hide (cmpBR_no (m := m) (n := n) (G := G) (op := op) (L := L) (M := M) (fun h => by have := rgtB_yes h.2.2.1; rw [hB] at this; cases this))
        have e1 : w.heap.size + 1 < w3.heap.size := by omega
        go_wp2
        refine bodyPost_ret (v := .tuple #[.agg #[.int .i64 0, .slice none 0 0], .int .i64 0]) (by simp [results, Tryd.results8, go_sem, s0, s1, e1]) rfl ?_
        rw [unhide HN]
        exact ⟨⟨none, 0, by simp [nilB, at0], Or.inl rfl, Or.inl rfl⟩, (BL.trans ((mov2c w3 (w.heap.size + 1) _ _).below (by omega) BL.size))⟩
      · have hB' := rgtB_iff.1 hB
        have h1 : 1 ≤ nl := by rw [← unhide HL]; exact hA'.2.1
        have h4 : nl ≤ 4 := by rw [← unhide HL]; exact hA'.2.2
        by_cases hE : nl = nm
        · subst hE
          by_cases o1 : op < 15
          · have k1 : decide (op < 15) = true := by simp [o1]
            have HN := hide (cmpBR_no (m := m) (n := n) (G := G) (op := op) (L := L) (M := M) (fun h => by have := h.2.2.2.2.1; omega))
            have e1 : w.heap.size + 1 < w3.heap.size := by omega
            go_wp2
            refine bodyPost_ret (v := .tuple #[.agg #[.int .i64 0, .slice none 0 0], .int .i64 0]) (by simp [results, Tryd.results8, go_sem, s0, s1, e1]) rfl ?_
            rw [unhide HN]
            exact ⟨⟨none, 0, by simp [nilB, at0], Or.inl rfl, Or.inl rfl⟩, (BL.trans ((mov2c w3 (w.heap.size + 1) _ _).below (by omega) BL.size))⟩
          · have k1 : decide (op < 15) = false := by simp; omega
            by_cases o2 : op > 17
            · have k2 : decide (op > 17) = true := by simp; omega
              have HN := hide (cmpBR_no (m := m) (n := n) (G := G) (op := op) (L := L) (M := M) (fun h => by have := h.2.2.2.2.2; omega))
              have e1 : w.heap.size + 1 < w3.heap.size := by omega
              go_wp2
              refine bodyPost_ret (v := .tuple #[.agg #[.int .i64 0, .slice none 0 0], .int .i64 0]) (by simp [results, Tryd.results8, go_sem, s0, s1, e1]) rfl ?_
              rw [unhide HN]
              exact ⟨⟨none, 0, by simp [nilB, at0], Or.inl rfl, Or.inl rfl⟩, (BL.trans ((mov2c w3 (w.heap.size + 1) _ _).below (by omega) BL.size))⟩
            · have k2 : decide (op > 17) = false := by simp; omega
              have o1' : ¬ op < 15 := o1
              have hN := cmpBR_yes (m := m) (n := n) (G := G) (op := op) (L := L) (M := M) ⟨hP, hA', hB', by rw [unhide HL, unhide HM], by omega, by omega⟩
              have hc := l7Cmp_any (kS m n G) ad cap op la nl cl L lb cm M w3 (kS_ok hP) ((unhide HI0).later BL) (by omega) (by omega) ((unhide HDL).later BL) ((unhide HDM).later BL) (unhide HL) (unhide HM) h1 (by omega) hcl hcm (hA'.mk hP) (hB'.mk hP)
              have hk6 : (cmpK 1 op (kS m n G) L M).1.n ≤ 600 := (cmpK_good (by omega) (kS_ok hP) (hA'.mk hP) (hB'.mk hP) (by rw [unhide HL, unhide HM]) (by rw [unhide HL]; exact h1)).1.2.2.1
              obtain ⟨u, hu⟩ : ∃ u, u = cmpK 1 op (kS m n G) L M := ⟨_, rfl⟩
              rw [← hu] at hN hc hk6
              have HC := hide hc
              have HN0 := hide hN
              clear hc hN hu hA' hB' hP hA hB
              go_wp2_with fail
              refine (unhide HC).mono ?_
              rintro e w5 ⟨⟨a5, c5, rfl, hi5, pl5⟩, b5⟩
              replace p0 := cell_later b5 p0
              replace p1 := cell_later b5 p1
              replace f0 := (b5.frozen (p := ⟨w.heap.size + 1, 0, none⟩) (World.block_lt_of_cell? _ _ s0)).trans f0
              replace f1 := (b5.frozen (p := ⟨w.heap.size + 1, 1, none⟩) (World.block_lt_of_cell? _ _ s1)).trans f1
              replace s0 := cell_later b5 s0
              replace s1 := cell_later b5 s1
              replace lo := Nat.le_trans lo b5.size
              replace BL := BL.trans (b5.mono BL.size)
              clear b5
              have HI5 := hide hi5
              clear hi5 pl5
              cases hok : u.1.ok
              · have HN : Hid (cmpBR m n G op L M = nilB) := (unhide HN0).trans (brK_no hok)
                have e1 : w.heap.size + 1 < w5.heap.size := by omega
                go_wp2
                refine bodyPost_ret (v := .tuple #[.agg #[.int .i64 0, .slice none 0 0], .int .i64 0]) (by simp [results, Tryd.results8, go_sem, s0, s1, e1]) rfl ?_
                rw [unhide HN]
                exact ⟨⟨none, 0, by simp [nilB, at0], Or.inl rfl, Or.inl rfl⟩, (BL.trans ((mov2c w5 (w.heap.size + 1) _ _).below (by omega) BL.size)).alloc (Nat.le_trans BL.size (mov2c w5 (w.heap.size + 1) _ _).size) _⟩
              · have HN : Hid (cmpBR m n G op L M = ⟨u.1.m, u.1.n, u.1.G, [u.2]⟩) := (unhide HN0).trans (brK_yes hok)
                obtain ⟨wv, hwv⟩ : ∃ x, x = w5.alloc (.cells #[.int .i64 u.1.m, .slice a5 u.1.n c5, .bool true] 70) := ⟨_, rfl⟩
                have bv : Below w5.heap.size w5 wv := by rw [hwv]; exact (Below.refl _ _).alloc (Nat.le_refl _) _
                have HWV := hide hwv
                have HB := hide bv
                clear hwv
                go_wp2_with fail
                rw [← unhide HWV]
                replace p0 := cell_later bv p0
                replace p1 := cell_later bv p1
                replace f0 := (bv.frozen (p := ⟨w.heap.size + 1, 0, none⟩) (World.block_lt_of_cell? _ _ s0)).trans f0
                replace f1 := (bv.frozen (p := ⟨w.heap.size + 1, 1, none⟩) (World.block_lt_of_cell? _ _ s1)).trans f1
                replace s0 := cell_later bv s0
                replace s1 := cell_later bv s1
                replace lo := Nat.le_trans lo bv.size
                replace BL := BL.trans (bv.mono BL.size)
                clear bv
                refine (l6Fresh_any u.1.m a5 u.1.n c5 u.1.G wv ((unhide HI5).1.later (unhide HB)) (unhide HI5).2.1 (unhide HI5).2.2.1 (by omega)).mono ?_
                rintro e w6 ⟨g6, c6, rfl, hg6, lg6, b6⟩
                have lw6 : w.heap.size + 2 ≤ g6 := Nat.le_trans lo lg6
                replace p0 := cell_later b6 p0
                replace p1 := cell_later b6 p1
                replace f0 := (b6.frozen (p := ⟨w.heap.size + 1, 0, none⟩) (World.block_lt_of_cell? _ _ s0)).trans f0
                replace f1 := (b6.frozen (p := ⟨w.heap.size + 1, 1, none⟩) (World.block_lt_of_cell? _ _ s1)).trans f1
                replace s0 := cell_later b6 s0
                replace s1 := cell_later b6 s1
                replace lo := Nat.le_trans lo b6.size
                replace BL := BL.trans (b6.mono BL.size)
                clear b6
                have HG6 := hide hg6
                clear hg6 lg6
                go_wp2
                refine bodyPost_ret (v := .tuple #[.agg #[.int .i64 u.1.m, .slice (some ⟨g6, 0, none⟩) u.1.n c6], .int .i64 u.2]) (by simp [results, Tryd.results8, go_sem, s0, s1]) rfl ?_
                rw [unhide HN]
                have mv := mov2c w6 (w.heap.size + 1) (.int .i64 u.1.m) (.slice (some ⟨g6, 0, none⟩) u.1.n c6)
                have la6 : Lo (some ⟨g6, 0, none⟩) u.1.n (w.heap.size + 2) := Or.inr (fun b off e => by cases e; exact lw6)
                exact ⟨⟨some ⟨g6, 0, none⟩, c6, rfl, (unhide HG6).apart (la6.ne (B := w.heap.size + 1) (by omega)) mv, la6.mono (by omega)⟩, BL.trans (mv.below (by omega) BL.size)⟩
        · have k0 : ((nl : Int) != (nm : Int)) = true := by simp; omega
          have HN := hide (cmpBR_no (m := m) (n := n) (G := G) (op := op) (L := L) (M := M) (fun h => hE (by have := h.2.2.2.1; rw [unhide HL, unhide HM] at this; exact this)))
          have e1 : w.heap.size + 1 < w3.heap.size := by omega
          go_wp2
          refine bodyPost_ret (v := .tuple #[.agg #[.int .i64 0, .slice none 0 0], .int .i64 0]) (by simp [results, Tryd.results8, go_sem, s0, s1, e1]) rfl ?_
          rw [unhide HN]
          exact ⟨⟨none, 0, by simp [nilB, at0], Or.inl rfl, Or.inl rfl⟩, (BL.trans ((mov2c w3 (w.heap.size + 1) _ _).below (by omega) BL.size))⟩
end Go.Proofs.YtmpiiilkaadhfaaDoor
