/- Nets: how gates lie in memory, their copies, counts and comparisons. -/
import Derived.Test.YtmpiiilkaadhfaaDoorClaA
namespace Go.Proofs.YtmpiiilkaadhfaaDoor
open Go.ChangeShapes Go.WideShapes Go.ChangeAt Go.RowKit Go.Joins
set_option linter.unusedVariables false
set_option maxRecDepth 100000

/-- A gate: whether it is an Xor, and the two marks that it is of. -/
structure Gt where
  x : Bool
  a : Int
  b : Int
theorem Gt.ext_iff' {g h : Gt} : g = h ↔ g.x = h.x ∧ g.a = h.a ∧ g.b = h.b := by
  cases g; cases h; simp
/-- Gates in a row: three cells each, from an address on. -/
def Gts (w : World) (b off n : Nat) (G : Nat → Gt) : Prop :=
  ∀ i, i < n → w.cell? ⟨b, off + i * 3, none⟩ = some (.bool (G i).x) ∧ w.cell? ⟨b, off + i * 3 + 1, none⟩ = some (.int .i64 (G i).a) ∧ w.cell? ⟨b, off + i * 3 + 2, none⟩ = some (.int .i64 (G i).b)
theorem Gts.later {w w' : World} {b off n : Nat} {G : Nat → Gt} (h : Gts w b off n G) (hb : Below w.heap.size w w') : Gts w' b off n G :=
  fun i hi => ⟨cell_later hb (h i hi).1, cell_later hb (h i hi).2.1, cell_later hb (h i hi).2.2⟩
theorem Gts.mono {w : World} {b off n m : Nat} {G : Nat → Gt} (h : Gts w b off n G) (hm : m ≤ n) : Gts w b off m G := fun i hi => h i (by omega)
theorem Gts.cong {w : World} {b off n : Nat} {G G' : Nat → Gt} (h : Gts w b off n G) (e : ∀ i, i < n → G i = G' i) : Gts w b off n G' := fun i hi => by rw [← e i hi]; exact h i hi
/-- The same, with an address that may be none where there are no gates. -/
def GtsAt (w : World) (a : Option Addr) (n : Nat) (G : Nat → Gt) : Prop := n = 0 ∨ ∃ b off, a = some ⟨b, off, none⟩ ∧ b < w.heap.size ∧ Gts w b off n G
theorem GtsAt.later {w w' : World} {a : Option Addr} {n : Nat} {G : Nat → Gt} (h : GtsAt w a n G) (hb : Below w.heap.size w w') : GtsAt w' a n G := by
  rcases h with h | ⟨b, off, h1, h2, h3⟩
  · exact Or.inl h
  · exact Or.inr ⟨b, off, h1, Nat.lt_of_lt_of_le h2 hb.size, h3.later hb⟩
theorem GtsAt.ok {w : World} {a : Option Addr} {n k : Nat} {G : Nat → Gt} (h : GtsAt w a n G) (hk : k < n) : ∃ b off, a = some ⟨b, off, none⟩ ∧ b < w.heap.size ∧ Gts w b off n G := h.resolve_left (by omega)
theorem Gts.at {w : World} {b off n : Nat} {G : Nat → Gt} (h : Gts w b off n G) (hb : b < w.heap.size) : GtsAt w (some ⟨b, off, none⟩) n G := Or.inr ⟨b, off, rfl, hb, h⟩
theorem Gts.put {w : World} {B k : Nat} {G : Nat → Gt} {u0 u1 u2 : Value} (h : Gts w B 0 k G) (q0 : w.cell? ⟨B, k * 3, none⟩ = some u0) (q1 : w.cell? ⟨B, k * 3 + 1, none⟩ = some u1) (q2 : w.cell? ⟨B, k * 3 + 2, none⟩ = some u2) :
    Gts (((w.setCell ⟨B, k * 3, none⟩ (.bool (G k).x)).setCell ⟨B, k * 3 + 1, none⟩ (.int .i64 (G k).a)).setCell ⟨B, k * 3 + 2, none⟩ (.int .i64 (G k).b)) B 0 (k + 1) G := by
  have q1' : (w.setCell ⟨B, k * 3, none⟩ (.bool (G k).x)).cell? ⟨B, k * 3 + 1, none⟩ = some u1 := by rw [World.cell?_setCell_other _ _ _ _ (by simp)]; exact q1
  have q2' : ((w.setCell ⟨B, k * 3, none⟩ (.bool (G k).x)).setCell ⟨B, k * 3 + 1, none⟩ (.int .i64 (G k).a)).cell? ⟨B, k * 3 + 2, none⟩ = some u2 := by
    rw [World.cell?_setCell_other _ _ _ _ (by simp), World.cell?_setCell_other _ _ _ _ (by simp)]; exact q2
  intro i hi
  simp only [Nat.zero_add]
  by_cases e : i = k
  · subst e
    exact ⟨by rw [World.cell?_setCell_other _ _ _ _ (by simp), World.cell?_setCell_other _ _ _ _ (by simp)]; exact World.cell?_setCell_same _ _ _ q0, by rw [World.cell?_setCell_other _ _ _ _ (by simp)]; exact World.cell?_setCell_same _ _ _ q1', World.cell?_setCell_same _ _ _ q2'⟩
  · have hh := h i (by omega)
    simp only [Nat.zero_add] at hh
    refine ⟨?_, ?_, ?_⟩
    · rw [World.cell?_setCell_other _ _ _ _ (by simp <;> omega), World.cell?_setCell_other _ _ _ _ (by simp <;> omega), World.cell?_setCell_other _ _ _ _ (by simp <;> omega)]; exact hh.1
    · rw [World.cell?_setCell_other _ _ _ _ (by simp <;> omega), World.cell?_setCell_other _ _ _ _ (by simp <;> omega), World.cell?_setCell_other _ _ _ _ (by simp <;> omega)]; exact hh.2.1
    · rw [World.cell?_setCell_other _ _ _ _ (by simp <;> omega), World.cell?_setCell_other _ _ _ _ (by simp <;> omega), World.cell?_setCell_other _ _ _ _ (by simp <;> omega)]; exact hh.2.2
/-- A net in a box. -/
def NBox (w : World) (b : Nat) (m : Int) (a : Option Addr) (n cap : Nat) : Prop := w.cell? ⟨b, 0, none⟩ = some (.int .i64 m) ∧ w.cell? ⟨b, 1, none⟩ = some (.slice a n cap)
theorem NBox.later {w w' : World} {b : Nat} {m : Int} {a : Option Addr} {n cap : Nat} (h : NBox w b m a n cap) (hb : Below w.heap.size w w') : NBox w' b m a n cap := ⟨cell_later hb h.1, cell_later hb h.2⟩
theorem NBox.new (w : World) (m : Int) (a : Option Addr) (n cap : Nat) (T : TypeId) : NBox (w.alloc (.cells #[.int .i64 m, .slice a n cap] T)) w.heap.size m a n cap := ⟨by simp [go_sem], by simp [go_sem]⟩
/-- A gate, as a value. -/
def gv (g : Gt) : Value := .agg #[.bool g.x, .int .i64 g.a, .int .i64 g.b]
def WG (n : Nat) (G : Nat → Gt) : Prop := ∀ i, i < n → W64 (G i).a ∧ W64 (G i).b
set_option maxRecDepth 100000 in
set_option maxHeartbeats 400000 in
theorem szGateS_any (a : Option Addr) (n cap : Nat) (left : Int) (w : World) (h0 : 0 ≤ left) (h1 : left ≤ 1048576) (hs : n ≤ maxLen) :
    Calls Tryd.prog 57 #[.slice a n cap, .int .i64 left] w fun e w' => (∃ z : Int, e = .returned (.int .i64 z) ∧ (z < 0 ∨ 0 ≤ z ∧ z = left - n)) ∧ w' = w := by
  unfold maxLen at hs
  by_cases h : (n : Int) ≤ left
  · go_enter Tryd.func57, Tryd.ntmps57
    go_wp2
    go_ret
    exact ⟨⟨_, rfl, Or.inr ⟨by omega, rfl⟩⟩, rfl⟩
  · go_enter Tryd.func57, Tryd.ntmps57
    go_wp2
    go_ret
    exact ⟨⟨_, rfl, Or.inl (by omega)⟩, rfl⟩
set_option maxRecDepth 100000 in
set_option maxHeartbeats 400000 in
theorem szNet_any (m : Int) (a : Option Addr) (n cap : Nat) (left : Int) (w : World) (h0 : 0 ≤ left) (h1 : left ≤ 1048576) (hn : n ≤ maxLen) :
    Calls Tryd.prog 21 #[.agg #[.int .i64 m, .slice a n cap], .int .i64 left] w fun e w' => (∃ z : Int, e = .returned (.int .i64 z) ∧ (z < 0 ∨ 0 ≤ z ∧ z = left - n)) ∧ Below w.heap.size w w' := by
  go_enter Tryd.func21, Tryd.ntmps21
  go_wp2_with fail
  refine (szGateS_any _ _ _ _ _ h0 h1 hn).mono ?_
  rintro e w1 ⟨⟨z, rfl, hz⟩, rfl⟩
  have HZ := hide hz
  clear hz
  by_cases hlt : 0 ≤ z
  · go_wp2
    go_ret
    exact ⟨⟨_, rfl, unhide HZ⟩, (by repeat (first | exact Below.refl _ _ | assumption | refine below_drewN ?_ _ | refine Below.drew ?_ | refine Below.alloc ?_ (by first | exact Nat.le_refl _ | exact Below.size (by assumption) | (simp; done) | (simp; omega)) _ | refine Below.setCell ?_ (by first | exact Nat.le_refl _ | exact Below.size (by assumption) | (simp; done) | (simp; omega)) _ | refine Below.trans ?_ (by assumption)))⟩
  · go_wp2
    go_ret
    exact ⟨⟨_, rfl, Or.inl (by omega)⟩, (by repeat (first | exact Below.refl _ _ | assumption | refine below_drewN ?_ _ | refine Below.drew ?_ | refine Below.alloc ?_ (by first | exact Nat.le_refl _ | exact Below.size (by assumption) | (simp; done) | (simp; omega)) _ | refine Below.setCell ?_ (by first | exact Nat.le_refl _ | exact Below.size (by assumption) | (simp; done) | (simp; omega)) _ | refine Below.trans ?_ (by assumption)))⟩
set_option maxRecDepth 100000 in
set_option maxHeartbeats 400000 in
theorem toGate_any (x : Bool) (p q : Int) (w : World) :
    Calls Tryd.prog 85 #[.agg #[.bool x, .int .i64 p, .int .i64 q]] w fun e w' => e = .returned (.agg #[.bool x, .int .i64 p, .int .i64 q]) ∧ Below w.heap.size w w' := by
  go_enter Tryd.func85, Tryd.ntmps85
  go_wp2
  exact bodyPost_ret (v := .agg #[.bool x, .int .i64 p, .int .i64 q]) (by simp [results, Tryd.results85, go_sem]) rfl ⟨rfl, (by repeat (first | exact Below.refl _ _ | assumption | refine below_drewN ?_ _ | refine Below.drew ?_ | refine Below.alloc ?_ (by first | exact Nat.le_refl _ | exact Below.size (by assumption) | (simp; done) | (simp; omega)) _ | refine Below.setCell ?_ (by first | exact Nat.le_refl _ | exact Below.size (by assumption) | (simp; done) | (simp; omega)) _ | refine Below.trans ?_ (by assumption)))⟩
theorem infoGate : (Tryd.prog.info? 76).map (fun i => (i.zero, i.size, i.bytes)) = some (some (.agg #[.bool false, .int .i64 0, .int .i64 0]), 3, 24) := by kernel_rfl
set_option maxRecDepth 100000 in
set_option maxHeartbeats 1000000 in
theorem toGateS_any (a : Option Addr) (n cap : Nat) (G : Nat → Gt) (w : World) (hd : GtsAt w a n G) (hn : n ≤ 1048576) :
    Calls Tryd.prog 58 #[.slice a n cap] w fun e w' => e = .returned (.slice (some ⟨w.heap.size, 0, none⟩) n n) ∧ Gts w' w.heap.size 0 n G ∧ Made w' w.heap.size (n * 3) ∧ Below w.heap.size w w' := by
  have hmk := run_make_wide (P := Tryd.prog) 23 76 _ 3 24 Tryd.underlying23 infoGate .i64 .i64 n (by omega) (by omega)
  rcases hd with rfl | ⟨b, off, rfl, hb, hd⟩
  · simp only [Int.natCast_zero, Nat.zero_mul] at hmk
    go_enter Tryd.func58, Tryd.ntmps58
    go_wp2
    go_loopw [4] (fun i wr => i = .int .i64 0 ∧ wr.heap.size = w.heap.size + 1 ∧ Below w.heap.size w wr) (fun _ _ => 0)
    case atStart => exact ⟨rfl, by simp, (by repeat (first | exact Below.refl _ _ | assumption | refine below_drewN ?_ _ | refine Below.drew ?_ | refine Below.alloc ?_ (by first | exact Nat.le_refl _ | exact Below.size (by assumption) | (simp; done) | (simp; omega)) _ | refine Below.setCell ?_ (by first | exact Nat.le_refl _ | exact Below.size (by assumption) | (simp; done) | (simp; omega)) _ | refine Below.trans ?_ (by assumption)))⟩
    case round =>
      obtain ⟨rfl, hsz, hbel⟩ := hrel
      go_wp2
      go_ret
      exact ⟨rfl, fun i hi => by omega, ⟨by omega, fun j hj => by omega⟩, hbel⟩
  · have HD := hide hd
    clear hd
    go_enter Tryd.func58, Tryd.ntmps58
    go_wp2
    go_loopw [4] (fun i wr => ∃ k : Nat, k ≤ n ∧ i = .int .i64 k ∧ Gts wr w.heap.size 0 k G ∧ Made wr w.heap.size (n * 3) ∧ Below w.heap.size w wr) (fun i _ => n - (intOf i).toNat)
    case atStart => exact ⟨0, by omega, rfl, fun i hi => by omega, Made.new _ _ _ _, (by repeat (first | exact Below.refl _ _ | assumption | refine below_drewN ?_ _ | refine Below.drew ?_ | refine Below.alloc ?_ (by first | exact Nat.le_refl _ | exact Below.size (by assumption) | (simp; done) | (simp; omega)) _ | refine Below.setCell ?_ (by first | exact Nat.le_refl _ | exact Below.size (by assumption) | (simp; done) | (simp; omega)) _ | refine Below.trans ?_ (by assumption)))⟩
    case round =>
      obtain ⟨k, hk, rfl, hdk, hmd, hbel⟩ := hrel
      have HK := hide hdk
      have HM := hide hmd
      clear hdk hmd
      have hlt0 := (unhide HM).1
      by_cases hlt : k < n
      · obtain ⟨c0, c1, c2⟩ := unhide HD k hlt
        have d0 := (hbel.cell (p := ⟨b, off + k * 3, none⟩) hb).trans c0
        have d1 := (hbel.cell (p := ⟨b, off + k * 3 + 1, none⟩) hb).trans c1
        have d2 := (hbel.cell (p := ⟨b, off + k * 3 + 2, none⟩) hb).trans c2
        clear c0 c1 c2
        go_wp2_with fail
        refine (toGate_any _ _ _ _).mono ?_
        rintro e w1 ⟨rfl, b1⟩
        have HM1 := hide ((unhide HM).later b1)
        have HK1 := hide ((unhide HK).later b1)
        obtain ⟨⟨u0, q0⟩, f0⟩ := (unhide HM1).2 (k * 3) (by omega)
        obtain ⟨⟨u1, q1⟩, f1⟩ := (unhide HM1).2 (k * 3 + 1) (by omega)
        obtain ⟨⟨u2, q2⟩, f2⟩ := (unhide HM1).2 (k * 3 + 2) (by omega)
        have l1 := (unhide HM1).1
        go_wp2
        go_roundw
        case rel => exact ⟨k + 1, by omega, by go_num, (unhide HK1).put q0 q1 q2, (((unhide HM1).set _ _).set _ _).set _ _, (((hbel.trans (b1.mono hbel.size)).setCell (Nat.le_refl _) _).setCell (Nat.le_refl _) _).setCell (Nat.le_refl _) _⟩
        case measure => simp [intOf]; omega
      · have e : k = n := by omega
        subst e
        go_wp2
        go_ret
        exact ⟨rfl, unhide HK, unhide HM, hbel⟩
set_option maxRecDepth 100000 in
set_option maxHeartbeats 1000000 in
theorem toNet_any (m : Int) (a : Option Addr) (n cap : Nat) (G : Nat → Gt) (w : World) (hd : GtsAt w a n G) (hn : n ≤ 1048576) :
    Calls Tryd.prog 22 #[.agg #[.int .i64 m, .slice a n cap]] w fun e w' => ∃ (B : Nat), e = .returned (.agg #[.int .i64 m, .slice (some ⟨B, 0, none⟩) n n]) ∧ w.heap.size ≤ B ∧ Gts w' B 0 n G ∧ Made w' B (n * 3) ∧ Below w.heap.size w w' := by
  have HD := hide hd
  clear hd
  go_enter Tryd.func22, Tryd.ntmps22
  go_wp2_with fail
  have e1 : Below w.heap.size w (((w.alloc (.cells #[.int .i64 m, .slice a n cap] 48)).alloc (.cells #[.int .i64 0, .slice none 0 0] 25)).alloc (.cells #[.int .i64 m, .slice none 0 0] 25)) := (((Below.refl w.heap.size w).alloc (by simp <;> omega) _).alloc (by simp <;> omega) _).alloc (by simp <;> omega) _
  refine (toGateS_any _ _ _ _ _ ((unhide HD).later e1) hn).mono ?_
  rintro e w1 ⟨rfl, hc, hl, b1⟩
  have BL := e1.trans (b1.mono (by simp <;> omega))
  simp only [World.size_alloc] at hc hl
  have HC := hide hc
  have HL := hide hl
  have hl1 := hl.1
  clear hc e1 hl
  have r0 : w1.cell? ⟨w.heap.size + 1, 0, none⟩ = some (.int .i64 0) := cell_later b1 (by simp [go_sem])
  have r1 : w1.cell? ⟨w.heap.size + 1, 1, none⟩ = some (.slice none 0 0) := cell_later b1 (by simp [go_sem])
  have p0 : w1.cell? ⟨w.heap.size + 2, 0, none⟩ = some (.int .i64 m) := cell_later b1 (by simp [go_sem])
  have p1 : w1.cell? ⟨w.heap.size + 2, 1, none⟩ = some (.slice none 0 0) := cell_later b1 (by simp [go_sem])
  have f1 : w1.frozen? ⟨w.heap.size + 2, 1, none⟩ = false := by rw [b1.frozen (by simp)]; simp [go_sem]
  have g0 : w1.frozen? ⟨w.heap.size + 1, 0, none⟩ = false := by rw [b1.frozen (by simp)]; simp [go_sem]
  have g1 : w1.frozen? ⟨w.heap.size + 1, 1, none⟩ = false := by rw [b1.frozen (by simp)]; simp [go_sem]
  clear b1
  have n0 : w.heap.size + 2 ≠ w.heap.size + 1 := by omega
  have n1 : w.heap.size + 1 ≠ w.heap.size + 2 := by omega
  go_wp2
  refine bodyPost_ret (v := .agg #[.int .i64 m, .slice (some ⟨w.heap.size + 1 + 1 + 1, 0, none⟩) n n]) (by simp [results, Tryd.results22, go_sem, r0, r1]) rfl ⟨_, rfl, by omega, ?_, ?_, ?_⟩
  · intro i hi
    have h := unhide HC i hi
    refine ⟨?_, ?_, ?_⟩
    all_goals rw [World.cell?_setCell_other _ _ _ _ (by simp <;> omega), World.cell?_setCell_other _ _ _ _ (by simp <;> omega), World.cell?_setCell_other _ _ _ _ (by simp <;> omega)]
    · exact h.1
    · exact h.2.1
    · exact h.2.2
  · exact (((unhide HL).set _ _).set _ _).set _ _
  · exact ((BL.setCell (by simp <;> omega) _).setCell (by simp <;> omega) _).setCell (by simp <;> omega) _
theorem cellsNet : Tryd.prog.cellsOf 48 = 2 := by kernel_rfl
theorem net_in {H : Type} {enc : TypeId × Value → H} {w : World} {base : Nat} {v : Value} {d : DataW H} {p : List MemPlace} {held : Bool} (hv : Value.okWide Tryd.prog w .any base 48 v)
    (h : DataW.Trod enc Tryd.prog w 0 (fun _ => true) held 48 v d p) : ∃ (m : Int) (a : Option Addr) (n cap : Nat) (G : Nat → Gt),
      v = .agg #[.int .i64 m, .slice a n cap] ∧ W64 m ∧ n ≤ cap ∧ n ≤ maxLen ∧ GtsAt w a n G ∧ WG n G := by
  obtain ⟨c0, c1, y0, y1, m, rfl, rfl, rfl, hy0, hy1⟩ := open_agg2 Tryd.underlying48 (by kernel_rfl) cellsNet hv h
  obtain ⟨x0, e0, rfl, wx0⟩ := DataW.trod_int Tryd.underlying3 hy0
  simp at e0
  subst e0
  rcases Go.Deep.open_slice Tryd.underlying46 hy1 with ⟨hcs, _⟩ | ⟨a, len, cap, m', n, D, Pl, hcs, hb, hl, hm, hmm, _, hx⟩
  · simp at hcs
    subst hcs
    exact ⟨x0, none, 0, 0, fun _ => ⟨false, 0, 0⟩, rfl, W64.of wx0, Nat.le_refl _, by unfold maxLen; omega, Or.inl rfl, fun i hi => by omega⟩
  · simp at hcs
    subst hcs
    have hlm : len ≤ m' := by rw [hmm]; split <;> omega
    have ce : Tryd.prog.cellsOf 134 = 3 := by kernel_rfl
    have cb : Tryd.prog.cellsOf 4 = 1 := by kernel_rfl
    have ci : Tryd.prog.cellsOf 3 = 1 := by kernel_rfl
    have each : ∀ i, i < len → ∃ g : Gt, w.cell? (a.add (i * 3)) = some (.bool g.x) ∧ w.cell? (a.add (i * 3 + 1)) = some (.int .i64 g.a) ∧ w.cell? (a.add (i * 3 + 2)) = some (.int .i64 g.b) ∧ W64 g.a ∧ W64 g.b := by
      intro i hi
      obtain ⟨cs', h1, h2⟩ := hx i (by omega)
      rw [ce] at h1
      obtain ⟨_, hlen, hcell⟩ := World.cells?_some h1
      obtain ⟨xs, k, hk, hxy, _, hxl, hf⟩ := DataW.trod_struct Tryd.underlying134 h2
      match xs, hxl, cs', hlen with
      | [y0, y1, y2], _, [v0, v1, v2], _ =>
        have g0 := hf 0 _ rfl
        have g1 := hf 1 _ rfl
        have g2 := hf 2 _ rfl
        simp [cb, ci] at g0 g1 g2
        obtain ⟨s, e0, _⟩ := DataW.trod_bool Tryd.underlying4 g0
        obtain ⟨p, e1, _, w1⟩ := DataW.trod_int Tryd.underlying3 g1
        obtain ⟨q, e2, _, w2⟩ := DataW.trod_int Tryd.underlying3 g2
        simp at e0 e1 e2
        have k0 := hcell 0 (by omega)
        have k1 := hcell 1 (by omega)
        have k2 := hcell 2 (by omega)
        rw [Go.Deep.add_add] at k0 k1 k2
        subst e0 e1 e2
        exact ⟨⟨s, p, q⟩, by simpa using k0, by simpa using k1, by simpa using k2, W64.of w1, W64.of w2⟩
    haveI : Inhabited Gt := ⟨⟨false, 0, 0⟩⟩
    obtain ⟨q, hq⟩ := Go.Deep.choose_lt each
    refine ⟨x0, some a, len, cap, q, rfl, W64.of wx0, hl, by omega, ?_, fun i hi => ⟨(hq i hi).2.2.2.1, (hq i hi).2.2.2.2⟩⟩
    by_cases h0 : len = 0
    · exact Or.inl h0
    · obtain ⟨b, off, spot⟩ := a
      have hspot : spot = none := by simpa [Addr.add] using World.cell?_spot (hq 0 (by omega)).1
      subst hspot
      refine Or.inr ⟨b, off, rfl, World.block_lt_of_cell? _ _ (hq 0 (by omega)).1, fun i hi => ?_⟩
      have := hq i hi
      rw [Go.WideShapes.add_plain, Go.WideShapes.add_plain, Go.WideShapes.add_plain] at this
      exact ⟨this.1, by rw [Nat.add_assoc]; exact this.2.1, by rw [Nat.add_assoc]; exact this.2.2.1⟩
set_option maxRecDepth 100000 in
set_option maxHeartbeats 400000 in
theorem eqGate_same (x : Bool) (p q : Int) (w : World) :
    Calls Tryd.prog 86 #[.agg #[.bool x, .int .i64 p, .int .i64 q], .agg #[.bool x, .int .i64 p, .int .i64 q]] w fun e w' => e = .returned (.bool true) ∧ Below w.heap.size w w' := by
  have k0 : (x != x) = false := by simp
  have k1 : (p != p) = false := by simp
  have k2 : (q != q) = false := by simp
  go_enter Tryd.func86, Tryd.ntmps86
  go_wp2
  go_ret
  exact ⟨rfl, (by repeat (first | exact Below.refl _ _ | assumption | refine below_drewN ?_ _ | refine Below.drew ?_ | refine Below.alloc ?_ (by first | exact Nat.le_refl _ | exact Below.size (by assumption) | (simp; done) | (simp; omega)) _ | refine Below.setCell ?_ (by first | exact Nat.le_refl _ | exact Below.size (by assumption) | (simp; done) | (simp; omega)) _ | refine Below.trans ?_ (by assumption)))⟩
set_option maxRecDepth 100000 in
set_option maxHeartbeats 1000000 in
theorem eqGateS_same (a c : Option Addr) (n cap cap' : Nat) (G : Nat → Gt) (w : World) (hd : GtsAt w a n G) (hd' : GtsAt w c n G) (hn : n ≤ 1048576) :
    Calls Tryd.prog 59 #[.slice a n cap, .slice c n cap'] w fun e w' => e = .returned (.bool true) ∧ Below w.heap.size w w' := by
  have HD := hide hd
  have HE := hide hd'
  clear hd hd'
  go_enter Tryd.func59, Tryd.ntmps59
  go_wp2
  go_loopw [5] (fun i wr => ∃ k : Nat, k ≤ n ∧ i = .int .i64 k ∧ Below w.heap.size w wr) (fun i _ => n - (intOf i).toNat)
  case atStart => exact ⟨0, by omega, rfl, (by repeat (first | exact Below.refl _ _ | assumption | refine below_drewN ?_ _ | refine Below.drew ?_ | refine Below.alloc ?_ (by first | exact Nat.le_refl _ | exact Below.size (by assumption) | (simp; done) | (simp; omega)) _ | refine Below.setCell ?_ (by first | exact Nat.le_refl _ | exact Below.size (by assumption) | (simp; done) | (simp; omega)) _ | refine Below.trans ?_ (by assumption)))⟩
  case round =>
    obtain ⟨k, hk, rfl, hbel⟩ := hrel
    by_cases hlt : k < n
    · obtain ⟨b, off, rfl, hb, hd⟩ := (unhide HD).ok hlt
      obtain ⟨c, off', rfl, hc, hd'⟩ := (unhide HE).ok hlt
      obtain ⟨c0, c1, c2⟩ := hd k hlt
      obtain ⟨e0, e1, e2⟩ := hd' k hlt
      have d0 := (hbel.cell (p := ⟨b, off + k * 3, none⟩) hb).trans c0
      have d1 := (hbel.cell (p := ⟨b, off + k * 3 + 1, none⟩) hb).trans c1
      have d2 := (hbel.cell (p := ⟨b, off + k * 3 + 2, none⟩) hb).trans c2
      have g0 := (hbel.cell (p := ⟨c, off' + k * 3, none⟩) hc).trans e0
      have g1 := (hbel.cell (p := ⟨c, off' + k * 3 + 1, none⟩) hc).trans e1
      have g2 := (hbel.cell (p := ⟨c, off' + k * 3 + 2, none⟩) hc).trans e2
      clear c0 c1 c2 e0 e1 e2 hd hd'
      go_wp2
      go_region_held3 (fun w' => w'.cell? ⟨b, off + k * 3, none⟩ = some (.bool (G k).x) ∧ w'.cell? ⟨b, off + k * 3 + 1, none⟩ = some (.int .i64 (G k).a) ∧ w'.cell? ⟨b, off + k * 3 + 2, none⟩ = some (.int .i64 (G k).b) ∧ w'.cell? ⟨c, off' + k * 3, none⟩ = some (.bool (G k).x) ∧ w'.cell? ⟨c, off' + k * 3 + 1, none⟩ = some (.int .i64 (G k).a) ∧ w'.cell? ⟨c, off' + k * 3 + 2, none⟩ = some (.int .i64 (G k).b)) (first | go_keep | exact ⟨d0, d1, d2, g0, g1, g2⟩)
        (first | (go_at_call 86; refine (eqGate_same _ _ _ _).mono ?_; rintro e wq ⟨rfl, bq⟩; have BL := (by first | exact hbel.trans (bq.mono hbel.size) | exact hbel.drew.trans (bq.mono hbel.size)); have d0 := cell_later bq (by exact d0); have d1 := cell_later bq (by exact d1); have d2 := cell_later bq (by exact d2); have g0 := cell_later bq (by exact g0); have g1 := cell_later bq (by exact g1); have g2 := cell_later bq (by exact g2)))
      all_goals go_wp2
      all_goals go_roundw
      all_goals first | exact ⟨k + 1, by omega, by go_num, (by first | exact BL | exact BL.drew)⟩ | (simp [intOf]; omega)
    · go_wp2
      go_ret
      exact ⟨rfl, hbel⟩
set_option maxRecDepth 100000 in
set_option maxHeartbeats 1000000 in
theorem eqNet_same (m : Int) (a c : Option Addr) (n cap cap' : Nat) (G : Nat → Gt) (w : World) (hd : GtsAt w a n G) (hd' : GtsAt w c n G) (hn : n ≤ 1048576) :
    Calls Tryd.prog 24 #[.agg #[.int .i64 m, .slice a n cap], .agg #[.int .i64 m, .slice c n cap']] w fun e w' => e = .returned (.bool true) ∧ Below w.heap.size w w' := by
  have HD := hide hd
  have HE := hide hd'
  clear hd hd'
  have kb : (m != m) = false := by simp
  go_enter Tryd.func24, Tryd.ntmps24
  go_wp2_with fail
  obtain ⟨wz, hwz⟩ : ∃ wz, wz = (w.alloc (.cells #[.int .i64 m, .slice a n cap] 25)).alloc (.cells #[.int .i64 m, .slice c n cap'] 25) := ⟨_, rfl⟩
  have BZ : Below w.heap.size w wz := by rw [hwz]; exact ((Below.refl _ _).alloc (Nat.le_refl _) _).alloc (by simp) _
  rw [← hwz]
  refine (eqGateS_same _ _ _ _ _ _ wz ((unhide HD).later BZ) ((unhide HE).later BZ) hn).mono ?_
  rintro e wq ⟨rfl, bq⟩
  go_wp2
  go_ret
  exact ⟨rfl, BZ.trans (bq.mono BZ.size)⟩
end Go.Proofs.YtmpiiilkaadhfaaDoor
