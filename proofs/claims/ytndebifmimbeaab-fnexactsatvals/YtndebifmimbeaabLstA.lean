/- Lists of lists of numbers: how they lie in memory, their copies, counts and comparisons, and those of clauses. -/
import Derived.Test.YtndebifmimbeaabClaA
import Derived.Deep.Matrix
namespace Go.Proofs.Ytndebifmimbeaab
open Go.ChangeShapes Go.WideShapes Go.ChangeAt Go.RowKit Go.Joins
set_option linter.unusedVariables false

/-- Lists in a row, each with its numbers. -/
def Rws (w : World) (b off n : Nat) (A : Nat → Option Addr) (L C : Nat → Nat) (V : Nat → Nat → Int) : Prop :=
  ∀ i, i < n → w.cell? ⟨b, off + i, none⟩ = some (.slice (A i) (L i) (C i)) ∧ IntsAt w (A i) (L i) (V i)
theorem Rws.later {w w' : World} {b off n : Nat} {A : Nat → Option Addr} {L C : Nat → Nat} {V : Nat → Nat → Int} (h : Rws w b off n A L C V) (hb : Below w.heap.size w w') : Rws w' b off n A L C V :=
  fun i hi => ⟨cell_later hb (h i hi).1, (h i hi).2.later hb⟩
def RwsAt (w : World) (a : Option Addr) (n : Nat) (A : Nat → Option Addr) (L C : Nat → Nat) (V : Nat → Nat → Int) : Prop :=
  n = 0 ∨ ∃ b off, a = some ⟨b, off, none⟩ ∧ b < w.heap.size ∧ Rws w b off n A L C V
theorem RwsAt.later {w w' : World} {a : Option Addr} {n : Nat} {A : Nat → Option Addr} {L C : Nat → Nat} {V : Nat → Nat → Int} (h : RwsAt w a n A L C V) (hb : Below w.heap.size w w') : RwsAt w' a n A L C V := by
  rcases h with h | ⟨b, off, h1, h2, h3⟩
  · exact Or.inl h
  · exact Or.inr ⟨b, off, h1, Nat.lt_of_lt_of_le h2 hb.size, h3.later hb⟩
theorem RwsAt.ok {w : World} {a : Option Addr} {n k : Nat} {A : Nat → Option Addr} {L C : Nat → Nat} {V : Nat → Nat → Int} (h : RwsAt w a n A L C V) (hk : k < n) : ∃ b off, a = some ⟨b, off, none⟩ ∧ b < w.heap.size ∧ Rws w b off n A L C V := h.resolve_left (by omega)
theorem Rws.at {w : World} {b off n : Nat} {A : Nat → Option Addr} {L C : Nat → Nat} {V : Nat → Nat → Int} (h : Rws w b off n A L C V) (hb : b < w.heap.size) : RwsAt w (some ⟨b, off, none⟩) n A L C V := Or.inr ⟨b, off, rfl, hb, h⟩
/-- A copy that a call has made: each list lies in a block of its own, that may be written. -/
def Cop (w : World) (lo B n : Nat) (bs : Nat → Nat) (L : Nat → Nat) (V : Nat → Nat → Int) : Prop :=
  ∀ i, i < n → w.cell? ⟨B, i, none⟩ = some (.slice (some ⟨bs i, 0, none⟩) (L i) (L i)) ∧ lo ≤ bs i ∧ Made w (bs i) (L i) ∧ Ints w (bs i) 0 (L i) (V i)
theorem Cop.later {w w' : World} {lo B n : Nat} {bs L : Nat → Nat} {V : Nat → Nat → Int} (h : Cop w lo B n bs L V) (hb : Below w.heap.size w w') : Cop w' lo B n bs L V :=
  fun i hi => ⟨cell_later hb (h i hi).1, (h i hi).2.1, (h i hi).2.2.1.later hb, (h i hi).2.2.2.later hb⟩
theorem Cop.mono {w : World} {lo lo' B n : Nat} {bs L : Nat → Nat} {V : Nat → Nat → Int} (h : Cop w lo B n bs L V) (hl : lo' ≤ lo) : Cop w lo' B n bs L V :=
  fun i hi => ⟨(h i hi).1, Nat.le_trans hl (h i hi).2.1, (h i hi).2.2⟩
theorem Cop.rws {w : World} {lo B n : Nat} {bs L : Nat → Nat} {V : Nat → Nat → Int} (h : Cop w lo B n bs L V) : Rws w B 0 n (fun i => some ⟨bs i, 0, none⟩) L L V :=
  fun i hi => ⟨by rw [Nat.zero_add]; exact (h i hi).1, (h i hi).2.2.2.at (h i hi).2.2.1.1⟩
theorem Made.ints {w : World} {B m n : Nat} {V : Nat → Int} {b off : Nat} (h : Ints w b off n V) (p : Addr) (v : Value) (hp : p.block ≠ b) : Ints (w.setCell p v) b off n V := fun i hi => by
  rw [World.cell?_setCell_other _ _ _ _ (by intro e; apply hp; rw [e])]; exact h i hi
theorem Cop.put {w : World} {lo B k q : Nat} {bs L : Nat → Nat} {V : Nat → Nat → Int} {u0 : Value} (h : Cop w lo B k bs L V) (hB : B < lo) (q0 : w.cell? ⟨B, k, none⟩ = some u0) (hq : lo ≤ q) (hm : Made w q (L k)) (hi : Ints w q 0 (L k) (V k)) :
    Cop (w.setCell ⟨B, k, none⟩ (.slice (some ⟨q, 0, none⟩) (L k) (L k))) lo B (k + 1) (fun i => if i = k then q else bs i) L V := by
  intro i hi'
  by_cases e : i = k
  · subst e
    simp only [if_true]
    exact ⟨World.cell?_setCell_same _ _ _ q0, hq, hm.set _ _, Made.ints (B := 0) (m := 0) hi _ _ (by simp only; omega)⟩
  · simp only [if_neg e]
    obtain ⟨h1, h2, h3, h4⟩ := h i (by omega)
    exact ⟨by rw [World.cell?_setCell_other _ _ _ _ (by simp <;> omega)]; exact h1, h2, h3.set _ _, Made.ints (B := 0) (m := 0) h4 _ _ (by simp only; omega)⟩
theorem Cop.set {w : World} {lo B n : Nat} {bs L : Nat → Nat} {V : Nat → Nat → Int} (h : Cop w lo B n bs L V) {p : Addr} (v : Value) (hp : p.block < B) (hB : B < lo) : Cop (w.setCell p v) lo B n bs L V := by
  intro i hi
  obtain ⟨h1, h2, h3, h4⟩ := h i hi
  exact ⟨by rw [World.cell?_setCell_other _ _ _ _ (by intro e; rw [e] at hp; simp at hp)]; exact h1, h2, h3.set _ _, Made.ints (B := 0) (m := 0) h4 _ _ (by omega)⟩
theorem Rws.drew {w : World} {b off n : Nat} {A : Nat → Option Addr} {L C : Nat → Nat} {V : Nat → Nat → Int} (h : Rws w b off n A L C V) : Rws w.drew b off n A L C V := h
theorem RwsAt.drew {w : World} {a : Option Addr} {n : Nat} {A : Nat → Option Addr} {L C : Nat → Nat} {V : Nat → Nat → Int} (h : RwsAt w a n A L C V) : RwsAt w.drew a n A L C V := h
theorem Cop.drew {w : World} {lo B n : Nat} {bs L : Nat → Nat} {V : Nat → Nat → Int} (h : Cop w lo B n bs L V) : Cop w.drew lo B n bs L V := h
theorem Bls.drew {w : World} {b off n : Nat} {V : Nat → Bool} (h : Bls w b off n V) : Bls w.drew b off n V := h
theorem BlsAt.drew {w : World} {a : Option Addr} {n : Nat} {V : Nat → Bool} (h : BlsAt w a n V) : BlsAt w.drew a n V := h
theorem Ints.drew {w : World} {b off n : Nat} {V : Nat → Int} (h : Ints w b off n V) : Ints w.drew b off n V := h
theorem IntsAt.drew {w : World} {a : Option Addr} {n : Nat} {V : Nat → Int} (h : IntsAt w a n V) : IntsAt w.drew a n V := h
theorem Made.drew {w : World} {B m : Nat} (h : Made w B m) : Made w.drew B m := h
/-- A struct of clauses in a block of its own. -/
def Box (w : World) (b : Nat) (m : Int) (a : Option Addr) (n cap : Nat) : Prop := w.cell? ⟨b, 0, none⟩ = some (.int .i64 m) ∧ w.cell? ⟨b, 1, none⟩ = some (.slice a n cap)
theorem Box.later {w w' : World} {b : Nat} {m : Int} {a : Option Addr} {n cap : Nat} (h : Box w b m a n cap) (hb : Below w.heap.size w w') : Box w' b m a n cap := ⟨cell_later hb h.1, cell_later hb h.2⟩
theorem Box.drew {w : World} {b : Nat} {m : Int} {a : Option Addr} {n cap : Nat} (h : Box w b m a n cap) : Box w.drew b m a n cap := h
theorem Box.new (w : World) (m : Int) (a : Option Addr) (n cap : Nat) (t : TypeId) : Box (w.alloc (.cells #[.int .i64 m, .slice a n cap] t)) w.heap.size m a n cap := ⟨by simp [go_sem], by simp [go_sem]⟩
theorem infoInts : (Try.prog.info? 22).map (fun i => (i.zero, i.size, i.bytes)) = some (some (.slice none 0 0), 1, 24) := by kernel_rfl
set_option maxHeartbeats 1000000 in
theorem toIntSS_any (a : Option Addr) (n cap : Nat) (A : Nat → Option Addr) (L C : Nat → Nat) (V : Nat → Nat → Int) (w : World) (hd : RwsAt w a n A L C V) (hn : n ≤ 1048576) (hL : ∀ i, i < n → L i ≤ 1048576) :
    Calls Try.prog 25 #[.slice a n cap] w fun e w' => ∃ bs, e = .returned (.slice (some ⟨w.heap.size, 0, none⟩) n n) ∧ Cop w' (w.heap.size + 1) w.heap.size n bs L V ∧ w.heap.size < w'.heap.size ∧ Below w.heap.size w w' := by
  have hmk := run_make_wide (P := Try.prog) 23 22 _ 1 24 Try.underlying23 infoInts .i64 .i64 n (by omega) (by omega)
  simp only [Nat.mul_one] at hmk
  rcases hd with rfl | ⟨b, off, rfl, hb, hd⟩
  · simp only [Int.natCast_zero] at hmk
    go_enter Try.func25, Try.ntmps25
    go_wp2
    go_loopw [4] (fun i wr => i = .int .i64 0 ∧ wr.heap.size = w.heap.size + 1 ∧ Below w.heap.size w wr) (fun _ _ => 0)
    case atStart => exact ⟨rfl, by simp, (by repeat (first | exact Below.refl _ _ | assumption | refine below_drewN ?_ _ | refine Below.drew ?_ | refine Below.alloc ?_ (by first | exact Nat.le_refl _ | exact Below.size (by assumption) | (simp; done) | (simp; omega)) _ | refine Below.setCell ?_ (by first | exact Nat.le_refl _ | exact Below.size (by assumption) | (simp; done) | (simp; omega)) _ | refine Below.trans ?_ (by assumption)))⟩
    case round =>
      obtain ⟨rfl, hsz, hbel⟩ := hrel
      go_wp2
      go_ret
      exact ⟨fun _ => 0, rfl, fun i hi => by omega, by omega, hbel⟩
  · have HD := hide hd
    have HL := hide hL
    clear hd hL
    go_enter Try.func25, Try.ntmps25
    go_wp2
    go_loopw [4] (fun i wr => ∃ (k : Nat) (bs : Nat → Nat), k ≤ n ∧ i = .int .i64 k ∧ Cop wr (w.heap.size + 1) w.heap.size k bs L V ∧ Made wr w.heap.size n ∧ Below w.heap.size w wr) (fun i _ => n - (intOf i).toNat)
    case atStart => exact ⟨0, fun _ => 0, by omega, rfl, fun i hi => by omega, Made.new _ _ _ _, (by repeat (first | exact Below.refl _ _ | assumption | refine below_drewN ?_ _ | refine Below.drew ?_ | refine Below.alloc ?_ (by first | exact Nat.le_refl _ | exact Below.size (by assumption) | (simp; done) | (simp; omega)) _ | refine Below.setCell ?_ (by first | exact Nat.le_refl _ | exact Below.size (by assumption) | (simp; done) | (simp; omega)) _ | refine Below.trans ?_ (by assumption)))⟩
    case round =>
      obtain ⟨k, bs, hk, rfl, hdk, hmd, hbel⟩ := hrel
      have HK := hide hdk
      have HM := hide hmd
      clear hdk hmd
      have hlt0 := (unhide HM).1
      by_cases hlt : k < n
      · have d0 := (hbel.cell (p := ⟨b, off + k, none⟩) hb).trans (unhide HD k hlt).1
        have hI : IntsAt wr (A k) (L k) (V k) := by
          rcases (unhide HD k hlt).2 with h | ⟨c, o, h1, h2, h3⟩
          · exact Or.inl h
          · exact Or.inr ⟨c, o, h1, Nat.lt_of_lt_of_le h2 hbel.size, fun j hj => (hbel.cell (p := ⟨c, o + j, none⟩) h2).trans (h3 j hj)⟩
        have HI := hide hI
        clear hI
        go_wp2_with fail
        refine (toIntS_made _ _ _ _ _ (unhide HI) (unhide HL k hlt)).mono ?_
        rintro e w1 ⟨rfl, hi1, hm1, b1⟩
        have HM1 := hide ((unhide HM).later b1)
        have HK1 := hide ((unhide HK).later b1)
        have HI1 := hide hi1
        have HX1 := hide hm1
        clear hi1 hm1
        obtain ⟨⟨u0, q0⟩, f0⟩ := (unhide HM1).2 k (by omega)
        have l1 := (unhide HM1).1
        go_wp2
        go_roundw
        case rel => exact ⟨k + 1, _, by omega, by go_num, (unhide HK1).put (by omega) q0 (by omega) (unhide HX1) (unhide HI1), (unhide HM1).set _ _, (hbel.trans (b1.mono hbel.size)).setCell (Nat.le_refl _) _⟩
        case measure => simp [intOf]; omega
      · have e : k = n := by omega
        subst e
        go_wp2
        go_ret
        exact ⟨bs, rfl, unhide HK, hlt0, hbel⟩
set_option maxHeartbeats 400000 in
theorem szIntS_any (a : Option Addr) (n cap : Nat) (left : Int) (w : World) (h0 : 0 ≤ left) (h1 : left ≤ 1048576) (hs : n ≤ maxLen) :
    Calls Try.prog 20 #[.slice a n cap, .int .i64 left] w fun e w' => (∃ z : Int, e = .returned (.int .i64 z) ∧ (z < 0 ∨ 0 ≤ z ∧ z = left - n)) ∧ w' = w := by
  unfold maxLen at hs
  by_cases h : (n : Int) ≤ left
  · go_enter Try.func20, Try.ntmps20
    go_wp2
    go_ret
    exact ⟨⟨_, rfl, Or.inr ⟨by omega, rfl⟩⟩, rfl⟩
  · go_enter Try.func20, Try.ntmps20
    go_wp2
    go_ret
    exact ⟨⟨_, rfl, Or.inl (by omega)⟩, rfl⟩
set_option maxHeartbeats 1000000 in
theorem szIntSS_any (a : Option Addr) (n cap : Nat) (A : Nat → Option Addr) (L C : Nat → Nat) (V : Nat → Nat → Int) (left : Int) (w : World) (hd : RwsAt w a n A L C V) (h0 : 0 ≤ left) (h1 : left ≤ 1048576) (hn : n ≤ maxLen) (hs : ∀ i, i < n → L i ≤ maxLen) :
    Calls Try.prog 21 #[.slice a n cap, .int .i64 left] w fun e w' => (∃ z : Int, e = .returned (.int .i64 z) ∧ (z < 0 ∨ 0 ≤ z ∧ z ≤ left ∧ n ≤ left ∧ ∀ i, i < n → L i ≤ left)) ∧ w' = w := by
  unfold maxLen at hn
  have HS := hide hs
  have HD := hide hd
  clear hs hd
  by_cases h : (n : Int) ≤ left
  · go_enter Try.func21, Try.ntmps21
    go_wp2
    go_loopw [5, 1] (fun i l wr => ∃ (k : Nat) (z : Int), k ≤ n ∧ i = .int .i64 k ∧ l = .int .i64 z ∧ 0 ≤ z ∧ z ≤ left ∧ (∀ j, j < k → L j ≤ left) ∧ wr = w) (fun i _ _ => n - (intOf i).toNat)
    case atStart => exact ⟨0, left - n, by omega, rfl, by go_num, by omega, by omega, fun j hj => by omega, rfl⟩
    case round =>
      obtain ⟨k, z, hk, rfl, rfl, z0, z1, hz, rfl⟩ := hrel
      have HZ := hide hz
      clear hz
      by_cases hlt : k < n
      · obtain ⟨b, off, rfl, hb, hd⟩ := (unhide HD).ok hlt
        have d0 := (hd k hlt).1
        clear hd
        have hsk := unhide HS k hlt
        go_wp2_with fail
        refine (szIntS_any _ _ _ _ _ z0 (by omega) hsk).mono ?_
        rintro e w1 ⟨⟨y, rfl, hy⟩, rfl⟩
        by_cases hle : 0 ≤ y
        · go_wp2
          go_roundw
          case rel =>
            refine ⟨k + 1, y, by omega, by go_num, rfl, by omega, by omega, ?_, trivial⟩
            intro j hj
            by_cases e : j = k
            · subst e; omega
            · exact unhide HZ j (by omega)
          case measure => simp [intOf]; omega
        · go_wp2
          go_ret
          exact ⟨⟨_, rfl, Or.inl (by omega)⟩, rfl⟩
      · have e : k = n := by omega
        subst e
        go_wp2
        go_ret
        exact ⟨⟨_, rfl, Or.inr ⟨z0, z1, by omega, unhide HZ⟩⟩, rfl⟩
  · go_enter Try.func21, Try.ntmps21
    go_wp2
    go_ret
    exact ⟨⟨_, rfl, Or.inl (by omega)⟩, rfl⟩
set_option maxHeartbeats 400000 in
theorem szCnf_any (m : Int) (a : Option Addr) (n cap : Nat) (A : Nat → Option Addr) (L C : Nat → Nat) (V : Nat → Nat → Int) (left : Int) (w : World) (hd : RwsAt w a n A L C V) (h0 : 0 ≤ left) (h1 : left ≤ 1048576) (hn : n ≤ maxLen) (hs : ∀ i, i < n → L i ≤ maxLen) :
    Calls Try.prog 10 #[.agg #[.int .i64 m, .slice a n cap], .int .i64 left] w fun e w' => (∃ z : Int, e = .returned (.int .i64 z) ∧ (z < 0 ∨ 0 ≤ z ∧ z ≤ left ∧ n ≤ left ∧ ∀ i, i < n → L i ≤ left)) ∧ Below w.heap.size w w' := by
  have HD := hide hd
  have HS := hide hs
  clear hd hs
  go_enter Try.func10, Try.ntmps10
  go_wp2_with fail
  refine (szIntSS_any _ _ _ _ _ _ _ _ _ ((unhide HD).later ((by repeat (first | exact Below.refl _ _ | assumption | refine below_drewN ?_ _ | refine Below.drew ?_ | refine Below.alloc ?_ (by first | exact Nat.le_refl _ | exact Below.size (by assumption) | (simp; done) | (simp; omega)) _ | refine Below.setCell ?_ (by first | exact Nat.le_refl _ | exact Below.size (by assumption) | (simp; done) | (simp; omega)) _ | refine Below.trans ?_ (by assumption))))) h0 h1 hn (unhide HS)).mono ?_
  rintro e w1 ⟨⟨z, rfl, hz⟩, rfl⟩
  have HZ := hide hz
  clear hz
  by_cases hlt : 0 ≤ z
  · go_wp2
    go_ret
    exact ⟨⟨_, rfl, unhide HZ⟩, (by repeat (first | exact Below.refl _ _ | assumption | refine below_drewN ?_ _ | refine Below.drew ?_ | refine Below.alloc ?_ (by first | exact Nat.le_refl _ | exact Below.size (by assumption) | (simp; done) | (simp; omega)) _ | refine Below.setCell ?_ (by first | exact Nat.le_refl _ | exact Below.size (by assumption) | (simp; done) | (simp; omega)) _ | refine Below.trans ?_ (by assumption)))⟩
  · go_wp2
    go_ret
    exact ⟨⟨_, rfl, Or.inl (by omega)⟩, (by repeat (first | exact Below.refl _ _ | assumption | refine below_drewN ?_ _ | refine Below.drew ?_ | refine Below.alloc ?_ (by first | exact Nat.le_refl _ | exact Below.size (by assumption) | (simp; done) | (simp; omega)) _ | refine Below.setCell ?_ (by first | exact Nat.le_refl _ | exact Below.size (by assumption) | (simp; done) | (simp; omega)) _ | refine Below.trans ?_ (by assumption)))⟩
set_option maxHeartbeats 1000000 in
theorem toCnf_any (m : Int) (a : Option Addr) (n cap : Nat) (A : Nat → Option Addr) (L C : Nat → Nat) (V : Nat → Nat → Int) (w : World) (hd : RwsAt w a n A L C V) (hn : n ≤ 1048576) (hL : ∀ i, i < n → L i ≤ 1048576) :
    Calls Try.prog 12 #[.agg #[.int .i64 m, .slice a n cap]] w fun e w' => ∃ (B : Nat) (bs : Nat → Nat), e = .returned (.agg #[.int .i64 m, .slice (some ⟨B, 0, none⟩) n n]) ∧ w.heap.size ≤ B ∧ B < w'.heap.size ∧ Cop w' (B + 1) B n bs L V ∧ Below w.heap.size w w' := by
  have HD := hide hd
  have HL := hide hL
  clear hd hL
  go_enter Try.func12, Try.ntmps12
  go_wp2_with fail
  have e1 : Below w.heap.size w (((w.alloc (.cells #[.int .i64 m, .slice a n cap] 32)).alloc (.cells #[.int .i64 0, .slice none 0 0] 36)).alloc (.cells #[.int .i64 m, .slice none 0 0] 36)) := (((Below.refl w.heap.size w).alloc (by simp <;> omega) _).alloc (by simp <;> omega) _).alloc (by simp <;> omega) _
  refine (toIntSS_any _ _ _ _ _ _ _ _ ((unhide HD).later e1) hn (unhide HL)).mono ?_
  rintro e w1 ⟨bs, rfl, hc, hl, b1⟩
  have BL := e1.trans (b1.mono (by simp <;> omega))
  simp only [World.size_alloc] at hc hl
  have HC := hide hc
  clear hc e1
  have r0 : w1.cell? ⟨w.heap.size + 1, 0, none⟩ = some (.int .i64 0) := cell_later b1 (by simp [go_sem])
  have r1 : w1.cell? ⟨w.heap.size + 1, 1, none⟩ = some (.slice none 0 0) := cell_later b1 (by simp [go_sem])
  have p0 : w1.cell? ⟨w.heap.size + 2, 0, none⟩ = some (.int .i64 m) := cell_later b1 (by simp [go_sem])
  have p1 : w1.cell? ⟨w.heap.size + 2, 1, none⟩ = some (.slice none 0 0) := cell_later b1 (by simp [go_sem])
  have f1 : w1.frozen? ⟨w.heap.size + 2, 1, none⟩ = false := by rw [b1.frozen (by simp)]; simp [go_sem]
  have g0 : w1.frozen? ⟨w.heap.size + 1, 0, none⟩ = false := by rw [b1.frozen (by simp)]; simp [go_sem]
  have g1 : w1.frozen? ⟨w.heap.size + 1, 1, none⟩ = false := by rw [b1.frozen (by simp)]; simp [go_sem]
  clear b1
  have n0 : w.heap.size + 2 ≠ w.heap.size + 1 := by omega
  have n1 : w.heap.size + 1 ≠ w.heap.size + 2 := by omega
  go_wp2
  refine bodyPost_ret (v := .agg #[.int .i64 m, .slice (some ⟨w.heap.size + 1 + 1 + 1, 0, none⟩) n n]) (by simp [results, Try.results12, go_sem, r0, r1]) rfl ⟨_, bs, rfl, by omega, by simp; omega, ?_, ?_⟩
  · exact (((unhide HC).set _ (by simp) (by omega)).set _ (by simp) (by omega)).set _ (by simp) (by omega)
  · exact ((BL.setCell (by simp <;> omega) _).setCell (by simp <;> omega) _).setCell (by simp <;> omega) _
theorem cellsCnf : Try.prog.cellsOf 32 = 2 := by kernel_rfl
theorem cnf_in {H : Type} {enc : TypeId × Value → H} {w : World} {base : Nat} {v : Value} {d : DataW H} {p : List MemPlace} {held : Bool} (hv : Value.okWide Try.prog w .any base 32 v)
    (h : DataW.Trod enc Try.prog w 0 (fun _ => true) held 32 v d p) : ∃ (m : Int) (a : Option Addr) (n cap : Nat) (A : Nat → Option Addr) (L C : Nat → Nat) (V : Nat → Nat → Int),
      v = .agg #[.int .i64 m, .slice a n cap] ∧ W64 m ∧ n ≤ cap ∧ n ≤ maxLen ∧ RwsAt w a n A L C V ∧ ∀ i, i < n → L i ≤ maxLen ∧ ∀ j, j < L i → W64 (V i j) := by
  obtain ⟨c0, c1, y0, y1, m, rfl, rfl, rfl, hy0, hy1⟩ := open_agg2 Try.underlying32 (by kernel_rfl) cellsCnf hv h
  obtain ⟨x0, e0, rfl, wx0⟩ := DataW.trod_int Try.underlying3 hy0
  simp at e0
  subst e0
  rcases Go.Deep.open_int_rows Try.underlying23 Try.underlying22 Try.underlying3 (by kernel_rfl) (by kernel_rfl) hy1 with ⟨hcs, _⟩ | ⟨a, len, cap, A, L, C, Z, hcs, _, hl, hm, _, hr⟩
  · simp at hcs
    subst hcs
    exact ⟨x0, none, 0, 0, fun _ => none, fun _ => 0, fun _ => 0, fun _ _ => 0, rfl, W64.of wx0, Nat.le_refl _, by unfold maxLen; omega, Or.inl rfl, fun i hi => by omega⟩
  · simp at hcs
    subst hcs
    refine ⟨x0, some a, len, cap, A, L, C, fun i j => (Z i).getD j 0, rfl, W64.of wx0, hl, by omega, ?_, fun i hi => ?_⟩
    · by_cases h0 : len = 0
      · exact Or.inl h0
      · obtain ⟨b, off, spot⟩ := a
        have hspot : spot = none := by simpa [Addr.add] using World.cell?_spot (hr 0 (by omega)).1
        subst hspot
        refine Or.inr ⟨b, off, rfl, World.block_lt_of_cell? _ _ (hr 0 (by omega)).1, fun i hi => ?_⟩
        obtain ⟨h1, h2, h3, h4, h5, h6, h7⟩ := hr i (by omega)
        rw [Go.WideShapes.add_plain] at h1
        refine ⟨h1, ?_⟩
        by_cases hz : L i = 0
        · exact Or.inl hz
        · cases hA : A i with
          | none => have := h6 hA; omega
          | some a' =>
            obtain ⟨b', off', spot'⟩ := a'
            have h8 := (h7 _ hA).2
            have hs' : spot' = none := by simpa [Addr.add] using World.cell?_spot (h8 0 (by omega))
            subst hs'
            refine Or.inr ⟨b', off', rfl, World.block_lt_of_cell? _ _ (h8 0 (by omega)), fun j hj => ?_⟩
            have := h8 j (by omega)
            rw [Go.WideShapes.add_plain] at this
            exact this
    · obtain ⟨h1, h2, h3, h4, h5, h6, h7⟩ := hr i (by omega)
      refine ⟨by omega, fun j hj => ?_⟩
      apply W64.of
      apply h5
      show (Z i).getD j 0 ∈ Z i
      rw [List.getD_eq_getElem?_getD, List.getElem?_eq_getElem (by omega)]
      exact List.getElem_mem _
theorem IntsAt.in {w w' : World} {a : Option Addr} {n : Nat} {V : Nat → Int} {s : Nat} (h : IntsAt w a n V) (hb : Below s w w') (hs : w.heap.size ≤ s) : IntsAt w' a n V := h.later (hb.mono hs)
set_option maxHeartbeats 1000000 in
theorem eqIntS_at (a c : Option Addr) (n cap cap' : Nat) (V : Nat → Int) (w : World) (hd : IntsAt w a n V) (hd' : IntsAt w c n V) (hn : n ≤ 1048576) :
    Calls Try.prog 28 #[.slice a n cap, .slice c n cap'] w fun e w' => e = .returned (.bool true) ∧ Below w.heap.size w w' := by
  rcases hd with rfl | ⟨b, off, rfl, hb, hd⟩
  · go_enter Try.func28, Try.ntmps28
    go_wp2
    go_loopw [5] (fun i wr => i = .int .i64 0 ∧ Below w.heap.size w wr) (fun i _ => 0)
    case atStart => exact ⟨rfl, (by repeat (first | exact Below.refl _ _ | assumption | refine below_drewN ?_ _ | refine Below.drew ?_ | refine Below.alloc ?_ (by first | exact Nat.le_refl _ | exact Below.size (by assumption) | (simp; done) | (simp; omega)) _ | refine Below.setCell ?_ (by first | exact Nat.le_refl _ | exact Below.size (by assumption) | (simp; done) | (simp; omega)) _ | refine Below.trans ?_ (by assumption)))⟩
    case round =>
      obtain ⟨rfl, hbel⟩ := hrel
      go_wp2
      go_ret
      exact ⟨rfl, hbel⟩
  · rcases hd' with rfl | ⟨c, off', rfl, hc, hd'⟩
    · go_enter Try.func28, Try.ntmps28
      go_wp2
      go_loopw [5] (fun i wr => i = .int .i64 0 ∧ Below w.heap.size w wr) (fun i _ => 0)
      case atStart => exact ⟨rfl, (by repeat (first | exact Below.refl _ _ | assumption | refine below_drewN ?_ _ | refine Below.drew ?_ | refine Below.alloc ?_ (by first | exact Nat.le_refl _ | exact Below.size (by assumption) | (simp; done) | (simp; omega)) _ | refine Below.setCell ?_ (by first | exact Nat.le_refl _ | exact Below.size (by assumption) | (simp; done) | (simp; omega)) _ | refine Below.trans ?_ (by assumption)))⟩
      case round =>
        obtain ⟨rfl, hbel⟩ := hrel
        go_wp2
        go_ret
        exact ⟨rfl, hbel⟩
    · exact eqIntS_same _ _ _ _ _ _ _ _ _ hb hc hd hd' hn
set_option maxHeartbeats 1000000 in
theorem eqIntSS_same (b off c off' n cap cap' : Nat) (A A' : Nat → Option Addr) (L C C' : Nat → Nat) (V : Nat → Nat → Int) (w : World) (hb : b < w.heap.size) (hc : c < w.heap.size) (hd : Rws w b off n A L C V) (hd' : Rws w c off' n A' L C' V) (hn : n ≤ 1048576) (hL : ∀ i, i < n → L i ≤ 1048576) :
    Calls Try.prog 29 #[.slice (some ⟨b, off, none⟩) n cap, .slice (some ⟨c, off', none⟩) n cap'] w fun e w' => e = .returned (.bool true) ∧ Below w.heap.size w w' := by
  have HD := hide hd
  have HE := hide hd'
  have HL := hide hL
  clear hd hd' hL
  go_enter Try.func29, Try.ntmps29
  go_wp2
  go_loopw [5] (fun i wr => ∃ k : Nat, k ≤ n ∧ i = .int .i64 k ∧ Below w.heap.size w wr) (fun i _ => n - (intOf i).toNat)
  case atStart => exact ⟨0, by omega, rfl, (by repeat (first | exact Below.refl _ _ | assumption | refine below_drewN ?_ _ | refine Below.drew ?_ | refine Below.alloc ?_ (by first | exact Nat.le_refl _ | exact Below.size (by assumption) | (simp; done) | (simp; omega)) _ | refine Below.setCell ?_ (by first | exact Nat.le_refl _ | exact Below.size (by assumption) | (simp; done) | (simp; omega)) _ | refine Below.trans ?_ (by assumption)))⟩
  case round =>
    obtain ⟨k, hk, rfl, hbel⟩ := hrel
    by_cases hlt : k < n
    · have d0 := (hbel.cell (p := ⟨b, off + k, none⟩) hb).trans (unhide HD k hlt).1
      have g0 := (hbel.cell (p := ⟨c, off' + k, none⟩) hc).trans (unhide HE k hlt).1
      have I1 := hide ((unhide HD k hlt).2.later hbel)
      have I2 := hide ((unhide HE k hlt).2.later hbel)
      go_wp2
      go_region_held3 (fun w' => w'.cell? ⟨b, off + k, none⟩ = some (.slice (A k) (L k) (C k)) ∧ w'.cell? ⟨c, off' + k, none⟩ = some (.slice (A' k) (L k) (C' k))) (first | go_keep | exact ⟨d0, g0⟩)
        (first | (go_at_call 28; (first | refine (eqIntS_at _ _ _ _ _ _ wr (unhide I1) (unhide I2) (unhide HL k hlt)).mono ?_ | refine (eqIntS_at _ _ _ _ _ _ wr.drew (unhide I1) (unhide I2) (unhide HL k hlt)).mono ?_); rintro e wq ⟨rfl, bq⟩; have BL := (by first | exact hbel.trans (bq.mono hbel.size) | exact hbel.drew.trans (bq.mono hbel.size)); have d0 := cell_later bq (by exact d0); have g0 := cell_later bq (by exact g0)))
      all_goals go_wp2
      all_goals go_roundw
      all_goals first | exact ⟨k + 1, by omega, by go_num, (by first | exact BL | exact BL.drew)⟩ | (simp [intOf]; omega)
    · go_wp2
      go_ret
      exact ⟨rfl, hbel⟩
end Go.Proofs.Ytndebifmimbeaab
