/- The first list of which all clauses have one (CnfLeast), of the model and of the program. -/
import Derived.Test.YtihihjchkniifaaLeaA
import Derived.Test.YtihihjchkniifaaCnfD
namespace Go.Proofs.Ytihihjchkniifaa
open Go.ChangeShapes Go.WideShapes Go.ChangeAt Go.RowKit Go.Joins
set_option linter.unusedVariables false

/-- Which list is the first. -/
noncomputable def leastO (m : Int) (n : Nat) (L : Nat → Nat) (V : Nat → Nat → Int) : Option Nat :=
  @ite _ (CnfP m n L V ∧ m ≤ 10) (Classical.propDecidable _) (firstO (fun k => allB n L V m.toNat (vls m.toNat k)) (2 ^ m.toNat)) none
theorem leastO_yes {m : Int} {n : Nat} {L : Nat → Nat} {V : Nat → Nat → Int} (h : CnfP m n L V) (h' : m ≤ 10) : leastO m n L V = firstO (fun k => allB n L V m.toNat (vls m.toNat k)) (2 ^ m.toNat) := if_pos ⟨h, h'⟩
theorem leastO_no {m : Int} {n : Nat} {L : Nat → Nat} {V : Nat → Nat → Int} (h : ¬ (CnfP m n L V ∧ m ≤ 10)) : leastO m n L V = none := if_neg h
/-- What is handed back: that list, in memory of its own, or none. -/
def LPost (o : Option Nat) (N base : Nat) (e : Ending) (w' : World) : Prop :=
  (∃ k B, o = some k ∧ k < 2 ^ N ∧ base ≤ B ∧ e = .returned (.tuple #[.slice (some ⟨B, 0, none⟩) N N, .bool true]) ∧ Bls w' B 0 N (vls N k) ∧ Made w' B N) ∨ (o = none ∧ ∃ a cap, e = .returned (.tuple #[.slice a 0 cap, .bool false]))
theorem pow10 {N : Nat} (h : N ≤ 10) : 2 ^ N ≤ 1024 := by
  have := Nat.pow_le_pow_right (n := 2) (by omega) h
  simpa using this
theorem bls_made (w : World) (N : Nat) (t : TypeId) : Bls (w.alloc (.cells (madeCells #[.bool false] N) t)) w.heap.size 0 N (vls N 0) := by
  intro i hi
  rw [Nat.zero_add, World.cell?_alloc_new]
  have e : vls N 0 i = false := by simp [vls]
  rw [e]
  simp [madeCells, hi, Nat.mod_one]
theorem Bls.mov {w w' : World} {b off n R : Nat} {V : Nat → Bool} (h : Bls w b off n V) (hm : Mov R w w') (hb : b ≠ R) : Bls w' b off n V := fun i hi => hm.cell (h i hi) hb
theorem Box.mov {w w' : World} {b R : Nat} {m : Int} {a : Option Addr} {n cap : Nat} (h : Box w b m a n cap) (hm : Mov R w w') (hb : b ≠ R) : Box w' b m a n cap := ⟨hm.cell h.1 hb, hm.cell h.2 hb⟩
set_option maxHeartbeats 2000000 in
theorem sLeast_in (N : Nat) (a : Option Addr) (n cap : Nat) (A : Nat → Option Addr) (L C : Nat → Nat) (V : Nat → Nat → Int) (w : World) (hd : RwsAt w a n A L C V) (hf : Fits n L V) (hN : N ≤ 10) (hc : CnfP N n L V) :
    Calls Try.prog 16 #[.agg #[.int .i64 N, .slice a n cap]] w fun e w' => LPost (firstO (fun k => allB n L V N (vls N k)) (2 ^ N)) N w.heap.size e w' ∧ Below w.heap.size w w' := by
  have HD := hide hd
  have HF := hide hf
  have hv := cnfB_yes hc
  have HA : Hid (∀ B, chB N n L V N B = allB n L V N B) := hide (fun B => by simp [chB, hv])
  clear hd hf hc
  go_enter Try.func16, Try.ntmps16
  go_wp2_with fail
  obtain ⟨wz, hwz⟩ : ∃ wz, wz = w.alloc (.cells #[.int .i64 N, .slice a n cap] 25) := ⟨_, rfl⟩
  have BZ : Below w.heap.size w wz := by rw [hwz]; exact (Below.refl _ _).alloc (Nat.le_refl _) _
  have P : Box wz w.heap.size N a n cap := by rw [hwz]; exact Box.new _ _ _ _ _ _
  rw [← hwz]
  clear hwz
  refine (sCnfOk_any _ _ _ _ _ _ _ _ _ ((unhide HD).later BZ) (unhide HF)).mono ?_
  rintro e w1 ⟨rfl, b1⟩
  have BL := BZ.trans (b1.mono BZ.size)
  replace P := P.later b1
  clear b1 BZ
  obtain ⟨p0, p1⟩ := id P
  rw [hv]
  go_wp2
  go_loopw [5, 4] (fun i t wr => ∃ r : Nat, r ≤ N ∧ i = .int .i64 r ∧ t = .int .i64 ((2 ^ r : Nat) : Int) ∧ wr = w1) (fun i _ _ => N - (intOf i).toNat)
  case atStart => exact ⟨0, by omega, rfl, rfl, rfl⟩
  case round =>
    obtain ⟨r, hr, rfl, rfl, rfl⟩ := hrel
    by_cases hlt : r < N
    · have hp := pow10 (N := r) (by omega)
      have HS := hide (Nat.pow_succ 2 r)
      generalize 2 ^ r = q at *
      go_wp2
      go_roundw
      case rel => exact ⟨r + 1, by omega, by go_num, by rw [unhide HS]; go_num, trivial⟩
      case measure => simp [intOf]; omega
    · have e : r = N := by omega
      subst e
      have hp := pow10 (N := r) (by omega)
      obtain ⟨Q, hQ⟩ : ∃ Q, 2 ^ r = Q := ⟨_, rfl⟩
      have HQ := hide hQ
      rw [hQ] at hp ⊢
      clear hQ
      go_wp2
      clear p0 p1
      go_loopw [6] (fun i w2 => ∃ k : Nat, k ≤ Q ∧ i = .int .i64 k ∧ (∀ j, j < k → allB n L V r (vls r j) = false) ∧ Box w2 w.heap.size r a n cap ∧ Below w.heap.size w w2) (fun i _ => Q - (intOf i).toNat)
      case atStart => exact ⟨0, by omega, rfl, fun j hj => by omega, P, BL⟩
      case round =>
        clear P BL
        obtain ⟨k, hk, rfl, hno, P, BL⟩ := hrel
        have HN := hide hno
        clear hno
        obtain ⟨p0, p1⟩ := id P
        by_cases hkq : k < Q
        · go_wp2_with fail
          refine (l4Vals_any _ _ _ (by omega) (by omega)).mono ?_
          rintro e w3 ⟨rfl, X, XM, b3⟩
          have hBs := BL.size
          have XL := XM.1
          replace P := P.later b3
          replace BL := BL.trans (b3.mono BL.size)
          clear p0 p1 b3
          obtain ⟨p0, p1⟩ := id P
          have X' := hide X
          have XM' := hide XM
          clear X XM
          go_wp2_with fail
          refine (sCnfHas_any _ _ _ _ _ _ _ _ _ _ _ _ _ ((unhide HD).later BL) (unhide HF) ((unhide X').at XL) (by omega)).mono ?_
          rintro e w4 ⟨rfl, b4⟩
          replace P := P.later b4
          have Y := hide ((unhide X').later b4)
          have YM := hide ((unhide XM').later b4)
          replace BL := BL.trans (b4.mono BL.size)
          clear p0 p1 b4 X' XM'
          obtain ⟨p0, p1⟩ := id P
          rw [unhide HA]
          cases hh : allB n L V r (vls r k)
          · have HN1 : Hid (∀ j, j < k + 1 → allB n L V r (vls r j) = false) := fun j hj => by
              by_cases e : j = k
              · subst e; exact hh
              · exact unhide HN j (by omega)
            go_wp2
            go_roundw
            case rel => exact ⟨k + 1, by omega, by go_num, unhide HN1, P, BL⟩
            case measure => simp [intOf]; omega
          · have HO := hide (firstO_at (p := fun k => allB n L V r (vls r k)) (unhide HN) hh Q hkq)
            go_wp2
            exact bodyPost_ret (v := .tuple #[.slice _ _ _, .bool true]) (by simp [results, Try.results16, go_sem]; done) rfl ⟨Or.inl ⟨k, _, by rw [unhide HQ]; exact unhide HO, by rw [unhide HQ]; exact hkq, hBs, rfl, unhide Y, unhide YM⟩, BL⟩
        · have e : k = Q := by omega
          subst e
          have HO := hide (firstO_none (p := fun k => allB n L V r (vls r k)) (unhide HN))
          go_wp2
          exact bodyPost_ret (v := .tuple #[.slice (some ⟨wr.heap.size, 0, none⟩) 0 0, .bool false]) (by simp [results, Try.results16, go_sem]) rfl ⟨Or.inr ⟨by rw [unhide HQ]; exact unhide HO, _, _, rfl⟩, by first | exact BL | exact BL.alloc BL.size _⟩
set_option maxHeartbeats 1000000 in
theorem sLeast_no (m : Int) (a : Option Addr) (n cap : Nat) (A : Nat → Option Addr) (L C : Nat → Nat) (V : Nat → Nat → Int) (w : World) (hd : RwsAt w a n A L C V) (hf : Fits n L V) (hc : ¬ (CnfP m n L V ∧ m ≤ 10)) :
    Calls Try.prog 16 #[.agg #[.int .i64 m, .slice a n cap]] w fun e w' => (∃ a cap, e = .returned (.tuple #[.slice a 0 cap, .bool false])) ∧ Below w.heap.size w w' := by
  have HD := hide hd
  have HF := hide hf
  clear hd hf
  go_enter Try.func16, Try.ntmps16
  go_wp2_with fail
  obtain ⟨wz, hwz⟩ : ∃ wz, wz = w.alloc (.cells #[.int .i64 m, .slice a n cap] 25) := ⟨_, rfl⟩
  have BZ : Below w.heap.size w wz := by rw [hwz]; exact (Below.refl _ _).alloc (Nat.le_refl _) _
  have P : Box wz w.heap.size m a n cap := by rw [hwz]; exact Box.new _ _ _ _ _ _
  rw [← hwz]
  clear hwz
  refine (sCnfOk_any _ _ _ _ _ _ _ _ _ ((unhide HD).later BZ) (unhide HF)).mono ?_
  rintro e w1 ⟨rfl, b1⟩
  have BL := BZ.trans (b1.mono BZ.size)
  replace P := P.later b1
  clear b1 BZ
  obtain ⟨p0, p1⟩ := P
  by_cases hp : CnfP m n L V
  · have hv := cnfB_yes hp
    have h10 : ¬ m ≤ 10 := fun h => hc ⟨hp, h⟩
    clear hp hc
    rw [hv]
    go_wp2
    exact bodyPost_ret (v := .tuple #[.slice (some ⟨w1.heap.size, 0, none⟩) 0 0, .bool false]) (by simp [results, Try.results16, go_sem]) rfl ⟨⟨_, _, rfl⟩, by first | exact BL | exact BL.alloc BL.size _⟩
  · have hv := cnfB_no hp
    clear hp hc
    rw [hv]
    go_wp2
    exact bodyPost_ret (v := .tuple #[.slice (some ⟨w1.heap.size, 0, none⟩) 0 0, .bool false]) (by simp [results, Try.results16, go_sem]) rfl ⟨⟨_, _, rfl⟩, by first | exact BL | exact BL.alloc BL.size _⟩
theorem sCnfLeast_any (m : Int) (a : Option Addr) (n cap : Nat) (A : Nat → Option Addr) (L C : Nat → Nat) (V : Nat → Nat → Int) (w : World) (hd : RwsAt w a n A L C V) (hf : Fits n L V) :
    Calls Try.prog 16 #[.agg #[.int .i64 m, .slice a n cap]] w fun e w' => LPost (leastO m n L V) m.toNat w.heap.size e w' ∧ Below w.heap.size w w' := by
  by_cases h : CnfP m n L V ∧ m ≤ 10
  · rw [leastO_yes h.1 h.2]
    obtain ⟨N, rfl⟩ := Int.eq_ofNat_of_zero_le h.1.1
    rw [Int.toNat_natCast]
    exact sLeast_in N a n cap A L C V w hd hf (by omega) h.1
  · rw [leastO_no h]
    exact (sLeast_no m a n cap A L C V w hd hf h).mono fun e w' ⟨h1, h2⟩ => ⟨Or.inr ⟨rfl, h1⟩, h2⟩
end Go.Proofs.Ytihihjchkniifaa
