/- Names: which are right, of the model and of the program. -/
import Derived.Test.YtfopmobopmdahaaGreatDecA
import Derived.Lib.OthersKept
import Derived.Lib.ConvBytes
namespace Go.Proofs.YtfopmobopmdahaaGreat
open Go.ChangeShapes Go.WideShapes Go.ChangeAt Go.RowKit Go.Joins
set_option linter.unusedVariables false

/-- A byte of a text. -/
def bt (s : ByteArray) (i : Nat) : Nat := (s.get! i).toNat
theorem bt_eq (s : ByteArray) (i : Nat) (h : i < s.size) : (s[i]'h).toNat = bt s i := by
  have := get_at s i h
  simp only [Nat.add_zero] at this
  rw [bt, this]
theorem bt_lt (s : ByteArray) (i : Nat) : bt s i < 256 := UInt8.toNat_lt _
/-- A text that may be a name. -/
def NameP (s : ByteArray) : Prop := 1 ≤ s.size ∧ s.size ≤ 4 ∧ (∀ i, i < s.size → 97 ≤ bt s i ∧ bt s i ≤ 122) ∧ s.toList ≠ [116, 114, 117, 101]
noncomputable def nameB (s : ByteArray) : Bool := @decide (NameP s) (Classical.propDecidable _)
theorem nameB_iff (s : ByteArray) : nameB s = true ↔ NameP s := by simp [nameB]
theorem nameB_yes {s : ByteArray} (h : NameP s) : nameB s = true := (nameB_iff s).2 h
theorem nameB_no {s : ByteArray} (h : ¬ NameP s) : nameB s = false := by simpa [nameB] using h

/-- The bytes of a text in a row of their own. -/
theorem bytes_of (src dst e : TypeId) (w : World) (s : ByteArray) (hs : Tryz.prog.underlying src = some .string) (hd : Tryz.prog.underlying dst = some (.slice e)) (he : Tryz.prog.underlying e = some (.int .u8)) :
    ∃ w1 cap, (convert src dst (.string s)).run Tryz.prog w = .ok (.slice (some ⟨w.heap.size, 0, none⟩) s.size cap) w1 ∧ (∀ j, j < s.size → w1.cell? ⟨w.heap.size, j, none⟩ = some (.int .u8 (bt s j))) ∧ Below w.heap.size w w1 ∧ w1.heap.size = w.heap.size + 1 := by
  refine ⟨_, _, Lib.run_convert_string_bytes w src dst e s hs hd he, fun j hj => ?_, ⟨rfl, rfl, rfl, by rw [Lib.bytesWorld_size]; omega, fun k hk => Lib.bytesWorld_at_old w e s k hk⟩, Lib.bytesWorld_size w e s⟩
  rw [Lib.bytesWorld_cell w e s j hj, ← bt_eq s j hj]
  simp [List.getD, hj]
  rfl
set_option maxRecDepth 100000 in
set_option maxHeartbeats 1000000 in
theorem l2Name_any (s : ByteArray) (w : World) (hs : s.size ≤ 1048576) :
    Calls Tryz.prog 62 #[.string s] w fun e w' => e = .returned (.bool (nameB s)) ∧ w' = w := by
  go_enter Tryz.func62, Tryz.ntmps62
  go_wp2
  go_loopw [3] (fun i wr => ∃ k : Nat, k ≤ s.size ∧ i = .int .i64 k ∧ (∀ j, j < k → 97 ≤ bt s j ∧ bt s j ≤ 122) ∧ wr = w) (fun i _ => s.size - (intOf i).toNat)
  case atStart => exact ⟨0, by omega, rfl, fun j hj => by omega, rfl⟩
  case round =>
    obtain ⟨k, hk, rfl, hlo, rfl⟩ := hrel
    have HL := hide hlo
    clear hlo
    by_cases hlt : k < s.size
    · have hbk := bt_eq s k hlt
      have hbl := bt_lt s k
      by_cases h1 : bt s k < 97
      · have HN := hide (nameB_no (s := s) (fun h => by have := (h.2.2.1 k hlt).1; omega))
        go_wp2
        rw [unhide HN]
        go_ret
        exact ⟨rfl, rfl⟩
      · by_cases h2 : 122 < bt s k
        · have HN := hide (nameB_no (s := s) (fun h => by have := (h.2.2.1 k hlt).2; omega))
          go_wp2
          rw [unhide HN]
          go_ret
          exact ⟨rfl, rfl⟩
        · go_wp2
          go_roundw
          case rel =>
            refine ⟨k + 1, by omega, by go_num, ?_, trivial⟩
            intro j hj
            by_cases e : j = k
            · subst e; omega
            · exact unhide HL j (by omega)
          case measure => simp [intOf]; omega
    · have e : k = s.size := by omega
      subst e
      by_cases h1 : 1 ≤ s.size
      · by_cases h4 : s.size ≤ 4
        · have HN := hide (show nameB s = !(s.toList == [116, 114, 117, 101]) from by
            by_cases ht : s.toList = [116, 114, 117, 101]
            · rw [nameB_no (fun h => h.2.2.2 ht)]; simp [ht]
            · rw [nameB_yes ⟨h1, h4, unhide HL, ht⟩]; simp [ht])
          go_wp2
          rw [unhide HN]
          go_ret
          exact ⟨rfl, rfl⟩
        · have HN := hide (nameB_no (s := s) (fun h => h4 h.2.1))
          go_wp2
          rw [unhide HN]
          go_ret
          exact ⟨rfl, rfl⟩
      · have HN := hide (nameB_no (s := s) (fun h => h1 h.1))
        go_wp2
        rw [unhide HN]
        go_ret
        exact ⟨rfl, rfl⟩
set_option maxRecDepth 100000 in
set_option maxHeartbeats 1000000 in
theorem nameOk_any (s : ByteArray) (w : World) (hs : s.size ≤ 1048576) :
    Calls Tryz.prog 81 #[.string s] w fun e w' => e = .returned (.bool (nameB s)) ∧ Below w.heap.size w w' := by
  by_cases h1 : 1 ≤ s.size
  · by_cases h4 : s.size ≤ 4
    · by_cases ht : s.toList = [116, 114, 117, 101]
      · have HN := hide (nameB_no (s := s) (fun h => h.2.2.2 ht))
        have htb : (s.toList == [116, 114, 117, 101]) = true := by simp [ht]
        clear ht
        go_enter Tryz.func81, Tryz.ntmps81
        go_wp2
        rw [unhide HN]
        go_ret
        exact ⟨rfl, (by repeat (first | exact Below.refl _ _ | assumption | refine below_drewN ?_ _ | refine Below.drew ?_ | refine Below.alloc ?_ (by first | exact Nat.le_refl _ | exact Below.size (by assumption) | (simp; done) | (simp; omega)) _ | refine Below.setCell ?_ (by first | exact Nat.le_refl _ | exact Below.size (by assumption) | (simp; done) | (simp; omega)) _ | refine Below.trans ?_ (by assumption)))⟩
      · have htb : (s.toList == [116, 114, 117, 101]) = false := by simp [ht]
        have HT := hide ht
        clear ht
        obtain ⟨w1, cap1, hcv, hce, hB, hS⟩ := bytes_of 9 95 5 w s Tryz.underlying9 Tryz.underlying95 Tryz.underlying5
        have HC := hide hce
        clear hce
        go_enter Tryz.func81, Tryz.ntmps81
        go_wp2
        go_loopw [20] (fun i wr => ∃ k : Nat, k ≤ s.size ∧ i = .int .i64 k ∧ (∀ j, j < k → 97 ≤ bt s j ∧ bt s j ≤ 122) ∧ Below w1.heap.size w1 wr) (fun i _ => s.size - (intOf i).toNat)
        case atStart => exact ⟨0, by omega, rfl, fun j hj => by omega, Below.refl _ _⟩
        case round =>
          obtain ⟨k, hk, rfl, hlo, hbel⟩ := hrel
          have hB2 := hB.trans (hbel.mono (by omega))
          have HL := hide hlo
          clear hlo
          by_cases hlt : k < s.size
          · have c0 := (hbel.cell (p := ⟨w.heap.size, k, none⟩) (by simp only; omega)).trans (unhide HC k hlt)
            have hbl := bt_lt s k
            by_cases h1 : bt s k < 97
            · have HN := hide (nameB_no (s := s) (fun h => by have := (h.2.2.1 k hlt).1; omega))
              go_wp2
              rw [unhide HN]
              go_ret
              exact ⟨rfl, hB2⟩
            · by_cases h2 : 122 < bt s k
              · have HN := hide (nameB_no (s := s) (fun h => by have := (h.2.2.1 k hlt).2; omega))
                go_wp2
                rw [unhide HN]
                go_ret
                exact ⟨rfl, hB2⟩
              · go_wp2
                go_roundw
                case rel =>
                  refine ⟨k + 1, by omega, by go_num, ?_, hbel⟩
                  intro j hj
                  by_cases e : j = k
                  · subst e; omega
                  · exact unhide HL j (by omega)
                case measure => simp [intOf]; omega
          · have e : k = s.size := by omega
            have HN := hide (nameB_yes (s := s) ⟨h1, h4, by rw [← e]; exact unhide HL, unhide HT⟩)
            go_wp2
            rw [unhide HN]
            go_ret
            exact ⟨rfl, hB2⟩
    · have HN := hide (nameB_no (s := s) (fun h => h4 h.2.1))
      go_enter Tryz.func81, Tryz.ntmps81
      go_wp2
      rw [unhide HN]
      go_ret
      exact ⟨rfl, (by repeat (first | exact Below.refl _ _ | assumption | refine below_drewN ?_ _ | refine Below.drew ?_ | refine Below.alloc ?_ (by first | exact Nat.le_refl _ | exact Below.size (by assumption) | (simp; done) | (simp; omega)) _ | refine Below.setCell ?_ (by first | exact Nat.le_refl _ | exact Below.size (by assumption) | (simp; done) | (simp; omega)) _ | refine Below.trans ?_ (by assumption)))⟩
  · have HN := hide (nameB_no (s := s) (fun h => h1 h.1))
    go_enter Tryz.func81, Tryz.ntmps81
    go_wp2
    rw [unhide HN]
    go_ret
    exact ⟨rfl, (by repeat (first | exact Below.refl _ _ | assumption | refine below_drewN ?_ _ | refine Below.drew ?_ | refine Below.alloc ?_ (by first | exact Nat.le_refl _ | exact Below.size (by assumption) | (simp; done) | (simp; omega)) _ | refine Below.setCell ?_ (by first | exact Nat.le_refl _ | exact Below.size (by assumption) | (simp; done) | (simp; omega)) _ | refine Below.trans ?_ (by assumption)))⟩
/-- Where a name stands first among n, or -1. -/
noncomputable def findI (S : Nat → ByteArray) (s : ByteArray) : Nat → Int
  | 0 => -1
  | n + 1 => @ite _ (0 ≤ findI S s n) (Classical.propDecidable _) (findI S s n) (@ite _ ((S n).toList = s.toList) (Classical.propDecidable _) (n : Int) (-1))
theorem findI_none {S : Nat → ByteArray} {s : ByteArray} {n : Nat} (h : ∀ j, j < n → (S j).toList ≠ s.toList) : findI S s n = -1 := by
  induction n with
  | zero => rfl
  | succ n ih =>
    have := ih (fun j hj => h j (by omega))
    simp [findI, this, h n (by omega)]
theorem findI_at {S : Nat → ByteArray} {s : ByteArray} {k : Nat} (h : ∀ j, j < k → (S j).toList ≠ s.toList) (hk : (S k).toList = s.toList) (n : Nat) (hn : k < n) : findI S s n = k := by
  induction n with
  | zero => omega
  | succ n ih =>
    by_cases e : n = k
    · subst e
      simp [findI, findI_none h, hk]
    · have := ih (by omega)
      simp [findI, this]
theorem findI_cases (S : Nat → ByteArray) (s : ByteArray) (n : Nat) : (findI S s n = -1 ∧ ∀ j, j < n → (S j).toList ≠ s.toList) ∨ ∃ k, k < n ∧ findI S s n = k ∧ (S k).toList = s.toList ∧ ∀ j, j < k → (S j).toList ≠ s.toList := by
  induction n with
  | zero => exact Or.inl ⟨rfl, fun j hj => by omega⟩
  | succ n ih =>
    rcases ih with ⟨h1, h2⟩ | ⟨k, h1, h2, h3, h4⟩
    · by_cases e : (S n).toList = s.toList
      · exact Or.inr ⟨n, by omega, by simp [findI, h1, e], e, h2⟩
      · refine Or.inl ⟨by simp [findI, h1, e], fun j hj => ?_⟩
        by_cases ej : j = n
        · subst ej; exact e
        · exact h2 j (by omega)
    · exact Or.inr ⟨k, by omega, by simp [findI, h2], h3, h4⟩
set_option maxRecDepth 100000 in
set_option maxHeartbeats 1000000 in
theorem l2Find_any (b off n cap : Nat) (S : Nat → ByteArray) (V : Nat → Int) (s : ByteArray) (w : World) (hb : b < w.heap.size) (hd : Decs w b off n S V) (hn : n ≤ 1048576) :
    Calls Tryz.prog 63 #[.slice (some ⟨b, off, none⟩) n cap, .string s] w fun e w' => e = .returned (.int .i64 (findI S s n)) ∧ w' = w := by
  have HD := hide hd
  clear hd
  go_enter Tryz.func63, Tryz.ntmps63
  go_wp2
  go_loopw [5] (fun i wr => ∃ k : Nat, k ≤ n ∧ i = .int .i64 k ∧ (∀ j, j < k → (S j).toList ≠ s.toList) ∧ wr = w) (fun i _ => n - (intOf i).toNat)
  case atStart => exact ⟨0, by omega, rfl, fun j hj => by omega, rfl⟩
  case round =>
    obtain ⟨k, hk, rfl, hlo, rfl⟩ := hrel
    have HL := hide hlo
    clear hlo
    by_cases hlt : k < n
    · obtain ⟨c0, c1⟩ := unhide HD k hlt
      have d0 := c0
      clear c0 c1
      by_cases he : (S k).toList = s.toList
      · have heb : ((S k).toList == s.toList) = true := by simp [he]
        have HN := hide (findI_at (unhide HL) he n hlt)
        clear he
        go_wp2
        rw [unhide HN]
        go_ret
        exact ⟨rfl, rfl⟩
      · have heb : ((S k).toList == s.toList) = false := by simp [he]
        have HE := hide he
        clear he
        go_wp2
        go_roundw
        case rel =>
          refine ⟨k + 1, by omega, by go_num, ?_, trivial⟩
          intro j hj
          by_cases e : j = k
          · subst e; exact unhide HE
          · exact unhide HL j (by omega)
        case measure => simp [intOf]; omega
    · have e : k = n := by omega
      subst e
      have HN := hide (findI_none (unhide HL))
      go_wp2
      rw [unhide HN]
      go_ret
      exact ⟨rfl, rfl⟩
/-- The bits of the first n names together. -/
def sumV (V : Nat → Int) : Nat → Int
  | 0 => 0
  | n + 1 => sumV V n + V n
/-- The name at i is right, and none of those ahead. -/
def AtP (S : Nat → ByteArray) (V : Nat → Int) (i : Nat) : Prop := NameP (S i) ∧ 1 ≤ V i ∧ V i ≤ 4 ∧ ∀ j, j < i → (S j).toList ≠ (S i).toList
def DeclP (n : Nat) (S : Nat → ByteArray) (V : Nat → Int) : Prop := n ≤ 4 ∧ (∀ i, i < n → AtP S V i) ∧ sumV V n ≤ 8
noncomputable def declB (n : Nat) (S : Nat → ByteArray) (V : Nat → Int) : Bool := @decide (DeclP n S V) (Classical.propDecidable _)
theorem declB_iff (n : Nat) (S : Nat → ByteArray) (V : Nat → Int) : declB n S V = true ↔ DeclP n S V := by simp [declB]
theorem declB_yes {n : Nat} {S : Nat → ByteArray} {V : Nat → Int} (h : DeclP n S V) : declB n S V = true := (declB_iff n S V).2 h
theorem declB_no {n : Nat} {S : Nat → ByteArray} {V : Nat → Int} (h : ¬ DeclP n S V) : declB n S V = false := by simpa [declB] using h
theorem sumV_bd {V : Nat → Int} {k : Nat} (h : ∀ i, i < k → 1 ≤ V i ∧ V i ≤ 4) : 0 ≤ sumV V k ∧ sumV V k ≤ 4 * k := by
  induction k with
  | zero => simp [sumV]
  | succ k ih =>
    have := ih (fun i hi => h i (by omega))
    have := h k (by omega)
    simp only [sumV]
    omega
theorem declB_end {n : Nat} {S : Nat → ByteArray} {V : Nat → Int} (hn : n ≤ 4) (h : ∀ i, i < n → AtP S V i) : declB n S V = decide (sumV V n ≤ 8) := by
  by_cases e : sumV V n ≤ 8
  · rw [declB_yes ⟨hn, h, e⟩]; simp [e]
  · rw [declB_no (fun k => e k.2.2)]; simp [e]
set_option maxRecDepth 100000 in
set_option maxHeartbeats 2000000 in
theorem sDeclOk_any (b off n cap : Nat) (S : Nat → ByteArray) (V : Nat → Int) (w : World) (hb : b < w.heap.size) (hd : Decs w b off n S V) (hnc : n ≤ cap) (hn : n ≤ 1048576) (hs : ∀ i, i < n → (S i).size ≤ 1048576) :
    Calls Tryz.prog 36 #[.slice (some ⟨b, off, none⟩) n cap] w fun e w' => e = .returned (.bool (declB n S V)) ∧ Below w.heap.size w w' := by
  have HD := hide hd
  have HS := hide hs
  clear hd hs
  by_cases h4 : n ≤ 4
  · go_enter Tryz.func36, Tryz.ntmps36
    go_wp2
    go_loopw [3, 4] (fun s i wr => ∃ k : Nat, k ≤ n ∧ i = .int .i64 k ∧ s = .int .i64 (sumV V k) ∧ (∀ j, j < k → AtP S V j) ∧ Below w.heap.size w wr) (fun _ i _ => n - (intOf i).toNat)
    case atStart => exact ⟨0, by omega, rfl, rfl, fun j hj => by omega, (by repeat (first | exact Below.refl _ _ | assumption | refine below_drewN ?_ _ | refine Below.drew ?_ | refine Below.alloc ?_ (by first | exact Nat.le_refl _ | exact Below.size (by assumption) | (simp; done) | (simp; omega)) _ | refine Below.setCell ?_ (by first | exact Nat.le_refl _ | exact Below.size (by assumption) | (simp; done) | (simp; omega)) _ | refine Below.trans ?_ (by assumption)))⟩
    case round =>
      obtain ⟨k, hk, rfl, rfl, hlo, hbel⟩ := hrel
      have HL := hide hlo
      have hsb := sumV_bd (V := V) (k := k) (fun i hi => ⟨(hlo i hi).2.1, (hlo i hi).2.2.1⟩)
      obtain ⟨hs0, hs1⟩ := hsb
      clear hlo
      have HU := hide (show sumV V (k + 1) = sumV V k + V k from rfl)
      by_cases hlt : k < n
      · obtain ⟨c0, c1⟩ := unhide HD k hlt
        have d0 := (hbel.cell (p := ⟨b, off + k * 2, none⟩) hb).trans c0
        have d1 := (hbel.cell (p := ⟨b, off + k * 2 + 1, none⟩) hb).trans c1
        clear c0 c1
        have hsk := unhide HS k hlt
        have HDr : Hid (Decs wr b off k S V) := fun i hi => ⟨(hbel.cell (p := ⟨b, off + i * 2, none⟩) hb).trans (unhide HD i (by omega)).1, (hbel.cell (p := ⟨b, off + i * 2 + 1, none⟩) hb).trans (unhide HD i (by omega)).2⟩
        have hbr := Nat.lt_of_lt_of_le hb hbel.size
        by_cases g1 : NameP (S k)
        · have n1 := nameB_yes g1
          by_cases g2 : 1 ≤ V k
          · have m2 : decide (V k < 1) = false := by simp; omega
            by_cases g3 : V k ≤ 4
            · have m3 : decide (4 < V k) = false := by simp; omega
              rcases findI_cases S (S k) k with ⟨f1, f2⟩ | ⟨q, q1, f1, f2, f3⟩
              · have HA := hide (show AtP S V k from ⟨g1, g2, g3, f2⟩)
                clear g1 f2
                go_wp2
                go_quiet (first | (go_at_call 62; exact Calls.quiet_of_same (l2Name_any _ _ hsk)) | (go_at_call 63; exact Calls.quiet_of_same (l2Find_any b off k cap S V _ _ hbr (unhide HDr) (by omega))))
                go_wp2
                go_roundw
                case rel =>
                  refine ⟨k + 1, by omega, by go_num, by rw [unhide HU], ?_, below_drewN hbel _⟩
                  intro j hj
                  by_cases e : j = k
                  · subst e; exact unhide HA
                  · exact unhide HL j (by omega)
                case measure => simp [intOf]; omega
              · have m5 : decide (0 ≤ findI S (S k) k) = true := by rw [f1]; simp
                have HN := hide (declB_no (n := n) (S := S) (V := V) (fun h => (h.2.1 k hlt).2.2.2 q q1 f2))
                go_wp2
                go_quiet (first | (go_at_call 62; exact Calls.quiet_of_same (l2Name_any _ _ hsk)) | (go_at_call 63; exact Calls.quiet_of_same (l2Find_any b off k cap S V _ _ hbr (unhide HDr) (by omega))))
                go_wp2
                rw [unhide HN]
                go_ret
                exact ⟨rfl, below_drewN hbel _⟩
            · have m3 : decide (4 < V k) = true := by simp; omega
              have HN := hide (declB_no (n := n) (S := S) (V := V) (fun h => g3 (h.2.1 k hlt).2.2.1))
              go_wp2
              go_quiet (first | (go_at_call 62; exact Calls.quiet_of_same (l2Name_any _ _ hsk)) | (go_at_call 63; exact Calls.quiet_of_same (l2Find_any b off k cap S V _ _ hbr (unhide HDr) (by omega))))
              go_wp2
              rw [unhide HN]
              go_ret
              exact ⟨rfl, below_drewN hbel _⟩
          · have m2 : decide (V k < 1) = true := by simp; omega
            have HN := hide (declB_no (n := n) (S := S) (V := V) (fun h => g2 (h.2.1 k hlt).2.1))
            go_wp2
            go_quiet (first | (go_at_call 62; exact Calls.quiet_of_same (l2Name_any _ _ hsk)) | (go_at_call 63; exact Calls.quiet_of_same (l2Find_any b off k cap S V _ _ hbr (unhide HDr) (by omega))))
            go_wp2
            rw [unhide HN]
            go_ret
            exact ⟨rfl, below_drewN hbel _⟩
        · have n1 := nameB_no g1
          have HN := hide (declB_no (n := n) (S := S) (V := V) (fun h => g1 (h.2.1 k hlt).1))
          go_wp2
          go_quiet (first | (go_at_call 62; exact Calls.quiet_of_same (l2Name_any _ _ hsk)) | (go_at_call 63; exact Calls.quiet_of_same (l2Find_any b off k cap S V _ _ hbr (unhide HDr) (by omega))))
          go_wp2
          rw [unhide HN]
          go_ret
          exact ⟨rfl, below_drewN hbel _⟩
      · have e : k = n := by omega
        subst e
        have HN := hide (declB_end h4 (unhide HL))
        go_wp2
        rw [unhide HN]
        go_ret
        exact ⟨rfl, hbel⟩
  · have HN := hide (declB_no (n := n) (S := S) (V := V) (fun h => h4 h.1))
    go_enter Tryz.func36, Tryz.ntmps36
    go_wp2
    rw [unhide HN]
    go_ret
    exact ⟨rfl, (by repeat (first | exact Below.refl _ _ | assumption | refine below_drewN ?_ _ | refine Below.drew ?_ | refine Below.alloc ?_ (by first | exact Nat.le_refl _ | exact Below.size (by assumption) | (simp; done) | (simp; omega)) _ | refine Below.setCell ?_ (by first | exact Nat.le_refl _ | exact Below.size (by assumption) | (simp; done) | (simp; omega)) _ | refine Below.trans ?_ (by assumption)))⟩
end Go.Proofs.YtfopmobopmdahaaGreat
