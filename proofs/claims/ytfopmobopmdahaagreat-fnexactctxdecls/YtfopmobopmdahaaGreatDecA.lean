/- Names with their bits: what the laws' copies, counts and comparisons of them return. -/
import Derived.Test.YtfopmobopmdahaaGreatMkA
import Derived.Deep.SlicePairs
import Derived.Deep.OwnRows
import Derived.Deep.RegionHeld3
namespace Go.Proofs.YtfopmobopmdahaaGreat
open Go.ChangeShapes Go.WideShapes Go.ChangeAt Go.RowKit Go.Joins
set_option linter.unusedVariables false

/-- Names in a row: a text and a number each, from an address on. -/
def Decs (w : World) (b off n : Nat) (S : Nat → ByteArray) (V : Nat → Int) : Prop :=
  ∀ i, i < n → w.cell? ⟨b, off + i * 2, none⟩ = some (.string (S i)) ∧ w.cell? ⟨b, off + i * 2 + 1, none⟩ = some (.int .i64 (V i))
theorem Decs.later {w w' : World} {b off n : Nat} {S : Nat → ByteArray} {V : Nat → Int} (h : Decs w b off n S V) (hb : Below w.heap.size w w') : Decs w' b off n S V :=
  fun i hi => ⟨cell_later hb (h i hi).1, cell_later hb (h i hi).2⟩
theorem Decs.mono {w : World} {b off n m : Nat} {S : Nat → ByteArray} {V : Nat → Int} (h : Decs w b off n S V) (hm : m ≤ n) : Decs w b off m S V := fun i hi => h i (by omega)
theorem Decs.alloc {w : World} {b off n : Nat} {S : Nat → ByteArray} {V : Nat → Int} (h : Decs w b off n S V) (o : Obj) : Decs (w.alloc o) b off n S V := h.later ((Below.refl _ _).alloc (Nat.le_refl _) _)
/-- The same, with an address that may be none where there are no names. -/
def DecsAt (w : World) (a : Option Addr) (n : Nat) (S : Nat → ByteArray) (V : Nat → Int) : Prop := n = 0 ∨ ∃ b off, a = some ⟨b, off, none⟩ ∧ b < w.heap.size ∧ Decs w b off n S V
theorem DecsAt.later {w w' : World} {a : Option Addr} {n : Nat} {S : Nat → ByteArray} {V : Nat → Int} (h : DecsAt w a n S V) (hb : Below w.heap.size w w') : DecsAt w' a n S V := by
  rcases h with h | ⟨b, off, h1, h2, h3⟩
  · exact Or.inl h
  · exact Or.inr ⟨b, off, h1, Nat.lt_of_lt_of_le h2 hb.size, h3.later hb⟩
theorem DecsAt.alloc {w : World} {a : Option Addr} {n : Nat} {S : Nat → ByteArray} {V : Nat → Int} (h : DecsAt w a n S V) (o : Obj) : DecsAt (w.alloc o) a n S V := h.later ((Below.refl _ _).alloc (Nat.le_refl _) _)

set_option maxRecDepth 100000 in
set_option maxHeartbeats 400000 in
theorem szDecl_any (s : ByteArray) (v left : Int) (w : World) (h0 : 0 ≤ left) (h1 : left ≤ 1048576) (hs : s.size ≤ maxLen) :
    Calls Tryz.prog 25 #[.agg #[.string s, .int .i64 v], .int .i64 left] w fun e w' => (∃ z : Int, e = .returned (.int .i64 z) ∧ (z < 0 ∨ 0 ≤ z ∧ z = left - s.size)) ∧ Below w.heap.size w w' := by
  unfold maxLen at hs
  by_cases h : (s.size : Int) ≤ left
  · go_enter Tryz.func25, Tryz.ntmps25
    go_wp2
    go_ret
    exact ⟨⟨_, rfl, Or.inr ⟨by omega, rfl⟩⟩, (by repeat (first | exact Below.refl _ _ | assumption | refine below_drewN ?_ _ | refine Below.drew ?_ | refine Below.alloc ?_ (by first | exact Nat.le_refl _ | exact Below.size (by assumption) | (simp; done) | (simp; omega)) _ | refine Below.setCell ?_ (by first | exact Nat.le_refl _ | exact Below.size (by assumption) | (simp; done) | (simp; omega)) _ | refine Below.trans ?_ (by assumption)))⟩
  · go_enter Tryz.func25, Tryz.ntmps25
    go_wp2
    go_ret
    exact ⟨⟨_, rfl, Or.inl (by omega)⟩, (by repeat (first | exact Below.refl _ _ | assumption | refine below_drewN ?_ _ | refine Below.drew ?_ | refine Below.alloc ?_ (by first | exact Nat.le_refl _ | exact Below.size (by assumption) | (simp; done) | (simp; omega)) _ | refine Below.setCell ?_ (by first | exact Nat.le_refl _ | exact Below.size (by assumption) | (simp; done) | (simp; omega)) _ | refine Below.trans ?_ (by assumption)))⟩
set_option maxRecDepth 100000 in
set_option maxHeartbeats 1000000 in
theorem szDeclS_any (a : Option Addr) (n cap : Nat) (S : Nat → ByteArray) (V : Nat → Int) (left : Int) (w : World) (hd : DecsAt w a n S V) (h0 : 0 ≤ left) (h1 : left ≤ 1048576) (hn : n ≤ maxLen) (hs : ∀ i, i < n → (S i).size ≤ maxLen) :
    Calls Tryz.prog 61 #[.slice a n cap, .int .i64 left] w fun e w' => (∃ z : Int, e = .returned (.int .i64 z) ∧ (z < 0 ∨ 0 ≤ z ∧ z ≤ left ∧ n ≤ left ∧ ∀ i, i < n → (S i).size ≤ left)) ∧ Below w.heap.size w w' := by
  unfold maxLen at hn
  have HS := hide hs
  clear hs
  by_cases h : (n : Int) ≤ left
  · rcases hd with rfl | ⟨b, off, rfl, hb, hd⟩
    · go_enter Tryz.func61, Tryz.ntmps61
      go_wp2
      go_loopw [5, 1] (fun i l wr => i = .int .i64 0 ∧ l = .int .i64 left ∧ Below w.heap.size w wr) (fun _ _ _ => 0)
      case atStart => exact ⟨rfl, by go_num, (by repeat (first | exact Below.refl _ _ | assumption | refine below_drewN ?_ _ | refine Below.drew ?_ | refine Below.alloc ?_ (by first | exact Nat.le_refl _ | exact Below.size (by assumption) | (simp; done) | (simp; omega)) _ | refine Below.setCell ?_ (by first | exact Nat.le_refl _ | exact Below.size (by assumption) | (simp; done) | (simp; omega)) _ | refine Below.trans ?_ (by assumption)))⟩
      case round =>
        obtain ⟨rfl, rfl, hbel⟩ := hrel
        go_wp2
        go_ret
        exact ⟨⟨_, rfl, Or.inr ⟨h0, by omega, by omega, fun i hi => by omega⟩⟩, (by repeat (first | exact Below.refl _ _ | assumption | refine below_drewN ?_ _ | refine Below.drew ?_ | refine Below.alloc ?_ (by first | exact Nat.le_refl _ | exact Below.size (by assumption) | (simp; done) | (simp; omega)) _ | refine Below.setCell ?_ (by first | exact Nat.le_refl _ | exact Below.size (by assumption) | (simp; done) | (simp; omega)) _ | refine Below.trans ?_ (by assumption)))⟩
    · have HD := hide hd
      clear hd
      go_enter Tryz.func61, Tryz.ntmps61
      go_wp2
      go_loopw [5, 1] (fun i l wr => ∃ (k : Nat) (z : Int), k ≤ n ∧ i = .int .i64 k ∧ l = .int .i64 z ∧ 0 ≤ z ∧ z ≤ left ∧ (∀ j, j < k → (S j).size ≤ left) ∧ Below w.heap.size w wr) (fun i _ _ => n - (intOf i).toNat)
      case atStart => exact ⟨0, left - n, by omega, rfl, by go_num, by omega, by omega, fun j hj => by omega, (by repeat (first | exact Below.refl _ _ | assumption | refine below_drewN ?_ _ | refine Below.drew ?_ | refine Below.alloc ?_ (by first | exact Nat.le_refl _ | exact Below.size (by assumption) | (simp; done) | (simp; omega)) _ | refine Below.setCell ?_ (by first | exact Nat.le_refl _ | exact Below.size (by assumption) | (simp; done) | (simp; omega)) _ | refine Below.trans ?_ (by assumption)))⟩
      case round =>
        obtain ⟨k, z, hk, rfl, rfl, z0, z1, hz, hbel⟩ := hrel
        have HZ := hide hz
        clear hz
        by_cases hlt : k < n
        · obtain ⟨c0, c1⟩ := unhide HD k hlt
          have d0 := (hbel.cell (p := ⟨b, off + k * 2, none⟩) hb).trans c0
          have d1 := (hbel.cell (p := ⟨b, off + k * 2 + 1, none⟩) hb).trans c1
          clear c0 c1
          have hsk := unhide HS k hlt
          go_wp2_with fail
          refine (szDecl_any _ _ _ _ z0 (by omega) hsk).mono ?_
          rintro e w1 ⟨⟨y, rfl, hy⟩, b1⟩
          by_cases hle : 0 ≤ y
          · go_wp2
            go_roundw
            case rel =>
              refine ⟨k + 1, y, by omega, by go_num, rfl, by omega, by omega, ?_, hbel.trans (b1.mono hbel.size)⟩
              intro j hj
              by_cases e : j = k
              · subst e; omega
              · exact unhide HZ j (by omega)
            case measure => simp [intOf]; omega
          · go_wp2
            go_ret
            exact ⟨⟨_, rfl, Or.inl (by omega)⟩, hbel.trans (b1.mono hbel.size)⟩
        · have e : k = n := by omega
          subst e
          go_wp2
          go_ret
          exact ⟨⟨_, rfl, Or.inr ⟨z0, z1, by omega, unhide HZ⟩⟩, hbel⟩
  · go_enter Tryz.func61, Tryz.ntmps61
    go_wp2
    go_ret
    exact ⟨⟨_, rfl, Or.inl (by omega)⟩, (by repeat (first | exact Below.refl _ _ | assumption | refine below_drewN ?_ _ | refine Below.drew ?_ | refine Below.alloc ?_ (by first | exact Nat.le_refl _ | exact Below.size (by assumption) | (simp; done) | (simp; omega)) _ | refine Below.setCell ?_ (by first | exact Nat.le_refl _ | exact Below.size (by assumption) | (simp; done) | (simp; omega)) _ | refine Below.trans ?_ (by assumption)))⟩
theorem Decs.put {w : World} {B k : Nat} {S : Nat → ByteArray} {V : Nat → Int} {u0 u1 : Value} (h : Decs w B 0 k S V) (q0 : w.cell? ⟨B, k * 2, none⟩ = some u0) (q1 : w.cell? ⟨B, k * 2 + 1, none⟩ = some u1) :
    Decs ((w.setCell ⟨B, k * 2, none⟩ (.string (S k))).setCell ⟨B, k * 2 + 1, none⟩ (.int .i64 (V k))) B 0 (k + 1) S V := by
  have q1' : (w.setCell ⟨B, k * 2, none⟩ (.string (S k))).cell? ⟨B, k * 2 + 1, none⟩ = some u1 := by rw [World.cell?_setCell_other _ _ _ _ (by simp)]; exact q1
  intro i hi
  simp only [Nat.zero_add]
  by_cases e : i = k
  · subst e
    exact ⟨by rw [World.cell?_setCell_other _ _ _ _ (by simp)]; exact World.cell?_setCell_same _ _ _ q0, World.cell?_setCell_same _ _ _ q1'⟩
  · have hh := h i (by omega)
    simp only [Nat.zero_add] at hh
    refine ⟨?_, ?_⟩
    · rw [World.cell?_setCell_other _ _ _ _ (by simp <;> omega), World.cell?_setCell_other _ _ _ _ (by simp <;> omega)]; exact hh.1
    · rw [World.cell?_setCell_other _ _ _ _ (by simp <;> omega), World.cell?_setCell_other _ _ _ _ (by simp <;> omega)]; exact hh.2
set_option maxRecDepth 100000 in
set_option maxHeartbeats 400000 in
theorem toDecl_any (s : ByteArray) (v : Int) (w : World) :
    Calls Tryz.prog 27 #[.agg #[.string s, .int .i64 v]] w fun e w' => e = .returned (.agg #[.string s, .int .i64 v]) ∧ Below w.heap.size w w' := by
  go_enter Tryz.func27, Tryz.ntmps27
  go_wp2
  exact bodyPost_ret (v := .agg #[.string s, .int .i64 v]) (by simp [results, Tryz.results27, go_sem]) rfl ⟨rfl, (by repeat (first | exact Below.refl _ _ | assumption | refine below_drewN ?_ _ | refine Below.drew ?_ | refine Below.alloc ?_ (by first | exact Nat.le_refl _ | exact Below.size (by assumption) | (simp; done) | (simp; omega)) _ | refine Below.setCell ?_ (by first | exact Nat.le_refl _ | exact Below.size (by assumption) | (simp; done) | (simp; omega)) _ | refine Below.trans ?_ (by assumption)))⟩
theorem infoDecl : (Tryz.prog.info? 40).map (fun i => (i.zero, i.size, i.bytes)) = some (some (.agg #[.string ByteArray.empty, .int .i64 0]), 2, 24) := by kernel_rfl
set_option maxRecDepth 100000 in
set_option maxHeartbeats 1000000 in
theorem toDeclS_any (a : Option Addr) (n cap : Nat) (S : Nat → ByteArray) (V : Nat → Int) (w : World) (hd : DecsAt w a n S V) (hn : n ≤ 1048576) :
    Calls Tryz.prog 66 #[.slice a n cap] w fun e w' => e = .returned (.slice (some ⟨w.heap.size, 0, none⟩) n n) ∧ Decs w' w.heap.size 0 n S V ∧ w.heap.size < w'.heap.size ∧ Below w.heap.size w w' := by
  have hmk := run_make_wide (P := Tryz.prog) 29 40 _ 2 24 Tryz.underlying29 infoDecl .i64 .i64 n (by omega) (by omega)
  rcases hd with rfl | ⟨b, off, rfl, hb, hd⟩
  · simp only [Int.natCast_zero, Nat.zero_mul] at hmk
    go_enter Tryz.func66, Tryz.ntmps66
    go_wp2
    go_loopw [4] (fun i wr => i = .int .i64 0 ∧ wr.heap.size = w.heap.size + 1 ∧ Below w.heap.size w wr) (fun _ _ => 0)
    case atStart => exact ⟨rfl, by simp, (by repeat (first | exact Below.refl _ _ | assumption | refine below_drewN ?_ _ | refine Below.drew ?_ | refine Below.alloc ?_ (by first | exact Nat.le_refl _ | exact Below.size (by assumption) | (simp; done) | (simp; omega)) _ | refine Below.setCell ?_ (by first | exact Nat.le_refl _ | exact Below.size (by assumption) | (simp; done) | (simp; omega)) _ | refine Below.trans ?_ (by assumption)))⟩
    case round =>
      obtain ⟨rfl, hsz, hbel⟩ := hrel
      go_wp2
      go_ret
      exact ⟨rfl, fun i hi => by omega, by omega, hbel⟩
  · have HD := hide hd
    clear hd
    go_enter Tryz.func66, Tryz.ntmps66
    go_wp2
    go_loopw [4] (fun i wr => ∃ k : Nat, k ≤ n ∧ i = .int .i64 k ∧ Decs wr w.heap.size 0 k S V ∧ Made wr w.heap.size (n * 2) ∧ Below w.heap.size w wr) (fun i _ => n - (intOf i).toNat)
    case atStart => exact ⟨0, by omega, rfl, fun i hi => by omega, Made.new _ _ _ _, (by repeat (first | exact Below.refl _ _ | assumption | refine below_drewN ?_ _ | refine Below.drew ?_ | refine Below.alloc ?_ (by first | exact Nat.le_refl _ | exact Below.size (by assumption) | (simp; done) | (simp; omega)) _ | refine Below.setCell ?_ (by first | exact Nat.le_refl _ | exact Below.size (by assumption) | (simp; done) | (simp; omega)) _ | refine Below.trans ?_ (by assumption)))⟩
    case round =>
      obtain ⟨k, hk, rfl, hdk, hmd, hbel⟩ := hrel
      have HK := hide hdk
      have HM := hide hmd
      clear hdk hmd
      have hlt0 := (unhide HM).1
      by_cases hlt : k < n
      · obtain ⟨c0, c1⟩ := unhide HD k hlt
        have d0 := (hbel.cell (p := ⟨b, off + k * 2, none⟩) hb).trans c0
        have d1 := (hbel.cell (p := ⟨b, off + k * 2 + 1, none⟩) hb).trans c1
        clear c0 c1
        go_wp2_with fail
        refine (toDecl_any _ _ _).mono ?_
        rintro e w1 ⟨rfl, b1⟩
        have HM1 := hide ((unhide HM).later b1)
        have HK1 := hide ((unhide HK).later b1)
        obtain ⟨⟨u0, q0⟩, f0⟩ := (unhide HM1).2 (k * 2) (by omega)
        obtain ⟨⟨u1, q1⟩, f1⟩ := (unhide HM1).2 (k * 2 + 1) (by omega)
        have l1 := (unhide HM1).1
        go_wp2
        go_roundw
        case rel => exact ⟨k + 1, by omega, by go_num, (unhide HK1).put q0 q1, ((unhide HM1).set _ _).set _ _, ((hbel.trans (b1.mono hbel.size)).setCell (Nat.le_refl _) _).setCell (Nat.le_refl _) _⟩
        case measure => simp [intOf]; omega
      · have e : k = n := by omega
        subst e
        go_wp2
        go_ret
        exact ⟨rfl, unhide HK, hlt0, hbel⟩
set_option maxRecDepth 100000 in
set_option maxHeartbeats 400000 in
theorem eqDecl_same (s : ByteArray) (v : Int) (w : World) :
    Calls Tryz.prog 44 #[.agg #[.string s, .int .i64 v], .agg #[.string s, .int .i64 v]] w fun e w' => e = .returned (.bool true) ∧ Below w.heap.size w w' := by
  go_enter Tryz.func44, Tryz.ntmps44
  go_wp2
  go_ret
  exact ⟨rfl, (by repeat (first | exact Below.refl _ _ | assumption | refine below_drewN ?_ _ | refine Below.drew ?_ | refine Below.alloc ?_ (by first | exact Nat.le_refl _ | exact Below.size (by assumption) | (simp; done) | (simp; omega)) _ | refine Below.setCell ?_ (by first | exact Nat.le_refl _ | exact Below.size (by assumption) | (simp; done) | (simp; omega)) _ | refine Below.trans ?_ (by assumption)))⟩
set_option maxRecDepth 100000 in
set_option maxHeartbeats 1000000 in
theorem eqDeclS_same (b off c off' n cap cap' : Nat) (S : Nat → ByteArray) (V : Nat → Int) (w : World) (hb : b < w.heap.size) (hc : c < w.heap.size) (hd : Decs w b off n S V) (hd' : Decs w c off' n S V) (hn : n ≤ 1048576) :
    Calls Tryz.prog 16 #[.slice (some ⟨b, off, none⟩) n cap, .slice (some ⟨c, off', none⟩) n cap'] w fun e w' => e = .returned (.bool true) ∧ Below w.heap.size w w' := by
  have HD := hide hd
  have HE := hide hd'
  clear hd hd'
  go_enter Tryz.func16, Tryz.ntmps16
  go_wp2
  go_loopw [5] (fun i wr => ∃ k : Nat, k ≤ n ∧ i = .int .i64 k ∧ Below w.heap.size w wr) (fun i _ => n - (intOf i).toNat)
  case atStart => exact ⟨0, by omega, rfl, (by repeat (first | exact Below.refl _ _ | assumption | refine below_drewN ?_ _ | refine Below.drew ?_ | refine Below.alloc ?_ (by first | exact Nat.le_refl _ | exact Below.size (by assumption) | (simp; done) | (simp; omega)) _ | refine Below.setCell ?_ (by first | exact Nat.le_refl _ | exact Below.size (by assumption) | (simp; done) | (simp; omega)) _ | refine Below.trans ?_ (by assumption)))⟩
  case round =>
    obtain ⟨k, hk, rfl, hbel⟩ := hrel
    by_cases hlt : k < n
    · obtain ⟨c0, c1⟩ := unhide HD k hlt
      obtain ⟨e0, e1⟩ := unhide HE k hlt
      have d0 := (hbel.cell (p := ⟨b, off + k * 2, none⟩) hb).trans c0
      have d1 := (hbel.cell (p := ⟨b, off + k * 2 + 1, none⟩) hb).trans c1
      have g0 := (hbel.cell (p := ⟨c, off' + k * 2, none⟩) hc).trans e0
      have g1 := (hbel.cell (p := ⟨c, off' + k * 2 + 1, none⟩) hc).trans e1
      clear c0 c1 e0 e1
      go_wp2
      go_region_held3 (fun w' => w'.cell? ⟨b, off + k * 2, none⟩ = some (.string (S k)) ∧ w'.cell? ⟨b, off + k * 2 + 1, none⟩ = some (.int .i64 (V k)) ∧ w'.cell? ⟨c, off' + k * 2, none⟩ = some (.string (S k)) ∧ w'.cell? ⟨c, off' + k * 2 + 1, none⟩ = some (.int .i64 (V k))) (first | go_keep | exact ⟨d0, d1, g0, g1⟩)
        (first | (go_at_call 44; refine (eqDecl_same _ _ _).mono ?_; rintro e wq ⟨rfl, bq⟩; have BL := (by first | exact hbel.trans (bq.mono hbel.size) | exact hbel.drew.trans (bq.mono hbel.size)); have d0 := cell_later bq (by exact d0); have d1 := cell_later bq (by exact d1); have g0 := cell_later bq (by exact g0); have g1 := cell_later bq (by exact g1)))
      all_goals go_wp2
      all_goals go_roundw
      all_goals first | exact ⟨k + 1, by omega, by go_num, (by first | exact BL | exact BL.drew)⟩ | (simp [intOf]; omega)
    · go_wp2
      go_ret
      exact ⟨rfl, hbel⟩
end Go.Proofs.YtfopmobopmdahaaGreat
