/- Lists of numbers: how they lie in memory, their copies and comparisons. -/
import Derived.Test.YtmpiiilkaadhfaaDoorMkA
namespace Go.Proofs.YtmpiiilkaadhfaaDoor
open Go.ChangeShapes Go.WideShapes Go.ChangeAt Go.RowKit Go.Joins
set_option linter.unusedVariables false
set_option maxRecDepth 100000

/-- Numbers in a row. -/
def Ints (w : World) (b off n : Nat) (V : Nat → Int) : Prop := ∀ i, i < n → w.cell? ⟨b, off + i, none⟩ = some (.int .i64 (V i))
theorem Ints.later {w w' : World} {b off n : Nat} {V : Nat → Int} (h : Ints w b off n V) (hb : Below w.heap.size w w') : Ints w' b off n V := fun i hi => cell_later hb (h i hi)
def IntsAt (w : World) (a : Option Addr) (n : Nat) (V : Nat → Int) : Prop := n = 0 ∨ ∃ b off, a = some ⟨b, off, none⟩ ∧ b < w.heap.size ∧ Ints w b off n V
theorem IntsAt.later {w w' : World} {a : Option Addr} {n : Nat} {V : Nat → Int} (h : IntsAt w a n V) (hb : Below w.heap.size w w') : IntsAt w' a n V := by
  rcases h with h | ⟨b, off, h1, h2, h3⟩
  · exact Or.inl h
  · exact Or.inr ⟨b, off, h1, Nat.lt_of_lt_of_le h2 hb.size, h3.later hb⟩
theorem ints_in {H : Type} {enc : TypeId × Value → H} {w : World} {a : Option Addr} {len cap : Nat} {d : DataW H} {p : List MemPlace} {sp : Nat → Bool} {held : Bool}
    (h : DataW.Trod enc Tryd.prog w 0 sp held 26 (.slice a len cap) d p) : len ≤ cap ∧ len ≤ maxLen ∧ ∃ V, IntsAt w a len V := by
  obtain ⟨fuel, hf⟩ := h
  rcases open_ints Tryd.underlying26 Tryd.underlying3 (by kernel_rfl) hf with ⟨hcs, _⟩ | ⟨x, l, c, zs, hcs, _, hl, hm, hz, _, hcell, hwz⟩
  · simp [Value.cells] at hcs
    obtain ⟨rfl, rfl, rfl⟩ := hcs
    exact ⟨Nat.le_refl _, by unfold maxLen; omega, fun _ => 0, Or.inl rfl⟩
  · simp [Value.cells] at hcs
    obtain ⟨rfl, rfl, rfl⟩ := hcs
    refine ⟨hl, by omega, fun i => zs.getD i 0, ?_⟩
    by_cases h0 : len = 0
    · exact Or.inl h0
    · have hlz : len ≤ zs.length := by rw [hz]; split <;> omega
      obtain ⟨b, off, rfl, hc⟩ := ints_at hcell (by omega)
      exact Or.inr ⟨b, off, rfl, World.block_lt_of_cell? _ _ (hc 0 (by omega)), fun i hi => hc i (by omega)⟩
theorem Ints.put {w : World} {B k : Nat} {V : Nat → Int} {u0 : Value} (h : Ints w B 0 k V) (q0 : w.cell? ⟨B, k, none⟩ = some u0) : Ints (w.setCell ⟨B, k, none⟩ (.int .i64 (V k))) B 0 (k + 1) V := by
  intro i hi
  simp only [Nat.zero_add]
  by_cases e : i = k
  · subst e; exact World.cell?_setCell_same _ _ _ q0
  · have hh := h i (by omega)
    simp only [Nat.zero_add] at hh
    rw [World.cell?_setCell_other _ _ _ _ (by simp <;> omega)]; exact hh
theorem infoInt : (Tryd.prog.info? 3).map (fun i => (i.zero, i.size, i.bytes)) = some (some (.int .i64 0), 1, 8) := by kernel_rfl
set_option maxRecDepth 100000 in
set_option maxHeartbeats 1000000 in
theorem toIntS_made (a : Option Addr) (n cap : Nat) (V : Nat → Int) (w : World) (hd : IntsAt w a n V) (hn : n ≤ 1048576) :
    Calls Tryd.prog 23 #[.slice a n cap] w fun e w' => e = .returned (.slice (some ⟨w.heap.size, 0, none⟩) n n) ∧ Ints w' w.heap.size 0 n V ∧ Made w' w.heap.size n ∧ Below w.heap.size w w' := by
  have hmk := run_make_wide (P := Tryd.prog) 26 3 _ 1 8 Tryd.underlying26 infoInt .i64 .i64 n (by omega) (by omega)
  simp only [Nat.mul_one] at hmk
  rcases hd with rfl | ⟨b, off, rfl, hb, hd⟩
  · simp only [Int.natCast_zero] at hmk
    go_enter Tryd.func23, Tryd.ntmps23
    go_wp2
    go_loopw [4] (fun i wr => i = .int .i64 0 ∧ wr.heap.size = w.heap.size + 1 ∧ Below w.heap.size w wr) (fun _ _ => 0)
    case atStart => exact ⟨rfl, by simp, (by repeat (first | exact Below.refl _ _ | assumption | refine below_drewN ?_ _ | refine Below.drew ?_ | refine Below.alloc ?_ (by first | exact Nat.le_refl _ | exact Below.size (by assumption) | (simp; done) | (simp; omega)) _ | refine Below.setCell ?_ (by first | exact Nat.le_refl _ | exact Below.size (by assumption) | (simp; done) | (simp; omega)) _ | refine Below.trans ?_ (by assumption)))⟩
    case round =>
      obtain ⟨rfl, hsz, hbel⟩ := hrel
      go_wp2
      go_ret
      exact ⟨rfl, fun i hi => by omega, ⟨by omega, fun j hj => by omega⟩, hbel⟩
  · have HD := hide hd
    clear hd
    go_enter Tryd.func23, Tryd.ntmps23
    go_wp2
    go_loopw [4] (fun i wr => ∃ k : Nat, k ≤ n ∧ i = .int .i64 k ∧ Ints wr w.heap.size 0 k V ∧ Made wr w.heap.size n ∧ Below w.heap.size w wr) (fun i _ => n - (intOf i).toNat)
    case atStart => exact ⟨0, by omega, rfl, fun i hi => by omega, Made.new _ _ _ _, (by repeat (first | exact Below.refl _ _ | assumption | refine below_drewN ?_ _ | refine Below.drew ?_ | refine Below.alloc ?_ (by first | exact Nat.le_refl _ | exact Below.size (by assumption) | (simp; done) | (simp; omega)) _ | refine Below.setCell ?_ (by first | exact Nat.le_refl _ | exact Below.size (by assumption) | (simp; done) | (simp; omega)) _ | refine Below.trans ?_ (by assumption)))⟩
    case round =>
      obtain ⟨k, hk, rfl, hdk, hmd, hbel⟩ := hrel
      have HK := hide hdk
      have HM := hide hmd
      clear hdk hmd
      have hlt0 := (unhide HM).1
      by_cases hlt : k < n
      · have d0 := (hbel.cell (p := ⟨b, off + k, none⟩) hb).trans (unhide HD k hlt)
        obtain ⟨⟨u0, q0⟩, f0⟩ := (unhide HM).2 k (by omega)
        go_wp2
        all_goals go_roundw
        all_goals first | exact ⟨k + 1, by omega, by go_num, (unhide HK).put q0, ((unhide HM).set _ _), (hbel.setCell (Nat.le_refl _) _)⟩ | exact ⟨k + 1, by omega, by go_num, Ints.put (w := wr.drew) (unhide HK) q0, (Made.set (w := wr.drew) (unhide HM) _ _), (hbel.drew.setCell (Nat.le_refl _) _)⟩ | (simp [intOf]; omega)
      · have e : k = n := by omega
        subst e
        go_wp2
        go_ret
        exact ⟨rfl, unhide HK, unhide HM, hbel⟩
theorem toIntS_any (a : Option Addr) (n cap : Nat) (V : Nat → Int) (w : World) (hd : IntsAt w a n V) (hn : n ≤ 1048576) :
    Calls Tryd.prog 23 #[.slice a n cap] w fun e w' => e = .returned (.slice (some ⟨w.heap.size, 0, none⟩) n n) ∧ Ints w' w.heap.size 0 n V ∧ w.heap.size < w'.heap.size ∧ Below w.heap.size w w' :=
  (toIntS_made a n cap V w hd hn).mono fun e w' ⟨h1, h2, h3, h4⟩ => ⟨h1, h2, h3.1, h4⟩
set_option maxRecDepth 100000 in
set_option maxHeartbeats 1000000 in
theorem eqIntS_same (b off c off' n cap cap' : Nat) (V : Nat → Int) (w : World) (hb : b < w.heap.size) (hc : c < w.heap.size) (hd : Ints w b off n V) (hd' : Ints w c off' n V) (hn : n ≤ 1048576) :
    Calls Tryd.prog 25 #[.slice (some ⟨b, off, none⟩) n cap, .slice (some ⟨c, off', none⟩) n cap'] w fun e w' => e = .returned (.bool true) ∧ Below w.heap.size w w' := by
  have HD := hide hd
  have HE := hide hd'
  clear hd hd'
  go_enter Tryd.func25, Tryd.ntmps25
  go_wp2
  go_loopw [5] (fun i wr => ∃ k : Nat, k ≤ n ∧ i = .int .i64 k ∧ Below w.heap.size w wr) (fun i _ => n - (intOf i).toNat)
  case atStart => exact ⟨0, by omega, rfl, (by repeat (first | exact Below.refl _ _ | assumption | refine below_drewN ?_ _ | refine Below.drew ?_ | refine Below.alloc ?_ (by first | exact Nat.le_refl _ | exact Below.size (by assumption) | (simp; done) | (simp; omega)) _ | refine Below.setCell ?_ (by first | exact Nat.le_refl _ | exact Below.size (by assumption) | (simp; done) | (simp; omega)) _ | refine Below.trans ?_ (by assumption)))⟩
  case round =>
    obtain ⟨k, hk, rfl, hbel⟩ := hrel
    by_cases hlt : k < n
    · have d0 := (hbel.cell (p := ⟨b, off + k, none⟩) hb).trans (unhide HD k hlt)
      have g0 := (hbel.cell (p := ⟨c, off' + k, none⟩) hc).trans (unhide HE k hlt)
      have kb : (V k != V k) = false := by simp
      go_wp2
      go_region
      all_goals go_wp2
      all_goals go_roundw
      all_goals first | exact ⟨k + 1, by omega, by go_num, (by first | exact hbel | exact hbel.drew)⟩ | (simp [intOf]; omega)
    · go_wp2
      go_ret
      exact ⟨rfl, hbel⟩
end Go.Proofs.YtmpiiilkaadhfaaDoor
