/- Lists of what is so and what is not: how they lie in memory, their copies and comparisons. -/
import Derived.Test.YtnojpdfkhhjcfaaIntA
import Derived.Deep.Grids
namespace Go.Proofs.Ytnojpdfkhhjcfaa
open Go.ChangeShapes Go.WideShapes Go.ChangeAt Go.RowKit Go.Joins
set_option linter.unusedVariables false

def Bls (w : World) (b off n : Nat) (V : Nat → Bool) : Prop := ∀ i, i < n → w.cell? ⟨b, off + i, none⟩ = some (.bool (V i))
theorem Bls.later {w w' : World} {b off n : Nat} {V : Nat → Bool} (h : Bls w b off n V) (hb : Below w.heap.size w w') : Bls w' b off n V := fun i hi => cell_later hb (h i hi)
theorem Bls.cong {w : World} {b off n : Nat} {V V' : Nat → Bool} (h : Bls w b off n V) (e : ∀ i, i < n → V i = V' i) : Bls w b off n V' := fun i hi => by rw [← e i hi]; exact h i hi
def BlsAt (w : World) (a : Option Addr) (n : Nat) (V : Nat → Bool) : Prop := n = 0 ∨ ∃ b off, a = some ⟨b, off, none⟩ ∧ b < w.heap.size ∧ Bls w b off n V
theorem BlsAt.later {w w' : World} {a : Option Addr} {n : Nat} {V : Nat → Bool} (h : BlsAt w a n V) (hb : Below w.heap.size w w') : BlsAt w' a n V := by
  rcases h with h | ⟨b, off, h1, h2, h3⟩
  · exact Or.inl h
  · exact Or.inr ⟨b, off, h1, Nat.lt_of_lt_of_le h2 hb.size, h3.later hb⟩
theorem BlsAt.ok {w : World} {a : Option Addr} {n k : Nat} {V : Nat → Bool} (h : BlsAt w a n V) (hk : k < n) : ∃ b off, a = some ⟨b, off, none⟩ ∧ b < w.heap.size ∧ Bls w b off n V := h.resolve_left (by omega)
theorem Bls.at {w : World} {b off n : Nat} {V : Nat → Bool} (h : Bls w b off n V) (hb : b < w.heap.size) : BlsAt w (some ⟨b, off, none⟩) n V := Or.inr ⟨b, off, rfl, hb, h⟩
theorem IntsAt.ok {w : World} {a : Option Addr} {n k : Nat} {V : Nat → Int} (h : IntsAt w a n V) (hk : k < n) : ∃ b off, a = some ⟨b, off, none⟩ ∧ b < w.heap.size ∧ Ints w b off n V := h.resolve_left (by omega)
theorem Ints.at {w : World} {b off n : Nat} {V : Nat → Int} (h : Ints w b off n V) (hb : b < w.heap.size) : IntsAt w (some ⟨b, off, none⟩) n V := Or.inr ⟨b, off, rfl, hb, h⟩
theorem Bls.put {w : World} {B k : Nat} {V : Nat → Bool} {u0 : Value} (h : Bls w B 0 k V) (q0 : w.cell? ⟨B, k, none⟩ = some u0) : Bls (w.setCell ⟨B, k, none⟩ (.bool (V k))) B 0 (k + 1) V := by
  intro i hi
  simp only [Nat.zero_add]
  by_cases e : i = k
  · subst e; exact World.cell?_setCell_same _ _ _ q0
  · have hh := h i (by omega)
    simp only [Nat.zero_add] at hh
    rw [World.cell?_setCell_other _ _ _ _ (by simp <;> omega)]; exact hh
theorem infoBool : (Try.prog.info? 4).map (fun i => (i.zero, i.size, i.bytes)) = some (some (.bool false), 1, 1) := by kernel_rfl
theorem bools_in {H : Type} {enc : TypeId × Value → H} {w : World} {a : Option Addr} {len cap : Nat} {d : DataW H} {p : List MemPlace} {held : Bool}
    (h : DataW.Trod enc Try.prog w 0 (fun _ => true) held 25 (.slice a len cap) d p) : len ≤ cap ∧ len ≤ maxLen ∧ ∃ V, BlsAt w a len V := by
  obtain ⟨fuel, hf⟩ := h
  rcases Go.Deep.open_bools Try.underlying25 Try.underlying4 (by kernel_rfl) hf with ⟨hcs, _⟩ | ⟨x, l, c, B, hcs, _, hl, hm, _, hcell⟩
  · simp [Value.cells] at hcs
    obtain ⟨rfl, rfl, rfl⟩ := hcs
    exact ⟨Nat.le_refl _, by unfold maxLen; omega, fun _ => false, Or.inl rfl⟩
  · simp [Value.cells] at hcs
    obtain ⟨rfl, rfl, rfl⟩ := hcs
    refine ⟨hl, by omega, B, ?_⟩
    by_cases h0 : len = 0
    · exact Or.inl h0
    · obtain ⟨b, off, spot⟩ := x
      have hspot : spot = none := by simpa [Addr.add] using World.cell?_spot (hcell 0 (by omega))
      subst hspot
      refine Or.inr ⟨b, off, rfl, World.block_lt_of_cell? _ _ (hcell 0 (by omega)), fun i hi => ?_⟩
      have := hcell i (by omega)
      rw [Go.WideShapes.add_plain] at this
      exact this
set_option maxHeartbeats 1000000 in
theorem toBoolS_any (a : Option Addr) (n cap : Nat) (V : Nat → Bool) (w : World) (hd : BlsAt w a n V) (hn : n ≤ 1048576) :
    Calls Try.prog 18 #[.slice a n cap] w fun e w' => e = .returned (.slice (some ⟨w.heap.size, 0, none⟩) n n) ∧ Bls w' w.heap.size 0 n V ∧ w.heap.size < w'.heap.size ∧ Below w.heap.size w w' := by
  have hmk := run_make_wide (P := Try.prog) 25 4 _ 1 1 Try.underlying25 infoBool .i64 .i64 n (by omega) (by omega)
  simp only [Nat.mul_one] at hmk
  rcases hd with rfl | ⟨b, off, rfl, hb, hd⟩
  · simp only [Int.natCast_zero] at hmk
    go_enter Try.func18, Try.ntmps18
    go_wp2
    go_loopw [4] (fun i wr => i = .int .i64 0 ∧ wr.heap.size = w.heap.size + 1 ∧ Below w.heap.size w wr) (fun _ _ => 0)
    case atStart => exact ⟨rfl, by simp, (by repeat (first | exact Below.refl _ _ | assumption | refine below_drewN ?_ _ | refine Below.drew ?_ | refine Below.alloc ?_ (by first | exact Nat.le_refl _ | exact Below.size (by assumption) | (simp; done) | (simp; omega)) _ | refine Below.setCell ?_ (by first | exact Nat.le_refl _ | exact Below.size (by assumption) | (simp; done) | (simp; omega)) _ | refine Below.trans ?_ (by assumption)))⟩
    case round =>
      obtain ⟨rfl, hsz, hbel⟩ := hrel
      go_wp2
      go_ret
      exact ⟨rfl, fun i hi => by omega, by omega, hbel⟩
  · have HD := hide hd
    clear hd
    go_enter Try.func18, Try.ntmps18
    go_wp2
    go_loopw [4] (fun i wr => ∃ k : Nat, k ≤ n ∧ i = .int .i64 k ∧ Bls wr w.heap.size 0 k V ∧ Made wr w.heap.size n ∧ Below w.heap.size w wr) (fun i _ => n - (intOf i).toNat)
    case atStart => exact ⟨0, by omega, rfl, fun i hi => by omega, Made.new _ _ _ _, (by repeat (first | exact Below.refl _ _ | assumption | refine below_drewN ?_ _ | refine Below.drew ?_ | refine Below.alloc ?_ (by first | exact Nat.le_refl _ | exact Below.size (by assumption) | (simp; done) | (simp; omega)) _ | refine Below.setCell ?_ (by first | exact Nat.le_refl _ | exact Below.size (by assumption) | (simp; done) | (simp; omega)) _ | refine Below.trans ?_ (by assumption)))⟩
    case round =>
      obtain ⟨k, hk, rfl, hdk, hmd, hbel⟩ := hrel
      have HK := hide hdk
      have HM := hide hmd
      clear hdk hmd
      have hlt0 := (unhide HM).1
      by_cases hlt : k < n
      · have d0 := (hbel.cell (p := ⟨b, off + k, none⟩) hb).trans (unhide HD k hlt)
        obtain ⟨⟨u0, q0⟩, f0⟩ := (unhide HM).2 k (by omega)
        go_wp2
        all_goals go_roundw
        all_goals first | exact ⟨k + 1, by omega, by go_num, (unhide HK).put q0, ((unhide HM).set _ _), (hbel.setCell (Nat.le_refl _) _)⟩ | exact ⟨k + 1, by omega, by go_num, Bls.put (w := wr.drew) (unhide HK) q0, (Made.set (w := wr.drew) (unhide HM) _ _), (hbel.drew.setCell (Nat.le_refl _) _)⟩ | (simp [intOf]; omega)
      · have e : k = n := by omega
        subst e
        go_wp2
        go_ret
        exact ⟨rfl, unhide HK, hlt0, hbel⟩
set_option maxHeartbeats 1000000 in
theorem eqBoolS_same (a c : Option Addr) (n cap cap' : Nat) (V : Nat → Bool) (w : World) (hd : BlsAt w a n V) (hd' : BlsAt w c n V) (hn : n ≤ 1048576) :
    Calls Try.prog 10 #[.slice a n cap, .slice c n cap'] w fun e w' => e = .returned (.bool true) ∧ Below w.heap.size w w' := by
  have HD := hide hd
  have HE := hide hd'
  clear hd hd'
  go_enter Try.func10, Try.ntmps10
  go_wp2
  go_loopw [5] (fun i wr => ∃ k : Nat, k ≤ n ∧ i = .int .i64 k ∧ Below w.heap.size w wr) (fun i _ => n - (intOf i).toNat)
  case atStart => exact ⟨0, by omega, rfl, (by repeat (first | exact Below.refl _ _ | assumption | refine below_drewN ?_ _ | refine Below.drew ?_ | refine Below.alloc ?_ (by first | exact Nat.le_refl _ | exact Below.size (by assumption) | (simp; done) | (simp; omega)) _ | refine Below.setCell ?_ (by first | exact Nat.le_refl _ | exact Below.size (by assumption) | (simp; done) | (simp; omega)) _ | refine Below.trans ?_ (by assumption)))⟩
  case round =>
    obtain ⟨k, hk, rfl, hbel⟩ := hrel
    by_cases hlt : k < n
    · obtain ⟨b, off, rfl, hb, hd⟩ := (unhide HD).ok hlt
      obtain ⟨c, off', rfl, hc, hd'⟩ := (unhide HE).ok hlt
      have d0 := (hbel.cell (p := ⟨b, off + k, none⟩) hb).trans (hd k hlt)
      have g0 := (hbel.cell (p := ⟨c, off' + k, none⟩) hc).trans (hd' k hlt)
      clear hd hd'
      have kb : (V k != V k) = false := by simp
      go_wp2
      go_region
      all_goals go_wp2
      all_goals go_roundw
      all_goals first | exact ⟨k + 1, by omega, by go_num, (by first | exact hbel | exact hbel.drew)⟩ | (simp [intOf]; omega)
    · go_wp2
      go_ret
      exact ⟨rfl, hbel⟩
end Go.Proofs.Ytnojpdfkhhjcfaa
