/- What the model's draw of a clause and of a list returns. -/
import Derived.Test.YtbepnfcghjfngaaCdrA
import Derived.Test.YtbepnfcghjfngaaLeaA
namespace Go.Proofs.Ytbepnfcghjfngaa
open Go.ChangeShapes Go.WideShapes Go.ChangeAt Go.RowKit Go.Joins
set_option linter.unusedVariables false

theorem getD_mem {L : List Int} {k : Nat} (h : k < L.length) : L.getD k 0 ∈ L := at0_mem h
/-- Two lists of one's own, one behind the other. -/
theorem int_onto (w : World) (base : Nat) (g n cap0 : Nat) (L M : List Int) (b off m cap : Nat) (hown : w.ownsRow base 3 1 (.slice (some ⟨g, 0, none⟩) n cap0) n (icells L)) (hM : M.length = m) (hi : Ints w b off m (at0 M)) (h63 : n + m ≤ 1000000) (hbase : base ≤ w.heap.size) :
    ∃ g' cap' w', (Builtin.append_ #[30, 30] 30 #[.slice (some ⟨g, 0, none⟩) n cap0, .slice (some ⟨b, off, none⟩) m cap]).run Try.prog w = .ok (.slice (some ⟨g', 0, none⟩) (n + m) cap') w' ∧ w'.ownsRow base 3 1 (.slice (some ⟨g', 0, none⟩) (n + m) cap') (n + m) (icells (L ++ M)) ∧ w.grownBy w' (some g) := by
  obtain ⟨i0, hi0, hzz⟩ := Option.map_eq_some_iff.1 infoInt
  simp only [Prod.mk.injEq] at hzz
  obtain ⟨hz0, hz1, hz2⟩ := hzz
  have e : icells (L ++ M) = icells L ++ icells M := by simp [icells]
  rw [e]
  obtain ⟨g', cap', w', h1, h2, h3, _⟩ := append_where (P := Try.prog) w base 30 30 3 i0 _ 1 8 Try.underlying30 hi0 hz0 hz1 hz2 rfl (by omega) g n cap0 (icells L) hown ⟨b, off, none⟩ m cap (icells M) (by simp [icells, hM]) (by
    intro j u hj
    have hj' : j < M.length := by
      have := (List.getElem?_eq_some_iff.1 hj).1
      simpa [icells] using this
    have := hi j (by omega)
    rw [Go.WideShapes.add_plain, this]
    simp [icells, hj'] at hj
    rw [← hj]
    simp [at0, List.getD, hj']) (by
    intro u hu
    simp [icells] at hu
    obtain ⟨x, _, rfl⟩ := hu
    rfl) (by unfold maxLen; omega) (by omega) hbase
  exact ⟨g', cap', w', h1, h2, h3⟩
/-- A copy of a list. -/
theorem int_copy (w : World) (M : List Int) (b off m cap : Nat) (hM : M.length = m) (hi : IntsAt w (some ⟨b, off, none⟩) m (at0 M)) (h63 : m ≤ 1000000) :
    ∃ g' cap' w', (Builtin.append_ #[30, 30] 30 #[.slice (some ⟨w.heap.size, 0, none⟩) 0 0, .slice (some ⟨b, off, none⟩) m cap]).run Try.prog (w.alloc (.cells #[] 3)) = .ok (.slice (some ⟨g', 0, none⟩) m cap') w' ∧ w'.ownsRow w.heap.size 3 1 (.slice (some ⟨g', 0, none⟩) m cap') m (icells M) ∧ Below w.heap.size w w' := by
  have b4 : Below w.heap.size w (w.alloc (.cells #[] 3)) := (Below.refl _ _).alloc (Nat.le_refl _) _
  have I4 : Ints (w.alloc (.cells #[] 3)) b off m (at0 M) := by
    rcases hi.later b4 with h | ⟨b', off', eb, _, hd⟩
    · subst h; exact fun i hi => by omega
    · simp only [Option.some.injEq, Addr.mk.injEq, and_true] at eb
      obtain ⟨rfl, rfl⟩ := eb
      exact hd
  obtain ⟨g', c', w', h1, h2, h3⟩ := int_onto (w.alloc (.cells #[] 3)) w.heap.size w.heap.size 0 0 [] M b off m cap (own_new _ _ _) hM I4 (by omega) (by simp)
  simp only [Nat.zero_add, List.nil_append] at h1 h2
  exact ⟨g', c', w', h1, h2, b4.trans ((mov_of_grown h3).below (Nat.le_refl _) b4.size)⟩
/-- One of a list that has just been laid down. -/
theorem num_new (R N : Nat) (zs : List Int) (A : Array Value) (L : Nat) (w : World) (hR : Rd w R N) (hN : N ≤ 900000) (hA : A = (icells zs).toArray) (hL : zs.length = L) (l1 : 1 ≤ L) (l2 : L ≤ 1000) :
    Calls Try.prog 17 #[.pointer (some ⟨R, 0, none⟩), .slice (some ⟨w.heap.size, 0, none⟩) L L] (w.alloc (.cells A 3)) fun e w' => ∃ k : Nat, k < L ∧ e = .returned (.int .i64 (zs.getD k 0)) ∧ Rd w' R (N + 1) ∧ Mov R w w' := by
  have rl := hR.lt
  subst hA
  refine (num_any R N w.heap.size L zs _ hL (hR.alloc _) (by omega) (by omega) l1 (by omega) ?_).mono ?_
  · intro i hi
    rw [World.cell?_alloc_new]
    have hi' : i < zs.length := by omega
    simp [icells, List.getD, hi']
  · rintro e w1 ⟨k, hk, rfl, h1, h2⟩
    exact ⟨k, hk, rfl, h1, ((Mov.refl R w).alloc _).trans h2⟩
end Go.Proofs.Ytbepnfcghjfngaa
