/- Which marks are so, of the model. -/
import Derived.Test.YtbfijmijhfbkdaaNokA
import Derived.Test.YtbfijmijhfbkdaaNltA
import Derived.Test.YtbfijmijhfbkdaaBapA
namespace Go.Proofs.Ytbfijmijhfbkdaa
open Go.ChangeShapes Go.WideShapes Go.ChangeAt Go.RowKit Go.Joins
set_option linter.unusedVariables false

/-- What a gate says, by what is so ahead of it. -/
def gval (g : Gt) (L : List Bool) : Bool := if g.x then metB g.a L.length (atB L) != metB g.b L.length (atB L) else metB g.a L.length (atB L) && metB g.b L.length (atB L)
/-- What is so, up to a gate. -/
def outL (I : List Bool) (G : Nat → Gt) : Nat → List Bool
  | 0 => true :: I
  | j + 1 => outL I G j ++ [gval (G j) (outL I G j)]
theorem outL_len (I : List Bool) (G : Nat → Gt) : ∀ j, (outL I G j).length = 1 + I.length + j
  | 0 => by simp [outL]; omega
  | j + 1 => by simp [outL, outL_len I G j]; omega
/-- What is so, of a net and of what comes in. -/
noncomputable def nvL (m : Int) (n : Nat) (G : Nat → Gt) (I : List Bool) : List Bool := if netB m n G = true ∧ (I.length : Int) = m then outL I G n else []
theorem own_lone (w : World) (u : Value) (e : TypeId) (h : u.oneCell' = true) : (w.alloc (.cells #[u] e)).ownsRow w.heap.size e 1 (.slice (some ⟨w.heap.size, 0, none⟩) 1 1) 1 [u] :=
  ⟨by simp, .inr ⟨w.heap.size, 1, #[u], rfl, Nat.le_refl _, heap_alloc_new w _, Nat.le_refl _, by unfold maxLen; omega, by simp, by simp⟩⟩
/-- What is always so, and what comes in behind it. -/
theorem bol_start (w : World) (I : List Bool) (b off l cap : Nat) (hb : b < w.heap.size) (hI : I.length = l) (hi : Bls w b off l (atB I)) (h63 : l ≤ 100000) :
    ∃ g' cap' w', (Builtin.append_ #[26, 26] 26 #[.slice (some ⟨w.heap.size, 0, none⟩) 1 1, .slice (some ⟨b, off, none⟩) l cap]).run Try.prog (w.alloc (.cells #[.bool true] 4)) = .ok (.slice (some ⟨g', 0, none⟩) (1 + l) cap') w' ∧ w'.ownsRow w.heap.size 4 1 (.slice (some ⟨g', 0, none⟩) (1 + l) cap') (1 + l) (bcells (true :: I)) ∧ Below w.heap.size w w' := by
  obtain ⟨i0, hi0, hzz⟩ := Option.map_eq_some_iff.1 infoBoo
  simp only [Prod.mk.injEq] at hzz
  obtain ⟨hz0, hz1, hz2⟩ := hzz
  have b4 : Below w.heap.size w (w.alloc (.cells #[.bool true] 4)) := (Below.refl _ _).alloc (Nat.le_refl _) _
  obtain ⟨g', cap', w', h1, h2, h3, _⟩ := append_where (P := Try.prog) (w.alloc (.cells #[.bool true] 4)) w.heap.size 26 26 4 i0 _ 1 1 Try.underlying26 hi0 hz0 hz1 hz2 rfl (by omega) w.heap.size 1 1 [.bool true] (own_lone w (.bool true) 4 rfl) ⟨b, off, none⟩ l cap (bcells I) (by simp [bcells, hI]) (by
    intro j u hj
    have hj' : j < I.length := by
      have := (List.getElem?_eq_some_iff.1 hj).1
      simpa [bcells] using this
    have := cell_later b4 (hi j (by omega))
    rw [Go.WideShapes.add_plain, this]
    simp [bcells, hj'] at hj
    rw [← hj]
    simp [atB, List.getD, hj']) (by
    intro u hu
    simp [bcells] at hu
    rcases hu with ⟨_, rfl⟩ | ⟨_, rfl⟩ <;> rfl) (by unfold maxLen; omega) (by omega) (by simp)
  exact ⟨g', cap', w', h1, h2, b4.trans ((mov_of_grown h3).below (Nat.le_refl _) b4.size)⟩
set_option maxHeartbeats 4000000 in
theorem l6Vals_any (m : Int) (a : Option Addr) (n cap : Nat) (G : Nat → Gt) (I : List Bool) (b off l c : Nat) (w : World) (hd : GtsAt w a n G) (hw : WG n G) (hn : n ≤ 600) (hl : l ≤ 8) (hI : I.length = l) (hb : b < w.heap.size) (hi : Bls w b off l (atB I)) :
    Calls Try.prog 36 #[.agg #[.int .i64 m, .slice a n cap], .slice (some ⟨b, off, none⟩) l c] w fun e w' => ∃ g cap', e = .returned (.slice (some ⟨g, 0, none⟩) (1 + l + n : Nat) cap') ∧ w'.ownsRow w.heap.size 4 1 (.slice (some ⟨g, 0, none⟩) (1 + l + n) cap') (1 + l + n) (bcells (outL I G n)) ∧ Below w.heap.size w w' := by
  have HD := hide hd
  have HW := hide hw
  clear hd hw
  obtain ⟨wz, hwz⟩ : ∃ wz, wz = w.alloc (.cells #[.int .i64 m, .slice a n cap] 25) := ⟨_, rfl⟩
  have BZ : Below w.heap.size w wz := by rw [hwz]; exact (Below.refl _ _).alloc (Nat.le_refl _) _
  have NB : NBox wz w.heap.size m a n cap := by rw [hwz]; exact NBox.new _ _ _ _ _ _
  have hsz : wz.heap.size = w.heap.size + 1 := by rw [hwz]; simp
  obtain ⟨g0, c0, w1, hrun, ow1, b1⟩ := bol_start wz I b off l c (by omega) hI (hi.later BZ) (by omega)
  have HR : Hid ((Builtin.append_ #[26, 26] 26 #[.slice (some ⟨w.heap.size + 1, 0, none⟩) 1 1, .slice (some ⟨b, off, none⟩) l c]).run Try.prog ((w.alloc (.cells #[.int .i64 m, .slice a n cap] 25)).alloc (.cells #[.bool true] 4)) = .ok (.slice (some ⟨g0, 0, none⟩) (1 + l) c0) w1) := by
    rw [← hsz, ← hwz]; exact hrun
  have OW := hide ow1
  have NB1 := NB.later b1
  have B1 := BZ.trans (b1.mono BZ.size)
  have s1 := b1.size
  have HZ := hide hwz
  clear hrun ow1 hwz NB b1 hi
  go_enter Try.func36, Try.ntmps36
  go_wp2_with (first | (at_builtin; refine wpList_append_run _ rfl (.tmp 9) (.tmp 10) 26 rfl _ _ _ _ rfl rfl (unhide HR) ?_))
  go_loopw [6, 5] (fun i s wr => ∃ (j g c : Nat), j ≤ n ∧ i = .int .i64 j ∧ s = .slice (some ⟨g, 0, none⟩) (1 + l + j : Nat) c ∧ wr.ownsRow (w.heap.size + 1) 4 1 (.slice (some ⟨g, 0, none⟩) (1 + l + j) c) (1 + l + j) (bcells (outL I G j)) ∧ NBox wr w.heap.size m a n cap ∧ Below w.heap.size w wr) (fun i _ _ => n - (intOf i).toNat)
  case atStart => exact ⟨0, g0, c0, by omega, rfl, rfl, by rw [← hsz]; exact unhide OW, NB1, B1⟩
  case round =>
    obtain ⟨j, g, c, hj, rfl, rfl, ow, ⟨p0, p1⟩, hbel⟩ := hrel
    have OWr := hide ow
    clear ow
    by_cases hlt : j < n
    · obtain ⟨b', off', rfl, hb', hd⟩ := (unhide HD).ok hlt
      obtain ⟨c0, c1, c2⟩ := hd j hlt
      have d0 := (hbel.cell (p := ⟨b', off' + j * 3, none⟩) hb').trans c0
      have d1 := (hbel.cell (p := ⟨b', off' + j * 3 + 1, none⟩) hb').trans c1
      have d2 := (hbel.cell (p := ⟨b', off' + j * 3 + 2, none⟩) hb').trans c2
      clear c0 c1 c2 hd
      obtain ⟨wa, wb⟩ := unhide HW j hlt
      have HL : Hid ((outL I G j).length = 1 + l + j) := by rw [outL_len, hI]; rfl
      have hrs := hbel.size
      obtain ⟨g2, c2, w4, hrun, ow4, gr4, hg2⟩ := bol_one wr (w.heap.size + 1) _ (1 + l + j) (outL I G j) (gval (G j) (outL I G j)) (unhide OWr) (by omega) (by have := World.block_lt_of_cell? _ _ p0; simp at this; omega)
      have hgb := own_base (unhide OWr)
      have OW4 : Hid (w4.ownsRow (w.heap.size + 1) 4 1 (.slice (some ⟨g2, 0, none⟩) (1 + l + (j + 1)) c2) (1 + l + (j + 1)) (bcells (outL I G (j + 1)))) := ow4
      have NB4 : NBox w4 w.heap.size m (some ⟨b', off', none⟩) n cap := ⟨grown_cell gr4 p0 (by simp [Value.ownBlock]; omega), grown_cell gr4 p1 (by simp [Value.ownBlock]; omega)⟩
      have B4 : Below w.heap.size w w4 := hbel.grown gr4 hbel.size (fun k hk => by simp [Value.ownBlock] at hk; omega)
      have HR := hide hrun
      have HV : Hid (gval (G j) (outL I G j) = if (G j).x then metB (G j).a (1 + l + j) (atB (outL I G j)) != metB (G j).b (1 + l + j) (atB (outL I G j)) else metB (G j).a (1 + l + j) (atB (outL I G j)) && metB (G j).b (1 + l + j) (atB (outL I G j))) := by
        unfold gval; rw [unhide HL]; rfl
      clear hrun ow4 gr4 hg2
      go_wp2_with fail
      refine (sNetLit_any _ _ _ _ _ _ wa (own_blsAt (unhide OWr)) (by omega)).mono ?_
      rintro e w1 ⟨rfl, rfl⟩
      go_wp2_with fail
      refine (sNetLit_any _ _ _ _ _ _ wb (own_blsAt (unhide OWr)) (by omega)).mono ?_
      rintro e w1 ⟨rfl, rfl⟩
      cases hx : (G j).x <;> cases hA : metB (G j).a (1 + l + j) (atB (outL I G j)) <;> cases hB : metB (G j).b (1 + l + j) (atB (outL I G j))
      all_goals
        rw [hx] at d0
        have hv := unhide HV
        rw [hx, hA, hB] at hv
        simp at hv
        have HR1 := unhide HR
        rw [hv] at HR1
        have HR2 := hide HR1
        clear hx hA hB hv HV HR HR1
        go_wp2_with (first | (at_builtin; refine wpList_append_run _ rfl (.tmp 35) (.tmp 62) 26 rfl _ _ _ _ rfl rfl (unhide HR2) ?_))
        go_roundw
        case rel => exact ⟨j + 1, g2, c2, by omega, by go_num, rfl, unhide OW4, NB4, B4⟩
        case measure => simp [intOf]; omega
    · have e : j = n := by omega
      subst e
      go_wp2
      go_ret
      exact ⟨g, c, rfl, own_mono (unhide OWr) (by omega), hbel⟩
end Go.Proofs.Ytbfijmijhfbkdaa
