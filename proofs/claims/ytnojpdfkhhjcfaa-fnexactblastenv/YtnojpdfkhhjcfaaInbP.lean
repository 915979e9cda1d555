/- The bits of names, of the program. -/
import Derived.Test.YtnojpdfkhhjcfaaInsM
import Derived.Laws.OwnMore
namespace Go.Proofs.Ytnojpdfkhhjcfaa
open Go.ChangeShapes Go.WideShapes Go.ChangeAt Go.RowKit Go.Joins
set_option linter.unusedVariables false
set_option linter.unusedSimpArgs false

def pcells (L : List (Nat × Nat)) : List Value := L.flatMap fun p => [.int .i64 (p.1 : Int), .int .i64 (p.2 : Int)]
theorem pcells_len : ∀ L : List (Nat × Nat), (pcells L).length = L.length * 2
  | [] => rfl
  | p :: L => by
    have := pcells_len L
    show (_ :: _ :: pcells L).length = _
    simp only [List.length_cons, this]; omega
theorem pcells_snoc (L : List (Nat × Nat)) (x y : Nat) : pcells (L ++ [(x, y)]) = pcells L ++ [.int .i64 (x : Int), .int .i64 (y : Int)] := by simp [pcells]
theorem pcells_get : ∀ (L : List (Nat × Nat)) (i : Nat), i < L.length → (pcells L)[i * 2]? = some (.int .i64 ((pAt L i).1 : Int)) ∧ (pcells L)[i * 2 + 1]? = some (.int .i64 ((pAt L i).2 : Int))
  | [], i, h => by simp at h
  | p :: L, 0, _ => ⟨rfl, rfl⟩
  | p :: L, i + 1, h => by
    have := pcells_get L i (by simpa using h)
    have e : (i + 1) * 2 = i * 2 + 1 + 1 := by omega
    rw [e]
    exact this
/-- Pairs in memory. -/
def Prs (w : World) (b off : Nat) (L : List (Nat × Nat)) : Prop := ∀ i, i < L.length → w.cell? ⟨b, off + i * 2, none⟩ = some (.int .i64 ((pAt L i).1 : Int)) ∧ w.cell? ⟨b, off + i * 2 + 1, none⟩ = some (.int .i64 ((pAt L i).2 : Int))
theorem Prs.later {w w' : World} {b off : Nat} {L : List (Nat × Nat)} (h : Prs w b off L) (hb : Below w.heap.size w w') : Prs w' b off L := fun i hi => ⟨cell_later hb (h i hi).1, cell_later hb (h i hi).2⟩
theorem own_prs {w : World} {base g n cap : Nat} {e : TypeId} {L : List (Nat × Nat)} (h : w.ownsRow base e 2 (.slice (some ⟨g, 0, none⟩) n cap) n (pcells L)) (hn : L.length = n) : Prs w g 0 L := by
  intro i hi
  obtain ⟨q0, q1⟩ := pcells_get L i hi
  have c0 := h.cells (g := g) rfl (i * 2) _ q0
  have c1 := h.cells (g := g) rfl (i * 2 + 1) _ q1
  rw [Go.WideShapes.add_plain] at c0 c1
  exact ⟨c0, c1⟩
theorem infoInb : (Try.prog.info? 50).map (fun i => (i.zero, i.size, i.bytes)) = some (some (.agg #[.int .i64 0, .int .i64 0]), 2, 16) := by kernel_rfl
theorem prs_one (w : World) (base : Nat) (v : Value) (n : Nat) (L : List (Nat × Nat)) (x y : Nat) (hown : w.ownsRow base 50 2 v n (pcells L)) (h63 : n + 1 ≤ 1000000) (hbase : base ≤ w.heap.size) :
    ∃ g' cap' w', (Builtin.append_ #[47, 47] 47 #[v, .slice (some ⟨w.heap.size, 0, none⟩) 1 1]).run Try.prog (w.alloc (.cells #[.int .i64 (x : Int), .int .i64 (y : Int)] 50)) = .ok (.slice (some ⟨g', 0, none⟩) (n + 1) cap') w' ∧ w'.ownsRow base 50 2 (.slice (some ⟨g', 0, none⟩) (n + 1) cap') (n + 1) (pcells (L ++ [(x, y)])) ∧ w.grownBy w' v.ownBlock ∧ (v.ownBlock = some g' ∨ w.heap.size ≤ g') := by
  obtain ⟨i0, hi0, hzz⟩ := Option.map_eq_some_iff.1 infoInb
  simp only [Prod.mk.injEq] at hzz
  obtain ⟨hz0, hz1, hz2⟩ := hzz
  have b3 : Below w.heap.size w (w.alloc (.cells #[.int .i64 (x : Int), .int .i64 (y : Int)] 50)) := (Below.refl _ _).alloc (Nat.le_refl _) _
  have ow := World.ownsRow.kept (w' := w.alloc (.cells #[.int .i64 (x : Int), .int .i64 (y : Int)] 50)) hown (grown_below b3) (Classical.em _)
  rw [pcells_snoc]
  obtain ⟨g', cap', w', h2, h3, h4, h5⟩ := append_any (P := Try.prog) (w.alloc (.cells #[.int .i64 (x : Int), .int .i64 (y : Int)] 50)) base 47 47 50 i0 _ 2 16 Try.underlying47 hi0 hz0 hz1 hz2 rfl (by omega) v n (pcells L) ow ⟨w.heap.size, 0, none⟩ 1 1 [.int .i64 (x : Int), .int .i64 (y : Int)] rfl (by
    intro j u hj
    rw [Go.WideShapes.add_plain, Nat.zero_add]
    match j, hj with
    | 0, hj => simp at hj; rw [← hj]; simp [go_sem]
    | 1, hj => simp at hj; rw [← hj]; simp [go_sem]
    | j + 2, hj => simp at hj) (by intro u hu; simp at hu; rcases hu with rfl | rfl <;> rfl) (by omega) (by unfold maxLen; omega) (by omega) (by simp; omega)
  exact ⟨g', cap', w', h2, h3, grown_trans (grown_mono (grown_below b3)) h4, by
    rcases h5 with h5 | h5
    · exact Or.inl h5
    · right; simp at h5; omega⟩
set_option maxHeartbeats 2000000 in
theorem inBits_any (b off n cap : Nat) (S : Nat → ByteArray) (V : Nat → Int) (w : World) (hb : b < w.heap.size) (hd : Decs w b off n S V) (hn : n ≤ 4) (hV : ∀ i, i < n → 1 ≤ V i ∧ V i ≤ 4) :
    Calls Try.prog 26 #[.slice (some ⟨b, off, none⟩) n cap] w fun e w' => (∃ g cp, e = .returned (.slice (some ⟨g, 0, none⟩) (prL V n).length cp) ∧ Prs w' g 0 (prL V n) ∧ g < w'.heap.size ∧ w.heap.size ≤ g) ∧ Below w.heap.size w w' := by
  obtain ⟨wz, hwz⟩ : ∃ wz, wz = w.alloc (.cells #[] 50) := ⟨_, rfl⟩
  have BZ : Below w.heap.size w wz := by rw [hwz]; exact (Below.refl _ _).alloc (Nat.le_refl _) _
  have OW1 : Hid (wz.ownsRow w.heap.size 50 2 (.slice (some ⟨w.heap.size, 0, none⟩) 0 0) 0 []) := by rw [hwz]; exact own_new w _ 2
  have HD := hide hd
  have HV := hide hV
  have HZ := hide hwz
  clear hd hV hwz
  go_enter Try.func26, Try.ntmps26
  go_wp2
  rw [← unhide HZ]
  go_loopw [10, 3] (fun i s wr => ∃ (j g cp : Nat), j ≤ n ∧ i = .int .i64 j ∧ s = .slice (some ⟨g, 0, none⟩) (prL V j).length cp ∧ wr.ownsRow w.heap.size 50 2 (.slice (some ⟨g, 0, none⟩) (prL V j).length cp) (prL V j).length (pcells (prL V j)) ∧ Below w.heap.size w wr ∧ (prL V j).length ≤ 4 * j) (fun i _ _ => n - (intOf i).toNat)
  case atStart => exact ⟨0, w.heap.size, 0, by omega, rfl, rfl, unhide OW1, BZ, by simp [prL]⟩
  case round =>
    obtain ⟨j, g, cp, hj, rfl, rfl, ow, hbel, hl4⟩ := hrel
    have OWr := hide ow
    clear ow
    by_cases hlt : j < n
    · obtain ⟨v1, v2⟩ := unhide HV j hlt
      obtain ⟨v, hv⟩ := Int.eq_ofNat_of_zero_le (show 0 ≤ V j by omega)
      have hvn : (V j).toNat = v := by rw [hv]; rfl
      have d0 := (hbel.cell (p := ⟨b, off + j * 2, none⟩) hb).trans (unhide HD j hlt).1
      have d1 := (hbel.cell (p := ⟨b, off + j * 2 + 1, none⟩) hb).trans (unhide HD j hlt).2
      rw [hv] at d1 v1 v2
      obtain ⟨wy, hwy⟩ : ∃ wy, wy = wr.alloc (.cells #[.string (S j), .int .i64 (v : Int)] 44) := ⟨_, rfl⟩
      have BY : Below w.heap.size w wy := by rw [hwy]; exact hbel.alloc hbel.size _
      have P1 : wy.cell? ⟨wr.heap.size, 1, none⟩ = some (.int .i64 (v : Int)) := by rw [hwy]; simp [go_sem]
      have OWy : Hid (wy.ownsRow w.heap.size 50 2 (.slice (some ⟨g, 0, none⟩) (prL V j).length cp) (prL V j).length (pcells (prP V j 0))) := by
        rw [prP_zero]
        refine World.ownsRow.kept (w := wr) (unhide OWr) (grown_below ?_) (Classical.em _)
        rw [hwy]; exact (Below.refl _ _).alloc (Nat.le_refl _) _
      have HY := hide hwy
      clear hwy
      go_wp2
      rw [← unhide HY]
      go_wp2
      go_loopw [6, 3] (fun k s wq => ∃ (t g cp : Nat), t ≤ v ∧ k = .int .i64 ((v : Int) - 1 - t) ∧ s = .slice (some ⟨g, 0, none⟩) ((prL V j).length + t : Nat) cp ∧ wq.ownsRow w.heap.size 50 2 (.slice (some ⟨g, 0, none⟩) ((prL V j).length + t) cp) ((prL V j).length + t) (pcells (prP V j t)) ∧ Below w.heap.size w wq) (fun k _ _ => (intOf k + 1).toNat)
      case atStart => exact ⟨0, g, cp, by omega, by simp, rfl, unhide OWy, BY⟩
      case round =>
        obtain ⟨t, g, cp, ht, rfl, rfl, ow, hbel⟩ := hrel
        have OWq := hide ow
        clear ow OWr OWy
        by_cases htv : t < v
        · have hk : decide ((v : Int) - 1 - t ≥ 0) = true := by simp; omega
          obtain ⟨g2, c2, w4, hrun, ow4, gr4, hg2⟩ := prs_one wr w.heap.size _ ((prL V j).length + t) (prP V j t) j (v - 1 - t) (unhide OWq) (by omega) hbel.size
          have e2 : ((v - 1 - t : Nat) : Int) = (v : Int) - 1 - t := by omega
          rw [e2] at hrun
          have OW4 : Hid (w4.ownsRow w.heap.size 50 2 (.slice (some ⟨g2, 0, none⟩) ((prL V j).length + (t + 1)) c2) ((prL V j).length + (t + 1)) (pcells (prP V j (t + 1)))) := by
            rw [prP_next, hvn]; exact ow4
          have hgb := own_base (unhide OWq)
          have B4 : Below w.heap.size w w4 := hbel.grown gr4 hbel.size (fun k hk => by simp [Value.ownBlock] at hk; omega)
          have HR := hide hrun
          clear hrun ow4 gr4 hg2 e2
          go_wp2_with (first | (at_builtin; refine wpList_append_run _ rfl (.tmp 22) (.tmp 26) 47 rfl _ _ _ _ rfl rfl (unhide HR) ?_))
          go_roundw
          case rel => exact ⟨t + 1, g2, c2, by omega, by go_num, rfl, unhide OW4, B4⟩
          case measure => simp [intOf]; omega
        · have etv : t = v := by omega
          subst etv
          have hk : decide ((t : Int) - 1 - t ≥ 0) = false := by simp <;> omega
          have eL : (prL V (j + 1)).length = (prL V j).length + t := by simp [prL, rowP_len, hvn]
          have OW5 : Hid (wr.ownsRow w.heap.size 50 2 (.slice (some ⟨g, 0, none⟩) (prL V (j + 1)).length cp) (prL V (j + 1)).length (pcells (prL V (j + 1)))) := by
            rw [eL, ← prP_full, hvn]; exact unhide OWq
          have HEL := hide eL
          clear eL
          go_wp2
          go_roundw
          case rel => exact ⟨j + 1, g, cp, by omega, by go_num, by rw [unhide HEL], unhide OW5, hbel, by rw [unhide HEL]; omega⟩
          case measure => simp [intOf]; omega
    · have e : j = n := by omega
      subst e
      go_wp2
      go_ret
      exact ⟨⟨g, cp, rfl, own_prs (unhide OWr) rfl, (own_cap (unhide OWr)).2, own_base (unhide OWr)⟩, hbel⟩
end Go.Proofs.Ytnojpdfkhhjcfaa
