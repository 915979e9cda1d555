/- Marks turned, a mark so many times, adding: of the model. -/
import Derived.Test.YtjchdggpfkjcgaaDoorBuM
namespace Go.Proofs.YtjchdggpfkjcgaaDoor
open Go.ChangeShapes Go.WideShapes Go.ChangeAt Go.RowKit Go.Joins
set_option linter.unusedVariables false
set_option maxRecDepth 100000
set_option linter.unusedSimpArgs false

/-- A row of one's own: a new list. -/
def NewR (w w' : World) (R : List Int) (n g cp : Nat) : Prop := w'.ownsRow w.heap.size 3 1 (.slice (some ⟨g, 0, none⟩) n cp) n (icells R) ∧ Below w.heap.size w w'
theorem NewR.more {w wr w1 : World} {R : List Int} {n g cp g' cp' : Nat} {x : Int} (h : NewR w wr R n g cp) (hr : w1.ownsRow w.heap.size 3 1 (.slice (some ⟨g', 0, none⟩) (n + 1) cp') (n + 1) (icells (R ++ [x]))) (hg : wr.grownBy w1 (some g)) : NewR w w1 (R ++ [x]) (n + 1) g' cp' :=
  ⟨hr, h.2.trans ((mov_of_grown hg).below (own_base h.1) h.2.size)⟩
theorem ngL_snoc {L : List Int} {j : Nat} (h : j < L.length) : ngL (L.take (j + 1)) = ngL (L.take j) ++ [-at0 L j] := by
  unfold ngL at0
  rw [List.take_add_one, List.map_append, List.getD_eq_getElem?_getD, List.getElem?_eq_getElem h]
  simp
set_option maxRecDepth 100000 in
set_option maxHeartbeats 1500000 in
theorem l7Turn_any (la : Option Addr) (nl cl : Nat) (L : List Int) (w : World) (hd : IntsAt w la nl (at0 L)) (hL : L.length = nl) (hl : nl ≤ 100) (hb : ∀ i, i < nl → -700 ≤ at0 L i ∧ at0 L i ≤ 700) :
    Calls Tryd.prog 41 #[.slice la nl cl] w fun e w' => ∃ g cp, e = .returned (.slice (some ⟨g, 0, none⟩) nl cp) ∧ NewR w w' (ngL L) nl g cp := by
  have HD := hide hd
  have HL := hide hL
  have HB := hide hb
  have h0 : Hid (NewR w (w.alloc (.cells #[] 3)) [] 0 w.heap.size 0) := ⟨by simpa [icells] using own_new w 3 1, (Below.refl _ _).alloc (Nat.le_refl _) _⟩
  clear hd hL hb
  go_enter Tryd.func41, Tryd.ntmps41
  go_wp2
  go_loopw [4, 3] (fun i o wr => ∃ j : Nat, j ≤ nl ∧ i = .int .i64 j ∧ ∃ g cp, o = .slice (some ⟨g, 0, none⟩) j cp ∧ NewR w wr (ngL (L.take j)) j g cp) (fun i _ _ => nl - (intOf i).toNat)
  case atStart => exact ⟨0, by omega, rfl, w.heap.size, 0, rfl, by simpa [ngL] using unhide h0⟩
  case round =>
    obtain ⟨j, hj, rfl, g, cp, rfl, hR⟩ := hrel
    have HR := hide hR
    by_cases hlt : j < nl
    · obtain ⟨bL, oL, rfl, lL, dL⟩ := at0_in (unhide HD) hlt
      replace dL := (hR.2.cell (p := ⟨bL, oL + j, none⟩) lL).trans dL
      have hx := unhide HB j hlt
      have HS := hide (ngL_snoc (L := L) (j := j) (by rw [unhide HL]; exact hlt))
      obtain ⟨x, hxe⟩ : ∃ x, x = at0 L j := ⟨_, rfl⟩
      rw [← hxe] at dL hx HS
      obtain ⟨hx1, hx2⟩ := hx
      clear hxe
      obtain ⟨g2, cp2, w3, hrun, ow3, gr3, at3⟩ := int_one wr w.heap.size _ j (ngL (L.take j)) (-x) hR.1 (by omega) hR.2.size
      have HRUN := hide hrun
      have HR3 := hide (hR.more ow3 (by simpa [Value.ownBlock] using gr3))
      clear hrun ow3 gr3 at3 hR
      go_wp2_with (first | (at_builtin; refine wpList_append_run _ rfl (.tmp 12) (.tmp 18) 25 rfl _ _ _ _ rfl rfl (unhide HRUN) ?_))
      go_roundw
      case rel => exact ⟨j + 1, by omega, by go_num, g2, cp2, rfl, by rw [unhide HS]; exact unhide HR3⟩
      case measure => simp [intOf]; omega
    · have ej : j = nl := by omega
      subst ej
      have ht : Hid (L.take j = L) := by rw [← unhide HL]; exact List.take_length
      clear hR
      go_wp2
      go_ret
      exact ⟨g, cp, rfl, by have := unhide HR; rw [unhide ht] at this; exact this⟩
set_option maxRecDepth 100000 in
set_option maxHeartbeats 1500000 in
theorem l7Fill_any (m : Int) (nl : Nat) (w : World) (hl : nl ≤ 100) :
    Calls Tryd.prog 43 #[.int .i64 m, .int .i64 (nl : Int)] w fun e w' => ∃ g cp, e = .returned (.slice (some ⟨g, 0, none⟩) nl cp) ∧ NewR w w' (flL m nl) nl g cp := by
  have h0 : Hid (NewR w (w.alloc (.cells #[] 3)) [] 0 w.heap.size 0) := ⟨by simpa [icells] using own_new w 3 1, (Below.refl _ _).alloc (Nat.le_refl _) _⟩
  go_enter Tryd.func43, Tryd.ntmps43
  go_wp2
  go_loopw [6, 5] (fun i o wr => ∃ j : Nat, j ≤ nl ∧ i = .int .i64 j ∧ ∃ g cp, o = .slice (some ⟨g, 0, none⟩) j cp ∧ NewR w wr (flL m j) j g cp) (fun i _ _ => nl - (intOf i).toNat)
  case atStart => exact ⟨0, by omega, rfl, w.heap.size, 0, rfl, by simpa [flL] using unhide h0⟩
  case round =>
    obtain ⟨j, hj, rfl, g, cp, rfl, hR⟩ := hrel
    have HR := hide hR
    by_cases hlt : j < nl
    · have HS : Hid (flL m (j + 1) = flL m j ++ [m]) := by
        unfold flL
        rw [List.replicate_succ']
        exact rfl
      obtain ⟨g2, cp2, w3, hrun, ow3, gr3, at3⟩ := int_one wr w.heap.size _ j (flL m j) m hR.1 (by omega) hR.2.size
      have HRUN := hide hrun
      have HR3 := hide (hR.more ow3 (by simpa [Value.ownBlock] using gr3))
      clear hrun ow3 gr3 at3 hR
      go_wp2_with (first | (at_builtin; refine wpList_append_run _ rfl (.tmp 13) (.tmp 15) 25 rfl _ _ _ _ rfl rfl (unhide HRUN) ?_))
      go_roundw
      case rel => exact ⟨j + 1, by omega, by go_num, g2, cp2, rfl, by rw [unhide HS]; exact unhide HR3⟩
      case measure => simp [intOf]; omega
    · have ej : j = nl := by omega
      subst ej
      clear hR
      go_wp2
      go_ret
      exact ⟨g, cp, rfl, unhide HR⟩
end Go.Proofs.YtjchdggpfkjcgaaDoor
