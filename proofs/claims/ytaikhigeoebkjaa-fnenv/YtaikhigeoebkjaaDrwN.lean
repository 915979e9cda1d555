/- What the model's draw of names and numbers for them returns: some names, some numbers; nothing that was there turns. -/
import Derived.Test.YtaikhigeoebkjaaDrwS
namespace Go.Proofs.Ytaikhigeoebkjaa
open Go.ChangeShapes Go.WideShapes Go.ChangeAt Go.RowKit Go.Joins
set_option linter.unusedVariables false
set_option linter.unusedSimpArgs false

theorem byts_upN {w w' : World} {R S : Nat} {a : Option Addr} {l : Nat} (h : Byts w R a l) (hS : R ≤ S) (hb : Below w.heap.size w w') : Byts w' S a l := by
  rcases h with h | ⟨B, o, ha, hB, hc⟩
  · exact Or.inl h
  · exact Or.inr ⟨B, o, ha, Nat.lt_of_lt_of_le hB hS, fun i hi => by obtain ⟨x, x0, x1, hx⟩ := hc i hi; exact ⟨x, x0, x1, cell_later hb hx⟩⟩
set_option maxHeartbeats 4000000 in
theorem drawEnv_any (ad : Option Addr) (l c : Nat) (w : World) (hl : l ≤ 1048576) (hc : l ≤ c) (hcm : c ≤ maxLen) (hby : Byts w w.heap.size ad l) :
    Calls Try.prog 4 #[.slice ad l c] w fun e w' => (∃ (g n cap h m cap' : Nat) (S : Nat → ByteArray) (V E : Nat → Int), e = .returned (.tuple #[.slice (some ⟨g, 0, none⟩) n cap, .slice (some ⟨h, 0, none⟩) m cap']) ∧ n ≤ cap ∧ n ≤ 6 ∧ m ≤ cap' ∧ m ≤ 7 ∧ w.heap.size ≤ g ∧ g < w'.heap.size ∧ w.heap.size ≤ h ∧ h < w'.heap.size ∧ Decs w' g 0 n S V ∧ (∀ i, i < n → (S i).size ≤ 1000) ∧ Ints w' h 0 m E) ∧ Below w.heap.size w w' := by
  have HB := hide hby
  clear hby
  go_enter Try.func4, Try.ntmps4
  go_wp2_with fail
  refine (open_any ad l c _ hl hc hcm (unhide HB)).mono ?_
  rintro e w1 ⟨rfl, hR, b1⟩
  obtain ⟨R, hRe⟩ : ∃ x, x = w.heap.size := ⟨_, rfl⟩
  rw [← hRe] at hR
  rw [← hRe]
  have kR : w.heap.size ≤ R := by omega
  have MV : Mov R w w1 := Mov.of b1
  have z1 := hR.lt
  have HRe := hide hRe
  clear HB b1 hRe
  go_wp2_with fail
  refine (l2Decls_any R 0 _ hR (by omega)).mono ?_
  rintro e w2 ⟨⟨g, n, cap, S, V, rfl, _, hn1, hn4, hgl, hgh, hd, hv⟩, hRn, hm⟩
  replace MV := MV.trans hm
  have hgR : g ≠ R := by omega
  have hz : Hid (∀ i, i < n → (S i).size ≤ 1000) := fun i hi => by have := (hv i hi).2.2; omega
  have HD := hide hd
  clear hm hd hv hR
  go_wp2_with fail
  refine (l2Spoil_any R _ g n cap S V _ hRn (by omega) hgR hgh (unhide HD) (by omega) (unhide hz)).mono ?_
  rintro e w3 ⟨⟨g3, n3, c3, S3, V3, rfl, e3, m3, l3, h3, D3, Z3⟩, hR3, hm⟩
  replace MV := MV.trans hm
  have s3 := hm.size
  have hg3R : g3 ≠ R := by have := hRn.lt; omega
  have HD3 := hide D3
  have HZ3 := hide Z3
  have l3' : w.heap.size ≤ g3 := by have := hRn.lt; omega
  clear hm D3 Z3 HD hz hRn
  go_wp2_with fail
  refine (l2Env_any R _ g3 n3 c3 S3 V3 _ hR3 (by omega) hg3R h3 (unhide HD3) (by omega)).mono ?_
  rintro e w4 ⟨⟨g4, m4, c4, E, rfl, e4, k4, l4, h4, I4⟩, hR4, hm⟩
  have D4 := hide ((unhide HD3).mov hm hg3R)
  have M4 := hide ((MV.trans hm).below (B := w.heap.size) (by omega) (Nat.le_refl _))
  have h3' := Nat.lt_of_lt_of_le h3 hm.size
  have l4' : w.heap.size ≤ g4 := by have := hR3.lt; omega
  have HI4 := hide I4
  clear hm I4 HD3 MV hR3 hR4
  go_wp2
  exact bodyPost_ret (v := .tuple #[.slice (some ⟨g3, 0, none⟩) n3 c3, .slice (some ⟨g4, 0, none⟩) m4 c4]) (by simp [results, Try.results4, go_sem]) rfl ⟨⟨g3, n3, c3, g4, m4, c4, S3, V3, E, rfl, e3, by omega, e4, by omega, l3', h3', l4', h4, unhide D4, unhide HZ3, unhide HI4⟩, by first | exact unhide M4 | (rw [show R = w.heap.size from unhide HRe]; exact unhide M4)⟩
end Go.Proofs.Ytaikhigeoebkjaa
