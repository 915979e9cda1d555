/- Numbers for names fit them: the law FnEnv returns true for every code of bytes, and leaves it as it was. No condition (the law itself answers true where the code is longer than 1048576 bytes). -/
import Derived.Test.YtaikhigeoebkjaaDrwN
import Derived.Test.YtaikhigeoebkjaaStpD
import Derived.Test.YtaikhigeoebkjaaRowT
import Derived.Laws.OwnMore
import Derived.Deep.DeepCutAuto
namespace Go.Proofs.Ytaikhigeoebkjaa
open Go.ChangeShapes Go.WideShapes Go.ChangeAt Go.RowKit Go.Joins
open Go.ChangeMaps (open_string shut_string)
set_option linter.unusedVariables false
set_option linter.unusedSimpArgs false
def sL (L : List (ByteArray × Int)) (i : Nat) : ByteArray := (L.getD i (ByteArray.empty, 0)).1
def vL (L : List (ByteArray × Int)) (i : Nat) : Int := (L.getD i (ByteArray.empty, 0)).2
theorem getD_front {L : List (ByteArray × Int)} {p : ByteArray × Int} {i : Nat} (h : i < L.length) : (L ++ [p]).getD i (ByteArray.empty, 0) = L.getD i (ByteArray.empty, 0) := by
  rw [List.getD_eq_getElem?_getD, List.getD_eq_getElem?_getD, List.getElem?_append_left h]
theorem getD_last {L : List (ByteArray × Int)} {p : ByteArray × Int} : (L ++ [p]).getD L.length (ByteArray.empty, 0) = p := by simp [List.getD]
theorem more_front {n : Nat} {S : Nat → ByteArray} {V : Nat → Int} {p : ByteArray × Int} {i : Nat} (h : i < n) : sL (dprs n S V ++ [p]) i = S i ∧ vL (dprs n S V ++ [p]) i = V i := by
  unfold sL vL
  rw [getD_front (by rw [dprs_len]; exact h), dprs_at h]
  exact ⟨rfl, rfl⟩
theorem more_last {n : Nat} {S : Nat → ByteArray} {V : Nat → Int} {p : ByteArray × Int} : sL (dprs n S V ++ [p]) n = p.1 ∧ vL (dprs n S V ++ [p]) n = p.2 := by
  have := getD_last (L := dprs n S V) (p := p)
  rw [dprs_len] at this
  unfold sL vL
  rw [this]
  exact ⟨rfl, rfl⟩
/-- Names with one more that may not be one are not right. -/
theorem decl_more_no {n : Nat} {S : Nat → ByteArray} {V : Nat → Int} {p : ByteArray × Int} (h : ¬ (NameP p.1 ∧ p.2 ≤ 4 ∧ ∀ j, j < n → (S j).toList ≠ p.1.toList)) : declB (n + 1) (sL (dprs n S V ++ [p])) (vL (dprs n S V ++ [p])) = false := declB_no (fun hd => h (by
  obtain ⟨h1, h2, h3, h4⟩ := hd.2.1 n (by omega)
  rw [more_last.1] at h1 h4
  rw [more_last.2] at h3
  refine ⟨h1, h3, fun j hj => ?_⟩
  have := h4 j hj
  rwa [(more_front hj).1] at this))
theorem more_size {n : Nat} {S : Nat → ByteArray} {V : Nat → Int} {p : ByteArray × Int} {M : Nat} (h : ∀ i, i < n → (S i).size ≤ M) (hp : p.1.size ≤ M) : ∀ i, i < n + 1 → (sL (dprs n S V ++ [p]) i).size ≤ M := fun i hi => by
  by_cases e : i = n
  · subst e; rw [more_last.1]; exact hp
  · rw [(more_front (by omega : i < n)).1]; exact h i (by omega)
theorem true_list : (⟨#[116, 114, 117, 101]⟩ : ByteArray).toList = [116, 114, 117, 101] := by rw [ByteArray.toList_eq]
theorem own_decl {w : World} {base g n cap : Nat} {L : List (ByteArray × Int)} (h : w.ownsRow base 30 2 (.slice (some ⟨g, 0, none⟩) n cap) n (dcells L)) (hn : n = L.length) : Decs w g 0 n (sL L) (vL L) := own_decs h hn
/-- No numbers are not ok for names that are. -/
theorem iEnvOk_nil (b off n cap : Nat) (S : Nat → ByteArray) (V : Nat → Int) (w : World) (hb : b < w.heap.size) (hd : Decs w b off n S V) (hnc : n ≤ cap) (hn : n ≤ 1048576) (hs : ∀ i, i < n → (S i).size ≤ 1048576) (h0 : 0 < n) (hp : declB n S V = true) :
    Calls Try.prog 5 #[.slice (some ⟨b, off, none⟩) n cap, .slice none 0 0] w fun e w' => e = .returned (.bool false) ∧ Below w.heap.size w w' := by
  have HC := hide (iDeclOk_any b off n cap S V w hb hd hnc hn hs)
  have k0 : ((n : Int) != 0) = true := by simp; omega
  clear hd hs
  go_enter Try.func5, Try.ntmps5
  go_wp2_with fail
  refine (unhide HC).mono ?_
  rintro e w1 ⟨rfl, b1⟩
  rw [hp]
  go_wp2
  go_ret
  exact ⟨rfl, b1⟩
def ntab (m : Nat) (E : Nat → Int) : List Int := (List.range m).map E
theorem ntab_len (m : Nat) (E : Nat → Int) : (ntab m E).length = m := by simp [ntab]
theorem ntab_at {m i : Nat} {E : Nat → Int} (h : i < m) : (ntab m E).getD i 0 = E i := by simp [ntab, List.getD, h]
theorem ints_none {w : World} {base X : Nat} (hX : w.heap[X]? = some (.cells #[] 3 (0, 0))) (hb : base ≤ X) : w.ownsRow base 3 1 (.slice (some ⟨X, 0, none⟩) 0 0) 0 (icells []) :=
  ⟨rfl, .inr ⟨X, 0, #[], rfl, hb, hX, Nat.le_refl _, by unfold maxLen; omega, rfl, rfl⟩⟩
/-- A copy of numbers. -/
theorem ints_copy (w : World) (base X h m cap : Nat) (E : Nat → Int) (hX : w.heap[X]? = some (.cells #[] 3 (0, 0))) (hb : base ≤ X) (hi : Ints w h 0 m E) (hm : 0 < m) (hm9 : m ≤ 1000) (hbase : base ≤ w.heap.size) :
    ∃ g' cap' w', (Builtin.append_ #[24, 24] 24 #[.slice (some ⟨X, 0, none⟩) 0 0, .slice (some ⟨h, 0, none⟩) m cap]).run Try.prog w = .ok (.slice (some ⟨g', 0, none⟩) m cap') w' ∧ w'.ownsRow base 3 1 (.slice (some ⟨g', 0, none⟩) m cap') m (icells (ntab m E)) ∧ w.grownBy w' (some X) ∧ (g' = X ∨ w.heap.size ≤ g') := by
  obtain ⟨g', cap', w', h1, h2, h3, h4⟩ := int_more w base _ 0 [] (ntab m E) h 0 m cap (ints_none hX hb) (ntab_len _ _) (fun i hi' => by show _ = some (Value.int .i64 ((ntab m E).getD i 0)); rw [ntab_at hi']; exact hi i hi') hm (by omega) hbase
  simp only [Nat.zero_add, List.nil_append, Value.ownBlock] at h1 h2 h3 h4
  refine ⟨g', cap', w', h1, h2, h3, ?_⟩
  rcases h4 with e | e
  · injection e with e; exact Or.inl e.symm
  · exact Or.inr e
/-- A copy of names. -/
theorem decs_copy (w : World) (base X g n cap : Nat) (S : Nat → ByteArray) (V : Nat → Int) (hX : w.heap[X]? = some (.cells #[] 30 (0, 0))) (hb : base ≤ X) (hd : Decs w g 0 n S V) (hn : n ≤ 1000) (hbase : base ≤ w.heap.size) :
    ∃ g' cap' w', (Builtin.append_ #[23, 23] 23 #[.slice (some ⟨X, 0, none⟩) 0 0, .slice (some ⟨g, 0, none⟩) n cap]).run Try.prog w = .ok (.slice (some ⟨g', 0, none⟩) n cap') w' ∧ w'.ownsRow base 30 2 (.slice (some ⟨g', 0, none⟩) n cap') n (dcells (dprs n S V)) ∧ w.grownBy w' (some X) ∧ (g' = X ∨ g' = w.heap.size) := by
  obtain ⟨g', cap', w', h1, h2, h3, h4⟩ := decs_more w base X 0 0 [] (dprs n S V) ⟨g, 0, none⟩ n cap (decs_none hX hb) (dprs_len _ _ _) (decs_lie hd) (by omega) hbase
  simp only [Nat.zero_add, List.nil_append] at h1 h2
  exact ⟨g', cap', w', h1, h2, h3, h4⟩
/-- One name more, that has been laid down. -/
theorem decs_one (w : World) (base g n cap T : Nat) (L : List (ByteArray × Int)) (p : ByteArray × Int) (hown : w.ownsRow base 30 2 (.slice (some ⟨g, 0, none⟩) n cap) n (dcells L)) (h0 : w.cell? ⟨T, 0, none⟩ = some (.string p.1)) (h1 : w.cell? ⟨T, 1, none⟩ = some (.int .i64 p.2)) (hn : n ≤ 1000) (hbase : base ≤ w.heap.size) :
    ∃ g' cap' w', (Builtin.append_ #[23, 23] 23 #[.slice (some ⟨g, 0, none⟩) n cap, .slice (some ⟨T, 0, none⟩) 1 1]).run Try.prog w = .ok (.slice (some ⟨g', 0, none⟩) (n + 1) cap') w' ∧ w'.ownsRow base 30 2 (.slice (some ⟨g', 0, none⟩) (n + 1) cap') (n + 1) (dcells (L ++ [p])) ∧ w.grownBy w' (some g) ∧ (g' = g ∨ g' = w.heap.size) :=
  decs_more w base g n cap L [p] ⟨T, 0, none⟩ 1 1 hown rfl (dcells_lie (fun i hi => by
    have e : i = 0 := by simpa using hi
    subst e
    exact ⟨h0, h1⟩)) (by omega) hbase
theorem alloc_at {w : World} {o : Obj} {k : Nat} (h : k = w.heap.size) : (w.alloc o).heap[k]? = some o := by subst h; exact heap_alloc_new w o

namespace tEnv
set_option maxRecDepth 100000 in
set_option maxHeartbeats 100000000 in
theorem walk (code : Option Addr) (lencode capcode : Nat) (zcode : List Int) (w : World) (wcode : IsRow .u8 w code lencode capcode zcode) :
    Calls Try.prog 3 #[.slice code lencode capcode] w fun e w' => e = .returned (.bool true) ∧ Below w.heap.size w w' := by
  obtain ⟨hby, hlc, hcm⟩ := wcode.byts
  by_cases hl0 : lencode ≤ 1048576
  · go_enter Try.func3, Try.ntmps3
    go_wp2_with fail
    refine (drawEnv_any _ _ _ _ hl0 hlc hcm hby).mono ?_
    rintro e w1 ⟨⟨g, n, cap, h, m, cap', S, V, E, rfl, hnc, hn6, hmc, hm7, _, gl, _, hl, D, hs, I⟩, BL⟩
    clear wcode hby
    have HD := hide D
    have HI := hide I
    have HS : Hid (∀ i, i < n → (S i).size ≤ 1048576) := fun i hi => by have := hs i hi; omega
    have hn : n ≤ 1048576 := by omega
    have hm : m ≤ 1048576 := by omega
    obtain ⟨ok, hok⟩ : ∃ x, x = envB n m S V E := ⟨_, rfl⟩
    obtain ⟨dv, hdv⟩ : ∃ x, x = declB n S V := ⟨_, rfl⟩
    have HOK := hide hok
    have HDV := hide hdv
    have HIM : Hid (ok = true → dv = true ∧ n = m) := fun h => by
      rw [unhide HOK] at h
      have := (envB_iff _ _ _ _ _).1 h
      exact ⟨by rw [unhide HDV]; exact declB_yes this.1, this.2.1⟩
    have kok : (ok != ok) = false := by simp
    have kdv : (dv != dv) = false := by simp
    clear D I hs hok hdv
    go_wp2_with fail
    refine (iEnvOk_any g 0 n cap S V h 0 m cap' E w1 gl (unhide HD) hnc hn (unhide HS) hl (unhide HI) hm).mono ?_
    rintro e w2 ⟨rfl, b2⟩
    rw [← unhide HOK]
    replace HD := hide ((unhide HD).later b2); replace gl := Nat.lt_of_lt_of_le gl b2.size
    replace HI := hide ((unhide HI).later b2); replace hl := Nat.lt_of_lt_of_le hl b2.size
    replace BL := BL.trans (b2.mono BL.size)
    clear b2
    go_upto_region 5 with fail
    go_cut [5, 41] (fun s5 s41 wx => s5 = .bool ok ∧ s41 = .bool false ∧ Below w2.heap.size w2 wx)
    case first =>
      have BX : Below w2.heap.size w2 w2 := Below.refl _ _
      go_wp2_with fail
      refine (sEnvOk_any g 0 n cap S V h 0 m cap' E w2 gl (unhide HD) hnc hn (unhide HS) hl (unhide HI) hm).mono ?_
      rintro e w3 ⟨rfl, b3⟩
      rw [← unhide HOK]
      replace BX := BX.trans (b3.mono BX.size)
      replace HD := hide ((unhide HD).later b3); replace gl := Nat.lt_of_lt_of_le gl b3.size
      replace HI := hide ((unhide HI).later b3); replace hl := Nat.lt_of_lt_of_le hl b3.size
      replace BL := BL.trans (b3.mono BL.size)
      clear b3
      go_wp2_with fail
      refine (iDeclOk_any g 0 n cap S V w3 gl (unhide HD) hnc hn (unhide HS)).mono ?_
      rintro e w4 ⟨rfl, b4⟩
      rw [← unhide HDV]
      replace BX := BX.trans (b4.mono BX.size)
      replace HD := hide ((unhide HD).later b4); replace gl := Nat.lt_of_lt_of_le gl b4.size
      replace HI := hide ((unhide HI).later b4); replace hl := Nat.lt_of_lt_of_le hl b4.size
      replace BL := BL.trans (b4.mono BL.size)
      clear b4
      go_wp2_with fail
      refine (sDeclOk_any g 0 n cap S V w4 gl (unhide HD) hnc hn (unhide HS)).mono ?_
      rintro e w5 ⟨rfl, b5⟩
      rw [← unhide HDV]
      replace BX := BX.trans (b5.mono BX.size)
      replace HD := hide ((unhide HD).later b5); replace gl := Nat.lt_of_lt_of_le gl b5.size
      replace HI := hide ((unhide HI).later b5); replace hl := Nat.lt_of_lt_of_le hl b5.size
      replace BL := BL.trans (b5.mono BL.size)
      clear b5
      cases hk : ok
      · go_wp2_with fail
        go_meet
        exact ⟨by rw [hk], rfl, BX⟩
      · have hd1 := (unhide HIM hk).1
        go_wp2_with fail
        refine (iDeclOk_any g 0 n cap S V w5 gl (unhide HD) hnc hn (unhide HS)).mono ?_
        rintro e w6 ⟨rfl, b6⟩
        rw [← unhide HDV, hd1]
        go_wp2_with fail
        go_meet
        exact ⟨by rw [hk], rfl, BX.trans (b6.mono BX.size)⟩
    case rest =>
      obtain ⟨rfl, rfl, bc⟩ := hcut
      obtain ⟨wA, rfl⟩ : ∃ z, z = wc := ⟨_, rfl⟩
      replace HD := hide ((unhide HD).later bc); replace gl := Nat.lt_of_lt_of_le gl bc.size
      replace HI := hide ((unhide HI).later bc); replace hl := Nat.lt_of_lt_of_le hl bc.size
      replace BL := BL.trans (bc.mono BL.size)
      clear bc kok kdv
      go_wp2_with fail
      refine (iDeclOk_any g 0 n cap S V wA gl (unhide HD) hnc hn (unhide HS)).mono ?_
      rintro e w7 ⟨rfl, b7⟩
      rw [← unhide HDV]
      replace HD := hide ((unhide HD).later b7); replace gl := Nat.lt_of_lt_of_le gl b7.size
      replace HI := hide ((unhide HI).later b7); replace hl := Nat.lt_of_lt_of_le hl b7.size
      replace BL := BL.trans (b7.mono BL.size)
      clear b7
      cases hdc : dv
      · have hk : ok = false := by
          cases hk : ok
          · rfl
          · have := (unhide HIM hk).1; rw [hdc] at this; cases this
        subst hk
        go_wp2
        go_ret
        exact ⟨rfl, BL⟩
      · have HDP : Hid (declB n S V = true) := by show _ = _; rw [← unhide HDV]; exact hdc
        by_cases h0 : n = 0
        · have k0 : ((n : Int) == 0) = true := by simp [h0]
          cases hk : ok
          · go_wp2
            go_ret
            exact ⟨rfl, BL⟩
          · have hm0 : m = 0 := by have := (unhide HIM hk).2; omega
            have k1 : ((m : Int) == 0) = true := by simp [hm0]
            clear h0 hm0
            go_wp2
            go_ret
            exact ⟨rfl, BL⟩
        · have k0 : ((n : Int) == 0) = false := by simp [h0]
          have np : 0 < n := by omega
          go_wp2_with fail
          go_cut [6] (fun s6 wx => ∃ g2 c2, s6 = .slice (some ⟨g2, 0, none⟩) (n + 1) c2 ∧ wx.ownsRow w7.heap.size 30 2 (.slice (some ⟨g2, 0, none⟩) (n + 1) c2) (n + 1) (dcells (dprs n S V ++ [(S 0, 1)])) ∧ Below w7.heap.size w7 wx)
          case first =>
            have c00 := (unhide HD 0 np).1
            have c01 := (unhide HD 0 np).2
            simp only [Nat.zero_mul, Nat.add_zero, Nat.zero_add] at c00 c01
            refine wp_region_held_drew (S := (fun w' => w'.cell? ⟨g, 0, none⟩ = some (.string (S 0)))) (by kernel_rfl) ?_ (fun hHeld => ?_)
            · exact c00
            obtain ⟨wd, hwd⟩ : ∃ x, x = w7.drew := ⟨_, rfl⟩
            have hbw : Hid (Below w7.heap.size w7 wd) := by show _; rw [hwd]; exact (Below.refl _ _).drew
            have c00 : wd.cell? ⟨g, 0, none⟩ = some (.string (S 0)) := by rw [hwd]; exact c00
            rw [← hwd]
            (try rw [← hwd] at hHeld)
            clear hwd
            refine wpAnyH_take (i := 1) (v := ?_) rfl (by kernel_rfl) (by kernel_rfl) (by kernel_rfl) (fun _ _ _ h => h) (Or.inl ⟨by rfl, ?_⟩) (by assumption) ?_
            rotate_left
            · (intro w hSw; (try dsimp only at hSw); first | (go_simp; done) | (go_simp; with_reducible rfl))
            try simp only [List.getElem_toArray, List.getElem_cons_succ, List.getElem_cons_zero, Act.put, List.setIfInBounds_toArray, List.set_cons_zero, List.set_cons_succ]
            refine wpAnyH_take (i := 3) (v := ?_) rfl (by kernel_rfl) (by kernel_rfl) (by kernel_rfl) (fun _ _ _ h => h) (Or.inl ⟨by rfl, ?_⟩) (by assumption) ?_
            rotate_left
            · (intro w hSw; (try dsimp only at hSw); first | (go_simp; done) | (go_simp; with_reducible rfl))
            try simp only [List.getElem_toArray, List.getElem_cons_succ, List.getElem_cons_zero, Act.put, List.setIfInBounds_toArray, List.set_cons_zero, List.set_cons_succ]
            refine wpAnyH_take (i := 4) (v := ?_) rfl (by kernel_rfl) (by kernel_rfl) (by kernel_rfl) (fun _ _ _ h => h) (Or.inl ⟨by rfl, ?_⟩) (by assumption) ?_
            rotate_left
            · (intro w hSw; (try dsimp only at hSw); first | (go_simp; done) | (go_simp; with_reducible rfl))
            try simp only [List.getElem_toArray, List.getElem_cons_succ, List.getElem_cons_zero, Act.put, List.setIfInBounds_toArray, List.set_cons_zero, List.set_cons_succ]
            refine wpAnyH_take (i := 5) (v := ?_) rfl (by kernel_rfl) (by kernel_rfl) (by kernel_rfl) (fun _ _ _ h => h) (Or.inl ⟨by rfl, ?_⟩) (by assumption) ?_
            rotate_left
            · (intro w hSw; (try dsimp only at hSw); first | (go_simp; done) | (go_simp; with_reducible rfl))
            try simp only [List.getElem_toArray, List.getElem_cons_succ, List.getElem_cons_zero, Act.put, List.setIfInBounds_toArray, List.set_cons_zero, List.set_cons_succ]
            refine wpAnyH_take (i := 6) (v := ?_) rfl (by kernel_rfl) (by kernel_rfl) (by kernel_rfl) (fun _ _ _ h => h) (Or.inl ⟨by rfl, ?_⟩) (by assumption) ?_
            rotate_left
            · (intro w hSw; (try dsimp only at hSw); first | (go_simp; done) | (go_simp; with_reducible rfl))
            try simp only [List.getElem_toArray, List.getElem_cons_succ, List.getElem_cons_zero, Act.put, List.setIfInBounds_toArray, List.set_cons_zero, List.set_cons_succ]
            refine wpAnyH_take (i := 7) (v := ?_) rfl (by kernel_rfl) (by kernel_rfl) (by kernel_rfl) (fun _ _ _ h => h) (Or.inl ⟨by rfl, ?_⟩) (by assumption) ?_
            rotate_left
            · (intro w hSw; (try dsimp only at hSw); first | (go_simp; done) | (go_simp; with_reducible rfl))
            try simp only [List.getElem_toArray, List.getElem_cons_succ, List.getElem_cons_zero, Act.put, List.setIfInBounds_toArray, List.set_cons_zero, List.set_cons_succ]
            refine wpAnyH_ready (rs := [0, 8]) (by kernel_rfl) (by simp) ?_
            refine AllReadyH.cons rfl (fun K hK => ?_) (AllReadyH.cons rfl (fun K hK => ?_) AllReadyH.nil)
            · go_simp
              obtain ⟨v0, hv0⟩ : ∃ z, z = wd.alloc (.cells #[] 30) := ⟨_, rfl⟩
              have b : Below wd.heap.size wd v0 := by rw [hv0]; exact (Below.refl _ _).alloc (Nat.le_refl _) _
              have eu : wd.heap.size < v0.heap.size := by rw [hv0]; simp
              have fu : w7.heap.size ≤ wd.heap.size := (unhide hbw).size
              have hbw := hide ((unhide hbw).trans (b.mono (unhide hbw).size))
              have c00 := cell_later b c00
              have hX : Hid (v0.heap[wd.heap.size]? = some (.cells #[] 30 (0, 0))) := by show _ = _; rw [hv0]; exact alloc_at rfl
              rw [← hv0]
              obtain ⟨X, hXe⟩ : ∃ z, z = wd.heap.size := ⟨_, rfl⟩
              rw [← hXe] at hX ⊢
              have zX : X < v0.heap.size := by omega
              have yX : w7.heap.size ≤ X := by omega
              clear hv0 b eu fu hXe
              refine hK.out _ _ ?_ (fun hHeld => ?_)
              · exact c00
              clear hK K
              try simp only [List.getElem_toArray, List.getElem_cons_succ, List.getElem_cons_zero, Act.put, List.setIfInBounds_toArray, List.set_cons_zero, List.set_cons_succ]
              refine wpAnyH_ready (rs := [2, 8]) (by kernel_rfl) (by simp) ?_
              refine AllReadyH.cons rfl (fun K hK => ?_) (AllReadyH.cons rfl (fun K hK => ?_) AllReadyH.nil)
              · obtain ⟨g5, c5, v2, run5, o5, gr5, at5⟩ := decs_copy v0 w7.heap.size X g n cap S V (unhide hX) yX ((unhide HD).later (unhide hbw)) (by omega) (unhide hbw).size
                apply step_append_ex (v' := .slice (some ⟨g5, 0, none⟩) n c5) (w' := v2)
                case hgd => rfl
                case ho => rfl
                case hs => rfl
                case hx => rfl
                case hr => exact run5
                have lt5 := (own_cap o5).2
                have mv5 : Mov X v0 v2 := mov_of_grown gr5
                have c00 := mv5.cell c00 (by simp only; omega)
                have hbw := hide ((unhide hbw).trans (mv5.below yX (unhide hbw).size))
                have hO := hide o5
                have zO := lt5
                have yO : w7.heap.size ≤ g5 := own_base o5
                clear o5 gr5 at5 lt5 mv5 run5
                refine hK.out _ _ ?_ (fun hHeld => ?_)
                · exact c00
                clear hK K
                try simp only [List.getElem_toArray, List.getElem_cons_succ, List.getElem_cons_zero, Act.put, List.setIfInBounds_toArray, List.set_cons_zero, List.set_cons_succ]
                refine wpAnyH_ready (rs := [8]) (by kernel_rfl) (by simp) ?_
                refine AllReadyH.cons rfl (fun K hK => ?_) AllReadyH.nil
                go_simp
                obtain ⟨v8, hv8⟩ : ∃ z, z = v2.alloc (.cells #[.string (S 0), .int .i64 1] 30) := ⟨_, rfl⟩
                have b : Below v2.heap.size v2 v8 := by rw [hv8]; exact (Below.refl _ _).alloc (Nat.le_refl _) _
                have eu : v2.heap.size < v8.heap.size := by rw [hv8]; simp
                have fu : w7.heap.size ≤ v2.heap.size := (unhide hbw).size
                have hO := hide (World.ownsRow.kept (w' := v8) (unhide hO) (⟨b.os, b.tape, b.output, b.size, fun k hk _ => b.block k hk⟩ : v2.grownBy v8 none) (by simp [Value.ownBlock]))
                have zO : g5 < v8.heap.size := Nat.lt_of_lt_of_le zO b.size
                have hbw := hide ((unhide hbw).trans (b.mono (unhide hbw).size))
                have c00 := cell_later b c00
                have hT0 : v8.cell? ⟨v2.heap.size, 0, none⟩ = some (.string (S 0)) := by rw [hv8]; simp [go_sem]
                have hT1 : v8.cell? ⟨v2.heap.size, 1, none⟩ = some (.int .i64 1) := by rw [hv8]; simp [go_sem]
                have nOT : g5 ≠ v2.heap.size := by omega
                rw [← hv8]
                obtain ⟨T, hTe⟩ : ∃ z, z = v2.heap.size := ⟨_, rfl⟩
                rw [← hTe] at hT0 hT1 nOT ⊢
                have zT : T < v8.heap.size := by omega
                have yT : w7.heap.size ≤ T := by omega
                clear hv8 b eu fu hTe
                refine hK.out _ _ ?_ (fun hHeld => ?_)
                · exact c00
                clear hK K
                try simp only [List.getElem_toArray, List.getElem_cons_succ, List.getElem_cons_zero, Act.put, List.setIfInBounds_toArray, List.set_cons_zero, List.set_cons_succ]
                refine wpAnyH_ready (rs := [9]) (by kernel_rfl) (by simp) ?_
                refine AllReadyH.cons rfl (fun K hK => ?_) AllReadyH.nil
                obtain ⟨g8, c8, v9, run8, o8, gr8, at8⟩ := decs_one v8 w7.heap.size g5 n c5 T (dprs n S V) (S 0, 1) (unhide hO) hT0 hT1 (by omega) (unhide hbw).size
                apply step_append_ex (v' := .slice (some ⟨g8, 0, none⟩) (n + 1) c8) (w' := v9)
                case hgd => rfl
                case ho => rfl
                case hs => rfl
                case hx => rfl
                case hr => exact run8
                have mv8 : Mov g5 v8 v9 := mov_of_grown gr8
                have c00 := mv8.cell c00 (by simp only; omega)
                have hbw := hide ((unhide hbw).trans (mv8.below yO (unhide hbw).size))
                have hF := hide o8
                clear o8 gr8 at8 mv8 run8
                refine hK.out _ _ ?_ (fun hHeld => ?_)
                · exact c00
                clear hK K
                try simp only [List.getElem_toArray, List.getElem_cons_succ, List.getElem_cons_zero, Act.put, List.setIfInBounds_toArray, List.set_cons_zero, List.set_cons_succ]
                refine wpAnyH_take (i := 10) (v := ?_) rfl (by kernel_rfl) (by kernel_rfl) (by kernel_rfl) (fun _ _ _ h => h) (Or.inl ⟨by rfl, ?_⟩) (by assumption) ?_
                rotate_left
                · (intro w hSw; (try dsimp only at hSw); first | (go_simp; done) | (go_simp; with_reducible rfl))
                try simp only [List.getElem_toArray, List.getElem_cons_succ, List.getElem_cons_zero, Act.put, List.setIfInBounds_toArray, List.set_cons_zero, List.set_cons_succ]
                refine wpAnyH_done (by kernel_rfl) ?_ _
                go_wp2_with fail
                go_meet
                exact ⟨g8, c8, rfl, unhide hF, unhide hbw⟩
              · go_simp
                obtain ⟨v8, hv8⟩ : ∃ z, z = v0.alloc (.cells #[.string (S 0), .int .i64 1] 30) := ⟨_, rfl⟩
                have b : Below v0.heap.size v0 v8 := by rw [hv8]; exact (Below.refl _ _).alloc (Nat.le_refl _) _
                have eu : v0.heap.size < v8.heap.size := by rw [hv8]; simp
                have fu : w7.heap.size ≤ v0.heap.size := (unhide hbw).size
                have hX : Hid (v8.heap[X]? = some (.cells #[] 30 (0, 0))) := (b.block _ (by omega)).trans (unhide hX)
                have zX : X < v8.heap.size := Nat.lt_of_lt_of_le zX b.size
                have hbw := hide ((unhide hbw).trans (b.mono (unhide hbw).size))
                have c00 := cell_later b c00
                have hT0 : v8.cell? ⟨v0.heap.size, 0, none⟩ = some (.string (S 0)) := by rw [hv8]; simp [go_sem]
                have hT1 : v8.cell? ⟨v0.heap.size, 1, none⟩ = some (.int .i64 1) := by rw [hv8]; simp [go_sem]
                have nXT : X ≠ v0.heap.size := by omega
                rw [← hv8]
                obtain ⟨T, hTe⟩ : ∃ z, z = v0.heap.size := ⟨_, rfl⟩
                rw [← hTe] at hT0 hT1 nXT ⊢
                have zT : T < v8.heap.size := by omega
                have yT : w7.heap.size ≤ T := by omega
                clear hv8 b eu fu hTe
                refine hK.out _ _ ?_ (fun hHeld => ?_)
                · exact c00
                clear hK K
                try simp only [List.getElem_toArray, List.getElem_cons_succ, List.getElem_cons_zero, Act.put, List.setIfInBounds_toArray, List.set_cons_zero, List.set_cons_succ]
                refine wpAnyH_ready (rs := [2]) (by kernel_rfl) (by simp) ?_
                refine AllReadyH.cons rfl (fun K hK => ?_) AllReadyH.nil
                obtain ⟨g5, c5, v2, run5, o5, gr5, at5⟩ := decs_copy v8 w7.heap.size X g n cap S V (unhide hX) yX ((unhide HD).later (unhide hbw)) (by omega) (unhide hbw).size
                apply step_append_ex (v' := .slice (some ⟨g5, 0, none⟩) n c5) (w' := v2)
                case hgd => rfl
                case ho => rfl
                case hs => rfl
                case hx => rfl
                case hr => exact run5
                have lt5 := (own_cap o5).2
                have mv5 : Mov X v8 v2 := mov_of_grown gr5
                have hT0 := mv5.cell hT0 (by simp only; omega)
                have hT1 := mv5.cell hT1 (by simp only; omega)
                have nOT : g5 ≠ T := by rcases at5 with e | e <;> omega
                have zT : T < v2.heap.size := Nat.lt_of_lt_of_le zT mv5.size
                have c00 := mv5.cell c00 (by simp only; omega)
                have hbw := hide ((unhide hbw).trans (mv5.below yX (unhide hbw).size))
                have hO := hide o5
                have zO := lt5
                have yO : w7.heap.size ≤ g5 := own_base o5
                clear o5 gr5 at5 lt5 mv5 run5
                refine hK.out _ _ ?_ (fun hHeld => ?_)
                · exact c00
                clear hK K
                try simp only [List.getElem_toArray, List.getElem_cons_succ, List.getElem_cons_zero, Act.put, List.setIfInBounds_toArray, List.set_cons_zero, List.set_cons_succ]
                refine wpAnyH_ready (rs := [9]) (by kernel_rfl) (by simp) ?_
                refine AllReadyH.cons rfl (fun K hK => ?_) AllReadyH.nil
                obtain ⟨g8, c8, v9, run8, o8, gr8, at8⟩ := decs_one v2 w7.heap.size g5 n c5 T (dprs n S V) (S 0, 1) (unhide hO) hT0 hT1 (by omega) (unhide hbw).size
                apply step_append_ex (v' := .slice (some ⟨g8, 0, none⟩) (n + 1) c8) (w' := v9)
                case hgd => rfl
                case ho => rfl
                case hs => rfl
                case hx => rfl
                case hr => exact run8
                have mv8 : Mov g5 v2 v9 := mov_of_grown gr8
                have c00 := mv8.cell c00 (by simp only; omega)
                have hbw := hide ((unhide hbw).trans (mv8.below yO (unhide hbw).size))
                have hF := hide o8
                clear o8 gr8 at8 mv8 run8
                refine hK.out _ _ ?_ (fun hHeld => ?_)
                · exact c00
                clear hK K
                try simp only [List.getElem_toArray, List.getElem_cons_succ, List.getElem_cons_zero, Act.put, List.setIfInBounds_toArray, List.set_cons_zero, List.set_cons_succ]
                refine wpAnyH_take (i := 10) (v := ?_) rfl (by kernel_rfl) (by kernel_rfl) (by kernel_rfl) (fun _ _ _ h => h) (Or.inl ⟨by rfl, ?_⟩) (by assumption) ?_
                rotate_left
                · (intro w hSw; (try dsimp only at hSw); first | (go_simp; done) | (go_simp; with_reducible rfl))
                try simp only [List.getElem_toArray, List.getElem_cons_succ, List.getElem_cons_zero, Act.put, List.setIfInBounds_toArray, List.set_cons_zero, List.set_cons_succ]
                refine wpAnyH_done (by kernel_rfl) ?_ _
                go_wp2_with fail
                go_meet
                exact ⟨g8, c8, rfl, unhide hF, unhide hbw⟩
            · go_simp
              obtain ⟨v8, hv8⟩ : ∃ z, z = wd.alloc (.cells #[.string (S 0), .int .i64 1] 30) := ⟨_, rfl⟩
              have b : Below wd.heap.size wd v8 := by rw [hv8]; exact (Below.refl _ _).alloc (Nat.le_refl _) _
              have eu : wd.heap.size < v8.heap.size := by rw [hv8]; simp
              have fu : w7.heap.size ≤ wd.heap.size := (unhide hbw).size
              have hbw := hide ((unhide hbw).trans (b.mono (unhide hbw).size))
              have c00 := cell_later b c00
              have hT0 : v8.cell? ⟨wd.heap.size, 0, none⟩ = some (.string (S 0)) := by rw [hv8]; simp [go_sem]
              have hT1 : v8.cell? ⟨wd.heap.size, 1, none⟩ = some (.int .i64 1) := by rw [hv8]; simp [go_sem]
              rw [← hv8]
              obtain ⟨T, hTe⟩ : ∃ z, z = wd.heap.size := ⟨_, rfl⟩
              rw [← hTe] at hT0 hT1 ⊢
              have zT : T < v8.heap.size := by omega
              have yT : w7.heap.size ≤ T := by omega
              clear hv8 b eu fu hTe
              refine hK.out _ _ ?_ (fun hHeld => ?_)
              · exact c00
              clear hK K
              try simp only [List.getElem_toArray, List.getElem_cons_succ, List.getElem_cons_zero, Act.put, List.setIfInBounds_toArray, List.set_cons_zero, List.set_cons_succ]
              refine wpAnyH_ready (rs := [0]) (by kernel_rfl) (by simp) ?_
              refine AllReadyH.cons rfl (fun K hK => ?_) AllReadyH.nil
              go_simp
              obtain ⟨v0, hv0⟩ : ∃ z, z = v8.alloc (.cells #[] 30) := ⟨_, rfl⟩
              have b : Below v8.heap.size v8 v0 := by rw [hv0]; exact (Below.refl _ _).alloc (Nat.le_refl _) _
              have eu : v8.heap.size < v0.heap.size := by rw [hv0]; simp
              have fu : w7.heap.size ≤ v8.heap.size := (unhide hbw).size
              have hT0 := cell_later b hT0
              have hT1 := cell_later b hT1
              have zT : T < v0.heap.size := Nat.lt_of_lt_of_le zT b.size
              have hbw := hide ((unhide hbw).trans (b.mono (unhide hbw).size))
              have c00 := cell_later b c00
              have hX : Hid (v0.heap[v8.heap.size]? = some (.cells #[] 30 (0, 0))) := by show _ = _; rw [hv0]; exact alloc_at rfl
              have nXT : v8.heap.size ≠ T := by omega
              rw [← hv0]
              obtain ⟨X, hXe⟩ : ∃ z, z = v8.heap.size := ⟨_, rfl⟩
              rw [← hXe] at hX nXT ⊢
              have zX : X < v0.heap.size := by omega
              have yX : w7.heap.size ≤ X := by omega
              clear hv0 b eu fu hXe
              refine hK.out _ _ ?_ (fun hHeld => ?_)
              · exact c00
              clear hK K
              try simp only [List.getElem_toArray, List.getElem_cons_succ, List.getElem_cons_zero, Act.put, List.setIfInBounds_toArray, List.set_cons_zero, List.set_cons_succ]
              refine wpAnyH_ready (rs := [2]) (by kernel_rfl) (by simp) ?_
              refine AllReadyH.cons rfl (fun K hK => ?_) AllReadyH.nil
              obtain ⟨g5, c5, v2, run5, o5, gr5, at5⟩ := decs_copy v0 w7.heap.size X g n cap S V (unhide hX) yX ((unhide HD).later (unhide hbw)) (by omega) (unhide hbw).size
              apply step_append_ex (v' := .slice (some ⟨g5, 0, none⟩) n c5) (w' := v2)
              case hgd => rfl
              case ho => rfl
              case hs => rfl
              case hx => rfl
              case hr => exact run5
              have lt5 := (own_cap o5).2
              have mv5 : Mov X v0 v2 := mov_of_grown gr5
              have hT0 := mv5.cell hT0 (by simp only; omega)
              have hT1 := mv5.cell hT1 (by simp only; omega)
              have nOT : g5 ≠ T := by rcases at5 with e | e <;> omega
              have zT : T < v2.heap.size := Nat.lt_of_lt_of_le zT mv5.size
              have c00 := mv5.cell c00 (by simp only; omega)
              have hbw := hide ((unhide hbw).trans (mv5.below yX (unhide hbw).size))
              have hO := hide o5
              have zO := lt5
              have yO : w7.heap.size ≤ g5 := own_base o5
              clear o5 gr5 at5 lt5 mv5 run5
              refine hK.out _ _ ?_ (fun hHeld => ?_)
              · exact c00
              clear hK K
              try simp only [List.getElem_toArray, List.getElem_cons_succ, List.getElem_cons_zero, Act.put, List.setIfInBounds_toArray, List.set_cons_zero, List.set_cons_succ]
              refine wpAnyH_ready (rs := [9]) (by kernel_rfl) (by simp) ?_
              refine AllReadyH.cons rfl (fun K hK => ?_) AllReadyH.nil
              obtain ⟨g8, c8, v9, run8, o8, gr8, at8⟩ := decs_one v2 w7.heap.size g5 n c5 T (dprs n S V) (S 0, 1) (unhide hO) hT0 hT1 (by omega) (unhide hbw).size
              apply step_append_ex (v' := .slice (some ⟨g8, 0, none⟩) (n + 1) c8) (w' := v9)
              case hgd => rfl
              case ho => rfl
              case hs => rfl
              case hx => rfl
              case hr => exact run8
              have mv8 : Mov g5 v2 v9 := mov_of_grown gr8
              have c00 := mv8.cell c00 (by simp only; omega)
              have hbw := hide ((unhide hbw).trans (mv8.below yO (unhide hbw).size))
              have hF := hide o8
              clear o8 gr8 at8 mv8 run8
              refine hK.out _ _ ?_ (fun hHeld => ?_)
              · exact c00
              clear hK K
              try simp only [List.getElem_toArray, List.getElem_cons_succ, List.getElem_cons_zero, Act.put, List.setIfInBounds_toArray, List.set_cons_zero, List.set_cons_succ]
              refine wpAnyH_take (i := 10) (v := ?_) rfl (by kernel_rfl) (by kernel_rfl) (by kernel_rfl) (fun _ _ _ h => h) (Or.inl ⟨by rfl, ?_⟩) (by assumption) ?_
              rotate_left
              · (intro w hSw; (try dsimp only at hSw); first | (go_simp; done) | (go_simp; with_reducible rfl))
              try simp only [List.getElem_toArray, List.getElem_cons_succ, List.getElem_cons_zero, Act.put, List.setIfInBounds_toArray, List.set_cons_zero, List.set_cons_succ]
              refine wpAnyH_done (by kernel_rfl) ?_ _
              go_wp2_with fail
              go_meet
              exact ⟨g8, c8, rfl, unhide hF, unhide hbw⟩
          case rest =>
            obtain ⟨g2, c2, rfl, O2, b8⟩ := hcut
            obtain ⟨w8, rfl⟩ : ∃ z, z = wc := ⟨_, rfl⟩
            obtain ⟨SA, hSA⟩ : ∃ z, z = sL (dprs n S V ++ [(S 0, 1)]) := ⟨_, rfl⟩
            obtain ⟨VA, hVA⟩ : ∃ z, z = vL (dprs n S V ++ [(S 0, 1)]) := ⟨_, rfl⟩
            have DA := own_decl O2 (by simp [dprs_len])
            have ZA : Hid (∀ i, i < n + 1 → (SA i).size ≤ 1048576) := by rw [hSA]; exact more_size (unhide HS) (unhide HS 0 np)
            rw [← hSA, ← hVA] at DA
            have HA := hide DA
            have HSA := hide hSA
            have HVA := hide hVA
            clear DA hSA hVA
            have lA := (own_cap O2).2
            have cA := (own_cap O2).1
            clear O2
            replace HD := hide ((unhide HD).later b8); replace gl := Nat.lt_of_lt_of_le gl b8.size
            replace HI := hide ((unhide HI).later b8); replace hl := Nat.lt_of_lt_of_le hl b8.size
            replace BL := BL.trans (b8.mono BL.size)
            clear b8
            obtain ⟨w10a, hw10a⟩ : ∃ x, x = w8.alloc (.cells #[] 30) := ⟨_, rfl⟩
            have ba : Below w8.heap.size w8 w10a := by rw [hw10a]; exact (Below.refl _ _).alloc (Nat.le_refl _) _
            have hX : w10a.heap[w8.heap.size]? = some (.cells #[] 30 (0, 0)) := by rw [hw10a]; exact alloc_at rfl
            obtain ⟨g10, c10, w10b, run10, o10, gr10, at10⟩ := decs_copy w10a w8.heap.size w8.heap.size g n cap S V hX (Nat.le_refl _) ((unhide HD).later ba) (by omega) ba.size
            have bb : Below w8.heap.size w8 w10b := ba.trans ((mov_of_grown gr10).below (Nat.le_refl _) ba.size)
            obtain ⟨w10c, hw10c⟩ : ∃ x, x = w10b.alloc (.cells #[.string ⟨#[116, 114, 117, 101]⟩, .int .i64 1] 30) := ⟨_, rfl⟩
            have bc : Below w10b.heap.size w10b w10c := by rw [hw10c]; exact (Below.refl _ _).alloc (Nat.le_refl _) _
            have t0 : w10c.cell? ⟨w10b.heap.size, 0, none⟩ = some (.string ⟨#[116, 114, 117, 101]⟩) := by rw [hw10c]; simp [go_sem]
            have t1 : w10c.cell? ⟨w10b.heap.size, 1, none⟩ = some (.int .i64 1) := by rw [hw10c]; simp [go_sem]
            have oc := World.ownsRow.kept (w' := w10c) o10 (⟨bc.os, bc.tape, bc.output, bc.size, fun k hk _ => bc.block k hk⟩ : w10b.grownBy w10c none) (by simp [Value.ownBlock])
            have bd := bb.trans (bc.mono bb.size)
            obtain ⟨g10', c10', w10d, run10', o10', gr10', at10'⟩ := decs_one w10c w8.heap.size g10 n c10 w10b.heap.size (dprs n S V) (⟨#[116, 114, 117, 101]⟩, 1) oc t0 t1 (by omega) bd.size
            have be := bd.trans ((mov_of_grown gr10').below (own_base oc) bd.size)
            rw [hw10a] at run10
            rw [hw10c] at run10'
            have HR10 := hide run10
            have HR10' := hide run10'
            obtain ⟨SB, hSB⟩ : ∃ z, z = sL (dprs n S V ++ [(⟨#[116, 114, 117, 101]⟩, 1)]) := ⟨_, rfl⟩
            obtain ⟨VB, hVB⟩ : ∃ z, z = vL (dprs n S V ++ [(⟨#[116, 114, 117, 101]⟩, 1)]) := ⟨_, rfl⟩
            have DB := own_decl o10' (by simp [dprs_len])
            have ZB : Hid (∀ i, i < n + 1 → (SB i).size ≤ 1048576) := by rw [hSB]; exact more_size (unhide HS) (by decide)
            rw [← hSB, ← hVB] at DB
            have HB := hide DB
            have HSB := hide hSB
            have HVB := hide hVB
            clear DB hSB hVB
            have lB := (own_cap o10').2
            have cB := (own_cap o10').1
            clear run10 run10' t0 t1 oc o10 gr10 at10 o10' gr10' at10' hX ba bb bc bd hw10a hw10c
            replace HD := hide ((unhide HD).later be); replace gl := Nat.lt_of_lt_of_le gl be.size
            replace HI := hide ((unhide HI).later be); replace hl := Nat.lt_of_lt_of_le hl be.size
            replace HA := hide ((unhide HA).later be); replace lA := Nat.lt_of_lt_of_le lA be.size
            replace BL := BL.trans (be.mono BL.size)
            clear be
            obtain ⟨w11a, hw11a⟩ : ∃ x, x = w10d.alloc (.cells #[] 30) := ⟨_, rfl⟩
            have ba : Below w10d.heap.size w10d w11a := by rw [hw11a]; exact (Below.refl _ _).alloc (Nat.le_refl _) _
            have hX : w11a.heap[w10d.heap.size]? = some (.cells #[] 30 (0, 0)) := by rw [hw11a]; exact alloc_at rfl
            obtain ⟨g11, c11, w11b, run11, o11, gr11, at11⟩ := decs_copy w11a w10d.heap.size w10d.heap.size g n cap S V hX (Nat.le_refl _) ((unhide HD).later ba) (by omega) ba.size
            have bb : Below w10d.heap.size w10d w11b := ba.trans ((mov_of_grown gr11).below (Nat.le_refl _) ba.size)
            obtain ⟨w11c, hw11c⟩ : ∃ x, x = w11b.alloc (.cells #[.string ⟨#[111, 111]⟩, .int .i64 5] 30) := ⟨_, rfl⟩
            have bc : Below w11b.heap.size w11b w11c := by rw [hw11c]; exact (Below.refl _ _).alloc (Nat.le_refl _) _
            have t0 : w11c.cell? ⟨w11b.heap.size, 0, none⟩ = some (.string ⟨#[111, 111]⟩) := by rw [hw11c]; simp [go_sem]
            have t1 : w11c.cell? ⟨w11b.heap.size, 1, none⟩ = some (.int .i64 5) := by rw [hw11c]; simp [go_sem]
            have oc := World.ownsRow.kept (w' := w11c) o11 (⟨bc.os, bc.tape, bc.output, bc.size, fun k hk _ => bc.block k hk⟩ : w11b.grownBy w11c none) (by simp [Value.ownBlock])
            have bd := bb.trans (bc.mono bb.size)
            obtain ⟨g11', c11', w11d, run11', o11', gr11', at11'⟩ := decs_one w11c w10d.heap.size g11 n c11 w11b.heap.size (dprs n S V) (⟨#[111, 111]⟩, 5) oc t0 t1 (by omega) bd.size
            have be := bd.trans ((mov_of_grown gr11').below (own_base oc) bd.size)
            rw [hw11a] at run11
            rw [hw11c] at run11'
            have HR11 := hide run11
            have HR11' := hide run11'
            obtain ⟨SC, hSC⟩ : ∃ z, z = sL (dprs n S V ++ [(⟨#[111, 111]⟩, 5)]) := ⟨_, rfl⟩
            obtain ⟨VC, hVC⟩ : ∃ z, z = vL (dprs n S V ++ [(⟨#[111, 111]⟩, 5)]) := ⟨_, rfl⟩
            have DC := own_decl o11' (by simp [dprs_len])
            have ZC : Hid (∀ i, i < n + 1 → (SC i).size ≤ 1048576) := by rw [hSC]; exact more_size (unhide HS) (by decide)
            rw [← hSC, ← hVC] at DC
            have HC := hide DC
            have HSC := hide hSC
            have HVC := hide hVC
            clear DC hSC hVC
            have lC := (own_cap o11').2
            have cC := (own_cap o11').1
            clear run11 run11' t0 t1 oc o11 gr11 at11 o11' gr11' at11' hX ba bb bc bd hw11a hw11c
            replace HD := hide ((unhide HD).later be); replace gl := Nat.lt_of_lt_of_le gl be.size
            replace HI := hide ((unhide HI).later be); replace hl := Nat.lt_of_lt_of_le hl be.size
            replace HA := hide ((unhide HA).later be); replace lA := Nat.lt_of_lt_of_le lA be.size
            replace HB := hide ((unhide HB).later be); replace lB := Nat.lt_of_lt_of_le lB be.size
            replace BL := BL.trans (be.mono BL.size)
            clear be
            go_wp2_with (first | (at_builtin; refine wpList_append_run _ rfl (.tmp 72) (.tmp 73) 23 rfl _ _ _ _ rfl rfl (unhide HR10) ?_) | (at_builtin; refine wpList_append_run _ rfl (.tmp 74) (.tmp 76) 23 rfl _ _ _ _ rfl rfl (unhide HR10') ?_) | (at_builtin; refine wpList_append_run _ rfl (.tmp 78) (.tmp 79) 23 rfl _ _ _ _ rfl rfl (unhide HR11) ?_) | (at_builtin; refine wpList_append_run _ rfl (.tmp 80) (.tmp 82) 23 rfl _ _ _ _ rfl rfl (unhide HR11') ?_))
            clear HR10 HR10' HR11 HR11'
            refine (iDeclOk_any g2 0 (n + 1) c2 SA VA w11d lA (unhide HA) cA (by omega) (unhide ZA)).mono ?_
            rintro e w21 ⟨rfl, b21⟩
            rw [unhide HSA, unhide HVA, decl_more_no (fun hx => hx.2.2 0 np rfl)]
            replace HD := hide ((unhide HD).later b21); replace gl := Nat.lt_of_lt_of_le gl b21.size
            replace HI := hide ((unhide HI).later b21); replace hl := Nat.lt_of_lt_of_le hl b21.size
            replace HA := hide ((unhide HA).later b21); replace lA := Nat.lt_of_lt_of_le lA b21.size
            replace HB := hide ((unhide HB).later b21); replace lB := Nat.lt_of_lt_of_le lB b21.size
            replace HC := hide ((unhide HC).later b21); replace lC := Nat.lt_of_lt_of_le lC b21.size
            replace BL := BL.trans (b21.mono BL.size)
            clear b21
            go_wp2_with fail
            refine (iDeclOk_any g10' 0 (n + 1) c10' SB VB w21 lB (unhide HB) cB (by omega) (unhide ZB)).mono ?_
            rintro e w22 ⟨rfl, b22⟩
            rw [unhide HSB, unhide HVB, decl_more_no (fun hx => hx.1.2.2.2 true_list)]
            replace HD := hide ((unhide HD).later b22); replace gl := Nat.lt_of_lt_of_le gl b22.size
            replace HI := hide ((unhide HI).later b22); replace hl := Nat.lt_of_lt_of_le hl b22.size
            replace HA := hide ((unhide HA).later b22); replace lA := Nat.lt_of_lt_of_le lA b22.size
            replace HB := hide ((unhide HB).later b22); replace lB := Nat.lt_of_lt_of_le lB b22.size
            replace HC := hide ((unhide HC).later b22); replace lC := Nat.lt_of_lt_of_le lC b22.size
            replace BL := BL.trans (b22.mono BL.size)
            clear b22
            go_wp2_with fail
            refine (iDeclOk_any g11' 0 (n + 1) c11' SC VC w22 lC (unhide HC) cC (by omega) (unhide ZC)).mono ?_
            rintro e w23 ⟨rfl, b23⟩
            rw [unhide HSC, unhide HVC, decl_more_no (fun hx => absurd hx.2.1 (by decide))]
            replace HD := hide ((unhide HD).later b23); replace gl := Nat.lt_of_lt_of_le gl b23.size
            replace HI := hide ((unhide HI).later b23); replace hl := Nat.lt_of_lt_of_le hl b23.size
            replace HA := hide ((unhide HA).later b23); replace lA := Nat.lt_of_lt_of_le lA b23.size
            replace HB := hide ((unhide HB).later b23); replace lB := Nat.lt_of_lt_of_le lB b23.size
            replace HC := hide ((unhide HC).later b23); replace lC := Nat.lt_of_lt_of_le lC b23.size
            replace BL := BL.trans (b23.mono BL.size)
            clear b23
            clear HA HB HC lA lB lC cA cB cC ZA ZB ZC HSA HSB HSC HVA HVB HVC
            cases hk : ok
            · go_wp2
              go_ret
              exact ⟨rfl, BL⟩
            · obtain ⟨_, hnm⟩ := unhide HIM hk
              have mp : 0 < m := by omega
              have HNM := hide hnm
              clear hnm
              obtain ⟨wa, hwa⟩ : ∃ x, x = w23.alloc (.cells #[] 3) := ⟨_, rfl⟩
              have ba : Below w23.heap.size w23 wa := by rw [hwa]; exact (Below.refl _ _).alloc (Nat.le_refl _) _
              have hX : wa.heap[w23.heap.size]? = some (.cells #[] 3 (0, 0)) := by rw [hwa]; exact alloc_at rfl
              obtain ⟨p1, q1, wb, run1, o1, gr1, at1⟩ := ints_copy wa w23.heap.size w23.heap.size h m cap' E hX (Nat.le_refl _) ((unhide HI).later ba) mp (by omega) ba.size
              have bb : Below w23.heap.size w23 wb := ba.trans ((mov_of_grown gr1).below (Nat.le_refl _) ba.size)
              obtain ⟨wd, hwd⟩ : ∃ x, x = wb.alloc (.cells #[.int .i64 0] 3) := ⟨_, rfl⟩
              have bd : Below wb.heap.size wb wd := by rw [hwd]; exact (Below.refl _ _).alloc (Nat.le_refl _) _
              have t0 : wd.cell? ⟨wb.heap.size, 0, none⟩ = some (.int .i64 0) := by rw [hwd]; simp [go_sem]
              have od := World.ownsRow.kept (w' := wd) o1 (⟨bd.os, bd.tape, bd.output, bd.size, fun k hk _ => bd.block k hk⟩ : wb.grownBy wd none) (by simp [Value.ownBlock])
              have be := bb.trans (bd.mono bb.size)
              obtain ⟨p2, q2, we, run2, o2, gr2, at2⟩ := int_append wd w23.heap.size p1 m q1 (ntab m E) 0 wb.heap.size od t0 (by omega) be.size
              have bf := be.trans ((mov_of_grown gr2).below (own_base od) be.size)
              obtain ⟨wf, hwf⟩ : ∃ x, x = we.alloc (.cells #[] 3) := ⟨_, rfl⟩
              have bg : Below we.heap.size we wf := by rw [hwf]; exact (Below.refl _ _).alloc (Nat.le_refl _) _
              have hY : wf.heap[we.heap.size]? = some (.cells #[] 3 (0, 0)) := by rw [hwf]; exact alloc_at rfl
              have bh := bf.trans (bg.mono bf.size)
              obtain ⟨p3, q3, wg, run3, o3, gr3, at3⟩ := ints_copy wf we.heap.size we.heap.size h m cap' E hY (Nat.le_refl _) ((unhide HI).later bh) mp (by omega) bg.size
              have bi : Below we.heap.size we wg := bg.trans ((mov_of_grown gr3).below (Nat.le_refl _) bg.size)
              obtain ⟨EM, hEM⟩ : ∃ z, z = fun i => (ntab m E ++ [0]).getD i 0 := ⟨_, rfl⟩
              have IM := own_ints o2 (by simp [ntab_len])
              rw [← hEM] at IM
              have HM := hide IM
              clear IM hEM
              have lM := (own_cap o2).2
              have f3 := o3.frozenAt 0
              have z3 : wg.cell? ⟨p3, 0, none⟩ = some (.int .i64 (E 0)) := by
                rw [o3.cellAt 0 (by omega)]
                simp [icells, ntab, mp]
              have s3 := o3.stored 0 (.int .i64 (-1))
              obtain ⟨wh, hwh⟩ : ∃ x, x = wg.setCell ⟨p3, 0, none⟩ (.int .i64 (-1)) := ⟨_, rfl⟩
              rw [← hwh] at s3
              obtain ⟨EL, hEL⟩ : ∃ z, z = fun i => ((ntab m E).set 0 (-1)).getD i 0 := ⟨_, rfl⟩
              have E0 : EL 0 = -1 := by rw [hEL]; simp [List.getD, ntab_len, mp]
              have e3 : icells ((ntab m E).set 0 (-1)) = (icells (ntab m E)).set 0 (.int .i64 (-1)) := by simp [icells, List.map_set]
              have s4 := s3.1
              rw [← e3] at s4
              have IL := own_ints s4 (by simp [ntab_len])
              rw [← hEL] at IL
              have HL := hide IL
              clear IL s4 e3 hEL
              have lL := (own_cap s3.1).2
              have bj : Below we.heap.size we wh := by rw [hwh]; exact bi.setCell (own_base o3) _
              have bk := bf.trans (bj.mono bf.size)
              replace HM := hide ((unhide HM).later bj)
              replace lM := Nat.lt_of_lt_of_le lM bj.size
              rw [hwa] at run1
              rw [hwd] at run2
              rw [hwf] at run3
              have HR1 := hide run1
              have HR2 := hide run2
              have HR3 := hide run3
              have HWH := hide hwh
              clear run1 run2 run3 o1 o2 o3 gr1 gr2 gr3 at1 at2 at3 od t0 hX hY ba bb bd be bf bg bh bi bj s3 hwa hwd hwf hwh
              go_wp2_with (first | (at_builtin; refine wpList_append_run _ rfl (.tmp 96) (.tmp 97) 24 rfl _ _ _ _ rfl rfl (unhide HR1) ?_) | (at_builtin; refine wpList_append_run _ rfl (.tmp 98) (.tmp 99) 24 rfl _ _ _ _ rfl rfl (unhide HR2) ?_) | (at_builtin; refine wpList_append_run _ rfl (.tmp 101) (.tmp 102) 24 rfl _ _ _ _ rfl rfl (unhide HR3) ?_))
              rw [← unhide HWH]
              clear HR1 HR2 HR3 HWH f3 z3
              replace HD := hide ((unhide HD).later bk); replace gl := Nat.lt_of_lt_of_le gl bk.size
              replace HI := hide ((unhide HI).later bk); replace hl := Nat.lt_of_lt_of_le hl bk.size
              replace BL := BL.trans (bk.mono BL.size)
              clear bk
              have cM : m + 1 ≤ 1048576 := by omega
              refine (iEnvOk_any g 0 n cap S V p2 0 (m + 1) q2 EM wh gl (unhide HD) hnc hn (unhide HS) lM (unhide HM) cM).mono ?_
              rintro e w31 ⟨rfl, b31⟩
              rw [envB_no (fun hx => by have := hx.2.1; have := unhide HNM; omega)]
              replace HD := hide ((unhide HD).later b31); replace gl := Nat.lt_of_lt_of_le gl b31.size
              replace HI := hide ((unhide HI).later b31); replace hl := Nat.lt_of_lt_of_le hl b31.size
              replace HM := hide ((unhide HM).later b31); replace lM := Nat.lt_of_lt_of_le lM b31.size
              replace HL := hide ((unhide HL).later b31); replace lL := Nat.lt_of_lt_of_le lL b31.size
              replace BL := BL.trans (b31.mono BL.size)
              clear b31
              go_wp2_with fail
              refine (iEnvOk_any g 0 n cap S V p3 0 m q3 EL w31 gl (unhide HD) hnc hn (unhide HS) lL (unhide HL) hm).mono ?_
              rintro e w32 ⟨rfl, b32⟩
              rw [envB_no (fun hx => by have := hx.2.2 0 np; rw [E0] at this; simp [okB] at this)]
              replace HD := hide ((unhide HD).later b32); replace gl := Nat.lt_of_lt_of_le gl b32.size
              replace HI := hide ((unhide HI).later b32); replace hl := Nat.lt_of_lt_of_le hl b32.size
              replace HM := hide ((unhide HM).later b32); replace lM := Nat.lt_of_lt_of_le lM b32.size
              replace HL := hide ((unhide HL).later b32); replace lL := Nat.lt_of_lt_of_le lL b32.size
              replace BL := BL.trans (b32.mono BL.size)
              clear b32
              go_wp2_with fail
              refine (iEnvOk_nil g 0 n cap S V w32 gl (unhide HD) hnc hn (unhide HS) np (unhide HDP)).mono ?_
              rintro e w33 ⟨rfl, b33⟩
              replace HD := hide ((unhide HD).later b33); replace gl := Nat.lt_of_lt_of_le gl b33.size
              replace HI := hide ((unhide HI).later b33); replace hl := Nat.lt_of_lt_of_le hl b33.size
              replace HM := hide ((unhide HM).later b33); replace lM := Nat.lt_of_lt_of_le lM b33.size
              replace HL := hide ((unhide HL).later b33); replace lL := Nat.lt_of_lt_of_le lL b33.size
              replace BL := BL.trans (b33.mono BL.size)
              clear b33
              go_wp2
              go_ret
              exact ⟨rfl, BL⟩
  · go_enter Try.func3, Try.ntmps3
    go_wp2
    go_ret
    exact ⟨rfl, Below.refl _ _⟩

set_option maxRecDepth 100000 in
theorem lifted (os : Os) (started : os.Started) (H : Type) (enc : TypeId × Value → H) :
    ReturnsInHanded {} Try.checked os 3 .any (Rows.fnEnvSpec.pre6 enc Try.prog Try.f3 Rows.fnEnvRow.domain false) (Rows.fnEnvSpec.post enc Try.prog Try.f3 false true false false) := by
  refine returnsInHanded_of_change (C := Try.checked) own started (by kernel_rfl) Try.func3
    (ChangeSpec.witness6 (enc := enc) (C := Try.checked) false ⟨#[], #[.slice none 0 0], []⟩ 8 (by kernel_rfl) (by kernel_rfl) (by kernel_rfl) (by kernel_rfl)) ?_
  intro W base args ds gs before hval0 hW hcnd _
  have hval : ∀ (j : Nat) t v, Try.f3.params[j]? = some t → args[j]? = some v → Value.okWide Try.prog W .any base t v := hval0
  have hW' := hW
  obtain ⟨p, q, hA0, hV, rfl, hfz, hnd⟩ := hW
  have hA : DataW.TrodAll enc Try.prog W 0 (fun _ => true) true Try.f3.params.toList args.toList ds p := hA0
  rw [Try.params3] at hA hval
  obtain ⟨v0, vs0, d0, ds0, p0, q0, hargs, rfl, rfl, h0, r0⟩ := trodAll_cons hA
  obtain ⟨rfl, rfl, rfl⟩ := trodAll_nil r0
  obtain rfl : args = #[v0] := by cases args; simp_all
  obtain ⟨rfl, rfl⟩ := trodVars_none hV
  obtain ⟨code, lencode, capcode, rfl⟩ := okWide_slice Try.underlying22 (hval 0 22 v0 rfl rfl)
  have k0 := h0
  have lt0 : ∀ x ∈ p0, x.block < W.heap.size := by obtain ⟨m, hm⟩ := k0; exact DataW.trod_lt m _ _ _ hm
  obtain ⟨zcode, wcode⟩ : ∃ zs, IsRow .u8 W code lencode capcode zs := by
    obtain ⟨fuel, hf⟩ := h0
    rcases open_ints Try.underlying22 Try.underlying5 (by kernel_rfl) hf with ⟨hcs, _⟩ | ⟨x, l, c, zs, hcs, _, hl, hm, hz, _, hcell, hwz⟩
    · simp [Value.cells] at hcs
      obtain ⟨rfl, rfl, rfl⟩ := hcs
      exact ⟨[], .inl ⟨rfl, rfl, rfl, rfl⟩⟩
    · simp [Value.cells] at hcs
      obtain ⟨rfl, rfl, rfl⟩ := hcs
      exact ⟨zs, .inr ⟨_, rfl, hl, hm, by simpa using hz, hcell, hwz⟩⟩
  clear hA0 hval0
  refine (walk code lencode capcode zcode W wcode).mono fun e W' ⟨he, bel⟩ => ?_
  subst he
  exact ⟨_, rfl, _, _, _, [], _, [], hW', trodAll_mk1 (shut_bool Try.underlying4 _), (trodAll_cons_mk (Below.trod laidOut (by kernel_rfl) (of_decide_eq_true (by kernel_rfl)) k0 bel lt0) trodAll_mk0), rfl, bel.frame _, fun h => by cases h⟩

theorem over : Rows.fnEnvRow.holds Try.pinned (OpenSpec.ofChange Rows.fnEnvSpec) :=
  OpenClaim.holds_of_wide 3 Try.f3 rfl rfl rfl rfl rfl rfl rfl ⟨rfl, rfl, rfl, rfl, rfl⟩ rfl rfl rfl rfl rfl (by kernel_rfl) Try.func3 (by kernel_rfl)
    (of_decide_eq_true (by kernel_rfl)) (by unfold Func.isWrapper; first | (rw [if_pos (by decide +kernel)]; kernel_rfl) | (rw [if_neg (by decide +kernel)]; exact ⟨rfl, rfl⟩))
    (fun os started H enc _ => lifted os started H enc)
end tEnv

theorem tEnv_holds : Rows.FnEnvSaid := tEnv.over
#print axioms tEnv_holds
end Go.Proofs.Ytaikhigeoebkjaa
