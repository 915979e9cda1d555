/- BitsUn of the program. -/
import Derived.Test.YtjchdggpfkjcgaaDoorBuP
import Derived.Laws.CopyOwn
import Derived.Laws.OwnMore
import Derived.Test.YtjchdggpfkjcgaaDoorBkY
import Derived.Test.YtjchdggpfkjcgaaDoorRngA
namespace Go.Proofs.YtjchdggpfkjcgaaDoor
open Go.ChangeShapes Go.WideShapes Go.ChangeAt Go.RowKit Go.Joins
set_option linter.unusedVariables false
set_option maxRecDepth 100000
set_option linter.unusedSimpArgs false

/-- What the program hands back, in memory of its own. -/
def IBPost (r : BR) (base : Nat) (e : Ending) (w' : World) : Prop := ∃ a cap g cp, e = .returned (.tuple #[.agg #[.int .i64 r.m, .slice a r.n cap], .slice g r.L.length cp]) ∧ (GtsAt w' a r.n r.G ∧ OwnG w' base a r.n) ∧ (IntsAt w' g r.L.length (at0 r.L) ∧ OwnB w' base g r.L.length) ∧ (r.n = 0 ∨ r.L.length = 0 ∨ ∀ x y, a = some x → g = some y → x.block ≠ y.block)
theorem nil_IB (base : Nat) (w' : World) : IBPost nilB base (.returned (.tuple #[.agg #[.int .i64 0, .slice none 0 0], .slice none 0 0])) w' := ⟨none, 0, none, 0, rfl, ⟨Or.inl rfl, Or.inl rfl⟩, ⟨Or.inl rfl, Or.inl rfl⟩, Or.inl rfl⟩

set_option maxRecDepth 100000 in
set_option maxHeartbeats 1000000 in
theorem mul64_one (n : Nat) (w : World) (h1 : 1 ≤ n) (hn : n ≤ 4) :
    Calls Tryd.prog 90 #[.int .u64 1, .int .u64 (n : Int)] w fun e w' => e = .returned (.tuple #[.int .u64 0, .int .u64 (n : Int)]) ∧ w' = w := by
  have : n = 1 ∨ n = 2 ∨ n = 3 ∨ n = 4 := by omega
  rcases this with rfl | rfl | rfl | rfl
  all_goals
    go_enter Tryd.func90, Tryd.ntmps90
    go_wp2
    go_ret2
    exact ⟨by rfl, rfl⟩
set_option maxRecDepth 100000 in
set_option maxHeartbeats 1000000 in
theorem mul_one' (n : Nat) (w : World) (h1 : 1 ≤ n) (hn : n ≤ 4) :
    Calls Tryd.prog 84 #[.int .u64 1, .int .u64 (n : Int)] w fun e w' => e = .returned (.tuple #[.int .u64 0, .int .u64 (n : Int)]) ∧ w' = w := by
  go_enter Tryd.func84, Tryd.ntmps84
  go_wp2_with fail
  refine (mul64_one n _ h1 hn).mono ?_
  rintro e w1 ⟨rfl, rfl⟩
  go_wp2
  go_ret2
  exact ⟨rfl, rfl⟩
/-- A row whose first cells are one mark, the others 0. -/
def rpC (m : Int) (k n : Nat) : List Value := List.replicate k (.int .i64 m) ++ List.replicate (n - k) (.int .i64 0)
theorem rpC_len {m : Int} {k n : Nat} (h : k ≤ n) : (rpC m k n).length = n := by simp [rpC]; omega
theorem rpC_get {m : Int} {k n j : Nat} (h : j < k) : (rpC m k n)[j]? = some (.int .i64 m) := by
  unfold rpC
  rw [List.getElem?_append_left (by simpa using h)]
  simp [h]
theorem rpC_put {m : Int} {k n d : Nat} (h : k + d ≤ n) : (rpC m k n).take k ++ List.replicate d (.int .i64 m) ++ (rpC m k n).drop (k + d) = rpC m (k + d) n := by
  unfold rpC
  rw [List.take_left' (by simp), List.drop_append, List.drop_eq_nil_of_le (by simp), List.nil_append, List.drop_replicate]
  simp only [List.length_replicate]
  rw [List.replicate_append_replicate, show n - k - (k + d - k) = n - (k + d) by omega]
theorem rpC_spl {m : Int} {k n d : Nat} (h : k + d ≤ n) : splice (rpC m k n) k (List.replicate d (.int .i64 m)) = rpC m (k + d) n := by
  have e := rpC_put (m := m) h
  unfold splice
  rw [List.length_replicate, ← List.append_assoc]
  exact e
theorem lt_of_some {w : World} {g : Nat} {o : Obj} (h : w.heap[g]? = some o) : g < w.heap.size := (Array.getElem?_eq_some_iff.1 h).1
structure RQ (g : Nat) (w wr : World) (m : Int) (k n : Nat) : Prop where
  hg : wr.heap[g]? = some (.cells (rpC m k n).toArray 82 (0, 0))
  b : Below g w wr
theorem RQ.dg {g : Nat} {w wr : World} {m : Int} {k n : Nat} (h : RQ g w wr m k n) : Hid (wr.drew.heap[g]? = some (.cells (rpC m k n).toArray 82 (0, 0))) := h.hg
theorem RQ.db {g : Nat} {w wr : World} {m : Int} {k n : Nat} (h : RQ g w wr m k n) : Hid (Below g w wr.drew) := h.b.drew
theorem rpC_cell {w : World} {g k n j : Nat} {m : Int} {t : TypeId} (h : w.heap[g]? = some (.cells (rpC m k n).toArray t (0, 0))) (hj : j < k) : w.cell? ⟨g, j, none⟩ = some (.int .i64 m) := by
  have e := rpC_get (m := m) (n := n) hj
  simp only [World.cell?, h]
  simpa using e
theorem RQ.dc {g d : Nat} {w wr : World} {m : Int} {k n : Nat} (h : RQ g w wr m k n) (hd : d ≤ k) : Hid (∀ j v, (List.replicate d (Value.int .i64 m))[j]? = some v → wr.drew.cell? ((⟨g, 0, none⟩ : Addr).add j) = some v) := by
  intro j v hj
  rw [List.getElem?_replicate] at hj
  split at hj
  · cases hj
    rw [Addr.add_lit, Nat.zero_add]
    exact rpC_cell (j := j) h.dg.out (by omega)
  · simp at hj
set_option maxRecDepth 100000 in
set_option maxHeartbeats 1500000 in
theorem repeat_any (b : Nat) (m : Int) (n : Nat) (w : World) (h1 : 1 ≤ n) (hn : n ≤ 4) (q : w.cell? ⟨b, 0, none⟩ = some (.int .i64 m)) :
    Calls Tryd.prog 70 #[.slice (some ⟨b, 0, none⟩) 1 1, .int .i64 (n : Int)] w fun e w' => e = .returned (.slice (some ⟨w.heap.size, 0, none⟩) n n) ∧ w.heap.size < w'.heap.size ∧ Ints w' w.heap.size 0 n (fun _ => m) ∧ Below w.heap.size w w' := by
  have hmk := run_make_wide (P := Tryd.prog) 56 82 _ 1 8 Tryd.underlying56 infoMark .i64 .i64 n (by omega) (by omega)
  simp only [Nat.mul_one] at hmk
  obtain ⟨i0, hi0, hzz⟩ := Option.map_eq_some_iff.1 infoMark
  simp only [Prod.mk.injEq] at hzz
  have hsz1 : (Tryd.prog.info? 82).map (·.size) = some 1 := by rw [hi0]; simp [hzz.2.1]
  have hmc : madeCells #[.int .i64 0] n = (rpC m 0 n).toArray := by
    apply Array.toList_inj.1
    rw [toList_madeCells_one]
    simp [rpC]
  have hg0 : Hid ((w.alloc (.cells (madeCells #[.int .i64 0] n) 82)).heap[w.heap.size]? = some (.cells (rpC m 0 n).toArray 82 (0, 0))) := by
    show _ = _
    rw [hmc]
    exact heap_alloc_new _ _
  clear hmc
  have q0 : (w.alloc (.cells (madeCells #[.int .i64 0] n) 82)).cell? ⟨b, 0, none⟩ = some (.int .i64 m) := cell_later ((Below.refl _ _).alloc (Nat.le_refl _) _) q
  have bz : Below w.heap.size w (w.alloc (.cells (madeCells #[.int .i64 0] n) 82)) := (Below.refl _ _).alloc (Nat.le_refl _) _
  have q1 : ∀ j v, [Value.int .i64 m][j]? = some v → (w.alloc (.cells (madeCells #[.int .i64 0] n) 82)).cell? ((⟨b, 0, none⟩ : Addr).add j) = some v := by
    intro j v hj
    match j, hj with
    | 0, hj => simp at hj; subst hj; simpa [Addr.add] using q0
    | j + 1, hj => simp at hj
  have e1 : [Value.int .i64 m].length = Nat.min 1 n := by
    show 1 = Nat.min 1 n
    simp [Nat.min_def]; omega
  have e2 : 0 + [Value.int .i64 m].length ≤ (rpC m 0 n).length := by simp [rpC]; omega
  have e3 : ∀ v ∈ [Value.int .i64 m], v.oneCell' = true := by simp [Value.oneCell']
  go_enter Tryd.func70, Tryd.ntmps70
  go_wp2_with fail
  refine (mul_one' n _ h1 hn).mono ?_
  rintro e w ⟨rfl, rfl⟩
  go_wp2_with (refine wpList_copy_splice rfl (.tmp 31) (.tmp 32) 56 56 rfl 82 Tryd.underlying56 hsz1 (some ⟨w.heap.size, 0, none⟩) (some ⟨b, 0, none⟩) n n 1 1 rfl rfl w.heap.size 0 (rpC m 0 n) 82 hg0.out [.int .i64 m] e1 (fun _ => ⟨rfl, _, rfl, q1⟩) e2 e3 w.heap.size w bz (Nat.le_refl _) ?_; intro w2 hg2 hb2)
  have H0 : Hid (RQ w.heap.size w w2 m 1 n) := ⟨by rw [← rpC_spl (m := m) (k := 0) (d := 1) h1]; exact hg2.out, hb2⟩
  clear hmk q0 bz q1 hg0 e1 e2 hg2 hb2
  go_loopw [8] (fun i wr => ∃ k : Nat, 1 ≤ k ∧ k ≤ n ∧ i = .int .i64 k ∧ RQ w.heap.size w wr m k n) (fun i _ => n - (intOf i).toNat)
  case atStart => exact ⟨1, by omega, h1, rfl, H0.out⟩
  case round =>
    obtain ⟨k, hk1, hkn, rfl, hI⟩ := hrel
    have HR := hide hI
    clear hI
    by_cases hlt : k < n
    · obtain ⟨d, hd⟩ : ∃ d, d = Nat.min k (n - k) := ⟨_, rfl⟩
      have hd' : 1 ≤ d ∧ d ≤ k ∧ k + d ≤ n := by rw [hd]; simp only [Nat.min_def]; split <;> omega
      have G := (unhide HR).dg
      have BD := (unhide HR).db
      have E1 : Hid ((List.replicate d (Value.int .i64 m)).length = Nat.min k (n - k)) := by show _ = _; rw [List.length_replicate]; exact hd
      have E2 : Hid (k + (List.replicate d (Value.int .i64 m)).length ≤ (rpC m k n).length) := by show _ ≤ _; rw [rpC_len hkn, List.length_replicate]; omega
      have E3 : Hid (∀ v ∈ List.replicate d (Value.int .i64 m), v.oneCell' = true) := by intro v hv; rw [(List.mem_replicate.1 hv).2]; rfl
      have E4 := (unhide HR).dc hd'.2.1
      have hne : ¬ n = k := by omega
      clear hd
      go_wp2_with fail
      go_region_law (refine step_copy_splice rfl (.tmp 41) (.tmp 44) 56 56 rfl 82 Tryd.underlying56 hsz1 (some ⟨w.heap.size, k, none⟩) (some ⟨w.heap.size, 0, none⟩) (n - k) (n - k) k n (by simp [Act.eval, Act.put]) (by simp [Act.eval, Act.put]) w.heap.size k (rpC m k n) 82 G.out (List.replicate d (.int .i64 m)) E1.out (fun _ => ⟨rfl, _, rfl, E4.out⟩) E2.out E3.out w.heap.size w BD.out (Nat.le_refl _) ?_; intro w4 hg4 hb4)
      have HN : Hid (RQ w.heap.size w w4 m (k + d) n) := ⟨by rw [← rpC_spl (m := m) hd'.2.2]; exact hg4.out, hb4⟩
      clear hg4 hb4 HR
      simp only [List.getElem_toArray, List.getElem_cons_succ, List.getElem_cons_zero, Act.put, List.setIfInBounds_toArray, List.set_cons_zero, List.set_cons_succ]
      have hwr : IntKind.i64.wrap ((k : Int) + d) = ((k + d : Nat) : Int) := by rw [IntKind.wrap_i64]; omega
      rw [hwr]
      generalize hz : k + d = z at *
      go_roundw
      case rel => exact ⟨_, _, _, _, _, _, _, _, _, _, _, _, _, _, ⟨z, by omega, by omega, rfl, HN.out⟩, rfl⟩
      case measure => simp [intOf]; omega
    · obtain rfl : k = n := by omega
      go_wp2
      go_ret
      have g4 := (unhide HR).hg
      exact ⟨rfl, lt_of_some g4, fun i hi => by rw [Nat.zero_add]; exact rpC_cell g4 hi, (unhide HR).b⟩
set_option maxRecDepth 100000 in
set_option maxHeartbeats 1000000 in
theorem rowOf_any (m : Int) (n : Nat) (w : World) (h1 : 1 ≤ n) (hn : n ≤ 4) :
    Calls Tryd.prog 49 #[.int .i64 (n : Int), .int .i64 m] w fun e w' => e = .returned (.slice (some ⟨w.heap.size + 1, 0, none⟩) n n) ∧ w.heap.size + 1 < w'.heap.size ∧ Ints w' (w.heap.size + 1) 0 n (at0 (flL m n)) ∧ Below w.heap.size w w' := by
  obtain ⟨wz, hwz⟩ : ∃ wz, wz = w.alloc (.cells #[.int .i64 m] 82) := ⟨_, rfl⟩
  have BL : Below w.heap.size w wz := by rw [hwz]; exact (Below.refl _ _).alloc (Nat.le_refl _) _
  have p0 : wz.cell? ⟨w.heap.size, 0, none⟩ = some (.int .i64 m) := by rw [hwz]; simp [go_sem]
  have lz : wz.heap.size = w.heap.size + 1 := by rw [hwz]; simp
  have HR := hide (repeat_any w.heap.size m n wz h1 hn p0)
  have HZ := hide hwz
  clear hwz p0
  go_enter Tryd.func49, Tryd.ntmps49
  go_wp2_with fail
  rw [← unhide HZ]
  refine (unhide HR).mono ?_
  rintro e w1 ⟨rfl, l1, i1, b1⟩
  have HI := hide i1
  clear i1
  go_wp2
  go_ret
  rw [lz] at l1
  refine ⟨rfl, l1, fun i hi => ?_, BL.trans (b1.mono BL.size)⟩
  rw [flL_at hi, ← lz]
  exact (unhide HI) i hi

theorem RowP.from {w w2 wr : World} {base bb gb B g g' : Nat} {aF aR : Addr} {s : KS} {R : List Int} {n j row : Nat} (h : RowP w2 wr base bb gb B g g' aF aR s R n j row) (b : Below w.heap.size w w2) : RowP w wr base bb gb B g g' aF aR s R n j row :=
  ⟨h.b, h.s, (by rcases h.gs with e | e; exact Or.inl e; exact Or.inr (Nat.le_trans b.size e)), h.ne, (OutS.of (S := S4 bb gb B g) b).trans h.o (fun _ _ h => h), h.i, h.m⟩
set_option maxRecDepth 100000 in
set_option maxHeartbeats 1500000 in
theorem unG_any (base bb gb B g : Nat) (aF aR : Addr) (s : KS) (hok : s.ok = true) (op : Int) (rx cx n : Nat) (L : List Int) (w : World) (hb : Bld w base bb gb B g aR s) (hs : Sent w base aF aR) (hbase : base ≤ w.heap.size) (hk : KOk s) (hL : L.length = n) (h1 : 1 ≤ n) (hn : n ≤ 4) (dx : Ints w rx 0 n (at0 L)) (nx : ¬ S4 bb gb B g rx ∧ rx < w.heap.size) (mL : MkL s L) :
    Calls Tryd.prog 29 #[.pointer (some ⟨bb, 0, none⟩), .int .i64 op, .slice (some ⟨rx, 0, none⟩) n cx] w fun e w' => ((op = 1 ∨ op = 2) ∧ ∃ row, e = .returned (.slice (some ⟨row, 0, none⟩) n n) ∧ w.heap.size ≤ row ∧ row < w'.heap.size ∧ ∃ g', RowP w w' base bb gb B g g' aF aR (unK 0 op s L).1 (unK 0 op s L).2 n n row) ∨ (¬ (op = 1 ∨ op = 2) ∧ e = .returned (.slice none 0 0) ∧ Bad w' bb ∧ OutS (S4 bb gb B g) w w') := by
  have q1 := hb.f1 hok
  have z1 := hb.z 1
  have f := hs.f
  have hlg := hb.lg
  have hlt := hb.lt
  have ns : ∀ k, w.heap.size ≤ k → ¬ S4 bb gb B g k := fun k h1 h2 => by rcases h2 with e | e | e | e <;> omega
  have hgt : decide ((n : Int) > 0) = true := by simp; omega
  have hbd : ∀ i, i < n → -700 ≤ at0 L i ∧ at0 L i ≤ 700 := fun i hi => ⟨(mL i (by rw [hL]; exact hi)).1, (mL i (by rw [hL]; exact hi)).2.1⟩
  by_cases o1 : op = 1
  · subst o1
    have HT := hide (turned_any rx cx n L w hL (by omega) dx nx.2 hbd)
    have HU : Hid (unK 0 1 s L = (s, ngL L)) := rfl
    have HB := hide hb
    have HS := hide hs
    have HNS := hide ns
    clear hb hs hk hL dx nx mL hlg hlt ns hbd
    go_enter Tryd.func29, Tryd.ntmps29
    go_wp2_with fail
    refine (holdsG_any bb aF _ _ q1 z1 f).mono ?_
    rintro e w2 ⟨rfl, ⟨_, h⟩ | ⟨h, _⟩⟩
    rotate_left
    · simp at h; try omega
    subst h
    go_wp2_with fail
    refine (unhide HT).mono ?_
    rintro e w1 ⟨rfl, i1, m1, b1⟩
    have HI := hide i1
    have HM := hide m1
    clear i1 m1
    go_wp2
    go_ret
    rw [unhide HU]
    exact Or.inl ⟨Or.inl (by trivial), _, rfl, Nat.le_refl _, (unhide HM).1, g, (unhide HB).later b1, (unhide HS).below b1 hbase, Or.inl rfl, unhide HNS _ (Nat.le_refl _), OutS.of b1, unhide HI, unhide HM⟩
  · have k1 : (op == 1) = false := by simp [o1]
    by_cases o2 : op = 2
    · subst o2
      have HF := hide (rowOf_any (-1) n w h1 hn)
      have HU : Hid (unK 0 2 s L = ((addS 0 (flL (-1) n) (ngL L) s 1 n).1.1, (addS 0 (flL (-1) n) (ngL L) s 1 n).2)) := by show _ = _; rw [← hL]; rfl
      have HB := hide hb
      have HS := hide hs
      have HNS := hide ns
      have HDX := hide dx
      have HX := hide nx
      have HK := hide hk
      have HML := hide mL
      have HL := hide hL
      have HBD := hide hbd
      clear hb hs hk hL dx nx mL hlg hlt ns hbd
      go_enter Tryd.func29, Tryd.ntmps29
      go_wp2_with fail
      refine (holdsG_any bb aF _ _ q1 z1 f).mono ?_
      rintro e w2 ⟨rfl, ⟨_, h⟩ | ⟨h, _⟩⟩
      rotate_left
      · simp at h; try omega
      subst h
      go_wp2_with fail
      refine (unhide HF).mono ?_
      rintro e w1 ⟨rfl, l1, i1, b1⟩
      have HI := hide i1
      have HT := hide (turned_any rx cx n L w1 (unhide HL) (by omega) ((unhide HDX).later b1) (Nat.lt_of_lt_of_le (unhide HX).2 b1.size) (unhide HBD))
      clear i1
      go_wp2_with fail
      refine (unhide HT).mono ?_
      rintro e w3 ⟨rfl, i3, m3, b3⟩
      have b13 := b1.trans (b3.mono b1.size)
      have HSU := hide (bsum_any base bb gb B g aF aR s 1 (w2.heap.size + 1) 0 n w1.heap.size 0 n n (flL (-1) n) (ngL L) w3 ((unhide HB).later b13) ((unhide HS).below b13 hbase) (by have := b13.size; omega) (unhide HK) (Mk.one (unhide HK)) (flL_len _ _) (by rw [ngL_len]; exact unhide HL) (by omega) ((unhide HI).later b3) i3 ⟨unhide HNS _ (by omega), by have := b3.size; omega⟩ ⟨unhide HNS _ (by omega), m3.1⟩ (MkL.fl (Mk.not (unhide HK))) (unhide HML).ng)
      have B13 := hide b13
      have l13 := b13.size
      clear i3 m3 b3 b1 b13
      go_wp2_with fail
      refine (unhide HSU).mono ?_
      rintro e w4 ⟨rfl, g', hR⟩
      have HR := hide hR
      have lm := hR.m.1
      clear hR
      go_wp2
      go_ret
      rw [unhide HU]
      exact Or.inl ⟨Or.inr (by trivial), _, rfl, l13, lm, g', (unhide HR).from (unhide B13)⟩
    · have k2 : (op == 2) = false := by simp [o2]
      have HO : Hid (¬ (op = 1 ∨ op = 2)) := fun h => by rcases h with e | e; exact o1 e; exact o2 e
      have HQ := hide q1
      have HZ := hide z1
      clear hb hs hk hL dx nx mL hlg hlt ns hbd o1 o2
      go_enter Tryd.func29, Tryd.ntmps29
      go_wp2_with fail
      refine (holdsG_any bb aF _ _ q1 z1 f).mono ?_
      rintro e w2 ⟨rfl, ⟨_, h⟩ | ⟨h, _⟩⟩
      rotate_left
      · simp at h; try omega
      subst h
      go_wp2_with fail
      refine (stop_any bb (.int .i64 0) aF _ (unhide HQ) (unhide HZ)).mono ?_
      rintro e w1 ⟨rfl, rfl⟩
      go_wp2
      go_ret
      exact Or.inr ⟨unhide HO, rfl, ⟨aF, World.cell?_setCell_same _ _ _ (unhide HQ)⟩, (OutS.refl _ _).mov (Mov.set (R := bb) _ _ _) (fun _ => Or.inl rfl)⟩

set_option maxRecDepth 100000 in
set_option maxHeartbeats 1000000 in
theorem unB_any (bb : Nat) (v aF : Addr) (op : Int) (ax : Option Addr) (nx cx : Nat) (w : World) (q1 : w.cell? ⟨bb, 1, none⟩ = some (.iface 140 (.pointer (some v)))) (f : w.cell? ⟨0, 0, none⟩ = some (.iface 140 (.pointer (some aF)))) :
    Calls Tryd.prog 29 #[.pointer (some ⟨bb, 0, none⟩), .int .i64 op, .slice ax nx cx] w fun e w' => e = .returned (.slice none 0 0) ∧ w' = w := by
  go_enter Tryd.func29, Tryd.ntmps29
  go_wp2_with fail
  refine (holdsB_any bb v aF _ _ q1 f).mono ?_
  rintro e w ⟨rfl, rfl⟩
  go_wp2
  go_ret
  exact ⟨rfl, rfl⟩
set_option maxRecDepth 100000 in
set_option maxHeartbeats 2000000 in
theorem iBitsUn_any (m : Int) (ad : Option Addr) (n cap : Nat) (G : Nat → Gt) (op : Int) (la : Option Addr) (nl cl : Nat) (L : List Int) (base : Nat) (aF aR : Addr) (w : World) (hd : GtsAt w ad n G) (hw : WG n G) (hsp : ∃ p, ad = some p ∧ p.spot = none) (hn : n ≤ 1048576)
    (hdL : IntsAt w la nl (at0 L)) (hL : L.length = nl) (hl : nl ≤ 1048576) (hWL : ∀ i, i < nl → W64 (at0 L i)) (hs : Sent w base aF aR) (hbase : base ≤ w.heap.size) :
    Calls Tryd.prog 10 #[.agg #[.int .i64 m, .slice ad n cap], .int .i64 op, .slice la nl cl] w fun e w' => IBPost (unBR m n G op L) w.heap.size e w' ∧ Below w.heap.size w w' := by
  obtain ⟨wz, hwz⟩ : ∃ wz, wz = (w.alloc (.cells #[.int .i64 m, .slice ad n cap] 29)).alloc (.cells #[.int .i64 0, .slice none 0 0] 29) := ⟨_, rfl⟩
  have BL : Below w.heap.size w wz := by rw [hwz]; exact ((Below.refl _ _).alloc (Nat.le_refl _) _).alloc (by simp) _
  have p0 : wz.cell? ⟨w.heap.size, 0, none⟩ = some (.int .i64 m) := by rw [hwz]; simp [go_sem]
  have p1 : wz.cell? ⟨w.heap.size, 1, none⟩ = some (.slice ad n cap) := by rw [hwz]; simp [go_sem]
  have s0 : wz.cell? ⟨w.heap.size + 1, 0, none⟩ = some (.int .i64 0) := by rw [hwz]; simp [go_sem]
  have s1 : wz.cell? ⟨w.heap.size + 1, 1, none⟩ = some (.slice none 0 0) := by rw [hwz]; simp [go_sem]
  have f0 : wz.frozen? ⟨w.heap.size + 1, 0, none⟩ = false := by rw [hwz]; simp [go_sem]
  have f1 : wz.frozen? ⟨w.heap.size + 1, 1, none⟩ = false := by rw [hwz]; simp [go_sem]
  have lz : wz.heap.size = w.heap.size + 2 := by rw [hwz]; simp
  have hsz : Sent wz wz.heap.size aF aR := by have h := hs.below BL hbase; exact ⟨h.f, h.r, by have := h.b; omega⟩
  have HNB := hide (newB_any m ad n cap G wz.heap.size aF aR wz (hd.later BL) hw hsp hn hsz (Nat.le_refl _))
  have HDL := hide hdL
  have HL := hide hL
  have HWL := hide hWL
  have f := hsz.f
  have HSZ := hide hsz
  have HZ := hide hwz
  clear hd hwz hw hsp hdL hL hWL hs hsz
  go_enter Tryd.func10, Tryd.ntmps10
  go_wp2_with fail
  rw [← unhide HZ]
  refine (unhide HNB).mono ?_
  rintro e w1 ⟨⟨bb, rfl, lbb, lbb', ⟨hP, gb, B, g, hB⟩ | ⟨hP, v, q1⟩⟩, b1⟩
  · have HB := hide hB
    have HS1 := hide ((unhide HSZ).below b1 (Nat.le_refl _))
    have l1 := b1.size
    replace f0 := (b1.frozen (p := ⟨w.heap.size + 1, 0, none⟩) (World.block_lt_of_cell? _ _ s0)).trans f0
    replace f1 := (b1.frozen (p := ⟨w.heap.size + 1, 1, none⟩) (World.block_lt_of_cell? _ _ s1)).trans f1
    replace s0 := cell_later b1 s0
    replace s1 := cell_later b1 s1
    replace f := cell_later b1 f
    replace BL := BL.trans (b1.mono BL.size)
    clear hB b1 p0 p1
    have HTA := hide (takeG_any wz.heap.size bb gb B g aF aR m n G la nl cl L w1 (unhide HB) (unhide HS1) (by omega) hP ((unhide HDL).later BL) (unhide HL) hl (unhide HWL))
    go_wp2_with fail
    refine (unhide HTA).mono ?_
    rintro e w2 (⟨hRa, rfl, lra, ira, b2⟩ | ⟨hRa, rfl, ⟨v, q1⟩, o2⟩)
    · have HB2 := hide ((unhide HB).later b2)
      have HS2 := hide ((unhide HS1).below b2 (by omega))
      have l2 := b2.size
      replace f0 := (b2.frozen (p := ⟨w.heap.size + 1, 0, none⟩) (World.block_lt_of_cell? _ _ s0)).trans f0
      replace f1 := (b2.frozen (p := ⟨w.heap.size + 1, 1, none⟩) (World.block_lt_of_cell? _ _ s1)).trans f1
      replace s0 := cell_later b2 s0
      replace s1 := cell_later b2 s1
      replace f := cell_later b2 f
      replace BL := BL.trans (b2.mono BL.size)
      have h4a : nl ≤ 4 := by rw [← unhide HL]; exact hRa.2.2
      have h4b : 1 ≤ nl := by rw [← unhide HL]; exact hRa.2.1
      have lgs := (unhide HB).lg
      have lbs := (unhide HB).lt
      have ns : ∀ k, w1.heap.size ≤ k → ¬ S4 bb gb B g k := fun k h1 h2 => by rcases h2 with e | e | e | e <;> omega
      have HUN := hide (unG_any wz.heap.size bb gb B g aF aR (kS m n G) rfl op w1.heap.size nl nl L w2 (unhide HB2) (unhide HS2) (by omega) (kS_ok hP) (unhide HL) h4b h4a ira ⟨ns _ (by omega), by omega⟩ (hRa.mk hP))
      clear b2 ira ns
      go_wp2_with fail
      refine (unhide HUN).mono ?_
      rintro e w5 (⟨hE, row, rfl, lr1, lr2, g', hRP⟩ | ⟨hE, rfl, ⟨v, q1⟩, o5⟩)
      · have HN := hide (unBR_yes (m := m) (n := n) (G := G) (op := op) (L := L) ⟨hP, hRa, hE⟩)
        have hq : brK (unK 1 op (kS m n G) L) = brK (unK 0 op (kS m n G) L) := (brK_rl (unK_rl op (kS m n G) L)).symm
        rw [hq] at HN
        have hlen : (unK 0 op (kS m n G) L).2.length = nl := (unK_len _ _ _ _).trans (unhide HL)
        obtain ⟨q, hqq⟩ : ∃ q, q = unK 0 op (kS m n G) L := ⟨_, rfl⟩
        rw [← hqq] at HN hRP hlen
        have HLEN := hide hlen
        clear hq hlen hqq
        have HRP := hide hRP
        have hR' := hRP
        have o5 := hRP.o
        have ns : ∀ k, k < wz.heap.size → ¬ S4 bb gb B g k := fun k h1 h2 => by have := (unhide HB).low k h2; omega
        have sl := World.block_lt_of_cell? _ _ s0
        have zl := World.block_lt_of_cell? _ _ f
        replace f0 := (o5.frozen (p := ⟨w.heap.size + 1, 0, none⟩) sl (ns _ (by simp only; omega))).trans f0
        replace f1 := (o5.frozen (p := ⟨w.heap.size + 1, 1, none⟩) sl (ns _ (by simp only; omega))).trans f1
        replace s0 := o5.cell s0 (ns _ (by simp only; omega))
        replace s1 := o5.cell s1 (ns _ (by simp only; omega))
        replace f := o5.cell f (ns _ (by simp only; omega))
        replace BL := BL.trans (o5.lower (base := w.heap.size) (fun k hk => by have := (unhide HB).low k hk; omega) BL.size)
        clear sl zl
        have lw5 := o5.size
        clear o5 ns hRP
        cases hok : q.1.ok
        · have HN' : Hid (unBR m n G op L = nilB) := (unhide HN).trans (brK_no hok)
          clear HN
          have HN := HN'
          have q1 := hR'.b.f0 hok
          clear hR'
          go_wp2_with fail
          refine (toldB_any bb aR _ _ _ _ q1).mono ?_
          rintro e wl ⟨rfl, bl⟩
          replace f0 := (bl.frozen (p := ⟨w.heap.size + 1, 0, none⟩) (World.block_lt_of_cell? _ _ s0)).trans f0
          replace f1 := (bl.frozen (p := ⟨w.heap.size + 1, 1, none⟩) (World.block_lt_of_cell? _ _ s1)).trans f1
          replace s0 := cell_later bl s0
          replace s1 := cell_later bl s1
          replace BL := BL.trans (bl.mono BL.size)
          clear bl
          have sl := World.block_lt_of_cell? _ _ s0
          go_wp2
          refine bodyPost_ret (v := .tuple #[.agg #[.int .i64 0, .slice none 0 0], .slice none 0 0]) (by simp [results, Tryd.results10, go_sem, s0, s1]) rfl ?_
          rw [unhide HN]
          exact ⟨nil_IB _ _, BL.trans ((mov2c wl (w.heap.size + 1) _ _).below (by omega) BL.size)⟩
        · have HN' : Hid (unBR m n G op L = ⟨q.1.m, q.1.n, q.1.G, q.2⟩) := (unhide HN).trans (brK_yes hok)
          have HC := hide (toldG_any wz.heap.size bb gb B g' aR q.1 row nl nl q.2 w5 hR'.b hok hR'.i hR'.m.1 (by omega) (by omega))
          clear hR'
          go_wp2_with fail
          refine (unhide HC).mono ?_
          rintro e w6 ⟨c6, rfl, hG6, hI6, hM6, b6⟩
          replace f0 := (b6.frozen (p := ⟨w.heap.size + 1, 0, none⟩) (World.block_lt_of_cell? _ _ s0)).trans f0
          replace f1 := (b6.frozen (p := ⟨w.heap.size + 1, 1, none⟩) (World.block_lt_of_cell? _ _ s1)).trans f1
          replace s0 := cell_later b6 s0
          replace s1 := cell_later b6 s1
          replace BL := BL.trans (b6.mono BL.size)
          have sl := World.block_lt_of_cell? _ _ s0
          have HG6 := hide hG6
          have HI6 := hide hI6
          have HM6 := hide hM6
          have lo6 := own_base hG6.2.1
          have lg6 := (own_cap hG6.2.1).2
          have hgl : g' < w5.heap.size := (unhide HRP).b.lg.1
          clear hG6 hI6 hM6 b6
          go_wp2
          refine bodyPost_ret (v := .tuple #[.agg #[.int .i64 q.1.m, .slice (some ⟨g', 0, none⟩) q.1.n c6], .slice (some ⟨w5.heap.size + 1, 0, none⟩) nl nl]) (by simp [results, Tryd.results10, go_sem, s0, s1]) rfl ?_
          rw [unhide HN']
          have mv : Mov (w.heap.size + 1) w6 ((w6.setCell ⟨w.heap.size + 1, 0, none⟩ (.int .i64 q.1.m)).setCell ⟨w.heap.size + 1, 1, none⟩ (.slice (some ⟨g', 0, none⟩) q.1.n c6)) := mov2c _ _ _ _
          refine ⟨⟨some ⟨g', 0, none⟩, c6, some ⟨w5.heap.size + 1, 0, none⟩, nl, by simp only [unhide HLEN], ⟨(own_gtsAt (unhide HG6).2.1).mov2 (by omega) mv, Or.inr ⟨g', rfl, by omega, (own_made (unhide HG6).2.1).mov mv (by omega)⟩⟩, ?_, Or.inr (Or.inr (fun x y e1 e2 => by cases e1; cases e2; simp only; omega))⟩, BL.trans (mv.below (by omega) BL.size)⟩
          simp only [unhide HLEN]
          exact ⟨Or.inr ⟨_, _, rfl, Nat.lt_of_lt_of_le (unhide HM6).1 mv.size, fun i hi => mv.cell (unhide HI6 i hi) (by simp only; omega)⟩, Or.inr ⟨_, rfl, by omega, (unhide HM6).mov mv (by omega)⟩⟩
      · have ns : ∀ k, k < wz.heap.size → ¬ S4 bb gb B g k := fun k h1 h2 => by have := (unhide HB).low k h2; omega
        have sl := World.block_lt_of_cell? _ _ s0
        have zl := World.block_lt_of_cell? _ _ f
        replace f0 := (o5.frozen (p := ⟨w.heap.size + 1, 0, none⟩) sl (ns _ (by simp only; omega))).trans f0
        replace f1 := (o5.frozen (p := ⟨w.heap.size + 1, 1, none⟩) sl (ns _ (by simp only; omega))).trans f1
        replace s0 := o5.cell s0 (ns _ (by simp only; omega))
        replace s1 := o5.cell s1 (ns _ (by simp only; omega))
        replace f := o5.cell f (ns _ (by simp only; omega))
        replace BL := BL.trans (o5.lower (base := w.heap.size) (fun k hk => by have := (unhide HB).low k hk; omega) BL.size)
        clear sl zl
        clear o5 ns
        have HN := hide (unBR_no (m := m) (n := n) (G := G) (op := op) (L := L) (fun h => hE h.2.2))
        go_wp2_with fail
        refine (toldB_any bb v _ _ _ _ q1).mono ?_
        rintro e wl ⟨rfl, bl⟩
        replace f0 := (bl.frozen (p := ⟨w.heap.size + 1, 0, none⟩) (World.block_lt_of_cell? _ _ s0)).trans f0
        replace f1 := (bl.frozen (p := ⟨w.heap.size + 1, 1, none⟩) (World.block_lt_of_cell? _ _ s1)).trans f1
        replace s0 := cell_later bl s0
        replace s1 := cell_later bl s1
        replace BL := BL.trans (bl.mono BL.size)
        clear bl
        have sl := World.block_lt_of_cell? _ _ s0
        go_wp2
        refine bodyPost_ret (v := .tuple #[.agg #[.int .i64 0, .slice none 0 0], .slice none 0 0]) (by simp [results, Tryd.results10, go_sem, s0, s1]) rfl ?_
        rw [unhide HN]
        exact ⟨nil_IB _ _, BL.trans ((mov2c wl (w.heap.size + 1) _ _).below (by omega) BL.size)⟩
    · have ns : ∀ k, k < wz.heap.size → ¬ S4 bb gb B g k := fun k h1 h2 => by have := (unhide HB).low k h2; omega
      have sl := World.block_lt_of_cell? _ _ s0
      have zl := World.block_lt_of_cell? _ _ f
      replace f0 := (o2.frozen (p := ⟨w.heap.size + 1, 0, none⟩) sl (ns _ (by simp only; omega))).trans f0
      replace f1 := (o2.frozen (p := ⟨w.heap.size + 1, 1, none⟩) sl (ns _ (by simp only; omega))).trans f1
      replace s0 := o2.cell s0 (ns _ (by simp only; omega))
      replace s1 := o2.cell s1 (ns _ (by simp only; omega))
      replace f := o2.cell f (ns _ (by simp only; omega))
      replace BL := BL.trans (o2.lower (base := w.heap.size) (fun k hk => by have := (unhide HB).low k hk; omega) BL.size)
      clear sl zl
      clear o2 ns
      have HN := hide (unBR_no (m := m) (n := n) (G := G) (op := op) (L := L) (fun h => hRa h.2.1))
      go_wp2_with fail
      refine (unB_any bb v aF op _ _ _ _ q1 f).mono ?_
      rintro e w2 ⟨rfl, rfl⟩
      go_wp2_with fail
      refine (toldB_any bb v _ _ _ _ q1).mono ?_
      rintro e wl ⟨rfl, bl⟩
      replace f0 := (bl.frozen (p := ⟨w.heap.size + 1, 0, none⟩) (World.block_lt_of_cell? _ _ s0)).trans f0
      replace f1 := (bl.frozen (p := ⟨w.heap.size + 1, 1, none⟩) (World.block_lt_of_cell? _ _ s1)).trans f1
      replace s0 := cell_later bl s0
      replace s1 := cell_later bl s1
      replace BL := BL.trans (bl.mono BL.size)
      clear bl
      have sl := World.block_lt_of_cell? _ _ s0
      go_wp2
      refine bodyPost_ret (v := .tuple #[.agg #[.int .i64 0, .slice none 0 0], .slice none 0 0]) (by simp [results, Tryd.results10, go_sem, s0, s1]) rfl ?_
      rw [unhide HN]
      exact ⟨nil_IB _ _, BL.trans ((mov2c wl (w.heap.size + 1) _ _).below (by omega) BL.size)⟩
  · replace f0 := (b1.frozen (p := ⟨w.heap.size + 1, 0, none⟩) (World.block_lt_of_cell? _ _ s0)).trans f0
    replace f1 := (b1.frozen (p := ⟨w.heap.size + 1, 1, none⟩) (World.block_lt_of_cell? _ _ s1)).trans f1
    replace s0 := cell_later b1 s0
    replace s1 := cell_later b1 s1
    replace f := cell_later b1 f
    replace BL := BL.trans (b1.mono BL.size)
    clear b1 p0 p1
    have HN := hide (unBR_no (m := m) (n := n) (G := G) (op := op) (L := L) (fun h => by have := h.1; rw [hP] at this; cases this))
    go_wp2_with fail
    refine (takeB_any bb v aF _ nl _ _ q1 f hl).mono ?_
    rintro e w1 ⟨rfl, rfl⟩
    go_wp2_with fail
    refine (unB_any bb v aF op _ _ _ _ q1 f).mono ?_
    rintro e w1 ⟨rfl, rfl⟩
    go_wp2_with fail
    refine (toldB_any bb v _ _ _ _ q1).mono ?_
    rintro e wl ⟨rfl, bl⟩
    replace f0 := (bl.frozen (p := ⟨w.heap.size + 1, 0, none⟩) (World.block_lt_of_cell? _ _ s0)).trans f0
    replace f1 := (bl.frozen (p := ⟨w.heap.size + 1, 1, none⟩) (World.block_lt_of_cell? _ _ s1)).trans f1
    replace s0 := cell_later bl s0
    replace s1 := cell_later bl s1
    replace BL := BL.trans (bl.mono BL.size)
    clear bl
    have sl := World.block_lt_of_cell? _ _ s0
    go_wp2
    refine bodyPost_ret (v := .tuple #[.agg #[.int .i64 0, .slice none 0 0], .slice none 0 0]) (by simp [results, Tryd.results10, go_sem, s0, s1]) rfl ?_
    rw [unhide HN]
    exact ⟨nil_IB _ _, BL.trans ((mov2c wl (w.heap.size + 1) _ _).below (by omega) BL.size)⟩
end Go.Proofs.YtjchdggpfkjcgaaDoor
