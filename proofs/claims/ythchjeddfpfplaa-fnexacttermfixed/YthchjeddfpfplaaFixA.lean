/- What a term is, if that is written there, of the program: fixedWorth, kind by kind. -/
import Derived.Test.YthchjeddfpfplaaFixM
import Derived.Test.YthchjeddfpfplaaSamC
import Derived.Test.YthchjeddfpfplaaWrtA
import Derived.Test.YthchjeddfpfplaaWrtD
namespace Go.Proofs.Ythchjeddfpfplaa
open Go.ChangeShapes Go.WideShapes Go.ChangeAt Go.RowKit Go.Joins
set_option linter.unusedVariables false
set_option linter.unusedSimpArgs false

theorem entersF {f : FuncId} {fn : Func} {c : Code} (hf : Try.prog.funcs[f]? = some fn) (hname : (fn.name == "runtime.NumGoroutine") = false) (hb : fn.body = some c) (args : Array Value) (w : World) :
    (callFunc f args).run Try.prog w = .ok (.enter f args) w := by
  have h1 : fn.name ≠ "runtime.NumGoroutine" := by simpa using hname
  simp [callFunc, hf, h1, hb]
theorem fzF {w w' : World} {p : Addr} (hb : Below w.heap.size w w') (hp : p.block < w.heap.size) (hf : w.frozen? p = false) : w'.frozen? p = false := by rw [hb.frozen hp]; exact hf
theorem truF (x : Bool) (w : World) : Calls Try.prog 20 #[.bool x] w fun e w' => e = .returned (.agg #[.int .i64 0, .int .i64 (if x then 1 else 0)]) ∧ Below w.heap.size w w' := by
  cases x
  · go_enter Try.func20, Try.ntmps20
    go_wp2
    exact bodyPost_ret (v := .agg #[.int .i64 0, .int .i64 0]) (by simp [results, Try.results20, go_sem]) rfl ⟨rfl, (by repeat (first | exact Below.refl _ _ | assumption | refine below_drewN ?_ _ | refine Below.drew ?_ | refine Below.alloc ?_ (by first | exact Nat.le_refl _ | exact Below.size (by assumption) | (simp; done) | (simp; omega)) _ | refine Below.setCell ?_ (by first | exact Nat.le_refl _ | exact Below.size (by assumption) | (simp; done) | (simp; omega)) _ | refine Below.trans ?_ (by assumption)))⟩
  · go_enter Try.func20, Try.ntmps20
    go_wp2
    exact bodyPost_ret (v := .agg #[.int .i64 0, .int .i64 1]) (by simp [results, Try.results20, go_sem]) rfl ⟨rfl, (by repeat (first | exact Below.refl _ _ | assumption | refine below_drewN ?_ _ | refine Below.drew ?_ | refine Below.alloc ?_ (by first | exact Nat.le_refl _ | exact Below.size (by assumption) | (simp; done) | (simp; omega)) _ | refine Below.setCell ?_ (by first | exact Nat.le_refl _ | exact Below.size (by assumption) | (simp; done) | (simp; omega)) _ | refine Below.trans ?_ (by assumption)))⟩
theorem ta1_no {T : TypeId} {kv : Value} (h : ¬ T = 50) (w : World) : (Instr.typeAssert (.iface T kv) 45 50 true).run Try.prog w = .ok (.tuple #[.agg #[.int .i64 0, .int .i64 0], .bool false]) w := by
  have hz : (zeroValue 50).run Try.prog w = .ok (.agg #[.int .i64 0, .int .i64 0]) w := by kernel_rfl
  simp [Instr.typeAssert, run_underlying Try.underlying50, h, hz]
theorem ta2_no {T : TypeId} {kv : Value} (h : ¬ T = 52) (w : World) : (Instr.typeAssert (.iface T kv) 45 52 true).run Try.prog w = .ok (.tuple #[.agg #[], .bool false]) w := by
  have hz : (zeroValue 52).run Try.prog w = .ok (.agg #[]) w := by kernel_rfl
  simp [Instr.typeAssert, run_underlying Try.underlying52, h, hz]
theorem ta3_no {T : TypeId} {kv : Value} (h : ¬ T = 56) (w : World) : (Instr.typeAssert (.iface T kv) 45 56 true).run Try.prog w = .ok (.tuple #[.agg #[.int .i64 0], .bool false]) w := by
  have hz : (zeroValue 56).run Try.prog w = .ok (.agg #[.int .i64 0]) w := by kernel_rfl
  simp [Instr.typeAssert, run_underlying Try.underlying56, h, hz]
theorem ta1_yes (kv : Value) (w : World) : (Instr.typeAssert (.iface 50 kv) 45 50 true).run Try.prog w = .ok (.tuple #[kv, .bool true]) w := by
  simp [Instr.typeAssert, run_underlying Try.underlying50]
theorem ta2_yes (kv : Value) (w : World) : (Instr.typeAssert (.iface 52 kv) 45 52 true).run Try.prog w = .ok (.tuple #[kv, .bool true]) w := by
  simp [Instr.typeAssert, run_underlying Try.underlying52]
theorem ta3_yes (kv : Value) (w : World) : (Instr.typeAssert (.iface 56 kv) 45 56 true).run Try.prog w = .ok (.tuple #[kv, .bool true]) w := by
  simp [Instr.typeAssert, run_underlying Try.underlying56]
/-- The answer of fixedWorth. -/
def FixAns (t : TT) (e : Ending) : Prop := ∃ x y, e = .returned (.tuple #[.agg #[.int .i64 x, .int .i64 y], .bool (fixB t)]) ∧ (fixB t = true → x = fixW t ∧ y = fixN t)
set_option maxHeartbeats 4000000 in
theorem fx_none (lo hi : Nat) (op a b : Int) (s : ByteArray) (m : Nat) (kid : Nat → TT)  (h : op < 1 ∨ 27 < op ∨ op = 18 ∨ op = 19) (ad : Option Addr) (cp : Nat) (w : World) (hin : (TT.node op a b s m kid).In w lo hi ad) (hp : Pl w lo hi) (hhi : hi ≤ w.heap.size) :
    Calls Try.prog 14 #[.agg #[.int .i64 op, .int .i64 a, .int .i64 b, .string s, .slice ad m cp]] w fun e w' => e = .returned (.tuple #[.agg #[.int .i64 0, .int .i64 0], .bool false]) ∧ Below w.heap.size w w' := by
  have HI := hide hin
  have HP := hide hp
  clear hin hp
  go_enter Try.func14, Try.ntmps14
  go_wp2_with fail
  have e1 := ((Below.refl w.heap.size w).alloc (Nat.le_refl _) (.cells #[.int .i64 op, .int .i64 a, .int .i64 b, .string s, .slice ad m cp] 30)).alloc (by simp) (.cells #[.int .i64 0, .int .i64 0] 38)
  refine (kind_none op a b s m ad cp _ h).mono ?_
  rintro e w1 ⟨rfl, b1⟩
  have P : Box5 w1 w.heap.size op a b s ad m cp := ⟨cell_later b1 (by simp [go_sem]), cell_later b1 (by simp [go_sem]), cell_later b1 (by simp [go_sem]), cell_later b1 (by simp [go_sem]), cell_later b1 (by simp [go_sem])⟩
  have r0 : w1.cell? ⟨w.heap.size + 1, 0, none⟩ = some (.int .i64 0) := cell_later b1 (by simp [go_sem])
  have r1 : w1.cell? ⟨w.heap.size + 1, 1, none⟩ = some (.int .i64 0) := cell_later b1 (by simp [go_sem])
  have f0 : w1.frozen? ⟨w.heap.size + 1, 0, none⟩ = false := by rw [b1.frozen (by simp)]; simp [go_sem]
  have f1 : w1.frozen? ⟨w.heap.size + 1, 1, none⟩ = false := by rw [b1.frozen (by simp)]; simp [go_sem]
  have BL := e1.trans (b1.mono (by simp; omega))
  have kz : w.heap.size + 2 ≤ w1.heap.size := by have := b1.size; simp at this; omega
  have I := hide ((unhide HI).later (BL.mono hhi))
  have PL := hide ((unhide HP).later (BL.mono hhi))
  clear b1 e1 HI HP
  generalize hH : w.heap.size = H at *
  have HH := hide hH
  clear hH
  go_wp2_with fail
  obtain ⟨p0, p1, p2, p3, p4⟩ := id P
  refine wp_region_held_drew (S := (fun w' => w'.cell? ⟨H, 0, none⟩ = some (.int .i64 op) ∧ w'.cell? ⟨H, 1, none⟩ = some (.int .i64 a) ∧ w'.cell? ⟨H, 2, none⟩ = some (.int .i64 b) ∧ w'.cell? ⟨H, 3, none⟩ = some (.string s) ∧ w'.cell? ⟨H, 4, none⟩ = some (.slice ad m cp))) (by kernel_rfl) ?_ (fun hHeld => ?_)
  · exact ⟨p0, p1, p2, p3, p4⟩
  refine wpAnyH_take (i := 0) (v := ?_) rfl (by kernel_rfl) (by kernel_rfl) (by kernel_rfl) (fun _ _ _ h => h) (Or.inl ⟨by rfl, ?_⟩) (by assumption) ?_
  rotate_left
  · (intro w hSw; (try dsimp only at hSw); first | (go_simp; done) | (go_simp; with_reducible rfl))
  try simp only [List.getElem_toArray, List.getElem_cons_succ, List.getElem_cons_zero, Act.put, List.setIfInBounds_toArray, List.set_cons_zero, List.set_cons_succ]
  refine wpAnyH_take (i := 1) (v := ?_) rfl (by kernel_rfl) (by kernel_rfl) (by kernel_rfl) (fun _ _ _ h => h) (Or.inl ⟨by rfl, ?_⟩) (by assumption) ?_
  rotate_left
  · (intro w hSw; (try dsimp only at hSw); first | (go_simp; done) | (go_simp; with_reducible rfl))
  try simp only [List.getElem_toArray, List.getElem_cons_succ, List.getElem_cons_zero, Act.put, List.setIfInBounds_toArray, List.set_cons_zero, List.set_cons_succ]
  refine wpAnyH_take (i := 2) (v := ?_) rfl (by kernel_rfl) (by kernel_rfl) (by kernel_rfl) (fun _ _ _ h => h) (Or.inl ⟨by rfl, ?_⟩) (by assumption) ?_
  rotate_left
  · (intro w hSw; (try dsimp only at hSw); first | (go_simp; done) | (go_simp; with_reducible rfl))
  try simp only [List.getElem_toArray, List.getElem_cons_succ, List.getElem_cons_zero, Act.put, List.setIfInBounds_toArray, List.set_cons_zero, List.set_cons_succ]
  refine wpAnyH_take (i := 3) (v := undef) rfl (by kernel_rfl) (by kernel_rfl) (by kernel_rfl) (fun _ _ _ h => h) (Or.inr ⟨by rfl, rfl⟩) (by assumption) ?_
  try simp only [List.getElem_toArray, List.getElem_cons_succ, List.getElem_cons_zero, Act.put, List.setIfInBounds_toArray, List.set_cons_zero, List.set_cons_succ]
  refine wpAnyH_take (i := 4) (v := undef) rfl (by kernel_rfl) (by kernel_rfl) (by kernel_rfl) (fun _ _ _ h => h) (Or.inr ⟨by rfl, rfl⟩) (by assumption) ?_
  try simp only [List.getElem_toArray, List.getElem_cons_succ, List.getElem_cons_zero, Act.put, List.setIfInBounds_toArray, List.set_cons_zero, List.set_cons_succ]
  refine wpAnyH_take (i := 5) (v := undef) rfl (by kernel_rfl) (by kernel_rfl) (by kernel_rfl) (fun _ _ _ h => h) (Or.inr ⟨by rfl, rfl⟩) (by assumption) ?_
  try simp only [List.getElem_toArray, List.getElem_cons_succ, List.getElem_cons_zero, Act.put, List.setIfInBounds_toArray, List.set_cons_zero, List.set_cons_succ]
  refine wpAnyH_take (i := 6) (v := undef) rfl (by kernel_rfl) (by kernel_rfl) (by kernel_rfl) (fun _ _ _ h => h) (Or.inr ⟨by rfl, rfl⟩) (by assumption) ?_
  try simp only [List.getElem_toArray, List.getElem_cons_succ, List.getElem_cons_zero, Act.put, List.setIfInBounds_toArray, List.set_cons_zero, List.set_cons_succ]
  refine wpAnyH_take (i := 7) (v := undef) rfl (by kernel_rfl) (by kernel_rfl) (by kernel_rfl) (fun _ _ _ h => h) (Or.inr ⟨by rfl, rfl⟩) (by assumption) ?_
  try simp only [List.getElem_toArray, List.getElem_cons_succ, List.getElem_cons_zero, Act.put, List.setIfInBounds_toArray, List.set_cons_zero, List.set_cons_succ]
  refine wpAnyH_take (i := 8) (v := ?_) rfl (by kernel_rfl) (by kernel_rfl) (by kernel_rfl) (fun _ _ _ h => h) (Or.inl ⟨by rfl, ?_⟩) (by assumption) ?_
  rotate_left
  · (intro w hSw; (try dsimp only at hSw); first | (go_simp; done) | (go_simp; with_reducible rfl))
  try simp only [List.getElem_toArray, List.getElem_cons_succ, List.getElem_cons_zero, Act.put, List.setIfInBounds_toArray, List.set_cons_zero, List.set_cons_succ]
  refine wpAnyH_take (i := 9) (v := ?_) rfl (by kernel_rfl) (by kernel_rfl) (by kernel_rfl) (fun _ _ _ h => h) (Or.inl ⟨by rfl, ?_⟩) (by assumption) ?_
  rotate_left
  · (intro w hSw; (try dsimp only at hSw); first | (go_simp; done) | (go_simp; with_reducible rfl))
  try simp only [List.getElem_toArray, List.getElem_cons_succ, List.getElem_cons_zero, Act.put, List.setIfInBounds_toArray, List.set_cons_zero, List.set_cons_succ]
  refine wpAnyH_take (i := 10) (v := undef) rfl (by kernel_rfl) (by kernel_rfl) (by kernel_rfl) (fun _ _ _ h => h) (Or.inr ⟨by rfl, rfl⟩) (by assumption) ?_
  try simp only [List.getElem_toArray, List.getElem_cons_succ, List.getElem_cons_zero, Act.put, List.setIfInBounds_toArray, List.set_cons_zero, List.set_cons_succ]
  refine wpAnyH_take (i := 11) (v := undef) rfl (by kernel_rfl) (by kernel_rfl) (by kernel_rfl) (fun _ _ _ h => h) (Or.inr ⟨by rfl, rfl⟩) (by assumption) ?_
  try simp only [List.getElem_toArray, List.getElem_cons_succ, List.getElem_cons_zero, Act.put, List.setIfInBounds_toArray, List.set_cons_zero, List.set_cons_succ]
  refine wpAnyH_take (i := 12) (v := undef) rfl (by kernel_rfl) (by kernel_rfl) (by kernel_rfl) (fun _ _ _ h => h) (Or.inr ⟨by rfl, rfl⟩) (by assumption) ?_
  try simp only [List.getElem_toArray, List.getElem_cons_succ, List.getElem_cons_zero, Act.put, List.setIfInBounds_toArray, List.set_cons_zero, List.set_cons_succ]
  refine wpAnyH_take (i := 13) (v := undef) rfl (by kernel_rfl) (by kernel_rfl) (by kernel_rfl) (fun _ _ _ h => h) (Or.inr ⟨by rfl, rfl⟩) (by assumption) ?_
  try simp only [List.getElem_toArray, List.getElem_cons_succ, List.getElem_cons_zero, Act.put, List.setIfInBounds_toArray, List.set_cons_zero, List.set_cons_succ]
  refine wpAnyH_take (i := 14) (v := undef) rfl (by kernel_rfl) (by kernel_rfl) (by kernel_rfl) (fun _ _ _ h => h) (Or.inr ⟨by rfl, rfl⟩) (by assumption) ?_
  try simp only [List.getElem_toArray, List.getElem_cons_succ, List.getElem_cons_zero, Act.put, List.setIfInBounds_toArray, List.set_cons_zero, List.set_cons_succ]
  refine wpAnyH_take (i := 15) (v := undef) rfl (by kernel_rfl) (by kernel_rfl) (by kernel_rfl) (fun _ _ _ h => h) (Or.inr ⟨by rfl, rfl⟩) (by assumption) ?_
  try simp only [List.getElem_toArray, List.getElem_cons_succ, List.getElem_cons_zero, Act.put, List.setIfInBounds_toArray, List.set_cons_zero, List.set_cons_succ]
  refine wpAnyH_take (i := 16) (v := ?_) rfl (by kernel_rfl) (by kernel_rfl) (by kernel_rfl) (fun _ _ _ h => h) (Or.inl ⟨by rfl, ?_⟩) (by assumption) ?_
  rotate_left
  · (intro w hSw; (try dsimp only at hSw); first | (go_simp; done) | (go_simp; with_reducible rfl))
  try simp only [List.getElem_toArray, List.getElem_cons_succ, List.getElem_cons_zero, Act.put, List.setIfInBounds_toArray, List.set_cons_zero, List.set_cons_succ]
  refine wpAnyH_done (by kernel_rfl) ?_ _
  go_wp2
  exact bodyPost_ret (v := .tuple #[.agg #[.int .i64 0, .int .i64 0], .bool false]) (by simp [results, Try.results14, go_sem, r0, r1]) rfl ⟨rfl, by rw [unhide HH]; first | exact (BL.setCell (by simp) _).setCell (by simp) _ | exact (BL.drew.setCell (Nat.le_add_right _ _) _).setCell (Nat.le_add_right _ _) _⟩
set_option maxHeartbeats 4000000 in
theorem fx_early (lo hi : Nat) (op a b : Int) (s : ByteArray) (m : Nat) (kid : Nat → TT) (T : TypeId) (kv rp : Value) (fp fm : FuncId) (op' a' b' : Int) (s' : ByteArray) (M : Int)
    (hkd : ∀ (ad : Option Addr) (cp : Nat) (w : World), Calls Try.prog 17 #[.agg #[.int .i64 op, .int .i64 a, .int .i64 b, .string s, .slice ad m cp]] w fun e w' => e = .returned (.tuple #[.iface T kv, .bool true]) ∧ Below w.heap.size w w')
    (hmp : ∀ w : World, (method 198 T kv "loop.example/seedlip/impl.part").run Try.prog w = .ok (fp, rp) w)
    (hmm : ∀ w : World, (method 198 T kv "loop.example/seedlip/impl.many").run Try.prog w = .ok (fm, kv) w)
    (hep : ∀ (args : Array Value) (w : World), (callFunc fp args).run Try.prog w = .ok (.enter fp args) w) (hem : ∀ (args : Array Value) (w : World), (callFunc fm args).run Try.prog w = .ok (.enter fm args) w)
    (hcp : ∀ w : World, Calls Try.prog fp #[rp] w fun e w' => e = .returned (.agg #[.int .i64 op', .int .i64 a', .int .i64 b', .string s', .slice none 0 0]) ∧ Below w.heap.size w w')
    (hcm : ∀ w : World, Calls Try.prog fm #[kv] w fun e w' => e = .returned (.int .i64 M) ∧ Below w.heap.size w w') (hno : ¬ (hsB op' a' b' s' op a b s = true ∧ M = m)) (ad : Option Addr) (cp : Nat) (w : World) (hin : (TT.node op a b s m kid).In w lo hi ad) (hp : Pl w lo hi) (hhi : hi ≤ w.heap.size) :
    Calls Try.prog 14 #[.agg #[.int .i64 op, .int .i64 a, .int .i64 b, .string s, .slice ad m cp]] w fun e w' => e = .returned (.tuple #[.agg #[.int .i64 0, .int .i64 0], .bool false]) ∧ Below w.heap.size w w' := by
  have HI := hide hin
  have HP := hide hp
  clear hin hp
  have HKD := hide hkd
  have HCP := hide hcp
  have HCM := hide hcm
  clear hkd hcp hcm
  go_enter Try.func14, Try.ntmps14
  go_wp2_with fail
  have e1 := ((Below.refl w.heap.size w).alloc (Nat.le_refl _) (.cells #[.int .i64 op, .int .i64 a, .int .i64 b, .string s, .slice ad m cp] 30)).alloc (by simp) (.cells #[.int .i64 0, .int .i64 0] 38)
  refine (unhide HKD _ _ _).mono ?_
  rintro e w1 ⟨rfl, b1⟩
  have P : Box5 w1 w.heap.size op a b s ad m cp := ⟨cell_later b1 (by simp [go_sem]), cell_later b1 (by simp [go_sem]), cell_later b1 (by simp [go_sem]), cell_later b1 (by simp [go_sem]), cell_later b1 (by simp [go_sem])⟩
  have r0 : w1.cell? ⟨w.heap.size + 1, 0, none⟩ = some (.int .i64 0) := cell_later b1 (by simp [go_sem])
  have r1 : w1.cell? ⟨w.heap.size + 1, 1, none⟩ = some (.int .i64 0) := cell_later b1 (by simp [go_sem])
  have f0 : w1.frozen? ⟨w.heap.size + 1, 0, none⟩ = false := by rw [b1.frozen (by simp)]; simp [go_sem]
  have f1 : w1.frozen? ⟨w.heap.size + 1, 1, none⟩ = false := by rw [b1.frozen (by simp)]; simp [go_sem]
  have BL := e1.trans (b1.mono (by simp; omega))
  have kz : w.heap.size + 2 ≤ w1.heap.size := by have := b1.size; simp at this; omega
  have I := hide ((unhide HI).later (BL.mono hhi))
  have PL := hide ((unhide HP).later (BL.mono hhi))
  clear b1 e1 HI HP
  generalize hH : w.heap.size = H at *
  have HH := hide hH
  clear hH
  go_wp2_with fail
  obtain ⟨p0, p1, p2, p3, p4⟩ := id P
  cases hhs : hsB op' a' b' s' op a b s
  · refine wp_region_held_drew (S := (fun w' => w'.cell? ⟨H, 0, none⟩ = some (.int .i64 op) ∧ w'.cell? ⟨H, 1, none⟩ = some (.int .i64 a) ∧ w'.cell? ⟨H, 2, none⟩ = some (.int .i64 b) ∧ w'.cell? ⟨H, 3, none⟩ = some (.string s) ∧ w'.cell? ⟨H, 4, none⟩ = some (.slice ad m cp))) (by kernel_rfl) ?_ (fun hHeld => ?_)
    · exact ⟨p0, p1, p2, p3, p4⟩
    refine wpAnyH_take (i := 0) (v := ?_) rfl (by kernel_rfl) (by kernel_rfl) (by kernel_rfl) (fun _ _ _ h => h) (Or.inl ⟨by rfl, ?_⟩) (by assumption) ?_
    rotate_left
    · (intro w hSw; (try dsimp only at hSw); first | (go_simp; done) | (go_simp; with_reducible rfl))
    try simp only [List.getElem_toArray, List.getElem_cons_succ, List.getElem_cons_zero, Act.put, List.setIfInBounds_toArray, List.set_cons_zero, List.set_cons_succ]
    refine wpAnyH_take (i := 1) (v := ?_) rfl (by kernel_rfl) (by kernel_rfl) (by kernel_rfl) (fun _ _ _ h => h) (Or.inl ⟨by rfl, ?_⟩) (by assumption) ?_
    rotate_left
    · (intro w hSw; (try dsimp only at hSw); first | (go_simp; done) | (go_simp; with_reducible rfl))
    try simp only [List.getElem_toArray, List.getElem_cons_succ, List.getElem_cons_zero, Act.put, List.setIfInBounds_toArray, List.set_cons_zero, List.set_cons_succ]
    refine wpAnyH_take (i := 2) (v := ?_) rfl (by kernel_rfl) (by kernel_rfl) (by kernel_rfl) (fun _ _ _ h => h) (Or.inl ⟨by rfl, ?_⟩) (by assumption) ?_
    rotate_left
    · (intro w hSw; (try dsimp only at hSw); first | (go_simp; done) | (go_simp; with_reducible rfl))
    try simp only [List.getElem_toArray, List.getElem_cons_succ, List.getElem_cons_zero, Act.put, List.setIfInBounds_toArray, List.set_cons_zero, List.set_cons_succ]
    refine wpAnyH_take (i := 3) (v := ?_) rfl (by kernel_rfl) (by kernel_rfl) (by kernel_rfl) (fun _ _ _ h => h) (Or.inl ⟨by rfl, ?_⟩) (by assumption) ?_
    rotate_left
    · (intro w hSw; (try dsimp only at hSw); first | (go_simp; done) | (go_simp; with_reducible rfl))
    try simp only [List.getElem_toArray, List.getElem_cons_succ, List.getElem_cons_zero, Act.put, List.setIfInBounds_toArray, List.set_cons_zero, List.set_cons_succ]
    refine wpAnyH_take (i := 5) (v := ?_) rfl (by kernel_rfl) (by kernel_rfl) (by kernel_rfl) (fun _ _ _ h => h) (Or.inl ⟨by rfl, ?_⟩) (by assumption) ?_
    rotate_left
    · (intro w hSw; (try dsimp only at hSw); first | (go_simp; done) | (go_simp; with_reducible rfl))
    try simp only [List.getElem_toArray, List.getElem_cons_succ, List.getElem_cons_zero, Act.put, List.setIfInBounds_toArray, List.set_cons_zero, List.set_cons_succ]
    refine wpAnyH_ready (rs := [4]) (by kernel_rfl) (by simp) ?_
    refine AllReadyH.cons rfl (fun K hK => ?_) AllReadyH.nil
    go_simp
    refine (unhide HCP _).mono ?_
    rintro e wq ⟨rfl, bq⟩
    replace P := Box5.later (by exact P) bq
    replace f0 := fzF bq (World.block_lt_of_cell? _ _ (by exact r0)) (by exact f0)
    replace f1 := fzF bq (World.block_lt_of_cell? _ _ (by exact r1)) (by exact f1)
    replace r0 := cell_later bq (by exact r0)
    replace r1 := cell_later bq (by exact r1)
    replace BL := (show Below H w _ from by first | exact BL.trans (bq.mono (by exact Nat.le_trans (Nat.le_add_right _ _) kz)) | exact BL.drew.trans (bq.mono (by exact Nat.le_trans (Nat.le_add_right _ _) kz)))
    replace I := hide (show (TT.node op a b s m kid).In _ lo hi ad from by first | exact (unhide I).later (bq.mono (by exact Nat.le_trans hhi (Nat.le_trans (Nat.le_add_right _ _) kz))) | exact (unhide I).drew.later (bq.mono (by exact Nat.le_trans hhi (Nat.le_trans (Nat.le_add_right _ _) kz))))
    replace PL := hide (show Pl _ lo hi from by first | exact (unhide PL).later (bq.mono (by exact Nat.le_trans hhi (Nat.le_trans (Nat.le_add_right _ _) kz))) | exact (unhide PL).drew.later (bq.mono (by exact Nat.le_trans hhi (Nat.le_trans (Nat.le_add_right _ _) kz))))
    replace kz := Nat.le_trans kz bq.size
    clear bq
    go_wp2_with fail
    refine hK.out _ _ ?_ (fun hHeld => ?_)
    · exact ⟨P.1, P.2.1, P.2.2.1, P.2.2.2.1, P.2.2.2.2⟩
    clear hK K
    try simp only [List.getElem_toArray, List.getElem_cons_succ, List.getElem_cons_zero, Act.put, List.setIfInBounds_toArray, List.set_cons_zero, List.set_cons_succ]
    refine wpAnyH_ready (rs := [6]) (by kernel_rfl) (by simp) ?_
    refine AllReadyH.cons rfl (fun K hK => ?_) AllReadyH.nil
    go_simp
    refine (headSame_any _ _ _ _ _ _ _ _ _ _ _ _ _ _ _).mono ?_
    rintro e wq ⟨rfl, bq⟩
    replace P := Box5.later (by exact P) bq
    replace f0 := fzF bq (World.block_lt_of_cell? _ _ (by exact r0)) (by exact f0)
    replace f1 := fzF bq (World.block_lt_of_cell? _ _ (by exact r1)) (by exact f1)
    replace r0 := cell_later bq (by exact r0)
    replace r1 := cell_later bq (by exact r1)
    replace BL := (show Below H w _ from by first | exact BL.trans (bq.mono (by exact Nat.le_trans (Nat.le_add_right _ _) kz)) | exact BL.drew.trans (bq.mono (by exact Nat.le_trans (Nat.le_add_right _ _) kz)))
    replace I := hide (show (TT.node op a b s m kid).In _ lo hi ad from by first | exact (unhide I).later (bq.mono (by exact Nat.le_trans hhi (Nat.le_trans (Nat.le_add_right _ _) kz))) | exact (unhide I).drew.later (bq.mono (by exact Nat.le_trans hhi (Nat.le_trans (Nat.le_add_right _ _) kz))))
    replace PL := hide (show Pl _ lo hi from by first | exact (unhide PL).later (bq.mono (by exact Nat.le_trans hhi (Nat.le_trans (Nat.le_add_right _ _) kz))) | exact (unhide PL).drew.later (bq.mono (by exact Nat.le_trans hhi (Nat.le_trans (Nat.le_add_right _ _) kz))))
    replace kz := Nat.le_trans kz bq.size
    clear bq
    rw [hhs]
    go_wp2_with fail
    refine hK.out _ _ ?_ (fun hHeld => ?_)
    · exact ⟨P.1, P.2.1, P.2.2.1, P.2.2.2.1, P.2.2.2.2⟩
    clear hK K
    try simp only [List.getElem_toArray, List.getElem_cons_succ, List.getElem_cons_zero, Act.put, List.setIfInBounds_toArray, List.set_cons_zero, List.set_cons_succ]
    refine wpAnyH_take (i := 7) (v := ?_) rfl (by kernel_rfl) (by kernel_rfl) (by kernel_rfl) (fun _ _ _ h => h) (Or.inl ⟨by rfl, ?_⟩) (by assumption) ?_
    rotate_left
    · (intro w hSw; (try dsimp only at hSw); first | (go_simp; done) | (go_simp; with_reducible rfl))
    try simp only [List.getElem_toArray, List.getElem_cons_succ, List.getElem_cons_zero, Act.put, List.setIfInBounds_toArray, List.set_cons_zero, List.set_cons_succ]
    refine wpAnyH_take (i := 8) (v := ?_) rfl (by kernel_rfl) (by kernel_rfl) (by kernel_rfl) (fun _ _ _ h => h) (Or.inl ⟨by rfl, ?_⟩) (by assumption) ?_
    rotate_left
    · (intro w hSw; (try dsimp only at hSw); first | (go_simp; done) | (go_simp; with_reducible rfl))
    try simp only [List.getElem_toArray, List.getElem_cons_succ, List.getElem_cons_zero, Act.put, List.setIfInBounds_toArray, List.set_cons_zero, List.set_cons_succ]
    refine wpAnyH_take (i := 9) (v := ?_) rfl (by kernel_rfl) (by kernel_rfl) (by kernel_rfl) (fun _ _ _ h => h) (Or.inl ⟨by rfl, ?_⟩) (by assumption) ?_
    rotate_left
    · (intro w hSw; (try dsimp only at hSw); first | (go_simp; done) | (go_simp; with_reducible rfl))
    try simp only [List.getElem_toArray, List.getElem_cons_succ, List.getElem_cons_zero, Act.put, List.setIfInBounds_toArray, List.set_cons_zero, List.set_cons_succ]
    refine wpAnyH_take (i := 10) (v := undef) rfl (by kernel_rfl) (by kernel_rfl) (by kernel_rfl) (fun _ _ _ h => h) (Or.inr ⟨by rfl, rfl⟩) (by assumption) ?_
    try simp only [List.getElem_toArray, List.getElem_cons_succ, List.getElem_cons_zero, Act.put, List.setIfInBounds_toArray, List.set_cons_zero, List.set_cons_succ]
    refine wpAnyH_take (i := 11) (v := undef) rfl (by kernel_rfl) (by kernel_rfl) (by kernel_rfl) (fun _ _ _ h => h) (Or.inr ⟨by rfl, rfl⟩) (by assumption) ?_
    try simp only [List.getElem_toArray, List.getElem_cons_succ, List.getElem_cons_zero, Act.put, List.setIfInBounds_toArray, List.set_cons_zero, List.set_cons_succ]
    refine wpAnyH_take (i := 12) (v := undef) rfl (by kernel_rfl) (by kernel_rfl) (by kernel_rfl) (fun _ _ _ h => h) (Or.inr ⟨by rfl, rfl⟩) (by assumption) ?_
    try simp only [List.getElem_toArray, List.getElem_cons_succ, List.getElem_cons_zero, Act.put, List.setIfInBounds_toArray, List.set_cons_zero, List.set_cons_succ]
    refine wpAnyH_take (i := 13) (v := undef) rfl (by kernel_rfl) (by kernel_rfl) (by kernel_rfl) (fun _ _ _ h => h) (Or.inr ⟨by rfl, rfl⟩) (by assumption) ?_
    try simp only [List.getElem_toArray, List.getElem_cons_succ, List.getElem_cons_zero, Act.put, List.setIfInBounds_toArray, List.set_cons_zero, List.set_cons_succ]
    refine wpAnyH_take (i := 14) (v := undef) rfl (by kernel_rfl) (by kernel_rfl) (by kernel_rfl) (fun _ _ _ h => h) (Or.inr ⟨by rfl, rfl⟩) (by assumption) ?_
    try simp only [List.getElem_toArray, List.getElem_cons_succ, List.getElem_cons_zero, Act.put, List.setIfInBounds_toArray, List.set_cons_zero, List.set_cons_succ]
    refine wpAnyH_take (i := 15) (v := undef) rfl (by kernel_rfl) (by kernel_rfl) (by kernel_rfl) (fun _ _ _ h => h) (Or.inr ⟨by rfl, rfl⟩) (by assumption) ?_
    try simp only [List.getElem_toArray, List.getElem_cons_succ, List.getElem_cons_zero, Act.put, List.setIfInBounds_toArray, List.set_cons_zero, List.set_cons_succ]
    refine wpAnyH_take (i := 16) (v := ?_) rfl (by kernel_rfl) (by kernel_rfl) (by kernel_rfl) (fun _ _ _ h => h) (Or.inl ⟨by rfl, ?_⟩) (by assumption) ?_
    rotate_left
    · (intro w hSw; (try dsimp only at hSw); first | (go_simp; done) | (go_simp; with_reducible rfl))
    try simp only [List.getElem_toArray, List.getElem_cons_succ, List.getElem_cons_zero, Act.put, List.setIfInBounds_toArray, List.set_cons_zero, List.set_cons_succ]
    refine wpAnyH_done (by kernel_rfl) ?_ _
    go_wp2
    exact bodyPost_ret (v := .tuple #[.agg #[.int .i64 0, .int .i64 0], .bool false]) (by simp [results, Try.results14, go_sem, r0, r1]) rfl ⟨rfl, by rw [unhide HH]; first | exact (BL.setCell (by simp) _).setCell (by simp) _ | exact (BL.drew.setCell (Nat.le_add_right _ _) _).setCell (Nat.le_add_right _ _) _⟩
  · have zM : (M != (m : Int)) = true := by simp; exact fun h => hno ⟨hhs, h⟩
    refine wp_region_held_drew (S := (fun w' => w'.cell? ⟨H, 0, none⟩ = some (.int .i64 op) ∧ w'.cell? ⟨H, 1, none⟩ = some (.int .i64 a) ∧ w'.cell? ⟨H, 2, none⟩ = some (.int .i64 b) ∧ w'.cell? ⟨H, 3, none⟩ = some (.string s) ∧ w'.cell? ⟨H, 4, none⟩ = some (.slice ad m cp))) (by kernel_rfl) ?_ (fun hHeld => ?_)
    · exact ⟨p0, p1, p2, p3, p4⟩
    refine wpAnyH_take (i := 0) (v := ?_) rfl (by kernel_rfl) (by kernel_rfl) (by kernel_rfl) (fun _ _ _ h => h) (Or.inl ⟨by rfl, ?_⟩) (by assumption) ?_
    rotate_left
    · (intro w hSw; (try dsimp only at hSw); first | (go_simp; done) | (go_simp; with_reducible rfl))
    try simp only [List.getElem_toArray, List.getElem_cons_succ, List.getElem_cons_zero, Act.put, List.setIfInBounds_toArray, List.set_cons_zero, List.set_cons_succ]
    refine wpAnyH_take (i := 1) (v := ?_) rfl (by kernel_rfl) (by kernel_rfl) (by kernel_rfl) (fun _ _ _ h => h) (Or.inl ⟨by rfl, ?_⟩) (by assumption) ?_
    rotate_left
    · (intro w hSw; (try dsimp only at hSw); first | (go_simp; done) | (go_simp; with_reducible rfl))
    try simp only [List.getElem_toArray, List.getElem_cons_succ, List.getElem_cons_zero, Act.put, List.setIfInBounds_toArray, List.set_cons_zero, List.set_cons_succ]
    refine wpAnyH_take (i := 2) (v := ?_) rfl (by kernel_rfl) (by kernel_rfl) (by kernel_rfl) (fun _ _ _ h => h) (Or.inl ⟨by rfl, ?_⟩) (by assumption) ?_
    rotate_left
    · (intro w hSw; (try dsimp only at hSw); first | (go_simp; done) | (go_simp; with_reducible rfl))
    try simp only [List.getElem_toArray, List.getElem_cons_succ, List.getElem_cons_zero, Act.put, List.setIfInBounds_toArray, List.set_cons_zero, List.set_cons_succ]
    refine wpAnyH_take (i := 3) (v := ?_) rfl (by kernel_rfl) (by kernel_rfl) (by kernel_rfl) (fun _ _ _ h => h) (Or.inl ⟨by rfl, ?_⟩) (by assumption) ?_
    rotate_left
    · (intro w hSw; (try dsimp only at hSw); first | (go_simp; done) | (go_simp; with_reducible rfl))
    try simp only [List.getElem_toArray, List.getElem_cons_succ, List.getElem_cons_zero, Act.put, List.setIfInBounds_toArray, List.set_cons_zero, List.set_cons_succ]
    refine wpAnyH_take (i := 5) (v := ?_) rfl (by kernel_rfl) (by kernel_rfl) (by kernel_rfl) (fun _ _ _ h => h) (Or.inl ⟨by rfl, ?_⟩) (by assumption) ?_
    rotate_left
    · (intro w hSw; (try dsimp only at hSw); first | (go_simp; done) | (go_simp; with_reducible rfl))
    try simp only [List.getElem_toArray, List.getElem_cons_succ, List.getElem_cons_zero, Act.put, List.setIfInBounds_toArray, List.set_cons_zero, List.set_cons_succ]
    refine wpAnyH_ready (rs := [4]) (by kernel_rfl) (by simp) ?_
    refine AllReadyH.cons rfl (fun K hK => ?_) AllReadyH.nil
    go_simp
    refine (unhide HCP _).mono ?_
    rintro e wq ⟨rfl, bq⟩
    replace P := Box5.later (by exact P) bq
    replace f0 := fzF bq (World.block_lt_of_cell? _ _ (by exact r0)) (by exact f0)
    replace f1 := fzF bq (World.block_lt_of_cell? _ _ (by exact r1)) (by exact f1)
    replace r0 := cell_later bq (by exact r0)
    replace r1 := cell_later bq (by exact r1)
    replace BL := (show Below H w _ from by first | exact BL.trans (bq.mono (by exact Nat.le_trans (Nat.le_add_right _ _) kz)) | exact BL.drew.trans (bq.mono (by exact Nat.le_trans (Nat.le_add_right _ _) kz)))
    replace I := hide (show (TT.node op a b s m kid).In _ lo hi ad from by first | exact (unhide I).later (bq.mono (by exact Nat.le_trans hhi (Nat.le_trans (Nat.le_add_right _ _) kz))) | exact (unhide I).drew.later (bq.mono (by exact Nat.le_trans hhi (Nat.le_trans (Nat.le_add_right _ _) kz))))
    replace PL := hide (show Pl _ lo hi from by first | exact (unhide PL).later (bq.mono (by exact Nat.le_trans hhi (Nat.le_trans (Nat.le_add_right _ _) kz))) | exact (unhide PL).drew.later (bq.mono (by exact Nat.le_trans hhi (Nat.le_trans (Nat.le_add_right _ _) kz))))
    replace kz := Nat.le_trans kz bq.size
    clear bq
    go_wp2_with fail
    refine hK.out _ _ ?_ (fun hHeld => ?_)
    · exact ⟨P.1, P.2.1, P.2.2.1, P.2.2.2.1, P.2.2.2.2⟩
    clear hK K
    try simp only [List.getElem_toArray, List.getElem_cons_succ, List.getElem_cons_zero, Act.put, List.setIfInBounds_toArray, List.set_cons_zero, List.set_cons_succ]
    refine wpAnyH_ready (rs := [6]) (by kernel_rfl) (by simp) ?_
    refine AllReadyH.cons rfl (fun K hK => ?_) AllReadyH.nil
    go_simp
    refine (headSame_any _ _ _ _ _ _ _ _ _ _ _ _ _ _ _).mono ?_
    rintro e wq ⟨rfl, bq⟩
    replace P := Box5.later (by exact P) bq
    replace f0 := fzF bq (World.block_lt_of_cell? _ _ (by exact r0)) (by exact f0)
    replace f1 := fzF bq (World.block_lt_of_cell? _ _ (by exact r1)) (by exact f1)
    replace r0 := cell_later bq (by exact r0)
    replace r1 := cell_later bq (by exact r1)
    replace BL := (show Below H w _ from by first | exact BL.trans (bq.mono (by exact Nat.le_trans (Nat.le_add_right _ _) kz)) | exact BL.drew.trans (bq.mono (by exact Nat.le_trans (Nat.le_add_right _ _) kz)))
    replace I := hide (show (TT.node op a b s m kid).In _ lo hi ad from by first | exact (unhide I).later (bq.mono (by exact Nat.le_trans hhi (Nat.le_trans (Nat.le_add_right _ _) kz))) | exact (unhide I).drew.later (bq.mono (by exact Nat.le_trans hhi (Nat.le_trans (Nat.le_add_right _ _) kz))))
    replace PL := hide (show Pl _ lo hi from by first | exact (unhide PL).later (bq.mono (by exact Nat.le_trans hhi (Nat.le_trans (Nat.le_add_right _ _) kz))) | exact (unhide PL).drew.later (bq.mono (by exact Nat.le_trans hhi (Nat.le_trans (Nat.le_add_right _ _) kz))))
    replace kz := Nat.le_trans kz bq.size
    clear bq
    rw [hhs]
    go_wp2_with fail
    refine hK.out _ _ ?_ (fun hHeld => ?_)
    · exact ⟨P.1, P.2.1, P.2.2.1, P.2.2.2.1, P.2.2.2.2⟩
    clear hK K
    try simp only [List.getElem_toArray, List.getElem_cons_succ, List.getElem_cons_zero, Act.put, List.setIfInBounds_toArray, List.set_cons_zero, List.set_cons_succ]
    refine wpAnyH_take (i := 7) (v := ?_) rfl (by kernel_rfl) (by kernel_rfl) (by kernel_rfl) (fun _ _ _ h => h) (Or.inl ⟨by rfl, ?_⟩) (by assumption) ?_
    rotate_left
    · (intro w hSw; (try dsimp only at hSw); first | (go_simp; done) | (go_simp; with_reducible rfl))
    try simp only [List.getElem_toArray, List.getElem_cons_succ, List.getElem_cons_zero, Act.put, List.setIfInBounds_toArray, List.set_cons_zero, List.set_cons_succ]
    refine wpAnyH_take (i := 8) (v := ?_) rfl (by kernel_rfl) (by kernel_rfl) (by kernel_rfl) (fun _ _ _ h => h) (Or.inl ⟨by rfl, ?_⟩) (by assumption) ?_
    rotate_left
    · (intro w hSw; (try dsimp only at hSw); first | (go_simp; done) | (go_simp; with_reducible rfl))
    try simp only [List.getElem_toArray, List.getElem_cons_succ, List.getElem_cons_zero, Act.put, List.setIfInBounds_toArray, List.set_cons_zero, List.set_cons_succ]
    refine wpAnyH_take (i := 9) (v := ?_) rfl (by kernel_rfl) (by kernel_rfl) (by kernel_rfl) (fun _ _ _ h => h) (Or.inl ⟨by rfl, ?_⟩) (by assumption) ?_
    rotate_left
    · (intro w hSw; (try dsimp only at hSw); first | (go_simp; done) | (go_simp; with_reducible rfl))
    try simp only [List.getElem_toArray, List.getElem_cons_succ, List.getElem_cons_zero, Act.put, List.setIfInBounds_toArray, List.set_cons_zero, List.set_cons_succ]
    refine wpAnyH_take (i := 10) (v := ?_) rfl (by kernel_rfl) (by kernel_rfl) (by kernel_rfl) (fun _ _ _ h => h) (Or.inl ⟨by rfl, ?_⟩) (by assumption) ?_
    rotate_left
    · (intro w hSw; (try dsimp only at hSw); first | (go_simp; done) | (go_simp; with_reducible rfl))
    try simp only [List.getElem_toArray, List.getElem_cons_succ, List.getElem_cons_zero, Act.put, List.setIfInBounds_toArray, List.set_cons_zero, List.set_cons_succ]
    refine wpAnyH_take (i := 12) (v := ?_) rfl (by kernel_rfl) (by kernel_rfl) (by kernel_rfl) (fun _ _ _ h => h) (Or.inl ⟨by rfl, ?_⟩) (by assumption) ?_
    rotate_left
    · (intro w hSw; (try dsimp only at hSw); first | (go_simp; done) | (go_simp; with_reducible rfl))
    try simp only [List.getElem_toArray, List.getElem_cons_succ, List.getElem_cons_zero, Act.put, List.setIfInBounds_toArray, List.set_cons_zero, List.set_cons_succ]
    refine wpAnyH_take (i := 13) (v := ?_) rfl (by kernel_rfl) (by kernel_rfl) (by kernel_rfl) (fun _ _ _ h => h) (Or.inl ⟨by rfl, ?_⟩) (by assumption) ?_
    rotate_left
    · (intro w hSw; (try dsimp only at hSw); first | (go_simp; done) | (go_simp; with_reducible rfl))
    try simp only [List.getElem_toArray, List.getElem_cons_succ, List.getElem_cons_zero, Act.put, List.setIfInBounds_toArray, List.set_cons_zero, List.set_cons_succ]
    refine wpAnyH_take (i := 14) (v := ?_) rfl (by kernel_rfl) (by kernel_rfl) (by kernel_rfl) (fun _ _ _ h => h) (Or.inl ⟨by rfl, ?_⟩) (by assumption) ?_
    rotate_left
    · (intro w hSw; (try dsimp only at hSw); first | (go_simp; done) | (go_simp; with_reducible rfl))
    try simp only [List.getElem_toArray, List.getElem_cons_succ, List.getElem_cons_zero, Act.put, List.setIfInBounds_toArray, List.set_cons_zero, List.set_cons_succ]
    refine wpAnyH_ready (rs := [11]) (by kernel_rfl) (by simp) ?_
    refine AllReadyH.cons rfl (fun K hK => ?_) AllReadyH.nil
    go_simp
    refine (unhide HCM _).mono ?_
    rintro e wq ⟨rfl, bq⟩
    replace P := Box5.later (by exact P) bq
    replace f0 := fzF bq (World.block_lt_of_cell? _ _ (by exact r0)) (by exact f0)
    replace f1 := fzF bq (World.block_lt_of_cell? _ _ (by exact r1)) (by exact f1)
    replace r0 := cell_later bq (by exact r0)
    replace r1 := cell_later bq (by exact r1)
    replace BL := (show Below H w _ from by first | exact BL.trans (bq.mono (by exact Nat.le_trans (Nat.le_add_right _ _) kz)) | exact BL.drew.trans (bq.mono (by exact Nat.le_trans (Nat.le_add_right _ _) kz)))
    replace I := hide (show (TT.node op a b s m kid).In _ lo hi ad from by first | exact (unhide I).later (bq.mono (by exact Nat.le_trans hhi (Nat.le_trans (Nat.le_add_right _ _) kz))) | exact (unhide I).drew.later (bq.mono (by exact Nat.le_trans hhi (Nat.le_trans (Nat.le_add_right _ _) kz))))
    replace PL := hide (show Pl _ lo hi from by first | exact (unhide PL).later (bq.mono (by exact Nat.le_trans hhi (Nat.le_trans (Nat.le_add_right _ _) kz))) | exact (unhide PL).drew.later (bq.mono (by exact Nat.le_trans hhi (Nat.le_trans (Nat.le_add_right _ _) kz))))
    replace kz := Nat.le_trans kz bq.size
    clear bq
    go_wp2_with fail
    refine hK.out _ _ ?_ (fun hHeld => ?_)
    · exact ⟨P.1, P.2.1, P.2.2.1, P.2.2.2.1, P.2.2.2.2⟩
    clear hK K
    try simp only [List.getElem_toArray, List.getElem_cons_succ, List.getElem_cons_zero, Act.put, List.setIfInBounds_toArray, List.set_cons_zero, List.set_cons_succ]
    refine wpAnyH_take (i := 15) (v := ?_) rfl (by kernel_rfl) (by kernel_rfl) (by kernel_rfl) (fun _ _ _ h => h) (Or.inl ⟨by rfl, ?_⟩) (by assumption) ?_
    rotate_left
    · (intro w hSw; (try dsimp only at hSw); first | (go_simp; done) | (go_simp; with_reducible rfl))
    try simp only [List.getElem_toArray, List.getElem_cons_succ, List.getElem_cons_zero, Act.put, List.setIfInBounds_toArray, List.set_cons_zero, List.set_cons_succ]
    refine wpAnyH_take (i := 16) (v := ?_) rfl (by kernel_rfl) (by kernel_rfl) (by kernel_rfl) (fun _ _ _ h => h) (Or.inl ⟨by rfl, ?_⟩) (by assumption) ?_
    rotate_left
    · (intro w hSw; (try dsimp only at hSw); first | (go_simp; done) | (go_simp; with_reducible rfl))
    try simp only [List.getElem_toArray, List.getElem_cons_succ, List.getElem_cons_zero, Act.put, List.setIfInBounds_toArray, List.set_cons_zero, List.set_cons_succ]
    refine wpAnyH_done (by kernel_rfl) ?_ _
    go_wp2
    exact bodyPost_ret (v := .tuple #[.agg #[.int .i64 0, .int .i64 0], .bool false]) (by simp [results, Try.results14, go_sem, r0, r1]) rfl ⟨rfl, by rw [unhide HH]; first | exact (BL.setCell (by simp) _).setCell (by simp) _ | exact (BL.drew.setCell (Nat.le_add_right _ _) _).setCell (Nat.le_add_right _ _) _⟩
set_option maxHeartbeats 4000000 in
theorem fx_other (lo hi : Nat) (op a b : Int) (s : ByteArray) (m : Nat) (kid : Nat → TT) (T : TypeId) (kv rp : Value) (fp fm : FuncId) (op' a' b' : Int) (s' : ByteArray) (M : Int)
    (hkd : ∀ (ad : Option Addr) (cp : Nat) (w : World), Calls Try.prog 17 #[.agg #[.int .i64 op, .int .i64 a, .int .i64 b, .string s, .slice ad m cp]] w fun e w' => e = .returned (.tuple #[.iface T kv, .bool true]) ∧ Below w.heap.size w w')
    (hmp : ∀ w : World, (method 198 T kv "loop.example/seedlip/impl.part").run Try.prog w = .ok (fp, rp) w)
    (hmm : ∀ w : World, (method 198 T kv "loop.example/seedlip/impl.many").run Try.prog w = .ok (fm, kv) w)
    (hep : ∀ (args : Array Value) (w : World), (callFunc fp args).run Try.prog w = .ok (.enter fp args) w) (hem : ∀ (args : Array Value) (w : World), (callFunc fm args).run Try.prog w = .ok (.enter fm args) w)
    (hcp : ∀ w : World, Calls Try.prog fp #[rp] w fun e w' => e = .returned (.agg #[.int .i64 op', .int .i64 a', .int .i64 b', .string s', .slice none 0 0]) ∧ Below w.heap.size w w')
    (hcm : ∀ w : World, Calls Try.prog fm #[kv] w fun e w' => e = .returned (.int .i64 M) ∧ Below w.heap.size w w') (hhs : hsB op' a' b' s' op a b s = true) (hM : M = m) (hT1 : ¬ T = 50) (hT2 : ¬ T = 52) (hT3 : ¬ T = 56) (ad : Option Addr) (cp : Nat) (w : World) (hin : (TT.node op a b s m kid).In w lo hi ad) (hp : Pl w lo hi) (hhi : hi ≤ w.heap.size) :
    Calls Try.prog 14 #[.agg #[.int .i64 op, .int .i64 a, .int .i64 b, .string s, .slice ad m cp]] w fun e w' => e = .returned (.tuple #[.agg #[.int .i64 0, .int .i64 0], .bool false]) ∧ Below w.heap.size w w' := by
  have HI := hide hin
  have HP := hide hp
  clear hin hp
  have HKD := hide hkd
  have HCP := hide hcp
  have HCM := hide hcm
  clear hkd hcp hcm
  go_enter Try.func14, Try.ntmps14
  go_wp2_with fail
  have e1 := ((Below.refl w.heap.size w).alloc (Nat.le_refl _) (.cells #[.int .i64 op, .int .i64 a, .int .i64 b, .string s, .slice ad m cp] 30)).alloc (by simp) (.cells #[.int .i64 0, .int .i64 0] 38)
  refine (unhide HKD _ _ _).mono ?_
  rintro e w1 ⟨rfl, b1⟩
  have P : Box5 w1 w.heap.size op a b s ad m cp := ⟨cell_later b1 (by simp [go_sem]), cell_later b1 (by simp [go_sem]), cell_later b1 (by simp [go_sem]), cell_later b1 (by simp [go_sem]), cell_later b1 (by simp [go_sem])⟩
  have r0 : w1.cell? ⟨w.heap.size + 1, 0, none⟩ = some (.int .i64 0) := cell_later b1 (by simp [go_sem])
  have r1 : w1.cell? ⟨w.heap.size + 1, 1, none⟩ = some (.int .i64 0) := cell_later b1 (by simp [go_sem])
  have f0 : w1.frozen? ⟨w.heap.size + 1, 0, none⟩ = false := by rw [b1.frozen (by simp)]; simp [go_sem]
  have f1 : w1.frozen? ⟨w.heap.size + 1, 1, none⟩ = false := by rw [b1.frozen (by simp)]; simp [go_sem]
  have BL := e1.trans (b1.mono (by simp; omega))
  have kz : w.heap.size + 2 ≤ w1.heap.size := by have := b1.size; simp at this; omega
  have I := hide ((unhide HI).later (BL.mono hhi))
  have PL := hide ((unhide HP).later (BL.mono hhi))
  clear b1 e1 HI HP
  generalize hH : w.heap.size = H at *
  have HH := hide hH
  clear hH
  go_wp2_with fail
  obtain ⟨p0, p1, p2, p3, p4⟩ := id P
  have zM : (M != (m : Int)) = false := by simp [hM]
  refine wp_region_held_drew (S := (fun w' => w'.cell? ⟨H, 0, none⟩ = some (.int .i64 op) ∧ w'.cell? ⟨H, 1, none⟩ = some (.int .i64 a) ∧ w'.cell? ⟨H, 2, none⟩ = some (.int .i64 b) ∧ w'.cell? ⟨H, 3, none⟩ = some (.string s) ∧ w'.cell? ⟨H, 4, none⟩ = some (.slice ad m cp))) (by kernel_rfl) ?_ (fun hHeld => ?_)
  · exact ⟨p0, p1, p2, p3, p4⟩
  refine wpAnyH_take (i := 0) (v := ?_) rfl (by kernel_rfl) (by kernel_rfl) (by kernel_rfl) (fun _ _ _ h => h) (Or.inl ⟨by rfl, ?_⟩) (by assumption) ?_
  rotate_left
  · (intro w hSw; (try dsimp only at hSw); first | (go_simp; done) | (go_simp; with_reducible rfl))
  try simp only [List.getElem_toArray, List.getElem_cons_succ, List.getElem_cons_zero, Act.put, List.setIfInBounds_toArray, List.set_cons_zero, List.set_cons_succ]
  refine wpAnyH_take (i := 1) (v := ?_) rfl (by kernel_rfl) (by kernel_rfl) (by kernel_rfl) (fun _ _ _ h => h) (Or.inl ⟨by rfl, ?_⟩) (by assumption) ?_
  rotate_left
  · (intro w hSw; (try dsimp only at hSw); first | (go_simp; done) | (go_simp; with_reducible rfl))
  try simp only [List.getElem_toArray, List.getElem_cons_succ, List.getElem_cons_zero, Act.put, List.setIfInBounds_toArray, List.set_cons_zero, List.set_cons_succ]
  refine wpAnyH_take (i := 2) (v := ?_) rfl (by kernel_rfl) (by kernel_rfl) (by kernel_rfl) (fun _ _ _ h => h) (Or.inl ⟨by rfl, ?_⟩) (by assumption) ?_
  rotate_left
  · (intro w hSw; (try dsimp only at hSw); first | (go_simp; done) | (go_simp; with_reducible rfl))
  try simp only [List.getElem_toArray, List.getElem_cons_succ, List.getElem_cons_zero, Act.put, List.setIfInBounds_toArray, List.set_cons_zero, List.set_cons_succ]
  refine wpAnyH_take (i := 3) (v := ?_) rfl (by kernel_rfl) (by kernel_rfl) (by kernel_rfl) (fun _ _ _ h => h) (Or.inl ⟨by rfl, ?_⟩) (by assumption) ?_
  rotate_left
  · (intro w hSw; (try dsimp only at hSw); first | (go_simp; done) | (go_simp; with_reducible rfl))
  try simp only [List.getElem_toArray, List.getElem_cons_succ, List.getElem_cons_zero, Act.put, List.setIfInBounds_toArray, List.set_cons_zero, List.set_cons_succ]
  refine wpAnyH_take (i := 5) (v := ?_) rfl (by kernel_rfl) (by kernel_rfl) (by kernel_rfl) (fun _ _ _ h => h) (Or.inl ⟨by rfl, ?_⟩) (by assumption) ?_
  rotate_left
  · (intro w hSw; (try dsimp only at hSw); first | (go_simp; done) | (go_simp; with_reducible rfl))
  try simp only [List.getElem_toArray, List.getElem_cons_succ, List.getElem_cons_zero, Act.put, List.setIfInBounds_toArray, List.set_cons_zero, List.set_cons_succ]
  refine wpAnyH_ready (rs := [4]) (by kernel_rfl) (by simp) ?_
  refine AllReadyH.cons rfl (fun K hK => ?_) AllReadyH.nil
  go_simp
  refine (unhide HCP _).mono ?_
  rintro e wq ⟨rfl, bq⟩
  replace P := Box5.later (by exact P) bq
  replace f0 := fzF bq (World.block_lt_of_cell? _ _ (by exact r0)) (by exact f0)
  replace f1 := fzF bq (World.block_lt_of_cell? _ _ (by exact r1)) (by exact f1)
  replace r0 := cell_later bq (by exact r0)
  replace r1 := cell_later bq (by exact r1)
  replace BL := (show Below H w _ from by first | exact BL.trans (bq.mono (by exact Nat.le_trans (Nat.le_add_right _ _) kz)) | exact BL.drew.trans (bq.mono (by exact Nat.le_trans (Nat.le_add_right _ _) kz)))
  replace I := hide (show (TT.node op a b s m kid).In _ lo hi ad from by first | exact (unhide I).later (bq.mono (by exact Nat.le_trans hhi (Nat.le_trans (Nat.le_add_right _ _) kz))) | exact (unhide I).drew.later (bq.mono (by exact Nat.le_trans hhi (Nat.le_trans (Nat.le_add_right _ _) kz))))
  replace PL := hide (show Pl _ lo hi from by first | exact (unhide PL).later (bq.mono (by exact Nat.le_trans hhi (Nat.le_trans (Nat.le_add_right _ _) kz))) | exact (unhide PL).drew.later (bq.mono (by exact Nat.le_trans hhi (Nat.le_trans (Nat.le_add_right _ _) kz))))
  replace kz := Nat.le_trans kz bq.size
  clear bq
  go_wp2_with fail
  refine hK.out _ _ ?_ (fun hHeld => ?_)
  · exact ⟨P.1, P.2.1, P.2.2.1, P.2.2.2.1, P.2.2.2.2⟩
  clear hK K
  try simp only [List.getElem_toArray, List.getElem_cons_succ, List.getElem_cons_zero, Act.put, List.setIfInBounds_toArray, List.set_cons_zero, List.set_cons_succ]
  refine wpAnyH_ready (rs := [6]) (by kernel_rfl) (by simp) ?_
  refine AllReadyH.cons rfl (fun K hK => ?_) AllReadyH.nil
  go_simp
  refine (headSame_any _ _ _ _ _ _ _ _ _ _ _ _ _ _ _).mono ?_
  rintro e wq ⟨rfl, bq⟩
  replace P := Box5.later (by exact P) bq
  replace f0 := fzF bq (World.block_lt_of_cell? _ _ (by exact r0)) (by exact f0)
  replace f1 := fzF bq (World.block_lt_of_cell? _ _ (by exact r1)) (by exact f1)
  replace r0 := cell_later bq (by exact r0)
  replace r1 := cell_later bq (by exact r1)
  replace BL := (show Below H w _ from by first | exact BL.trans (bq.mono (by exact Nat.le_trans (Nat.le_add_right _ _) kz)) | exact BL.drew.trans (bq.mono (by exact Nat.le_trans (Nat.le_add_right _ _) kz)))
  replace I := hide (show (TT.node op a b s m kid).In _ lo hi ad from by first | exact (unhide I).later (bq.mono (by exact Nat.le_trans hhi (Nat.le_trans (Nat.le_add_right _ _) kz))) | exact (unhide I).drew.later (bq.mono (by exact Nat.le_trans hhi (Nat.le_trans (Nat.le_add_right _ _) kz))))
  replace PL := hide (show Pl _ lo hi from by first | exact (unhide PL).later (bq.mono (by exact Nat.le_trans hhi (Nat.le_trans (Nat.le_add_right _ _) kz))) | exact (unhide PL).drew.later (bq.mono (by exact Nat.le_trans hhi (Nat.le_trans (Nat.le_add_right _ _) kz))))
  replace kz := Nat.le_trans kz bq.size
  clear bq
  rw [hhs]
  go_wp2_with fail
  refine hK.out _ _ ?_ (fun hHeld => ?_)
  · exact ⟨P.1, P.2.1, P.2.2.1, P.2.2.2.1, P.2.2.2.2⟩
  clear hK K
  try simp only [List.getElem_toArray, List.getElem_cons_succ, List.getElem_cons_zero, Act.put, List.setIfInBounds_toArray, List.set_cons_zero, List.set_cons_succ]
  refine wpAnyH_take (i := 7) (v := ?_) rfl (by kernel_rfl) (by kernel_rfl) (by kernel_rfl) (fun _ _ _ h => h) (Or.inl ⟨by rfl, ?_⟩) (by assumption) ?_
  rotate_left
  · (intro w hSw; (try dsimp only at hSw); first | (go_simp; done) | (go_simp; with_reducible rfl))
  try simp only [List.getElem_toArray, List.getElem_cons_succ, List.getElem_cons_zero, Act.put, List.setIfInBounds_toArray, List.set_cons_zero, List.set_cons_succ]
  refine wpAnyH_take (i := 8) (v := ?_) rfl (by kernel_rfl) (by kernel_rfl) (by kernel_rfl) (fun _ _ _ h => h) (Or.inl ⟨by rfl, ?_⟩) (by assumption) ?_
  rotate_left
  · (intro w hSw; (try dsimp only at hSw); first | (go_simp; done) | (go_simp; with_reducible rfl))
  try simp only [List.getElem_toArray, List.getElem_cons_succ, List.getElem_cons_zero, Act.put, List.setIfInBounds_toArray, List.set_cons_zero, List.set_cons_succ]
  refine wpAnyH_take (i := 9) (v := ?_) rfl (by kernel_rfl) (by kernel_rfl) (by kernel_rfl) (fun _ _ _ h => h) (Or.inl ⟨by rfl, ?_⟩) (by assumption) ?_
  rotate_left
  · (intro w hSw; (try dsimp only at hSw); first | (go_simp; done) | (go_simp; with_reducible rfl))
  try simp only [List.getElem_toArray, List.getElem_cons_succ, List.getElem_cons_zero, Act.put, List.setIfInBounds_toArray, List.set_cons_zero, List.set_cons_succ]
  refine wpAnyH_take (i := 10) (v := ?_) rfl (by kernel_rfl) (by kernel_rfl) (by kernel_rfl) (fun _ _ _ h => h) (Or.inl ⟨by rfl, ?_⟩) (by assumption) ?_
  rotate_left
  · (intro w hSw; (try dsimp only at hSw); first | (go_simp; done) | (go_simp; with_reducible rfl))
  try simp only [List.getElem_toArray, List.getElem_cons_succ, List.getElem_cons_zero, Act.put, List.setIfInBounds_toArray, List.set_cons_zero, List.set_cons_succ]
  refine wpAnyH_take (i := 12) (v := ?_) rfl (by kernel_rfl) (by kernel_rfl) (by kernel_rfl) (fun _ _ _ h => h) (Or.inl ⟨by rfl, ?_⟩) (by assumption) ?_
  rotate_left
  · (intro w hSw; (try dsimp only at hSw); first | (go_simp; done) | (go_simp; with_reducible rfl))
  try simp only [List.getElem_toArray, List.getElem_cons_succ, List.getElem_cons_zero, Act.put, List.setIfInBounds_toArray, List.set_cons_zero, List.set_cons_succ]
  refine wpAnyH_take (i := 13) (v := ?_) rfl (by kernel_rfl) (by kernel_rfl) (by kernel_rfl) (fun _ _ _ h => h) (Or.inl ⟨by rfl, ?_⟩) (by assumption) ?_
  rotate_left
  · (intro w hSw; (try dsimp only at hSw); first | (go_simp; done) | (go_simp; with_reducible rfl))
  try simp only [List.getElem_toArray, List.getElem_cons_succ, List.getElem_cons_zero, Act.put, List.setIfInBounds_toArray, List.set_cons_zero, List.set_cons_succ]
  refine wpAnyH_take (i := 14) (v := ?_) rfl (by kernel_rfl) (by kernel_rfl) (by kernel_rfl) (fun _ _ _ h => h) (Or.inl ⟨by rfl, ?_⟩) (by assumption) ?_
  rotate_left
  · (intro w hSw; (try dsimp only at hSw); first | (go_simp; done) | (go_simp; with_reducible rfl))
  try simp only [List.getElem_toArray, List.getElem_cons_succ, List.getElem_cons_zero, Act.put, List.setIfInBounds_toArray, List.set_cons_zero, List.set_cons_succ]
  refine wpAnyH_ready (rs := [11]) (by kernel_rfl) (by simp) ?_
  refine AllReadyH.cons rfl (fun K hK => ?_) AllReadyH.nil
  go_simp
  refine (unhide HCM _).mono ?_
  rintro e wq ⟨rfl, bq⟩
  replace P := Box5.later (by exact P) bq
  replace f0 := fzF bq (World.block_lt_of_cell? _ _ (by exact r0)) (by exact f0)
  replace f1 := fzF bq (World.block_lt_of_cell? _ _ (by exact r1)) (by exact f1)
  replace r0 := cell_later bq (by exact r0)
  replace r1 := cell_later bq (by exact r1)
  replace BL := (show Below H w _ from by first | exact BL.trans (bq.mono (by exact Nat.le_trans (Nat.le_add_right _ _) kz)) | exact BL.drew.trans (bq.mono (by exact Nat.le_trans (Nat.le_add_right _ _) kz)))
  replace I := hide (show (TT.node op a b s m kid).In _ lo hi ad from by first | exact (unhide I).later (bq.mono (by exact Nat.le_trans hhi (Nat.le_trans (Nat.le_add_right _ _) kz))) | exact (unhide I).drew.later (bq.mono (by exact Nat.le_trans hhi (Nat.le_trans (Nat.le_add_right _ _) kz))))
  replace PL := hide (show Pl _ lo hi from by first | exact (unhide PL).later (bq.mono (by exact Nat.le_trans hhi (Nat.le_trans (Nat.le_add_right _ _) kz))) | exact (unhide PL).drew.later (bq.mono (by exact Nat.le_trans hhi (Nat.le_trans (Nat.le_add_right _ _) kz))))
  replace kz := Nat.le_trans kz bq.size
  clear bq
  go_wp2_with fail
  refine hK.out _ _ ?_ (fun hHeld => ?_)
  · exact ⟨P.1, P.2.1, P.2.2.1, P.2.2.2.1, P.2.2.2.2⟩
  clear hK K
  try simp only [List.getElem_toArray, List.getElem_cons_succ, List.getElem_cons_zero, Act.put, List.setIfInBounds_toArray, List.set_cons_zero, List.set_cons_succ]
  refine wpAnyH_take (i := 15) (v := ?_) rfl (by kernel_rfl) (by kernel_rfl) (by kernel_rfl) (fun _ _ _ h => h) (Or.inl ⟨by rfl, ?_⟩) (by assumption) ?_
  rotate_left
  · (intro w hSw; (try dsimp only at hSw); first | (go_simp; done) | (go_simp; with_reducible rfl))
  try simp only [List.getElem_toArray, List.getElem_cons_succ, List.getElem_cons_zero, Act.put, List.setIfInBounds_toArray, List.set_cons_zero, List.set_cons_succ]
  refine wpAnyH_take (i := 16) (v := ?_) rfl (by kernel_rfl) (by kernel_rfl) (by kernel_rfl) (fun _ _ _ h => h) (Or.inl ⟨by rfl, ?_⟩) (by assumption) ?_
  rotate_left
  · (intro w hSw; (try dsimp only at hSw); first | (go_simp; done) | (go_simp; with_reducible rfl))
  try simp only [List.getElem_toArray, List.getElem_cons_succ, List.getElem_cons_zero, Act.put, List.setIfInBounds_toArray, List.set_cons_zero, List.set_cons_succ]
  refine wpAnyH_done (by kernel_rfl) ?_ _
  have ta1 := @ta1_no T kv hT1
  have ta2 := @ta2_no T kv hT2
  have ta3 := @ta3_no T kv hT3
  go_wp2
  exact bodyPost_ret (v := .tuple #[.agg #[.int .i64 0, .int .i64 0], .bool false]) (by simp [results, Try.results14, go_sem, r0, r1]) rfl ⟨rfl, by rw [unhide HH]; first | exact (BL.setCell (by simp) _).setCell (by simp) _ | exact (BL.drew.setCell (Nat.le_add_right _ _) _).setCell (Nat.le_add_right _ _) _⟩
end Go.Proofs.Ythchjeddfpfplaa
