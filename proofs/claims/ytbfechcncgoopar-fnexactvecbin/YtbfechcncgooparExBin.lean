/- At every argument the program's VecBin answers as the model's, field by field: the law FnExactVecBin returns true for every operation and every two numbers, and leaves its arguments as they were. No condition. -/
import Derived.Test.YtbfechcncgooparVecH
import Derived.Test.YtbfechcncgooparVecL
import Derived.Deep.DeepCutAuto
namespace Go.Proofs.Ytbfechcncgoopar
open Go.ChangeShapes Go.WideShapes Go.ChangeAt Go.RowKit Go.Joins
open Go.ChangeMaps (open_string shut_string)
set_option linter.unusedVariables false
attribute [local go_sem ↓] Go.wp_at_zero Go.wp_at_succ
theorem two_set {W : World} {g : Nat} {c d x y : Value} (h0 : W.cell? ⟨g, 0, none⟩ = some x) (h1 : W.cell? ⟨g, 1, none⟩ = some y) :
    ((W.setCell ⟨g, 0, none⟩ c).setCell ⟨g, 1, none⟩ d).cell? ⟨g, 0, none⟩ = some c ∧ ((W.setCell ⟨g, 0, none⟩ c).setCell ⟨g, 1, none⟩ d).cell? ⟨g, 1, none⟩ = some d := by
  have k : (W.setCell ⟨g, 0, none⟩ c).cell? ⟨g, 1, none⟩ = some y := by rw [World.cell?_setCell_other _ _ _ _ (by simp)]; exact h1
  exact ⟨by rw [World.cell?_setCell_other _ _ _ _ (by simp)]; exact World.cell?_setCell_same _ _ _ h0, World.cell?_setCell_same _ _ _ k⟩
theorem below_lt {W w' : World} (h : Below W.heap.size W w') : ∀ n, n < W.heap.size → n < w'.heap.size := fun n k => Nat.lt_of_lt_of_le k h.size

namespace exBin
set_option maxHeartbeats 2000000 in
theorem walk (op : Int) (a0 a1 : Int) (b0 b1 : Int) (w : World) (wop : (Lit.int .i64 op).wf = true) (wa0 : (Lit.int .i64 a0).wf = true) (wa1 : (Lit.int .i64 a1).wf = true) (wb0 : (Lit.int .i64 b0).wf = true) (wb1 : (Lit.int .i64 b1).wf = true) :
    Calls Try.prog 5 #[.int .i64 op, .agg #[.int .i64 a0, .int .i64 a1], .agg #[.int .i64 b0, .int .i64 b1]] w fun e w' => e = .returned (.bool true) ∧ Below w.heap.size w w' := by
  obtain ⟨c, d, t, hV⟩ := binV_form op a0 a1 b0 b1
  have hs := fun w => sVecBin_any op a0 a1 b0 b1 w
  have hi := fun w => iVecBin_any op a0 a1 b0 b1 w
  simp only [hV] at hs hi
  have HS := hide hs
  have HI := hide hi
  clear hV hs hi
  have ht : (t != t) = false := by simp
  go_enter Try.func5, Try.ntmps5
  go_wp2
  have p00 : ((w.alloc (.cells #[.int .i64 a0, .int .i64 a1] 23)).alloc (.cells #[.int .i64 b0, .int .i64 b1] 23)).cell? ⟨w.heap.size, 0, none⟩ = some (.int .i64 a0) := by simp [go_sem]
  have p01 : ((w.alloc (.cells #[.int .i64 a0, .int .i64 a1] 23)).alloc (.cells #[.int .i64 b0, .int .i64 b1] 23)).cell? ⟨w.heap.size, 1, none⟩ = some (.int .i64 a1) := by simp [go_sem]
  have p10 : ((w.alloc (.cells #[.int .i64 a0, .int .i64 a1] 23)).alloc (.cells #[.int .i64 b0, .int .i64 b1] 23)).cell? ⟨w.heap.size + 1, 0, none⟩ = some (.int .i64 b0) := by simp [go_sem]
  have p11 : ((w.alloc (.cells #[.int .i64 a0, .int .i64 a1] 23)).alloc (.cells #[.int .i64 b0, .int .i64 b1] 23)).cell? ⟨w.heap.size + 1, 1, none⟩ = some (.int .i64 b1) := by simp [go_sem]
  have e0 : Below w.heap.size w ((w.alloc (.cells #[.int .i64 a0, .int .i64 a1] 23)).alloc (.cells #[.int .i64 b0, .int .i64 b1] 23)) := (((Below.refl w.heap.size w).alloc (by simp <;> omega) _).alloc (by simp <;> omega) _)
  generalize ((w.alloc (.cells #[.int .i64 a0, .int .i64 a1] 23)).alloc (.cells #[.int .i64 b0, .int .i64 b1] 23)) = W0 at *
  have m0 := Nat.ne_of_gt (World.block_lt_of_cell? _ _ p00)
  have k0 := Nat.ne_of_gt (World.block_lt_of_cell? _ _ p10)
  simp only at m0 k0
  go_cut [7, 8] (fun s1 s2 wx => ∃ gx, s1 = .pointer (some ⟨gx, 0, none⟩) ∧ s2 = .bool t ∧ gx < wx.heap.size ∧ wx.cell? ⟨gx, 0, none⟩ = some (.int .i64 c) ∧ wx.cell? ⟨gx, 1, none⟩ = some (.int .i64 d) ∧ (wx.cell? ⟨w.heap.size, 0, none⟩ = some (.int .i64 a0) ∧ wx.cell? ⟨w.heap.size, 1, none⟩ = some (.int .i64 a1) ∧ wx.cell? ⟨w.heap.size + 1, 0, none⟩ = some (.int .i64 b0) ∧ wx.cell? ⟨w.heap.size + 1, 1, none⟩ = some (.int .i64 b1)) ∧ Below w.heap.size w wx)
  case first =>
    go_region_held3 (fun w' => w'.cell? ⟨w.heap.size, 0, none⟩ = some (.int .i64 a0) ∧ w'.cell? ⟨w.heap.size, 1, none⟩ = some (.int .i64 a1) ∧ w'.cell? ⟨w.heap.size + 1, 0, none⟩ = some (.int .i64 b0) ∧ w'.cell? ⟨w.heap.size + 1, 1, none⟩ = some (.int .i64 b1)) (first | go_keep | exact ⟨p00, p01, p10, p11⟩)
      (first | (go_at_call_of 10 (Value.agg #[.int .i64 a0, .int .i64 a1]); refine (toVec_any a0 a1 _).mono ?_; rintro e wa1 ⟨rfl, ba1⟩; have p00 := cell_later ba1 (a := ⟨w.heap.size, 0, none⟩) (v := .int .i64 a0) (by first | assumption | simp [go_sem, *]); have p01 := cell_later ba1 (a := ⟨w.heap.size, 1, none⟩) (v := .int .i64 a1) (by first | assumption | simp [go_sem, *]); have p10 := cell_later ba1 (a := ⟨w.heap.size + 1, 0, none⟩) (v := .int .i64 b0) (by first | assumption | simp [go_sem, *]); have p11 := cell_later ba1 (a := ⟨w.heap.size + 1, 1, none⟩) (v := .int .i64 b1) (by first | assumption | simp [go_sem, *]); obtain ⟨hcba1, hfba1⟩ := bcell ba1; have hzba1 := below_lt ba1; (try simp only [World.size_alloc] at hzba1 hcba1 hfba1); have mp00ba1 := Nat.ne_of_gt (World.block_lt_of_cell? _ _ p00); simp only at mp00ba1; have mp10ba1 := Nat.ne_of_gt (World.block_lt_of_cell? _ _ p10); simp only at mp10ba1) | (go_at_call_of 10 (Value.agg #[.int .i64 b0, .int .i64 b1]); refine (toVec_any b0 b1 _).mono ?_; rintro e wb1 ⟨rfl, bb1⟩; have p00 := cell_later bb1 (a := ⟨w.heap.size, 0, none⟩) (v := .int .i64 a0) (by first | assumption | simp [go_sem, *]); have p01 := cell_later bb1 (a := ⟨w.heap.size, 1, none⟩) (v := .int .i64 a1) (by first | assumption | simp [go_sem, *]); have p10 := cell_later bb1 (a := ⟨w.heap.size + 1, 0, none⟩) (v := .int .i64 b0) (by first | assumption | simp [go_sem, *]); have p11 := cell_later bb1 (a := ⟨w.heap.size + 1, 1, none⟩) (v := .int .i64 b1) (by first | assumption | simp [go_sem, *]); obtain ⟨hcbb1, hfbb1⟩ := bcell bb1; have hzbb1 := below_lt bb1; (try simp only [World.size_alloc] at hzbb1 hcbb1 hfbb1); have mp00bb1 := Nat.ne_of_gt (World.block_lt_of_cell? _ _ p00); simp only at mp00bb1; have mp10bb1 := Nat.ne_of_gt (World.block_lt_of_cell? _ _ p10); simp only at mp10bb1; have sba1bb1 : wa1.heap.size ≤ wb1.heap.size := (by have h := bb1.size; (try simp at h); omega); have hzba1bb1 := fun n k => Nat.lt_of_lt_of_le (hzba1 n k) sba1bb1) | (go_at_call 15; refine (unhide HS _).mono ?_; rintro e wc1 ⟨rfl, bc1⟩; have p00 := cell_later bc1 (a := ⟨w.heap.size, 0, none⟩) (v := .int .i64 a0) (by first | assumption | simp [go_sem, *]); have p01 := cell_later bc1 (a := ⟨w.heap.size, 1, none⟩) (v := .int .i64 a1) (by first | assumption | simp [go_sem, *]); have p10 := cell_later bc1 (a := ⟨w.heap.size + 1, 0, none⟩) (v := .int .i64 b0) (by first | assumption | simp [go_sem, *]); have p11 := cell_later bc1 (a := ⟨w.heap.size + 1, 1, none⟩) (v := .int .i64 b1) (by first | assumption | simp [go_sem, *]); obtain ⟨hcbc1, hfbc1⟩ := bcell bc1; have hzbc1 := below_lt bc1; (try simp only [World.size_alloc] at hzbc1 hcbc1 hfbc1); have mp00bc1 := Nat.ne_of_gt (World.block_lt_of_cell? _ _ p00); simp only at mp00bc1; have mp10bc1 := Nat.ne_of_gt (World.block_lt_of_cell? _ _ p10); simp only at mp10bc1; have sba1bc1 : wa1.heap.size ≤ wc1.heap.size := (by have h := bc1.size; (try simp at h); omega); have hzba1bc1 := fun n k => Nat.lt_of_lt_of_le (hzba1 n k) sba1bc1; have sbb1bc1 : wb1.heap.size ≤ wc1.heap.size := (by have h := bc1.size; (try simp at h); omega); have hzbb1bc1 := fun n k => Nat.lt_of_lt_of_le (hzbb1 n k) sbb1bc1))
    all_goals go_wp2_with fail
    all_goals go_meet
    all_goals
      have z0 := e0.size
      have za := ba1.size
      have zb := bb1.size
      have zc := bc1.size
      try simp at za
      try simp at zb
      try simp at zc
      refine ⟨_, rfl, rfl, ?_, ?_, ?_, ?_, ?_⟩
      · first | omega | (simp [World.setCell]; done) | (simp [World.setCell]; omega)
      · first | (simp [go_sem]; done) | (refine (two_set (x := .int .i64 0) (y := .int .i64 0) ?_ ?_).1 <;> simp [*])
      · first | (simp [go_sem]; done) | (refine (two_set (x := .int .i64 0) (y := .int .i64 0) ?_ ?_).2 <;> simp [*])
      · assumption
      · repeat (first | exact e0 | refine Below.drew ?_ | refine Below.setCell ?_ (by first | omega | (simp; done) | (simp; omega)) _ | refine Below.alloc ?_ (by first | omega | (simp; done) | (simp; omega)) _ | refine Below.trans ?_ (bc1.mono (by first | omega | (simp; done) | (simp; omega))) | refine Below.trans ?_ (bb1.mono (by first | omega | (simp; done) | (simp; omega))) | refine Below.trans ?_ (ba1.mono (by first | omega | (simp; done) | (simp; omega))))
  case rest =>
    clear p00 p01 p10 p11 e0 m0 k0
    obtain ⟨g, rfl, rfl, hg, c0, c1, ⟨p00, p01, p10, p11⟩, e1⟩ := hcut
    have m1 := Nat.ne_of_gt (World.block_lt_of_cell? _ _ p00)
    have m2 := Nat.ne_of_gt (World.block_lt_of_cell? _ _ p10)
    have m3 := Nat.ne_of_gt (World.block_lt_of_cell? _ _ c0)
    simp only at m1 m2 m3
    go_wp2
    go_cut [9, 10] (fun s1 s2 wx => ∃ gx, s1 = .pointer (some ⟨gx, 0, none⟩) ∧ s2 = .bool t ∧ gx < wx.heap.size ∧ wx.cell? ⟨gx, 0, none⟩ = some (.int .i64 c) ∧ wx.cell? ⟨gx, 1, none⟩ = some (.int .i64 d) ∧ (wx.cell? ⟨w.heap.size, 0, none⟩ = some (.int .i64 a0) ∧ wx.cell? ⟨w.heap.size, 1, none⟩ = some (.int .i64 a1) ∧ wx.cell? ⟨w.heap.size + 1, 0, none⟩ = some (.int .i64 b0) ∧ wx.cell? ⟨w.heap.size + 1, 1, none⟩ = some (.int .i64 b1) ∧ wx.cell? ⟨g, 0, none⟩ = some (.int .i64 c) ∧ wx.cell? ⟨g, 1, none⟩ = some (.int .i64 d)) ∧ Below w.heap.size w wx)
    case first =>
      go_region_held3 (fun w' => w'.cell? ⟨w.heap.size, 0, none⟩ = some (.int .i64 a0) ∧ w'.cell? ⟨w.heap.size, 1, none⟩ = some (.int .i64 a1) ∧ w'.cell? ⟨w.heap.size + 1, 0, none⟩ = some (.int .i64 b0) ∧ w'.cell? ⟨w.heap.size + 1, 1, none⟩ = some (.int .i64 b1) ∧ w'.cell? ⟨g, 0, none⟩ = some (.int .i64 c) ∧ w'.cell? ⟨g, 1, none⟩ = some (.int .i64 d)) (first | go_keep | exact ⟨p00, p01, p10, p11, c0, c1⟩)
        (first | (go_at_call_of 10 (Value.agg #[.int .i64 a0, .int .i64 a1]); refine (toVec_any a0 a1 _).mono ?_; rintro e wa2 ⟨rfl, ba2⟩; have p00 := cell_later ba2 (a := ⟨w.heap.size, 0, none⟩) (v := .int .i64 a0) (by first | assumption | simp [go_sem, *]); have p01 := cell_later ba2 (a := ⟨w.heap.size, 1, none⟩) (v := .int .i64 a1) (by first | assumption | simp [go_sem, *]); have p10 := cell_later ba2 (a := ⟨w.heap.size + 1, 0, none⟩) (v := .int .i64 b0) (by first | assumption | simp [go_sem, *]); have p11 := cell_later ba2 (a := ⟨w.heap.size + 1, 1, none⟩) (v := .int .i64 b1) (by first | assumption | simp [go_sem, *]); have c0 := cell_later ba2 (a := ⟨g, 0, none⟩) (v := .int .i64 c) (by first | assumption | simp [go_sem, *]); have c1 := cell_later ba2 (a := ⟨g, 1, none⟩) (v := .int .i64 d) (by first | assumption | simp [go_sem, *]); obtain ⟨hcba2, hfba2⟩ := bcell ba2; have hzba2 := below_lt ba2; (try simp only [World.size_alloc] at hzba2 hcba2 hfba2); have mp00ba2 := Nat.ne_of_gt (World.block_lt_of_cell? _ _ p00); simp only at mp00ba2; have mp10ba2 := Nat.ne_of_gt (World.block_lt_of_cell? _ _ p10); simp only at mp10ba2; have mc0ba2 := Nat.ne_of_gt (World.block_lt_of_cell? _ _ c0); simp only at mc0ba2) | (go_at_call_of 10 (Value.agg #[.int .i64 b0, .int .i64 b1]); refine (toVec_any b0 b1 _).mono ?_; rintro e wb2 ⟨rfl, bb2⟩; have p00 := cell_later bb2 (a := ⟨w.heap.size, 0, none⟩) (v := .int .i64 a0) (by first | assumption | simp [go_sem, *]); have p01 := cell_later bb2 (a := ⟨w.heap.size, 1, none⟩) (v := .int .i64 a1) (by first | assumption | simp [go_sem, *]); have p10 := cell_later bb2 (a := ⟨w.heap.size + 1, 0, none⟩) (v := .int .i64 b0) (by first | assumption | simp [go_sem, *]); have p11 := cell_later bb2 (a := ⟨w.heap.size + 1, 1, none⟩) (v := .int .i64 b1) (by first | assumption | simp [go_sem, *]); have c0 := cell_later bb2 (a := ⟨g, 0, none⟩) (v := .int .i64 c) (by first | assumption | simp [go_sem, *]); have c1 := cell_later bb2 (a := ⟨g, 1, none⟩) (v := .int .i64 d) (by first | assumption | simp [go_sem, *]); obtain ⟨hcbb2, hfbb2⟩ := bcell bb2; have hzbb2 := below_lt bb2; (try simp only [World.size_alloc] at hzbb2 hcbb2 hfbb2); have mp00bb2 := Nat.ne_of_gt (World.block_lt_of_cell? _ _ p00); simp only at mp00bb2; have mp10bb2 := Nat.ne_of_gt (World.block_lt_of_cell? _ _ p10); simp only at mp10bb2; have mc0bb2 := Nat.ne_of_gt (World.block_lt_of_cell? _ _ c0); simp only at mc0bb2; have sba2bb2 : wa2.heap.size ≤ wb2.heap.size := (by have h := bb2.size; (try simp at h); omega); have hzba2bb2 := fun n k => Nat.lt_of_lt_of_le (hzba2 n k) sba2bb2) | (go_at_call 16; refine (unhide HI _).mono ?_; rintro e wc2 ⟨rfl, bc2⟩; have p00 := cell_later bc2 (a := ⟨w.heap.size, 0, none⟩) (v := .int .i64 a0) (by first | assumption | simp [go_sem, *]); have p01 := cell_later bc2 (a := ⟨w.heap.size, 1, none⟩) (v := .int .i64 a1) (by first | assumption | simp [go_sem, *]); have p10 := cell_later bc2 (a := ⟨w.heap.size + 1, 0, none⟩) (v := .int .i64 b0) (by first | assumption | simp [go_sem, *]); have p11 := cell_later bc2 (a := ⟨w.heap.size + 1, 1, none⟩) (v := .int .i64 b1) (by first | assumption | simp [go_sem, *]); have c0 := cell_later bc2 (a := ⟨g, 0, none⟩) (v := .int .i64 c) (by first | assumption | simp [go_sem, *]); have c1 := cell_later bc2 (a := ⟨g, 1, none⟩) (v := .int .i64 d) (by first | assumption | simp [go_sem, *]); obtain ⟨hcbc2, hfbc2⟩ := bcell bc2; have hzbc2 := below_lt bc2; (try simp only [World.size_alloc] at hzbc2 hcbc2 hfbc2); have mp00bc2 := Nat.ne_of_gt (World.block_lt_of_cell? _ _ p00); simp only at mp00bc2; have mp10bc2 := Nat.ne_of_gt (World.block_lt_of_cell? _ _ p10); simp only at mp10bc2; have mc0bc2 := Nat.ne_of_gt (World.block_lt_of_cell? _ _ c0); simp only at mc0bc2; have sba2bc2 : wa2.heap.size ≤ wc2.heap.size := (by have h := bc2.size; (try simp at h); omega); have hzba2bc2 := fun n k => Nat.lt_of_lt_of_le (hzba2 n k) sba2bc2; have sbb2bc2 : wb2.heap.size ≤ wc2.heap.size := (by have h := bc2.size; (try simp at h); omega); have hzbb2bc2 := fun n k => Nat.lt_of_lt_of_le (hzbb2 n k) sbb2bc2))
      all_goals go_wp2_with fail
      all_goals go_meet
      all_goals
        have z0 := e1.size
        have za := ba2.size
        have zb := bb2.size
        have zc := bc2.size
        try simp at za
        try simp at zb
        try simp at zc
        refine ⟨_, rfl, rfl, ?_, ?_, ?_, ?_, ?_⟩
        · first | omega | (simp [World.setCell]; done) | (simp [World.setCell]; omega)
        · first | (simp [go_sem]; done) | (refine (two_set (x := .int .i64 0) (y := .int .i64 0) ?_ ?_).1 <;> simp [*])
        · first | (simp [go_sem]; done) | (refine (two_set (x := .int .i64 0) (y := .int .i64 0) ?_ ?_).2 <;> simp [*])
        · assumption
        · repeat (first | exact e1 | refine Below.drew ?_ | refine Below.setCell ?_ (by first | omega | (simp; done) | (simp; omega)) _ | refine Below.alloc ?_ (by first | omega | (simp; done) | (simp; omega)) _ | refine Below.trans ?_ (bc2.mono (by first | omega | (simp; done) | (simp; omega))) | refine Below.trans ?_ (bb2.mono (by first | omega | (simp; done) | (simp; omega))) | refine Below.trans ?_ (ba2.mono (by first | omega | (simp; done) | (simp; omega))))
    case rest =>
      obtain ⟨g', rfl, rfl, hg', c0', c1', ⟨p00', p01', p10', p11', q0, q1⟩, e2⟩ := hcut
      go_wp2_with fail
      refine (eqVec_same _ _ _).mono ?_
      rintro e w5 ⟨rfl, b5⟩
      go_wp2
      go_ret
      have z5 := e2.size
      exact ⟨rfl, e2.trans (b5.mono (by omega))⟩

set_option maxRecDepth 100000 in
theorem lifted (os : Os) (started : os.Started) (H : Type) (enc : TypeId × Value → H) :
    ReturnsInHanded {} Try.checked os 5 .any (Rows.fnExactVecBinSpec.pre6 enc Try.prog Try.f5 Rows.fnExactVecBinRow.domain false) (Rows.fnExactVecBinSpec.post enc Try.prog Try.f5 false true false false) := by
  refine returnsInHanded_of_change (C := Try.checked) own started (by kernel_rfl) Try.func5
    (ChangeSpec.witness6 (enc := enc) (C := Try.checked) false ⟨#[], #[.int .i64 0, .agg #[.int .i64 0, .int .i64 0], .agg #[.int .i64 0, .int .i64 0]], []⟩ 8 (by kernel_rfl) (by kernel_rfl) (by kernel_rfl) (by kernel_rfl)) ?_
  intro W base args ds gs before hval0 hW hcnd _
  have hval : ∀ (j : Nat) t v, Try.f5.params[j]? = some t → args[j]? = some v → Value.okWide Try.prog W .any base t v := hval0
  have hW' := hW
  obtain ⟨p, q, hA0, hV, rfl, hfz, hnd⟩ := hW
  have hA : DataW.TrodAll enc Try.prog W 0 (fun _ => true) true Try.f5.params.toList args.toList ds p := hA0
  rw [Try.params5] at hA hval
  obtain ⟨v0, vs0, d0, ds0, p0, q0, hargs, rfl, rfl, h0, r0⟩ := trodAll_cons hA
  obtain ⟨v1, vs1, d1, ds1, p1, q1, rfl, rfl, rfl, h1, r1⟩ := trodAll_cons r0
  obtain ⟨v2, vs2, d2, ds2, p2, q2, rfl, rfl, rfl, h2, r2⟩ := trodAll_cons r1
  obtain ⟨rfl, rfl, rfl⟩ := trodAll_nil r2
  obtain rfl : args = #[v0, v1, v2] := by cases args; simp_all
  obtain ⟨rfl, rfl⟩ := trodVars_none hV
  obtain ⟨op, rfl, rfl, rfl, wop⟩ := open_int Try.underlying3 (hval 0 3 v0 rfl rfl) h0
  obtain ⟨c0_1, c1_1, y0_1, y1_1, m1, rfl, rfl, rfl, hy0_1, hy1_1⟩ := open_agg2 Try.underlying23 (by kernel_rfl) cellsV (hval 1 23 v1 rfl rfl) h1
  obtain ⟨a0, e0_1, rfl, wa0⟩ := DataW.trod_int Try.underlying3 hy0_1
  obtain ⟨a1, e1_1, rfl, wa1⟩ := DataW.trod_int Try.underlying3 hy1_1
  simp at e0_1 e1_1
  subst e0_1 e1_1
  obtain ⟨c0_2, c1_2, y0_2, y1_2, m2, rfl, rfl, rfl, hy0_2, hy1_2⟩ := open_agg2 Try.underlying23 (by kernel_rfl) cellsV (hval 2 23 v2 rfl rfl) h2
  obtain ⟨b0, e0_2, rfl, wb0⟩ := DataW.trod_int Try.underlying3 hy0_2
  obtain ⟨b1, e1_2, rfl, wb1⟩ := DataW.trod_int Try.underlying3 hy1_2
  simp at e0_2 e1_2
  subst e0_2 e1_2
  clear hA0 hval0
  refine (walk op a0 a1 b0 b1 W wop wa0 wa1 wb0 wb1).mono fun e W' ⟨he, bel⟩ => ?_
  subst he
  exact ⟨_, rfl, _, _, _, [], _, [], hW', trodAll_mk1 (shut_bool Try.underlying4 _), (trodAll_cons_mk (shut_int Try.underlying3 wop) (trodAll_cons_mk (vecReads enc a0 a1 wa0 wa1 _ _) (trodAll_cons_mk (vecReads enc b0 b1 wb0 wb1 _ _) trodAll_mk0))), rfl, bel.frame _, fun h => by cases h⟩

theorem over : Rows.fnExactVecBinRow.holds Try.pinned (OpenSpec.ofChange Rows.fnExactVecBinSpec) :=
  OpenClaim.holds_of_wide 5 Try.f5 rfl rfl rfl rfl rfl rfl rfl ⟨rfl, rfl, rfl, rfl, rfl⟩ rfl rfl rfl rfl rfl (by kernel_rfl) Try.func5 (by kernel_rfl)
    (of_decide_eq_true (by kernel_rfl)) (by unfold Func.isWrapper; first | (rw [if_pos (by decide +kernel)]; kernel_rfl) | (rw [if_neg (by decide +kernel)]; exact ⟨rfl, rfl⟩))
    (fun os started H enc _ => lifted os started H enc)
end exBin

theorem exBin_holds : Rows.FnExactVecBinSaid := exBin.over
#print axioms exBin_holds
end Go.Proofs.Ytbfechcncgoopar
