/- What a term is, if that is written there, of the program and of the model. -/
import Derived.Test.YthchjeddfpfplaaFixB
import Derived.Test.YthchjeddfpfplaaSamA
namespace Go.Proofs.Ythchjeddfpfplaa
open Go.ChangeShapes Go.WideShapes Go.ChangeAt Go.RowKit Go.Joins
set_option linter.unusedVariables false
set_option linter.unusedSimpArgs false

theorem ans_no {t : TT} (h : fixB t = false) : FixAns t (.returned (.tuple #[.agg #[.int .i64 0, .int .i64 0], .bool false])) := ⟨0, 0, by rw [h], fun k => by rw [h] at k; cases k⟩
theorem mk_list : (⟨#[]⟩ : ByteArray).toList = [] := empty_list
theorem fixed_name (lo hi : Nat) (op a b : Int) (s : ByteArray) (m : Nat) (kid : Nat → TT) (h : op = 21) (ad : Option Addr) (cp : Nat) (w : World) (hin : (TT.node op a b s m kid).In w lo hi ad) (hp : Pl w lo hi) (hhi : hi ≤ w.heap.size) (hlo : lo ≤ hi) (hf : (TT.node op a b s m kid).Fit 1048576) (hN : (TT.node op a b s m kid).N ≤ 1048577) :
    Calls Try.prog 14 #[.agg #[.int .i64 op, .int .i64 a, .int .i64 b, .string s, .slice ad m cp]] w fun e w' => FixAns (.node op a b s m kid) e ∧ Below w.heap.size w w' := by
  have hz : fixB (.node op a b s m kid) = false := fix_none (by show op ≠ 20; omega) (by show op ≠ 24; omega) (by show op ≠ 25; omega)
  by_cases hq : hsB 21 0 0 s op a b s = true ∧ (0 : Int) = m
  · refine (fx_other lo hi op a b s m kid 58 (.agg #[.string s]) (.agg #[.string s]) 52 51 21 0 0 s 0 (fun ad cp w => kind_name op a b s m ad cp w h) (mp_name s) (mm_name s) (entersF Try.func52 (by kernel_rfl) rfl) (entersF Try.func51 (by kernel_rfl) rfl) (part_name s) (many_name s) hq.1 hq.2 (by decide) (by decide) (by decide) ad cp w hin hp hhi).mono ?_
    rintro e w1 ⟨rfl, b1⟩
    exact ⟨ans_no hz, b1⟩
  · refine (fx_early lo hi op a b s m kid 58 (.agg #[.string s]) (.agg #[.string s]) 52 51 21 0 0 s 0 (fun ad cp w => kind_name op a b s m ad cp w h) (mp_name s) (mm_name s) (entersF Try.func52 (by kernel_rfl) rfl) (entersF Try.func51 (by kernel_rfl) rfl) (part_name s) (many_name s) hq ad cp w hin hp hhi).mono ?_
    rintro e w1 ⟨rfl, b1⟩
    exact ⟨ans_no hz, b1⟩
theorem fixed_un (lo hi : Nat) (op a b : Int) (s : ByteArray) (m : Nat) (kid : Nat → TT) (h : op = 1 ∨ op = 2) (ad : Option Addr) (cp : Nat) (w : World) (hin : (TT.node op a b s m kid).In w lo hi ad) (hp : Pl w lo hi) (hhi : hi ≤ w.heap.size) (hlo : lo ≤ hi) (hf : (TT.node op a b s m kid).Fit 1048576) (hN : (TT.node op a b s m kid).N ≤ 1048577) :
    Calls Try.prog 14 #[.agg #[.int .i64 op, .int .i64 a, .int .i64 b, .string s, .slice ad m cp]] w fun e w' => FixAns (.node op a b s m kid) e ∧ Below w.heap.size w w' := by
  have hz : fixB (.node op a b s m kid) = false := fix_none (by show op ≠ 20; omega) (by show op ≠ 24; omega) (by show op ≠ 25; omega)
  by_cases hq : hsB op 0 0 ⟨#[]⟩ op a b s = true ∧ (1 : Int) = m
  · refine (fx_other lo hi op a b s m kid 59 (.agg #[.int .i64 op]) (.int .i64 op) 47 55 op 0 0 ⟨#[]⟩ 1 (fun ad cp w => kind_un op a b s m ad cp w h) (mp_un op) (mm_un op) (entersF Try.func47 (by kernel_rfl) rfl) (entersF Try.func55 (by kernel_rfl) rfl) (part_bare op) (many_un op) hq.1 hq.2 (by decide) (by decide) (by decide) ad cp w hin hp hhi).mono ?_
    rintro e w1 ⟨rfl, b1⟩
    exact ⟨ans_no hz, b1⟩
  · refine (fx_early lo hi op a b s m kid 59 (.agg #[.int .i64 op]) (.int .i64 op) 47 55 op 0 0 ⟨#[]⟩ 1 (fun ad cp w => kind_un op a b s m ad cp w h) (mp_un op) (mm_un op) (entersF Try.func47 (by kernel_rfl) rfl) (entersF Try.func55 (by kernel_rfl) rfl) (part_bare op) (many_un op) hq ad cp w hin hp hhi).mono ?_
    rintro e w1 ⟨rfl, b1⟩
    exact ⟨ans_no hz, b1⟩
theorem fixed_bin (lo hi : Nat) (op a b : Int) (s : ByteArray) (m : Nat) (kid : Nat → TT) (h : op = 3 ∨ op = 4 ∨ op = 5 ∨ op = 6 ∨ op = 7 ∨ op = 8 ∨ op = 9 ∨ op = 10 ∨ op = 11 ∨ op = 12 ∨ op = 13 ∨ op = 14) (ad : Option Addr) (cp : Nat) (w : World) (hin : (TT.node op a b s m kid).In w lo hi ad) (hp : Pl w lo hi) (hhi : hi ≤ w.heap.size) (hlo : lo ≤ hi) (hf : (TT.node op a b s m kid).Fit 1048576) (hN : (TT.node op a b s m kid).N ≤ 1048577) :
    Calls Try.prog 14 #[.agg #[.int .i64 op, .int .i64 a, .int .i64 b, .string s, .slice ad m cp]] w fun e w' => FixAns (.node op a b s m kid) e ∧ Below w.heap.size w w' := by
  have hz : fixB (.node op a b s m kid) = false := fix_none (by show op ≠ 20; omega) (by show op ≠ 24; omega) (by show op ≠ 25; omega)
  by_cases hq : hsB op 0 0 ⟨#[]⟩ op a b s = true ∧ (2 : Int) = m
  · refine (fx_other lo hi op a b s m kid 60 (.agg #[.int .i64 op]) (.int .i64 op) 47 57 op 0 0 ⟨#[]⟩ 2 (fun ad cp w => kind_bin op a b s m ad cp w h) (mp_bin op) (mm_bin op) (entersF Try.func47 (by kernel_rfl) rfl) (entersF Try.func57 (by kernel_rfl) rfl) (part_bare op) (many_bin op) hq.1 hq.2 (by decide) (by decide) (by decide) ad cp w hin hp hhi).mono ?_
    rintro e w1 ⟨rfl, b1⟩
    exact ⟨ans_no hz, b1⟩
  · refine (fx_early lo hi op a b s m kid 60 (.agg #[.int .i64 op]) (.int .i64 op) 47 57 op 0 0 ⟨#[]⟩ 2 (fun ad cp w => kind_bin op a b s m ad cp w h) (mp_bin op) (mm_bin op) (entersF Try.func47 (by kernel_rfl) rfl) (entersF Try.func57 (by kernel_rfl) rfl) (part_bare op) (many_bin op) hq ad cp w hin hp hhi).mono ?_
    rintro e w1 ⟨rfl, b1⟩
    exact ⟨ans_no hz, b1⟩
theorem fixed_cmp (lo hi : Nat) (op a b : Int) (s : ByteArray) (m : Nat) (kid : Nat → TT) (h : op = 15 ∨ op = 16 ∨ op = 17) (ad : Option Addr) (cp : Nat) (w : World) (hin : (TT.node op a b s m kid).In w lo hi ad) (hp : Pl w lo hi) (hhi : hi ≤ w.heap.size) (hlo : lo ≤ hi) (hf : (TT.node op a b s m kid).Fit 1048576) (hN : (TT.node op a b s m kid).N ≤ 1048577) :
    Calls Try.prog 14 #[.agg #[.int .i64 op, .int .i64 a, .int .i64 b, .string s, .slice ad m cp]] w fun e w' => FixAns (.node op a b s m kid) e ∧ Below w.heap.size w w' := by
  have hz : fixB (.node op a b s m kid) = false := fix_none (by show op ≠ 20; omega) (by show op ≠ 24; omega) (by show op ≠ 25; omega)
  by_cases hq : hsB op 0 0 ⟨#[]⟩ op a b s = true ∧ (2 : Int) = m
  · refine (fx_other lo hi op a b s m kid 61 (.agg #[.int .i64 op]) (.int .i64 op) 47 59 op 0 0 ⟨#[]⟩ 2 (fun ad cp w => kind_cmp op a b s m ad cp w h) (mp_cmp op) (mm_cmp op) (entersF Try.func47 (by kernel_rfl) rfl) (entersF Try.func59 (by kernel_rfl) rfl) (part_bare op) (many_cmp op) hq.1 hq.2 (by decide) (by decide) (by decide) ad cp w hin hp hhi).mono ?_
    rintro e w1 ⟨rfl, b1⟩
    exact ⟨ans_no hz, b1⟩
  · refine (fx_early lo hi op a b s m kid 61 (.agg #[.int .i64 op]) (.int .i64 op) 47 59 op 0 0 ⟨#[]⟩ 2 (fun ad cp w => kind_cmp op a b s m ad cp w h) (mp_cmp op) (mm_cmp op) (entersF Try.func47 (by kernel_rfl) rfl) (entersF Try.func59 (by kernel_rfl) rfl) (part_bare op) (many_cmp op) hq ad cp w hin hp hhi).mono ?_
    rintro e w1 ⟨rfl, b1⟩
    exact ⟨ans_no hz, b1⟩
theorem fixed_cut (lo hi : Nat) (op a b : Int) (s : ByteArray) (m : Nat) (kid : Nat → TT) (h : op = 22) (ad : Option Addr) (cp : Nat) (w : World) (hin : (TT.node op a b s m kid).In w lo hi ad) (hp : Pl w lo hi) (hhi : hi ≤ w.heap.size) (hlo : lo ≤ hi) (hf : (TT.node op a b s m kid).Fit 1048576) (hN : (TT.node op a b s m kid).N ≤ 1048577) :
    Calls Try.prog 14 #[.agg #[.int .i64 op, .int .i64 a, .int .i64 b, .string s, .slice ad m cp]] w fun e w' => FixAns (.node op a b s m kid) e ∧ Below w.heap.size w w' := by
  have hz : fixB (.node op a b s m kid) = false := fix_none (by show op ≠ 20; omega) (by show op ≠ 24; omega) (by show op ≠ 25; omega)
  by_cases hq : hsB 22 a b ⟨#[]⟩ op a b s = true ∧ (1 : Int) = m
  · refine (fx_other lo hi op a b s m kid 63 (.agg #[.int .i64 a, .int .i64 b]) (.agg #[.int .i64 a, .int .i64 b]) 62 61 22 a b ⟨#[]⟩ 1 (fun ad cp w => kind_cut op a b s m ad cp w h) (mp_cut a b) (mm_cut a b) (entersF Try.func62 (by kernel_rfl) rfl) (entersF Try.func61 (by kernel_rfl) rfl) (part_cut a b) (many_cut a b) hq.1 hq.2 (by decide) (by decide) (by decide) ad cp w hin hp hhi).mono ?_
    rintro e w1 ⟨rfl, b1⟩
    exact ⟨ans_no hz, b1⟩
  · refine (fx_early lo hi op a b s m kid 63 (.agg #[.int .i64 a, .int .i64 b]) (.agg #[.int .i64 a, .int .i64 b]) 62 61 22 a b ⟨#[]⟩ 1 (fun ad cp w => kind_cut op a b s m ad cp w h) (mp_cut a b) (mm_cut a b) (entersF Try.func62 (by kernel_rfl) rfl) (entersF Try.func61 (by kernel_rfl) rfl) (part_cut a b) (many_cut a b) hq ad cp w hin hp hhi).mono ?_
    rintro e w1 ⟨rfl, b1⟩
    exact ⟨ans_no hz, b1⟩
theorem fixed_iff (lo hi : Nat) (op a b : Int) (s : ByteArray) (m : Nat) (kid : Nat → TT) (h : op = 23) (ad : Option Addr) (cp : Nat) (w : World) (hin : (TT.node op a b s m kid).In w lo hi ad) (hp : Pl w lo hi) (hhi : hi ≤ w.heap.size) (hlo : lo ≤ hi) (hf : (TT.node op a b s m kid).Fit 1048576) (hN : (TT.node op a b s m kid).N ≤ 1048577) :
    Calls Try.prog 14 #[.agg #[.int .i64 op, .int .i64 a, .int .i64 b, .string s, .slice ad m cp]] w fun e w' => FixAns (.node op a b s m kid) e ∧ Below w.heap.size w w' := by
  have hz : fixB (.node op a b s m kid) = false := fix_none (by show op ≠ 20; omega) (by show op ≠ 24; omega) (by show op ≠ 25; omega)
  by_cases hq : hsB op 0 0 ⟨#[]⟩ op a b s = true ∧ (3 : Int) = m
  · refine (fx_other lo hi op a b s m kid 64 (.agg #[.int .i64 op]) (.int .i64 op) 47 65 op 0 0 ⟨#[]⟩ 3 (fun ad cp w => kind_iff op a b s m ad cp w h) (mp_iff op) (mm_iff op) (entersF Try.func47 (by kernel_rfl) rfl) (entersF Try.func65 (by kernel_rfl) rfl) (part_bare op) (many_iff op) hq.1 hq.2 (by decide) (by decide) (by decide) ad cp w hin hp hhi).mono ?_
    rintro e w1 ⟨rfl, b1⟩
    exact ⟨ans_no hz, b1⟩
  · refine (fx_early lo hi op a b s m kid 64 (.agg #[.int .i64 op]) (.int .i64 op) 47 65 op 0 0 ⟨#[]⟩ 3 (fun ad cp w => kind_iff op a b s m ad cp w h) (mp_iff op) (mm_iff op) (entersF Try.func47 (by kernel_rfl) rfl) (entersF Try.func65 (by kernel_rfl) rfl) (part_bare op) (many_iff op) hq ad cp w hin hp hhi).mono ?_
    rintro e w1 ⟨rfl, b1⟩
    exact ⟨ans_no hz, b1⟩
theorem fixed_both (lo hi : Nat) (op a b : Int) (s : ByteArray) (m : Nat) (kid : Nat → TT) (h : op = 26) (ad : Option Addr) (cp : Nat) (w : World) (hin : (TT.node op a b s m kid).In w lo hi ad) (hp : Pl w lo hi) (hhi : hi ≤ w.heap.size) (hlo : lo ≤ hi) (hf : (TT.node op a b s m kid).Fit 1048576) (hN : (TT.node op a b s m kid).N ≤ 1048577) :
    Calls Try.prog 14 #[.agg #[.int .i64 op, .int .i64 a, .int .i64 b, .string s, .slice ad m cp]] w fun e w' => FixAns (.node op a b s m kid) e ∧ Below w.heap.size w w' := by
  have hz : fixB (.node op a b s m kid) = false := fix_none (by show op ≠ 20; omega) (by show op ≠ 24; omega) (by show op ≠ 25; omega)
  by_cases hq : hsB op 0 0 ⟨#[]⟩ op a b s = true ∧ (2 : Int) = m
  · refine (fx_other lo hi op a b s m kid 65 (.agg #[.int .i64 op]) (.int .i64 op) 47 67 op 0 0 ⟨#[]⟩ 2 (fun ad cp w => kind_both op a b s m ad cp w h) (mp_both op) (mm_both op) (entersF Try.func47 (by kernel_rfl) rfl) (entersF Try.func67 (by kernel_rfl) rfl) (part_bare op) (many_both op) hq.1 hq.2 (by decide) (by decide) (by decide) ad cp w hin hp hhi).mono ?_
    rintro e w1 ⟨rfl, b1⟩
    exact ⟨ans_no hz, b1⟩
  · refine (fx_early lo hi op a b s m kid 65 (.agg #[.int .i64 op]) (.int .i64 op) 47 67 op 0 0 ⟨#[]⟩ 2 (fun ad cp w => kind_both op a b s m ad cp w h) (mp_both op) (mm_both op) (entersF Try.func47 (by kernel_rfl) rfl) (entersF Try.func67 (by kernel_rfl) rfl) (part_bare op) (many_both op) hq ad cp w hin hp hhi).mono ?_
    rintro e w1 ⟨rfl, b1⟩
    exact ⟨ans_no hz, b1⟩
theorem fixed_any (lo hi : Nat) (op a b : Int) (s : ByteArray) (m : Nat) (kid : Nat → TT) (h : op = 27) (ad : Option Addr) (cp : Nat) (w : World) (hin : (TT.node op a b s m kid).In w lo hi ad) (hp : Pl w lo hi) (hhi : hi ≤ w.heap.size) (hlo : lo ≤ hi) (hf : (TT.node op a b s m kid).Fit 1048576) (hN : (TT.node op a b s m kid).N ≤ 1048577) :
    Calls Try.prog 14 #[.agg #[.int .i64 op, .int .i64 a, .int .i64 b, .string s, .slice ad m cp]] w fun e w' => FixAns (.node op a b s m kid) e ∧ Below w.heap.size w w' := by
  have hz : fixB (.node op a b s m kid) = false := fix_none (by show op ≠ 20; omega) (by show op ≠ 24; omega) (by show op ≠ 25; omega)
  by_cases hq : hsB op 0 0 ⟨#[]⟩ op a b s = true ∧ (2 : Int) = m
  · refine (fx_other lo hi op a b s m kid 66 (.agg #[.int .i64 op]) (.int .i64 op) 47 69 op 0 0 ⟨#[]⟩ 2 (fun ad cp w => kind_any op a b s m ad cp w h) (mp_any op) (mm_any op) (entersF Try.func47 (by kernel_rfl) rfl) (entersF Try.func69 (by kernel_rfl) rfl) (part_bare op) (many_any op) hq.1 hq.2 (by decide) (by decide) (by decide) ad cp w hin hp hhi).mono ?_
    rintro e w1 ⟨rfl, b1⟩
    exact ⟨ans_no hz, b1⟩
  · refine (fx_early lo hi op a b s m kid 66 (.agg #[.int .i64 op]) (.int .i64 op) 47 69 op 0 0 ⟨#[]⟩ 2 (fun ad cp w => kind_any op a b s m ad cp w h) (mp_any op) (mm_any op) (entersF Try.func47 (by kernel_rfl) rfl) (entersF Try.func69 (by kernel_rfl) rfl) (part_bare op) (many_any op) hq ad cp w hin hp hhi).mono ?_
    rintro e w1 ⟨rfl, b1⟩
    exact ⟨ans_no hz, b1⟩
theorem fixed_vec (lo hi : Nat) (op a b : Int) (s : ByteArray) (m : Nat) (kid : Nat → TT) (h : op = 20) (ad : Option Addr) (cp : Nat) (w : World) (hin : (TT.node op a b s m kid).In w lo hi ad) (hp : Pl w lo hi) (hhi : hi ≤ w.heap.size) (hlo : lo ≤ hi) (hf : (TT.node op a b s m kid).Fit 1048576) (hN : (TT.node op a b s m kid).N ≤ 1048577) :
    Calls Try.prog 14 #[.agg #[.int .i64 op, .int .i64 a, .int .i64 b, .string s, .slice ad m cp]] w fun e w' => FixAns (.node op a b s m kid) e ∧ Below w.heap.size w w' := by
  by_cases hq : hsB 20 a b ⟨#[]⟩ op a b s = true ∧ (0 : Int) = m
  · obtain ⟨k1, k2, k3, k4⟩ := (hsB_iff _ _ _ _ _ _ _ _).1 hq.1
    have hm : m = 0 := by have := hq.2; omega
    have hv : vecB (.node op a b s m kid) = okB a b := by
      cases ho : okB a b
      · exact vecB_no (fun k => by have k5 : okB a b = true := k.2.2.2; rw [ho] at k5; cases k5)
      · exact vecB_yes ⟨h, hm, k4.symm.trans mk_list, ho⟩
    have hx := fix_vec (t := .node op a b s m kid) h
    refine (fx_vecs lo hi op a b s m kid 50 (.agg #[.int .i64 a, .int .i64 b]) (.agg #[.int .i64 a, .int .i64 b]) rfl rfl 41 40 20 a b ⟨#[]⟩ 0 (fun ad cp w => kind_vec op a b s m ad cp w h) (mp_vec a b) (mm_vec a b) (entersF Try.func41 (by kernel_rfl) rfl) (entersF Try.func40 (by kernel_rfl) rfl) (part_vec a b) (many_vec a b) hq.1 hq.2 ad cp w hin hp hhi).mono ?_
    rintro e w1 ⟨rfl, b1⟩
    exact ⟨⟨a, b, by rw [hx.1, hv], fun k => ⟨by simp [fixW, TT.op, TT.a, h], (hx.2 (by rw [← hx.1]; exact k)).symm⟩⟩, b1⟩
  · have hz : fixB (.node op a b s m kid) = false := by rw [(fix_vec (t := .node op a b s m kid) h).1]; exact vecB_no (fun k => hq ⟨(hsB_iff _ _ _ _ _ _ _ _).2 ⟨h.symm, rfl, rfl, mk_list.trans (show s.toList = [] from k.2.2.1).symm⟩, by have : m = 0 := k.2.1; omega⟩)
    refine (fx_early lo hi op a b s m kid 50 (.agg #[.int .i64 a, .int .i64 b]) (.agg #[.int .i64 a, .int .i64 b]) 41 40 20 a b ⟨#[]⟩ 0 (fun ad cp w => kind_vec op a b s m ad cp w h) (mp_vec a b) (mm_vec a b) (entersF Try.func41 (by kernel_rfl) rfl) (entersF Try.func40 (by kernel_rfl) rfl) (part_vec a b) (many_vec a b) hq ad cp w hin hp hhi).mono ?_
    rintro e w1 ⟨rfl, b1⟩
    exact ⟨ans_no hz, b1⟩
theorem fixed_tru (lo hi : Nat) (op a b : Int) (s : ByteArray) (m : Nat) (kid : Nat → TT) (h : op = 24) (ad : Option Addr) (cp : Nat) (w : World) (hin : (TT.node op a b s m kid).In w lo hi ad) (hp : Pl w lo hi) (hhi : hi ≤ w.heap.size) (hlo : lo ≤ hi) (hf : (TT.node op a b s m kid).Fit 1048576) (hN : (TT.node op a b s m kid).N ≤ 1048577) :
    Calls Try.prog 14 #[.agg #[.int .i64 op, .int .i64 a, .int .i64 b, .string s, .slice ad m cp]] w fun e w' => FixAns (.node op a b s m kid) e ∧ Below w.heap.size w w' := by
  by_cases hq : hsB 24 0 0 ⟨#[]⟩ op a b s = true ∧ (0 : Int) = m
  · obtain ⟨k1, k2, k3, k4⟩ := (hsB_iff _ _ _ _ _ _ _ _).1 hq.1
    have hm : m = 0 := by have := hq.2; omega
    have hv : sameB (.node op a b s m kid) truT = true := sameB_yes ((same_tru _).2 ⟨h, k2.symm, k3.symm, k4.symm.trans mk_list, hm⟩)
    have hx := fix_tru (t := .node op a b s m kid) h
    refine (fx_trus lo hi op a b s m kid 52 (.agg #[]) (.agg #[]) rfl rfl 22 44 24 0 0 ⟨#[]⟩ 0 (fun ad cp w => kind_tru op a b s m ad cp w h) (mp_tru ) (mm_tru ) (entersF Try.func22 (by kernel_rfl) rfl) (entersF Try.func44 (by kernel_rfl) rfl) (part_tru) (many_tru ) hq.1 hq.2 ad cp w hin hp hhi).mono ?_
    rintro e w1 ⟨rfl, b1⟩
    exact ⟨⟨0, 1, by rw [hx.1, hv], fun k => ⟨by simp [fixW, TT.op, h], (hx.2 hv).symm⟩⟩, b1⟩
  · have hz : fixB (.node op a b s m kid) = false := by rw [(fix_tru (t := .node op a b s m kid) h).1]; exact sameB_no (fun k => hq (by obtain ⟨q1, q2, q3, q4, q5⟩ := (same_tru _).1 k; exact ⟨(hsB_iff _ _ _ _ _ _ _ _).2 ⟨h.symm, (show a = 0 from q2).symm, (show b = 0 from q3).symm, mk_list.trans (show s.toList = [] from q4).symm⟩, by have : m = 0 := q5; omega⟩))
    refine (fx_early lo hi op a b s m kid 52 (.agg #[]) (.agg #[]) 22 44 24 0 0 ⟨#[]⟩ 0 (fun ad cp w => kind_tru op a b s m ad cp w h) (mp_tru ) (mm_tru ) (entersF Try.func22 (by kernel_rfl) rfl) (entersF Try.func44 (by kernel_rfl) rfl) (part_tru) (many_tru ) hq ad cp w hin hp hhi).mono ?_
    rintro e w1 ⟨rfl, b1⟩
    exact ⟨ans_no hz, b1⟩
theorem fixed_no (lo hi : Nat) (op a b : Int) (s : ByteArray) (m : Nat) (kid : Nat → TT) (h : op = 25) (ad : Option Addr) (cp : Nat) (w : World) (hin : (TT.node op a b s m kid).In w lo hi ad) (hp : Pl w lo hi) (hhi : hi ≤ w.heap.size) (hlo : lo ≤ hi) (hf : (TT.node op a b s m kid).Fit 1048576) (hN : (TT.node op a b s m kid).N ≤ 1048577) :
    Calls Try.prog 14 #[.agg #[.int .i64 op, .int .i64 a, .int .i64 b, .string s, .slice ad m cp]] w fun e w' => FixAns (.node op a b s m kid) e ∧ Below w.heap.size w w' := by
  by_cases hq : hsB op 0 0 ⟨#[]⟩ op a b s = true ∧ (1 : Int) = m
  · obtain ⟨k1, k2, k3, k4⟩ := (hsB_iff _ _ _ _ _ _ _ _).1 hq.1
    have hm : m = 1 := by have := hq.2; omega
    have hv : sameB (.node op a b s m kid) falT = sameB (kid 0) truT := by
      cases ho : sameB (kid 0) truT
      · exact sameB_no (fun k => by have k5 : (kid 0).Same truT := ((same_fal _).1 k).2.2.2.2.2; rw [sameB_yes k5] at ho; cases ho)
      · exact sameB_yes ((same_fal _).2 ⟨h, k2.symm, k3.symm, k4.symm.trans mk_list, hm, (sameB_iff _ _).1 ho⟩)
    have hx := fix_fal (t := .node op a b s m kid) h
    refine (fx_nos lo hi op a b s m kid 56 (.agg #[.int .i64 op]) (.int .i64 op) rfl rfl 47 49 op 0 0 ⟨#[]⟩ 1 (fun ad cp w => kind_no op a b s m ad cp w h) (mp_no op) (mm_no op) (entersF Try.func47 (by kernel_rfl) rfl) (entersF Try.func49 (by kernel_rfl) rfl) (part_bare op) (many_no op) hq.1 hq.2 rfl hlo hf hN ad cp w hin hp hhi).mono ?_
    rintro e w1 ⟨rfl, b1⟩
    exact ⟨⟨0, 0, by rw [hx.1, hv], fun k => ⟨by simp [fixW, TT.op, h], (hx.2 (by rw [← hx.1]; exact k)).symm⟩⟩, b1⟩
  · have hz : fixB (.node op a b s m kid) = false := by rw [(fix_fal (t := .node op a b s m kid) h).1]; exact sameB_no (fun k => hq (by obtain ⟨q1, q2, q3, q4, q5, _⟩ := (same_fal _).1 k; exact ⟨(hsB_iff _ _ _ _ _ _ _ _).2 ⟨rfl, (show a = 0 from q2).symm, (show b = 0 from q3).symm, mk_list.trans (show s.toList = [] from q4).symm⟩, by have : m = 1 := q5; omega⟩))
    refine (fx_early lo hi op a b s m kid 56 (.agg #[.int .i64 op]) (.int .i64 op) 47 49 op 0 0 ⟨#[]⟩ 1 (fun ad cp w => kind_no op a b s m ad cp w h) (mp_no op) (mm_no op) (entersF Try.func47 (by kernel_rfl) rfl) (entersF Try.func49 (by kernel_rfl) rfl) (part_bare op) (many_no op) hq ad cp w hin hp hhi).mono ?_
    rintro e w1 ⟨rfl, b1⟩
    exact ⟨ans_no hz, b1⟩
theorem iFix_any (lo hi : Nat) (t : TT) (ad : Option Addr) (cp : Nat) (w : World) (hin : t.In w lo hi ad) (hp : Pl w lo hi) (hhi : hi ≤ w.heap.size) (hlo : lo ≤ hi) (hf : t.Fit 1048576) (hN : t.N ≤ 1048577) :
    Calls Try.prog 14 #[.agg #[.int .i64 t.op, .int .i64 t.a, .int .i64 t.b, .string t.s, .slice ad t.n cp]] w fun e w' => FixAns t e ∧ Below w.heap.size w w' := by
  cases t with
  | nil => exact hin.elim
  | node op a b s m kid =>
    have hc : (op < 1 ∨ 27 < op ∨ op = 18 ∨ op = 19) ∨ (op = 21) ∨ (op = 1 ∨ op = 2) ∨ (op = 3 ∨ op = 4 ∨ op = 5 ∨ op = 6 ∨ op = 7 ∨ op = 8 ∨ op = 9 ∨ op = 10 ∨ op = 11 ∨ op = 12 ∨ op = 13 ∨ op = 14) ∨ (op = 15 ∨ op = 16 ∨ op = 17) ∨ op = 22 ∨ op = 23 ∨ op = 26 ∨ op = 27 ∨ op = 20 ∨ op = 24 ∨ op = 25 := by omega
    rcases hc with h | h | h | h | h | h | h | h | h | h | h | h
    · refine (fx_none lo hi op a b s m kid h ad cp w hin hp hhi).mono ?_
      rintro e w1 ⟨rfl, b1⟩
      exact ⟨ans_no (fix_none (by show op ≠ 20; omega) (by show op ≠ 24; omega) (by show op ≠ 25; omega)), b1⟩
    · exact fixed_name lo hi op a b s m kid h ad cp w hin hp hhi hlo hf hN
    · exact fixed_un lo hi op a b s m kid h ad cp w hin hp hhi hlo hf hN
    · exact fixed_bin lo hi op a b s m kid h ad cp w hin hp hhi hlo hf hN
    · exact fixed_cmp lo hi op a b s m kid h ad cp w hin hp hhi hlo hf hN
    · exact fixed_cut lo hi op a b s m kid h ad cp w hin hp hhi hlo hf hN
    · exact fixed_iff lo hi op a b s m kid h ad cp w hin hp hhi hlo hf hN
    · exact fixed_both lo hi op a b s m kid h ad cp w hin hp hhi hlo hf hN
    · exact fixed_any lo hi op a b s m kid h ad cp w hin hp hhi hlo hf hN
    · exact fixed_vec lo hi op a b s m kid h ad cp w hin hp hhi hlo hf hN
    · exact fixed_tru lo hi op a b s m kid h ad cp w hin hp hhi hlo hf hN
    · exact fixed_no lo hi op a b s m kid h ad cp w hin hp hhi hlo hf hN
set_option maxHeartbeats 2000000 in
theorem iFixed_any (lo hi : Nat) (t : TT) (ad : Option Addr) (cp : Nat) (w : World) (hin : t.In w lo hi ad) (hp : Pl w lo hi) (hhi : hi ≤ w.heap.size) (hlo : lo ≤ hi) (hf : t.Fit 1048576) (hN : t.N ≤ 1048577) :
    Calls Try.prog 7 #[.agg #[.int .i64 t.op, .int .i64 t.a, .int .i64 t.b, .string t.s, .slice ad t.n cp]] w fun e w' => e = .returned (.tuple #[.int .i64 (fixN t), .bool (fixB t)]) ∧ Below w.heap.size w w' := by
  have hz : fixB t = false → fixN t = 0 := by
    intro h
    unfold fixB at h
    simp only [Bool.or_eq_false_iff] at h
    unfold fixN
    rw [h.1.1, h.1.2, h.2]
    rfl
  go_enter Try.func7, Try.ntmps7
  go_wp2_with fail
  have e1 := (Below.refl w.heap.size w).alloc (Nat.le_refl _) (.cells #[.int .i64 t.op, .int .i64 t.a, .int .i64 t.b, .string t.s, .slice ad t.n cp] 30)
  refine (iFix_any lo hi t ad cp _ (hin.later (e1.mono hhi)) (hp.later (e1.mono hhi)) (by simp; omega) hlo hf hN).mono ?_
  rintro e w1 ⟨⟨x, y, rfl, hxy⟩, b1⟩
  have BL := e1.trans (b1.mono (by simp))
  clear e1 b1 hin hp
  cases hb : fixB t
  · have HN := hide (hz hb)
    clear hxy hz
    go_wp2
    exact bodyPost_ret (v := .tuple #[.int .i64 0, .bool false]) (by simp [results, Try.results7, go_sem]) rfl ⟨by rw [unhide HN, hb], (by repeat (first | exact Below.refl _ _ | assumption | refine below_drewN ?_ _ | refine Below.drew ?_ | refine Below.alloc ?_ (by first | exact Nat.le_refl _ | exact Below.size (by assumption) | (simp; done) | (simp; omega)) _ | refine Below.setCell ?_ (by first | exact Nat.le_refl _ | exact Below.size (by assumption) | (simp; done) | (simp; omega)) _ | refine Below.trans ?_ (by assumption)))⟩
  · obtain ⟨_, rfl⟩ := hxy hb
    clear hxy hz
    go_wp2
    exact bodyPost_ret (v := .tuple #[.int .i64 (fixN t), .bool true]) (by simp [results, Try.results7, go_sem]) rfl ⟨by rw [hb], (by repeat (first | exact Below.refl _ _ | assumption | refine below_drewN ?_ _ | refine Below.drew ?_ | refine Below.alloc ?_ (by first | exact Nat.le_refl _ | exact Below.size (by assumption) | (simp; done) | (simp; omega)) _ | refine Below.setCell ?_ (by first | exact Nat.le_refl _ | exact Below.size (by assumption) | (simp; done) | (simp; omega)) _ | refine Below.trans ?_ (by assumption)))⟩
set_option maxHeartbeats 1000000 in
theorem l3False_any (w : World) : Calls Try.prog 11 #[] w fun e w' => (∃ B, e = .returned (.agg #[.int .i64 25, .int .i64 0, .int .i64 0, .string ⟨#[]⟩, .slice (some ⟨B, 0, none⟩) 1 1]) ∧ falT.In w' w.heap.size w'.heap.size (some ⟨B, 0, none⟩)) ∧ Below w.heap.size w w' := by
  go_enter Try.func11, Try.ntmps11
  go_wp2
  refine bodyPost_ret (v := .agg #[.int .i64 25, .int .i64 0, .int .i64 0, .string ⟨#[]⟩, .slice (some ⟨w.heap.size + 1, 0, none⟩) 1 1]) (by simp [results, Try.results11, go_sem]) rfl ⟨⟨w.heap.size + 1, rfl, ?_⟩, (by repeat (first | exact Below.refl _ _ | assumption | refine below_drewN ?_ _ | refine Below.drew ?_ | refine Below.alloc ?_ (by first | exact Nat.le_refl _ | exact Below.size (by assumption) | (simp; done) | (simp; omega)) _ | refine Below.setCell ?_ (by first | exact Nat.le_refl _ | exact Below.size (by assumption) | (simp; done) | (simp; omega)) _ | refine Below.trans ?_ (by assumption)))⟩
  refine Or.inr ⟨w.heap.size + 1, 0, rfl, by omega, by simp, fun _ => none, fun _ => 0, fun i hi => ?_⟩
  obtain rfl : i = 0 := by omega
  exact ⟨⟨by simp [go_sem, truT, TT.op], by simp [go_sem, truT, TT.a], by simp [go_sem, truT, TT.b], by simp [go_sem, truT, TT.s]; rfl, by simp [go_sem, truT, TT.n]⟩, Nat.le_refl _, Or.inl rfl⟩
set_option maxHeartbeats 4000000 in
theorem sFixed_any (hi : Nat) (t : TT) (ad : Option Addr) (cp : Nat) (w : World) (hin : t.In w 0 hi ad) (hhi : hi ≤ w.heap.size) (hf : t.Fit 1048576) :
    Calls Try.prog 5 #[.agg #[.int .i64 t.op, .int .i64 t.a, .int .i64 t.b, .string t.s, .slice ad t.n cp]] w fun e w' => e = .returned (.tuple #[.int .i64 (fixN t), .bool (fixB t)]) ∧ Below w.heap.size w w' := by
  go_enter Try.func5, Try.ntmps5
  go_wp2_with fail
  have e1 := (Below.refl w.heap.size w).alloc (Nat.le_refl _) (.cells #[.int .i64 t.op, .int .i64 t.a, .int .i64 t.b, .string t.s, .slice ad t.n cp] 30)
  refine (sSame_any hi t truT ad none cp 0 _ (hin.later (e1.mono hhi)) (Or.inl rfl) hf (by simp; omega)).mono ?_
  rintro e w1 ⟨rfl, b1⟩
  have F : Five w1 w.heap.size 0 t ad cp := ⟨cell_later b1 (by simp [go_sem]), cell_later b1 (by simp [go_sem]), cell_later b1 (by simp [go_sem]), cell_later b1 (by simp [go_sem]), cell_later b1 (by simp [go_sem])⟩
  have BL := e1.trans (b1.mono (by simp))
  have I := hide (hin.later (BL.mono hhi))
  clear e1 b1 hin
  cases h1 : sameB t truT
  · obtain ⟨p0, p1, p2, p3, p4⟩ := id F
    have kz := BL.size
    go_wp2_with fail
    obtain ⟨H, hH⟩ : ∃ x, x = w.heap.size := ⟨_, rfl⟩
    rw [← hH] at F p0 p1 p2 p3 p4
    rw [← hH]
    have HH := hide hH
    clear hH
    refine wp_region_held_drew (S := (fun w' => w'.cell? ⟨H, 0, none⟩ = some (.int .i64 t.op) ∧ w'.cell? ⟨H, 1, none⟩ = some (.int .i64 t.a) ∧ w'.cell? ⟨H, 2, none⟩ = some (.int .i64 t.b) ∧ w'.cell? ⟨H, 3, none⟩ = some (.string t.s) ∧ w'.cell? ⟨H, 4, none⟩ = some (.slice ad t.n cp))) (by kernel_rfl) ?_ (fun hHeld => ?_)
    · exact ⟨p0, p1, p2, p3, p4⟩
    refine wpAnyH_take (i := 0) (v := ?_) rfl (by kernel_rfl) (by kernel_rfl) (by kernel_rfl) (fun _ _ _ h => h) (Or.inl ⟨by rfl, ?_⟩) (by assumption) ?_
    rotate_left
    · (intro w hSw; (try dsimp only at hSw); first | (go_simp; done) | (go_simp; with_reducible rfl))
    try simp only [List.getElem_toArray, List.getElem_cons_succ, List.getElem_cons_zero, Act.put, List.setIfInBounds_toArray, List.set_cons_zero, List.set_cons_succ]
    refine wpAnyH_ready (rs := [1]) (by kernel_rfl) (by simp) ?_
    refine AllReadyH.cons rfl (fun K hK => ?_) AllReadyH.nil
    go_simp
    refine (l3False_any _).mono ?_
    rintro e w2 ⟨⟨B, rfl, J2⟩, b2⟩
    replace F := Five.later (by exact F) b2
    replace BL := (show Below w.heap.size w _ from by first | exact BL.trans (b2.mono (by exact kz)) | exact BL.drew.trans (b2.mono (by exact kz)))
    replace I := hide (show t.In _ 0 hi ad from by first | exact (unhide I).later (b2.mono (by exact Nat.le_trans hhi kz)) | exact (unhide I).drew.later (b2.mono (by exact Nat.le_trans hhi kz)))
    replace kz := (show w.heap.size ≤ _ from Nat.le_trans kz b2.size)
    have J := hide (TT.In.wide (Nat.zero_le _) (Nat.le_refl _) _ _ J2)
    clear b2 J2
    go_wp2_with fail
    refine hK.out _ _ ?_ (fun hHeld => ?_)
    · exact ⟨F.1, F.2.1, F.2.2.1, F.2.2.2.1, F.2.2.2.2⟩
    clear hK K
    try simp only [List.getElem_toArray, List.getElem_cons_succ, List.getElem_cons_zero, Act.put, List.setIfInBounds_toArray, List.set_cons_zero, List.set_cons_succ]
    refine wpAnyH_ready (rs := [2]) (by kernel_rfl) (by simp) ?_
    refine AllReadyH.cons rfl (fun K hK => ?_) AllReadyH.nil
    go_simp
    refine (sSame_any w2.heap.size t falT ad (some ⟨B, 0, none⟩) cp 1 _ (TT.In.wide (Nat.le_refl _) (Nat.le_trans hhi kz) _ _ (unhide I)) (unhide J) hf (Nat.le_refl _)).mono ?_
    rintro e w3 ⟨rfl, b3⟩
    replace F := Five.later (by exact F) b3
    replace BL := (show Below w.heap.size w _ from by first | exact BL.trans (b3.mono (by exact kz)) | exact BL.drew.trans (b3.mono (by exact kz)))
    replace I := hide (show t.In _ 0 hi ad from by first | exact (unhide I).later (b3.mono (by exact Nat.le_trans hhi kz)) | exact (unhide I).drew.later (b3.mono (by exact Nat.le_trans hhi kz)))
    replace kz := (show w.heap.size ≤ _ from Nat.le_trans kz b3.size)
    clear b3 J
    go_wp2_with fail
    refine hK.out _ _ ?_ (fun hHeld => ?_)
    · exact ⟨F.1, F.2.1, F.2.2.1, F.2.2.2.1, F.2.2.2.2⟩
    clear hK K
    try simp only [List.getElem_toArray, List.getElem_cons_succ, List.getElem_cons_zero, Act.put, List.setIfInBounds_toArray, List.set_cons_zero, List.set_cons_succ]
    refine wpAnyH_take (i := 3) (v := ?_) rfl (by kernel_rfl) (by kernel_rfl) (by kernel_rfl) (fun _ _ _ h => h) (Or.inl ⟨by rfl, ?_⟩) (by assumption) ?_
    rotate_left
    · (intro w hSw; (try dsimp only at hSw); first | (go_simp; done) | (go_simp; with_reducible rfl))
    try simp only [List.getElem_toArray, List.getElem_cons_succ, List.getElem_cons_zero, Act.put, List.setIfInBounds_toArray, List.set_cons_zero, List.set_cons_succ]
    refine wpAnyH_done (by kernel_rfl) ?_ _
    clear p0 p1 p2 p3 p4
    cases h2 : sameB t falT
    · have HB : Hid (fixB t = vecB t) := by show _ = _; unfold fixB; rw [h1, h2]; rfl
      have HN : Hid (fixN t = if vecB t = true then t.b else 0) := by show _ = _; unfold fixN; rw [h1, h2]; rfl
      obtain ⟨p0, p1, p2, p3, p4⟩ := id F
      by_cases g1 : t.op = 20
      · have k1 : (t.op == 20) = true := by simp [g1]
        by_cases g2 : t.n = 0
        · have k2 : ((t.n : Int) == 0) = true := by simp [g2]
          by_cases g3 : t.s.toList = []
          · have k3 : (t.s.toList == []) = true := by simp [g3]
            have hv : vecB t = okB t.a t.b := by
              cases ho : okB t.a t.b
              · exact vecB_no (fun k => by have := k.2.2.2; rw [ho] at this; cases this)
              · exact vecB_yes ⟨g1, g2, g3, ho⟩
            have HV := hide hv
            clear hv g2 g3
            go_wp2_with fail
            refine (sVecOk_any _ _ _).mono ?_
            rintro e w4 ⟨rfl, b4⟩
            have q2 := cell_later b4 p2
            have B4 := BL.trans (b4.mono kz)
            cases ho : okB t.a t.b
            · have HB2 : Hid (fixB t = false) := by show _ = _; rw [unhide HB, unhide HV, ho]
              have HN2 : Hid (fixN t = 0) := by show _ = _; rw [unhide HN, unhide HV, ho]; rfl
              go_wp2
              exact bodyPost_ret (v := .tuple #[.int .i64 0, .bool false]) (by simp [results, Try.results5, go_sem]) rfl ⟨by rw [unhide HN2, unhide HB2], B4⟩
            · have HB2 : Hid (fixB t = true) := by show _ = _; rw [unhide HB, unhide HV, ho]
              have HN2 : Hid (fixN t = t.b) := by show _ = _; rw [unhide HN, unhide HV, ho]; rfl
              go_wp2
              exact bodyPost_ret (v := .tuple #[.int .i64 t.b, .bool true]) (by simp [results, Try.results5, go_sem]) rfl ⟨by rw [unhide HN2, unhide HB2], B4⟩
          · have k3 : (t.s.toList == []) = false := by simp [g3]
            have hv := vecB_no (t := t) (fun k => g3 k.2.2.1)
            have HB2 : Hid (fixB t = false) := by show _ = _; rw [unhide HB, hv]
            have HN2 : Hid (fixN t = 0) := by show _ = _; rw [unhide HN, hv]; rfl
            clear hv
            go_wp2
            exact bodyPost_ret (v := .tuple #[.int .i64 0, .bool false]) (by simp [results, Try.results5, go_sem]) rfl ⟨by rw [unhide HN2, unhide HB2], BL⟩
        · have k2 : ((t.n : Int) == 0) = false := by simp; omega
          have hv := vecB_no (t := t) (fun k => g2 k.2.1)
          have HB2 : Hid (fixB t = false) := by show _ = _; rw [unhide HB, hv]
          have HN2 : Hid (fixN t = 0) := by show _ = _; rw [unhide HN, hv]; rfl
          clear hv
          go_wp2
          exact bodyPost_ret (v := .tuple #[.int .i64 0, .bool false]) (by simp [results, Try.results5, go_sem]) rfl ⟨by rw [unhide HN2, unhide HB2], BL⟩
      · have k1 : (t.op == 20) = false := by simp [g1]
        have hv := vecB_no (t := t) (fun k => g1 k.1)
        have HB2 : Hid (fixB t = false) := by show _ = _; rw [unhide HB, hv]
        have HN2 : Hid (fixN t = 0) := by show _ = _; rw [unhide HN, hv]; rfl
        clear hv
        go_wp2
        exact bodyPost_ret (v := .tuple #[.int .i64 0, .bool false]) (by simp [results, Try.results5, go_sem]) rfl ⟨by rw [unhide HN2, unhide HB2], BL⟩
    · have HB2 : Hid (fixB t = true) := by show _ = _; unfold fixB; rw [h2]; simp
      have HN2 : Hid (fixN t = 0) := by show _ = _; unfold fixN; rw [h1, h2]; rfl
      go_wp2
      exact bodyPost_ret (v := .tuple #[.int .i64 0, .bool true]) (by simp [results, Try.results5, go_sem]) rfl ⟨by rw [unhide HN2, unhide HB2], BL⟩
  · have HB2 : Hid (fixB t = true) := by show _ = _; unfold fixB; rw [h1]; rfl
    have HN2 : Hid (fixN t = 1) := by show _ = _; unfold fixN; rw [h1]; rfl
    go_wp2
    exact bodyPost_ret (v := .tuple #[.int .i64 1, .bool true]) (by simp [results, Try.results5, go_sem]) rfl ⟨by rw [unhide HN2, unhide HB2], BL⟩
end Go.Proofs.Ythchjeddfpfplaa
