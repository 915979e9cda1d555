/- The methods of the kinds, and what their parts are. -/
import Derived.Test.YthchjeddfpfplaaWrtA
namespace Go.Proofs.Ythchjeddfpfplaa
open Go.ChangeShapes Go.WideShapes Go.ChangeAt Go.RowKit Go.Joins
set_option linter.unusedVariables false
set_option linter.unusedSimpArgs false
set_option maxHeartbeats 1000000 in
theorem part_bare (op : Int) (w : World) : Calls Try.prog 47 #[.int .i64 op] w fun e w' => e = .returned (.agg #[.int .i64 op, .int .i64 0, .int .i64 0, .string ⟨#[]⟩, .slice none 0 0]) ∧ Below w.heap.size w w' := by
  go_enter Try.func47, Try.ntmps47
  go_wp2
  exact bodyPost_ret (v := .agg #[.int .i64 op, .int .i64 0, .int .i64 0, .string ⟨#[]⟩, .slice none 0 0]) (by simp [results, Try.results47, go_sem]) rfl ⟨rfl, (by repeat (first | exact Below.refl _ _ | assumption | refine below_drewN ?_ _ | refine Below.drew ?_ | refine Below.alloc ?_ (by first | exact Nat.le_refl _ | exact Below.size (by assumption) | (simp; done) | (simp; omega)) _ | refine Below.setCell ?_ (by first | exact Nat.le_refl _ | exact Below.size (by assumption) | (simp; done) | (simp; omega)) _ | refine Below.trans ?_ (by assumption)))⟩
set_option maxHeartbeats 1000000 in
theorem part_vec (a b : Int) (w : World) : Calls Try.prog 41 #[.agg #[.int .i64 a, .int .i64 b]] w fun e w' => e = .returned (.agg #[.int .i64 20, .int .i64 a, .int .i64 b, .string ⟨#[]⟩, .slice none 0 0]) ∧ Below w.heap.size w w' := by
  go_enter Try.func41, Try.ntmps41
  go_wp2
  exact bodyPost_ret (v := .agg #[.int .i64 20, .int .i64 a, .int .i64 b, .string ⟨#[]⟩, .slice none 0 0]) (by simp [results, Try.results41, go_sem]) rfl ⟨rfl, (by repeat (first | exact Below.refl _ _ | assumption | refine below_drewN ?_ _ | refine Below.drew ?_ | refine Below.alloc ?_ (by first | exact Nat.le_refl _ | exact Below.size (by assumption) | (simp; done) | (simp; omega)) _ | refine Below.setCell ?_ (by first | exact Nat.le_refl _ | exact Below.size (by assumption) | (simp; done) | (simp; omega)) _ | refine Below.trans ?_ (by assumption)))⟩
theorem mp_vec (a b : Int) (w : World) : (method 198 50 (.agg #[.int .i64 a, .int .i64 b]) "loop.example/seedlip/impl.part").run Try.prog w = .ok (41, (.agg #[.int .i64 a, .int .i64 b])) w := by kernel_rfl
theorem mm_vec (a b : Int) (w : World) : (method 198 50 (.agg #[.int .i64 a, .int .i64 b]) "loop.example/seedlip/impl.many").run Try.prog w = .ok (40, (.agg #[.int .i64 a, .int .i64 b])) w := by kernel_rfl
theorem mw_vec (a b : Int) (w : World) : (method 198 50 (.agg #[.int .i64 a, .int .i64 b]) "loop.example/seedlip/impl.worth").run Try.prog w = .ok (43, (.agg #[.int .i64 a, .int .i64 b])) w := by kernel_rfl
set_option maxHeartbeats 1000000 in
theorem many_vec (a b : Int) (w : World) : Calls Try.prog 40 #[(.agg #[.int .i64 a, .int .i64 b])] w fun e w' => e = .returned (.int .i64 0) ∧ Below w.heap.size w w' := by
  go_enter Try.func40, Try.ntmps40
  go_wp2
  go_ret
  exact ⟨rfl, (by repeat (first | exact Below.refl _ _ | assumption | refine below_drewN ?_ _ | refine Below.drew ?_ | refine Below.alloc ?_ (by first | exact Nat.le_refl _ | exact Below.size (by assumption) | (simp; done) | (simp; omega)) _ | refine Below.setCell ?_ (by first | exact Nat.le_refl _ | exact Below.size (by assumption) | (simp; done) | (simp; omega)) _ | refine Below.trans ?_ (by assumption)))⟩
set_option maxHeartbeats 1000000 in
theorem part_name (s : ByteArray) (w : World) : Calls Try.prog 52 #[.agg #[.string s]] w fun e w' => e = .returned (.agg #[.int .i64 21, .int .i64 0, .int .i64 0, .string s, .slice none 0 0]) ∧ Below w.heap.size w w' := by
  go_enter Try.func52, Try.ntmps52
  go_wp2
  exact bodyPost_ret (v := .agg #[.int .i64 21, .int .i64 0, .int .i64 0, .string s, .slice none 0 0]) (by simp [results, Try.results52, go_sem]) rfl ⟨rfl, (by repeat (first | exact Below.refl _ _ | assumption | refine below_drewN ?_ _ | refine Below.drew ?_ | refine Below.alloc ?_ (by first | exact Nat.le_refl _ | exact Below.size (by assumption) | (simp; done) | (simp; omega)) _ | refine Below.setCell ?_ (by first | exact Nat.le_refl _ | exact Below.size (by assumption) | (simp; done) | (simp; omega)) _ | refine Below.trans ?_ (by assumption)))⟩
theorem mp_name (s : ByteArray) (w : World) : (method 198 58 (.agg #[.string s]) "loop.example/seedlip/impl.part").run Try.prog w = .ok (52, (.agg #[.string s])) w := by kernel_rfl
theorem mm_name (s : ByteArray) (w : World) : (method 198 58 (.agg #[.string s]) "loop.example/seedlip/impl.many").run Try.prog w = .ok (51, (.agg #[.string s])) w := by kernel_rfl
theorem mw_name (s : ByteArray) (w : World) : (method 198 58 (.agg #[.string s]) "loop.example/seedlip/impl.worth").run Try.prog w = .ok (54, (.agg #[.string s])) w := by kernel_rfl
set_option maxHeartbeats 1000000 in
theorem many_name (s : ByteArray) (w : World) : Calls Try.prog 51 #[(.agg #[.string s])] w fun e w' => e = .returned (.int .i64 0) ∧ Below w.heap.size w w' := by
  go_enter Try.func51, Try.ntmps51
  go_wp2
  go_ret
  exact ⟨rfl, (by repeat (first | exact Below.refl _ _ | assumption | refine below_drewN ?_ _ | refine Below.drew ?_ | refine Below.alloc ?_ (by first | exact Nat.le_refl _ | exact Below.size (by assumption) | (simp; done) | (simp; omega)) _ | refine Below.setCell ?_ (by first | exact Nat.le_refl _ | exact Below.size (by assumption) | (simp; done) | (simp; omega)) _ | refine Below.trans ?_ (by assumption)))⟩
set_option maxHeartbeats 1000000 in
theorem part_tru  (w : World) : Calls Try.prog 22 #[.agg #[]] w fun e w' => e = .returned (.agg #[.int .i64 24, .int .i64 0, .int .i64 0, .string ⟨#[]⟩, .slice none 0 0]) ∧ Below w.heap.size w w' := by
  go_enter Try.func22, Try.ntmps22
  go_wp2
  exact bodyPost_ret (v := .agg #[.int .i64 24, .int .i64 0, .int .i64 0, .string ⟨#[]⟩, .slice none 0 0]) (by simp [results, Try.results22, go_sem]) rfl ⟨rfl, (by repeat (first | exact Below.refl _ _ | assumption | refine below_drewN ?_ _ | refine Below.drew ?_ | refine Below.alloc ?_ (by first | exact Nat.le_refl _ | exact Below.size (by assumption) | (simp; done) | (simp; omega)) _ | refine Below.setCell ?_ (by first | exact Nat.le_refl _ | exact Below.size (by assumption) | (simp; done) | (simp; omega)) _ | refine Below.trans ?_ (by assumption)))⟩
theorem mp_tru  (w : World) : (method 198 52 (.agg #[]) "loop.example/seedlip/impl.part").run Try.prog w = .ok (22, (.agg #[])) w := by kernel_rfl
theorem mm_tru  (w : World) : (method 198 52 (.agg #[]) "loop.example/seedlip/impl.many").run Try.prog w = .ok (44, (.agg #[])) w := by kernel_rfl
theorem mw_tru  (w : World) : (method 198 52 (.agg #[]) "loop.example/seedlip/impl.worth").run Try.prog w = .ok (46, (.agg #[])) w := by kernel_rfl
set_option maxHeartbeats 1000000 in
theorem many_tru  (w : World) : Calls Try.prog 44 #[(.agg #[])] w fun e w' => e = .returned (.int .i64 0) ∧ Below w.heap.size w w' := by
  go_enter Try.func44, Try.ntmps44
  go_wp2
  go_ret
  exact ⟨rfl, (by repeat (first | exact Below.refl _ _ | assumption | refine below_drewN ?_ _ | refine Below.drew ?_ | refine Below.alloc ?_ (by first | exact Nat.le_refl _ | exact Below.size (by assumption) | (simp; done) | (simp; omega)) _ | refine Below.setCell ?_ (by first | exact Nat.le_refl _ | exact Below.size (by assumption) | (simp; done) | (simp; omega)) _ | refine Below.trans ?_ (by assumption)))⟩
theorem mp_un (op : Int) (w : World) : (method 198 59 (.agg #[.int .i64 op]) "loop.example/seedlip/impl.part").run Try.prog w = .ok (47, (.int .i64 op)) w := by kernel_rfl
theorem mm_un (op : Int) (w : World) : (method 198 59 (.agg #[.int .i64 op]) "loop.example/seedlip/impl.many").run Try.prog w = .ok (55, (.agg #[.int .i64 op])) w := by kernel_rfl
theorem mw_un (op : Int) (w : World) : (method 198 59 (.agg #[.int .i64 op]) "loop.example/seedlip/impl.worth").run Try.prog w = .ok (56, (.agg #[.int .i64 op])) w := by kernel_rfl
set_option maxHeartbeats 1000000 in
theorem many_un (op : Int) (w : World) : Calls Try.prog 55 #[(.agg #[.int .i64 op])] w fun e w' => e = .returned (.int .i64 1) ∧ Below w.heap.size w w' := by
  go_enter Try.func55, Try.ntmps55
  go_wp2
  go_ret
  exact ⟨rfl, (by repeat (first | exact Below.refl _ _ | assumption | refine below_drewN ?_ _ | refine Below.drew ?_ | refine Below.alloc ?_ (by first | exact Nat.le_refl _ | exact Below.size (by assumption) | (simp; done) | (simp; omega)) _ | refine Below.setCell ?_ (by first | exact Nat.le_refl _ | exact Below.size (by assumption) | (simp; done) | (simp; omega)) _ | refine Below.trans ?_ (by assumption)))⟩
theorem mp_bin (op : Int) (w : World) : (method 198 60 (.agg #[.int .i64 op]) "loop.example/seedlip/impl.part").run Try.prog w = .ok (47, (.int .i64 op)) w := by kernel_rfl
theorem mm_bin (op : Int) (w : World) : (method 198 60 (.agg #[.int .i64 op]) "loop.example/seedlip/impl.many").run Try.prog w = .ok (57, (.agg #[.int .i64 op])) w := by kernel_rfl
theorem mw_bin (op : Int) (w : World) : (method 198 60 (.agg #[.int .i64 op]) "loop.example/seedlip/impl.worth").run Try.prog w = .ok (58, (.agg #[.int .i64 op])) w := by kernel_rfl
set_option maxHeartbeats 1000000 in
theorem many_bin (op : Int) (w : World) : Calls Try.prog 57 #[(.agg #[.int .i64 op])] w fun e w' => e = .returned (.int .i64 2) ∧ Below w.heap.size w w' := by
  go_enter Try.func57, Try.ntmps57
  go_wp2
  go_ret
  exact ⟨rfl, (by repeat (first | exact Below.refl _ _ | assumption | refine below_drewN ?_ _ | refine Below.drew ?_ | refine Below.alloc ?_ (by first | exact Nat.le_refl _ | exact Below.size (by assumption) | (simp; done) | (simp; omega)) _ | refine Below.setCell ?_ (by first | exact Nat.le_refl _ | exact Below.size (by assumption) | (simp; done) | (simp; omega)) _ | refine Below.trans ?_ (by assumption)))⟩
theorem mp_cmp (op : Int) (w : World) : (method 198 61 (.agg #[.int .i64 op]) "loop.example/seedlip/impl.part").run Try.prog w = .ok (47, (.int .i64 op)) w := by kernel_rfl
theorem mm_cmp (op : Int) (w : World) : (method 198 61 (.agg #[.int .i64 op]) "loop.example/seedlip/impl.many").run Try.prog w = .ok (59, (.agg #[.int .i64 op])) w := by kernel_rfl
theorem mw_cmp (op : Int) (w : World) : (method 198 61 (.agg #[.int .i64 op]) "loop.example/seedlip/impl.worth").run Try.prog w = .ok (60, (.agg #[.int .i64 op])) w := by kernel_rfl
set_option maxHeartbeats 1000000 in
theorem many_cmp (op : Int) (w : World) : Calls Try.prog 59 #[(.agg #[.int .i64 op])] w fun e w' => e = .returned (.int .i64 2) ∧ Below w.heap.size w w' := by
  go_enter Try.func59, Try.ntmps59
  go_wp2
  go_ret
  exact ⟨rfl, (by repeat (first | exact Below.refl _ _ | assumption | refine below_drewN ?_ _ | refine Below.drew ?_ | refine Below.alloc ?_ (by first | exact Nat.le_refl _ | exact Below.size (by assumption) | (simp; done) | (simp; omega)) _ | refine Below.setCell ?_ (by first | exact Nat.le_refl _ | exact Below.size (by assumption) | (simp; done) | (simp; omega)) _ | refine Below.trans ?_ (by assumption)))⟩
set_option maxHeartbeats 1000000 in
theorem part_cut (a b : Int) (w : World) : Calls Try.prog 62 #[.agg #[.int .i64 a, .int .i64 b]] w fun e w' => e = .returned (.agg #[.int .i64 22, .int .i64 a, .int .i64 b, .string ⟨#[]⟩, .slice none 0 0]) ∧ Below w.heap.size w w' := by
  go_enter Try.func62, Try.ntmps62
  go_wp2
  exact bodyPost_ret (v := .agg #[.int .i64 22, .int .i64 a, .int .i64 b, .string ⟨#[]⟩, .slice none 0 0]) (by simp [results, Try.results62, go_sem]) rfl ⟨rfl, (by repeat (first | exact Below.refl _ _ | assumption | refine below_drewN ?_ _ | refine Below.drew ?_ | refine Below.alloc ?_ (by first | exact Nat.le_refl _ | exact Below.size (by assumption) | (simp; done) | (simp; omega)) _ | refine Below.setCell ?_ (by first | exact Nat.le_refl _ | exact Below.size (by assumption) | (simp; done) | (simp; omega)) _ | refine Below.trans ?_ (by assumption)))⟩
theorem mp_cut (a b : Int) (w : World) : (method 198 63 (.agg #[.int .i64 a, .int .i64 b]) "loop.example/seedlip/impl.part").run Try.prog w = .ok (62, (.agg #[.int .i64 a, .int .i64 b])) w := by kernel_rfl
theorem mm_cut (a b : Int) (w : World) : (method 198 63 (.agg #[.int .i64 a, .int .i64 b]) "loop.example/seedlip/impl.many").run Try.prog w = .ok (61, (.agg #[.int .i64 a, .int .i64 b])) w := by kernel_rfl
theorem mw_cut (a b : Int) (w : World) : (method 198 63 (.agg #[.int .i64 a, .int .i64 b]) "loop.example/seedlip/impl.worth").run Try.prog w = .ok (64, (.agg #[.int .i64 a, .int .i64 b])) w := by kernel_rfl
set_option maxHeartbeats 1000000 in
theorem many_cut (a b : Int) (w : World) : Calls Try.prog 61 #[(.agg #[.int .i64 a, .int .i64 b])] w fun e w' => e = .returned (.int .i64 1) ∧ Below w.heap.size w w' := by
  go_enter Try.func61, Try.ntmps61
  go_wp2
  go_ret
  exact ⟨rfl, (by repeat (first | exact Below.refl _ _ | assumption | refine below_drewN ?_ _ | refine Below.drew ?_ | refine Below.alloc ?_ (by first | exact Nat.le_refl _ | exact Below.size (by assumption) | (simp; done) | (simp; omega)) _ | refine Below.setCell ?_ (by first | exact Nat.le_refl _ | exact Below.size (by assumption) | (simp; done) | (simp; omega)) _ | refine Below.trans ?_ (by assumption)))⟩
theorem mp_iff (op : Int) (w : World) : (method 198 64 (.agg #[.int .i64 op]) "loop.example/seedlip/impl.part").run Try.prog w = .ok (47, (.int .i64 op)) w := by kernel_rfl
theorem mm_iff (op : Int) (w : World) : (method 198 64 (.agg #[.int .i64 op]) "loop.example/seedlip/impl.many").run Try.prog w = .ok (65, (.agg #[.int .i64 op])) w := by kernel_rfl
theorem mw_iff (op : Int) (w : World) : (method 198 64 (.agg #[.int .i64 op]) "loop.example/seedlip/impl.worth").run Try.prog w = .ok (66, (.agg #[.int .i64 op])) w := by kernel_rfl
set_option maxHeartbeats 1000000 in
theorem many_iff (op : Int) (w : World) : Calls Try.prog 65 #[(.agg #[.int .i64 op])] w fun e w' => e = .returned (.int .i64 3) ∧ Below w.heap.size w w' := by
  go_enter Try.func65, Try.ntmps65
  go_wp2
  go_ret
  exact ⟨rfl, (by repeat (first | exact Below.refl _ _ | assumption | refine below_drewN ?_ _ | refine Below.drew ?_ | refine Below.alloc ?_ (by first | exact Nat.le_refl _ | exact Below.size (by assumption) | (simp; done) | (simp; omega)) _ | refine Below.setCell ?_ (by first | exact Nat.le_refl _ | exact Below.size (by assumption) | (simp; done) | (simp; omega)) _ | refine Below.trans ?_ (by assumption)))⟩
theorem mp_no (op : Int) (w : World) : (method 198 56 (.agg #[.int .i64 op]) "loop.example/seedlip/impl.part").run Try.prog w = .ok (47, (.int .i64 op)) w := by kernel_rfl
theorem mm_no (op : Int) (w : World) : (method 198 56 (.agg #[.int .i64 op]) "loop.example/seedlip/impl.many").run Try.prog w = .ok (49, (.agg #[.int .i64 op])) w := by kernel_rfl
theorem mw_no (op : Int) (w : World) : (method 198 56 (.agg #[.int .i64 op]) "loop.example/seedlip/impl.worth").run Try.prog w = .ok (50, (.agg #[.int .i64 op])) w := by kernel_rfl
set_option maxHeartbeats 1000000 in
theorem many_no (op : Int) (w : World) : Calls Try.prog 49 #[(.agg #[.int .i64 op])] w fun e w' => e = .returned (.int .i64 1) ∧ Below w.heap.size w w' := by
  go_enter Try.func49, Try.ntmps49
  go_wp2
  go_ret
  exact ⟨rfl, (by repeat (first | exact Below.refl _ _ | assumption | refine below_drewN ?_ _ | refine Below.drew ?_ | refine Below.alloc ?_ (by first | exact Nat.le_refl _ | exact Below.size (by assumption) | (simp; done) | (simp; omega)) _ | refine Below.setCell ?_ (by first | exact Nat.le_refl _ | exact Below.size (by assumption) | (simp; done) | (simp; omega)) _ | refine Below.trans ?_ (by assumption)))⟩
theorem mp_both (op : Int) (w : World) : (method 198 65 (.agg #[.int .i64 op]) "loop.example/seedlip/impl.part").run Try.prog w = .ok (47, (.int .i64 op)) w := by kernel_rfl
theorem mm_both (op : Int) (w : World) : (method 198 65 (.agg #[.int .i64 op]) "loop.example/seedlip/impl.many").run Try.prog w = .ok (67, (.agg #[.int .i64 op])) w := by kernel_rfl
theorem mw_both (op : Int) (w : World) : (method 198 65 (.agg #[.int .i64 op]) "loop.example/seedlip/impl.worth").run Try.prog w = .ok (68, (.agg #[.int .i64 op])) w := by kernel_rfl
set_option maxHeartbeats 1000000 in
theorem many_both (op : Int) (w : World) : Calls Try.prog 67 #[(.agg #[.int .i64 op])] w fun e w' => e = .returned (.int .i64 2) ∧ Below w.heap.size w w' := by
  go_enter Try.func67, Try.ntmps67
  go_wp2
  go_ret
  exact ⟨rfl, (by repeat (first | exact Below.refl _ _ | assumption | refine below_drewN ?_ _ | refine Below.drew ?_ | refine Below.alloc ?_ (by first | exact Nat.le_refl _ | exact Below.size (by assumption) | (simp; done) | (simp; omega)) _ | refine Below.setCell ?_ (by first | exact Nat.le_refl _ | exact Below.size (by assumption) | (simp; done) | (simp; omega)) _ | refine Below.trans ?_ (by assumption)))⟩
theorem mp_any (op : Int) (w : World) : (method 198 66 (.agg #[.int .i64 op]) "loop.example/seedlip/impl.part").run Try.prog w = .ok (47, (.int .i64 op)) w := by kernel_rfl
theorem mm_any (op : Int) (w : World) : (method 198 66 (.agg #[.int .i64 op]) "loop.example/seedlip/impl.many").run Try.prog w = .ok (69, (.agg #[.int .i64 op])) w := by kernel_rfl
theorem mw_any (op : Int) (w : World) : (method 198 66 (.agg #[.int .i64 op]) "loop.example/seedlip/impl.worth").run Try.prog w = .ok (70, (.agg #[.int .i64 op])) w := by kernel_rfl
set_option maxHeartbeats 1000000 in
theorem many_any (op : Int) (w : World) : Calls Try.prog 69 #[(.agg #[.int .i64 op])] w fun e w' => e = .returned (.int .i64 2) ∧ Below w.heap.size w w' := by
  go_enter Try.func69, Try.ntmps69
  go_wp2
  go_ret
  exact ⟨rfl, (by repeat (first | exact Below.refl _ _ | assumption | refine below_drewN ?_ _ | refine Below.drew ?_ | refine Below.alloc ?_ (by first | exact Nat.le_refl _ | exact Below.size (by assumption) | (simp; done) | (simp; omega)) _ | refine Below.setCell ?_ (by first | exact Nat.le_refl _ | exact Below.size (by assumption) | (simp; done) | (simp; omega)) _ | refine Below.trans ?_ (by assumption)))⟩
end Go.Proofs.Ythchjeddfpfplaa
