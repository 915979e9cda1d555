/- The methods of the kinds, and what their parts are. -/
import Derived.Test.YtbincnedkclfgaaGreatWrtA
namespace Go.Proofs.YtbincnedkclfgaaGreat
open Go.ChangeShapes Go.WideShapes Go.ChangeAt Go.RowKit Go.Joins
set_option linter.unusedVariables false
set_option linter.unusedSimpArgs false
set_option maxRecDepth 100000 in
set_option maxHeartbeats 1000000 in
theorem part_bare (op : Int) (w : World) : Calls Tryz.prog 79 #[.int .i64 op] w fun e w' => e = .returned (.agg #[.int .i64 op, .int .i64 0, .int .i64 0, .string ⟨#[]⟩, .slice none 0 0]) ∧ Below w.heap.size w w' := by
  go_enter Tryz.func79, Tryz.ntmps79
  go_wp2
  exact bodyPost_ret (v := .agg #[.int .i64 op, .int .i64 0, .int .i64 0, .string ⟨#[]⟩, .slice none 0 0]) (by simp [results, Tryz.results79, go_sem]) rfl ⟨rfl, (by repeat (first | exact Below.refl _ _ | assumption | refine below_drewN ?_ _ | refine Below.drew ?_ | refine Below.alloc ?_ (by first | exact Nat.le_refl _ | exact Below.size (by assumption) | (simp; done) | (simp; omega)) _ | refine Below.setCell ?_ (by first | exact Nat.le_refl _ | exact Below.size (by assumption) | (simp; done) | (simp; omega)) _ | refine Below.trans ?_ (by assumption)))⟩
set_option maxRecDepth 100000 in
set_option maxHeartbeats 1000000 in
theorem part_vec (a b : Int) (w : World) : Calls Tryz.prog 82 #[.agg #[.int .i64 a, .int .i64 b]] w fun e w' => e = .returned (.agg #[.int .i64 20, .int .i64 a, .int .i64 b, .string ⟨#[]⟩, .slice none 0 0]) ∧ Below w.heap.size w w' := by
  go_enter Tryz.func82, Tryz.ntmps82
  go_wp2
  exact bodyPost_ret (v := .agg #[.int .i64 20, .int .i64 a, .int .i64 b, .string ⟨#[]⟩, .slice none 0 0]) (by simp [results, Tryz.results82, go_sem]) rfl ⟨rfl, (by repeat (first | exact Below.refl _ _ | assumption | refine below_drewN ?_ _ | refine Below.drew ?_ | refine Below.alloc ?_ (by first | exact Nat.le_refl _ | exact Below.size (by assumption) | (simp; done) | (simp; omega)) _ | refine Below.setCell ?_ (by first | exact Nat.le_refl _ | exact Below.size (by assumption) | (simp; done) | (simp; omega)) _ | refine Below.trans ?_ (by assumption)))⟩
theorem mp_vec (a b : Int) (w : World) : (method 252 98 (.agg #[.int .i64 a, .int .i64 b]) "loop.example/seedlip/impl.part").run Tryz.prog w = .ok (82, (.agg #[.int .i64 a, .int .i64 b])) w := by kernel_rfl
theorem mm_vec (a b : Int) (w : World) : (method 252 98 (.agg #[.int .i64 a, .int .i64 b]) "loop.example/seedlip/impl.many").run Tryz.prog w = .ok (81, (.agg #[.int .i64 a, .int .i64 b])) w := by kernel_rfl
theorem mw_vec (a b : Int) (w : World) : (method 252 98 (.agg #[.int .i64 a, .int .i64 b]) "loop.example/seedlip/impl.worth").run Tryz.prog w = .ok (84, (.agg #[.int .i64 a, .int .i64 b])) w := by kernel_rfl
set_option maxRecDepth 100000 in
set_option maxHeartbeats 1000000 in
theorem many_vec (a b : Int) (w : World) : Calls Tryz.prog 81 #[(.agg #[.int .i64 a, .int .i64 b])] w fun e w' => e = .returned (.int .i64 0) ∧ Below w.heap.size w w' := by
  go_enter Tryz.func81, Tryz.ntmps81
  go_wp2
  go_ret
  exact ⟨rfl, (by repeat (first | exact Below.refl _ _ | assumption | refine below_drewN ?_ _ | refine Below.drew ?_ | refine Below.alloc ?_ (by first | exact Nat.le_refl _ | exact Below.size (by assumption) | (simp; done) | (simp; omega)) _ | refine Below.setCell ?_ (by first | exact Nat.le_refl _ | exact Below.size (by assumption) | (simp; done) | (simp; omega)) _ | refine Below.trans ?_ (by assumption)))⟩
set_option maxRecDepth 100000 in
set_option maxHeartbeats 1000000 in
theorem part_name (s : ByteArray) (w : World) : Calls Tryz.prog 86 #[.agg #[.string s]] w fun e w' => e = .returned (.agg #[.int .i64 21, .int .i64 0, .int .i64 0, .string s, .slice none 0 0]) ∧ Below w.heap.size w w' := by
  go_enter Tryz.func86, Tryz.ntmps86
  go_wp2
  exact bodyPost_ret (v := .agg #[.int .i64 21, .int .i64 0, .int .i64 0, .string s, .slice none 0 0]) (by simp [results, Tryz.results86, go_sem]) rfl ⟨rfl, (by repeat (first | exact Below.refl _ _ | assumption | refine below_drewN ?_ _ | refine Below.drew ?_ | refine Below.alloc ?_ (by first | exact Nat.le_refl _ | exact Below.size (by assumption) | (simp; done) | (simp; omega)) _ | refine Below.setCell ?_ (by first | exact Nat.le_refl _ | exact Below.size (by assumption) | (simp; done) | (simp; omega)) _ | refine Below.trans ?_ (by assumption)))⟩
theorem mp_name (s : ByteArray) (w : World) : (method 252 100 (.agg #[.string s]) "loop.example/seedlip/impl.part").run Tryz.prog w = .ok (86, (.agg #[.string s])) w := by kernel_rfl
theorem mm_name (s : ByteArray) (w : World) : (method 252 100 (.agg #[.string s]) "loop.example/seedlip/impl.many").run Tryz.prog w = .ok (85, (.agg #[.string s])) w := by kernel_rfl
theorem mw_name (s : ByteArray) (w : World) : (method 252 100 (.agg #[.string s]) "loop.example/seedlip/impl.worth").run Tryz.prog w = .ok (88, (.agg #[.string s])) w := by kernel_rfl
set_option maxRecDepth 100000 in
set_option maxHeartbeats 1000000 in
theorem many_name (s : ByteArray) (w : World) : Calls Tryz.prog 85 #[(.agg #[.string s])] w fun e w' => e = .returned (.int .i64 0) ∧ Below w.heap.size w w' := by
  go_enter Tryz.func85, Tryz.ntmps85
  go_wp2
  go_ret
  exact ⟨rfl, (by repeat (first | exact Below.refl _ _ | assumption | refine below_drewN ?_ _ | refine Below.drew ?_ | refine Below.alloc ?_ (by first | exact Nat.le_refl _ | exact Below.size (by assumption) | (simp; done) | (simp; omega)) _ | refine Below.setCell ?_ (by first | exact Nat.le_refl _ | exact Below.size (by assumption) | (simp; done) | (simp; omega)) _ | refine Below.trans ?_ (by assumption)))⟩
set_option maxRecDepth 100000 in
set_option maxHeartbeats 1000000 in
theorem part_tru  (w : World) : Calls Tryz.prog 90 #[.agg #[]] w fun e w' => e = .returned (.agg #[.int .i64 24, .int .i64 0, .int .i64 0, .string ⟨#[]⟩, .slice none 0 0]) ∧ Below w.heap.size w w' := by
  go_enter Tryz.func90, Tryz.ntmps90
  go_wp2
  exact bodyPost_ret (v := .agg #[.int .i64 24, .int .i64 0, .int .i64 0, .string ⟨#[]⟩, .slice none 0 0]) (by simp [results, Tryz.results90, go_sem]) rfl ⟨rfl, (by repeat (first | exact Below.refl _ _ | assumption | refine below_drewN ?_ _ | refine Below.drew ?_ | refine Below.alloc ?_ (by first | exact Nat.le_refl _ | exact Below.size (by assumption) | (simp; done) | (simp; omega)) _ | refine Below.setCell ?_ (by first | exact Nat.le_refl _ | exact Below.size (by assumption) | (simp; done) | (simp; omega)) _ | refine Below.trans ?_ (by assumption)))⟩
theorem mp_tru  (w : World) : (method 252 102 (.agg #[]) "loop.example/seedlip/impl.part").run Tryz.prog w = .ok (90, (.agg #[])) w := by kernel_rfl
theorem mm_tru  (w : World) : (method 252 102 (.agg #[]) "loop.example/seedlip/impl.many").run Tryz.prog w = .ok (89, (.agg #[])) w := by kernel_rfl
theorem mw_tru  (w : World) : (method 252 102 (.agg #[]) "loop.example/seedlip/impl.worth").run Tryz.prog w = .ok (92, (.agg #[])) w := by kernel_rfl
set_option maxRecDepth 100000 in
set_option maxHeartbeats 1000000 in
theorem many_tru  (w : World) : Calls Tryz.prog 89 #[(.agg #[])] w fun e w' => e = .returned (.int .i64 0) ∧ Below w.heap.size w w' := by
  go_enter Tryz.func89, Tryz.ntmps89
  go_wp2
  go_ret
  exact ⟨rfl, (by repeat (first | exact Below.refl _ _ | assumption | refine below_drewN ?_ _ | refine Below.drew ?_ | refine Below.alloc ?_ (by first | exact Nat.le_refl _ | exact Below.size (by assumption) | (simp; done) | (simp; omega)) _ | refine Below.setCell ?_ (by first | exact Nat.le_refl _ | exact Below.size (by assumption) | (simp; done) | (simp; omega)) _ | refine Below.trans ?_ (by assumption)))⟩
theorem mp_un (op : Int) (w : World) : (method 252 104 (.agg #[.int .i64 op]) "loop.example/seedlip/impl.part").run Tryz.prog w = .ok (79, (.int .i64 op)) w := by kernel_rfl
theorem mm_un (op : Int) (w : World) : (method 252 104 (.agg #[.int .i64 op]) "loop.example/seedlip/impl.many").run Tryz.prog w = .ok (94, (.agg #[.int .i64 op])) w := by kernel_rfl
theorem mw_un (op : Int) (w : World) : (method 252 104 (.agg #[.int .i64 op]) "loop.example/seedlip/impl.worth").run Tryz.prog w = .ok (95, (.agg #[.int .i64 op])) w := by kernel_rfl
set_option maxRecDepth 100000 in
set_option maxHeartbeats 1000000 in
theorem many_un (op : Int) (w : World) : Calls Tryz.prog 94 #[(.agg #[.int .i64 op])] w fun e w' => e = .returned (.int .i64 1) ∧ Below w.heap.size w w' := by
  go_enter Tryz.func94, Tryz.ntmps94
  go_wp2
  go_ret
  exact ⟨rfl, (by repeat (first | exact Below.refl _ _ | assumption | refine below_drewN ?_ _ | refine Below.drew ?_ | refine Below.alloc ?_ (by first | exact Nat.le_refl _ | exact Below.size (by assumption) | (simp; done) | (simp; omega)) _ | refine Below.setCell ?_ (by first | exact Nat.le_refl _ | exact Below.size (by assumption) | (simp; done) | (simp; omega)) _ | refine Below.trans ?_ (by assumption)))⟩
theorem mp_bin (op : Int) (w : World) : (method 252 105 (.agg #[.int .i64 op]) "loop.example/seedlip/impl.part").run Tryz.prog w = .ok (79, (.int .i64 op)) w := by kernel_rfl
theorem mm_bin (op : Int) (w : World) : (method 252 105 (.agg #[.int .i64 op]) "loop.example/seedlip/impl.many").run Tryz.prog w = .ok (105, (.agg #[.int .i64 op])) w := by kernel_rfl
theorem mw_bin (op : Int) (w : World) : (method 252 105 (.agg #[.int .i64 op]) "loop.example/seedlip/impl.worth").run Tryz.prog w = .ok (106, (.agg #[.int .i64 op])) w := by kernel_rfl
set_option maxRecDepth 100000 in
set_option maxHeartbeats 1000000 in
theorem many_bin (op : Int) (w : World) : Calls Tryz.prog 105 #[(.agg #[.int .i64 op])] w fun e w' => e = .returned (.int .i64 2) ∧ Below w.heap.size w w' := by
  go_enter Tryz.func105, Tryz.ntmps105
  go_wp2
  go_ret
  exact ⟨rfl, (by repeat (first | exact Below.refl _ _ | assumption | refine below_drewN ?_ _ | refine Below.drew ?_ | refine Below.alloc ?_ (by first | exact Nat.le_refl _ | exact Below.size (by assumption) | (simp; done) | (simp; omega)) _ | refine Below.setCell ?_ (by first | exact Nat.le_refl _ | exact Below.size (by assumption) | (simp; done) | (simp; omega)) _ | refine Below.trans ?_ (by assumption)))⟩
theorem mp_cmp (op : Int) (w : World) : (method 252 106 (.agg #[.int .i64 op]) "loop.example/seedlip/impl.part").run Tryz.prog w = .ok (79, (.int .i64 op)) w := by kernel_rfl
theorem mm_cmp (op : Int) (w : World) : (method 252 106 (.agg #[.int .i64 op]) "loop.example/seedlip/impl.many").run Tryz.prog w = .ok (121, (.agg #[.int .i64 op])) w := by kernel_rfl
theorem mw_cmp (op : Int) (w : World) : (method 252 106 (.agg #[.int .i64 op]) "loop.example/seedlip/impl.worth").run Tryz.prog w = .ok (122, (.agg #[.int .i64 op])) w := by kernel_rfl
set_option maxRecDepth 100000 in
set_option maxHeartbeats 1000000 in
theorem many_cmp (op : Int) (w : World) : Calls Tryz.prog 121 #[(.agg #[.int .i64 op])] w fun e w' => e = .returned (.int .i64 2) ∧ Below w.heap.size w w' := by
  go_enter Tryz.func121, Tryz.ntmps121
  go_wp2
  go_ret
  exact ⟨rfl, (by repeat (first | exact Below.refl _ _ | assumption | refine below_drewN ?_ _ | refine Below.drew ?_ | refine Below.alloc ?_ (by first | exact Nat.le_refl _ | exact Below.size (by assumption) | (simp; done) | (simp; omega)) _ | refine Below.setCell ?_ (by first | exact Nat.le_refl _ | exact Below.size (by assumption) | (simp; done) | (simp; omega)) _ | refine Below.trans ?_ (by assumption)))⟩
set_option maxRecDepth 100000 in
set_option maxHeartbeats 1000000 in
theorem part_cut (a b : Int) (w : World) : Calls Tryz.prog 131 #[.agg #[.int .i64 a, .int .i64 b]] w fun e w' => e = .returned (.agg #[.int .i64 22, .int .i64 a, .int .i64 b, .string ⟨#[]⟩, .slice none 0 0]) ∧ Below w.heap.size w w' := by
  go_enter Tryz.func131, Tryz.ntmps131
  go_wp2
  exact bodyPost_ret (v := .agg #[.int .i64 22, .int .i64 a, .int .i64 b, .string ⟨#[]⟩, .slice none 0 0]) (by simp [results, Tryz.results131, go_sem]) rfl ⟨rfl, (by repeat (first | exact Below.refl _ _ | assumption | refine below_drewN ?_ _ | refine Below.drew ?_ | refine Below.alloc ?_ (by first | exact Nat.le_refl _ | exact Below.size (by assumption) | (simp; done) | (simp; omega)) _ | refine Below.setCell ?_ (by first | exact Nat.le_refl _ | exact Below.size (by assumption) | (simp; done) | (simp; omega)) _ | refine Below.trans ?_ (by assumption)))⟩
theorem mp_cut (a b : Int) (w : World) : (method 252 108 (.agg #[.int .i64 a, .int .i64 b]) "loop.example/seedlip/impl.part").run Tryz.prog w = .ok (131, (.agg #[.int .i64 a, .int .i64 b])) w := by kernel_rfl
theorem mm_cut (a b : Int) (w : World) : (method 252 108 (.agg #[.int .i64 a, .int .i64 b]) "loop.example/seedlip/impl.many").run Tryz.prog w = .ok (130, (.agg #[.int .i64 a, .int .i64 b])) w := by kernel_rfl
theorem mw_cut (a b : Int) (w : World) : (method 252 108 (.agg #[.int .i64 a, .int .i64 b]) "loop.example/seedlip/impl.worth").run Tryz.prog w = .ok (133, (.agg #[.int .i64 a, .int .i64 b])) w := by kernel_rfl
set_option maxRecDepth 100000 in
set_option maxHeartbeats 1000000 in
theorem many_cut (a b : Int) (w : World) : Calls Tryz.prog 130 #[(.agg #[.int .i64 a, .int .i64 b])] w fun e w' => e = .returned (.int .i64 1) ∧ Below w.heap.size w w' := by
  go_enter Tryz.func130, Tryz.ntmps130
  go_wp2
  go_ret
  exact ⟨rfl, (by repeat (first | exact Below.refl _ _ | assumption | refine below_drewN ?_ _ | refine Below.drew ?_ | refine Below.alloc ?_ (by first | exact Nat.le_refl _ | exact Below.size (by assumption) | (simp; done) | (simp; omega)) _ | refine Below.setCell ?_ (by first | exact Nat.le_refl _ | exact Below.size (by assumption) | (simp; done) | (simp; omega)) _ | refine Below.trans ?_ (by assumption)))⟩
theorem mp_iff (op : Int) (w : World) : (method 252 109 (.agg #[.int .i64 op]) "loop.example/seedlip/impl.part").run Tryz.prog w = .ok (79, (.int .i64 op)) w := by kernel_rfl
theorem mm_iff (op : Int) (w : World) : (method 252 109 (.agg #[.int .i64 op]) "loop.example/seedlip/impl.many").run Tryz.prog w = .ok (135, (.agg #[.int .i64 op])) w := by kernel_rfl
theorem mw_iff (op : Int) (w : World) : (method 252 109 (.agg #[.int .i64 op]) "loop.example/seedlip/impl.worth").run Tryz.prog w = .ok (136, (.agg #[.int .i64 op])) w := by kernel_rfl
set_option maxRecDepth 100000 in
set_option maxHeartbeats 1000000 in
theorem many_iff (op : Int) (w : World) : Calls Tryz.prog 135 #[(.agg #[.int .i64 op])] w fun e w' => e = .returned (.int .i64 3) ∧ Below w.heap.size w w' := by
  go_enter Tryz.func135, Tryz.ntmps135
  go_wp2
  go_ret
  exact ⟨rfl, (by repeat (first | exact Below.refl _ _ | assumption | refine below_drewN ?_ _ | refine Below.drew ?_ | refine Below.alloc ?_ (by first | exact Nat.le_refl _ | exact Below.size (by assumption) | (simp; done) | (simp; omega)) _ | refine Below.setCell ?_ (by first | exact Nat.le_refl _ | exact Below.size (by assumption) | (simp; done) | (simp; omega)) _ | refine Below.trans ?_ (by assumption)))⟩
theorem mp_no (op : Int) (w : World) : (method 252 110 (.agg #[.int .i64 op]) "loop.example/seedlip/impl.part").run Tryz.prog w = .ok (79, (.int .i64 op)) w := by kernel_rfl
theorem mm_no (op : Int) (w : World) : (method 252 110 (.agg #[.int .i64 op]) "loop.example/seedlip/impl.many").run Tryz.prog w = .ok (138, (.agg #[.int .i64 op])) w := by kernel_rfl
theorem mw_no (op : Int) (w : World) : (method 252 110 (.agg #[.int .i64 op]) "loop.example/seedlip/impl.worth").run Tryz.prog w = .ok (139, (.agg #[.int .i64 op])) w := by kernel_rfl
set_option maxRecDepth 100000 in
set_option maxHeartbeats 1000000 in
theorem many_no (op : Int) (w : World) : Calls Tryz.prog 138 #[(.agg #[.int .i64 op])] w fun e w' => e = .returned (.int .i64 1) ∧ Below w.heap.size w w' := by
  go_enter Tryz.func138, Tryz.ntmps138
  go_wp2
  go_ret
  exact ⟨rfl, (by repeat (first | exact Below.refl _ _ | assumption | refine below_drewN ?_ _ | refine Below.drew ?_ | refine Below.alloc ?_ (by first | exact Nat.le_refl _ | exact Below.size (by assumption) | (simp; done) | (simp; omega)) _ | refine Below.setCell ?_ (by first | exact Nat.le_refl _ | exact Below.size (by assumption) | (simp; done) | (simp; omega)) _ | refine Below.trans ?_ (by assumption)))⟩
theorem mp_both (op : Int) (w : World) : (method 252 111 (.agg #[.int .i64 op]) "loop.example/seedlip/impl.part").run Tryz.prog w = .ok (79, (.int .i64 op)) w := by kernel_rfl
theorem mm_both (op : Int) (w : World) : (method 252 111 (.agg #[.int .i64 op]) "loop.example/seedlip/impl.many").run Tryz.prog w = .ok (140, (.agg #[.int .i64 op])) w := by kernel_rfl
theorem mw_both (op : Int) (w : World) : (method 252 111 (.agg #[.int .i64 op]) "loop.example/seedlip/impl.worth").run Tryz.prog w = .ok (141, (.agg #[.int .i64 op])) w := by kernel_rfl
set_option maxRecDepth 100000 in
set_option maxHeartbeats 1000000 in
theorem many_both (op : Int) (w : World) : Calls Tryz.prog 140 #[(.agg #[.int .i64 op])] w fun e w' => e = .returned (.int .i64 2) ∧ Below w.heap.size w w' := by
  go_enter Tryz.func140, Tryz.ntmps140
  go_wp2
  go_ret
  exact ⟨rfl, (by repeat (first | exact Below.refl _ _ | assumption | refine below_drewN ?_ _ | refine Below.drew ?_ | refine Below.alloc ?_ (by first | exact Nat.le_refl _ | exact Below.size (by assumption) | (simp; done) | (simp; omega)) _ | refine Below.setCell ?_ (by first | exact Nat.le_refl _ | exact Below.size (by assumption) | (simp; done) | (simp; omega)) _ | refine Below.trans ?_ (by assumption)))⟩
theorem mp_any (op : Int) (w : World) : (method 252 112 (.agg #[.int .i64 op]) "loop.example/seedlip/impl.part").run Tryz.prog w = .ok (79, (.int .i64 op)) w := by kernel_rfl
theorem mm_any (op : Int) (w : World) : (method 252 112 (.agg #[.int .i64 op]) "loop.example/seedlip/impl.many").run Tryz.prog w = .ok (142, (.agg #[.int .i64 op])) w := by kernel_rfl
theorem mw_any (op : Int) (w : World) : (method 252 112 (.agg #[.int .i64 op]) "loop.example/seedlip/impl.worth").run Tryz.prog w = .ok (143, (.agg #[.int .i64 op])) w := by kernel_rfl
set_option maxRecDepth 100000 in
set_option maxHeartbeats 1000000 in
theorem many_any (op : Int) (w : World) : Calls Tryz.prog 142 #[(.agg #[.int .i64 op])] w fun e w' => e = .returned (.int .i64 2) ∧ Below w.heap.size w w' := by
  go_enter Tryz.func142, Tryz.ntmps142
  go_wp2
  go_ret
  exact ⟨rfl, (by repeat (first | exact Below.refl _ _ | assumption | refine below_drewN ?_ _ | refine Below.drew ?_ | refine Below.alloc ?_ (by first | exact Nat.le_refl _ | exact Below.size (by assumption) | (simp; done) | (simp; omega)) _ | refine Below.setCell ?_ (by first | exact Nat.le_refl _ | exact Below.size (by assumption) | (simp; done) | (simp; omega)) _ | refine Below.trans ?_ (by assumption)))⟩
end Go.Proofs.YtbincnedkclfgaaGreat
