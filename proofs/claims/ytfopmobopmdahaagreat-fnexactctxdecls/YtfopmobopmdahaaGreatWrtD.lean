/- The methods of the kinds, and what their parts are. -/
import Derived.Test.YtfopmobopmdahaaGreatWrtA
namespace Go.Proofs.YtfopmobopmdahaaGreat
open Go.ChangeShapes Go.WideShapes Go.ChangeAt Go.RowKit Go.Joins
set_option linter.unusedVariables false
set_option linter.unusedSimpArgs false
set_option maxRecDepth 100000 in
set_option maxHeartbeats 1000000 in
theorem part_bare (op : Int) (w : World) : Calls Tryz.prog 112 #[.int .i64 op] w fun e w' => e = .returned (.agg #[.int .i64 op, .int .i64 0, .int .i64 0, .string ⟨#[]⟩, .slice none 0 0]) ∧ Below w.heap.size w w' := by
  go_enter Tryz.func112, Tryz.ntmps112
  go_wp2
  exact bodyPost_ret (v := .agg #[.int .i64 op, .int .i64 0, .int .i64 0, .string ⟨#[]⟩, .slice none 0 0]) (by simp [results, Tryz.results112, go_sem]) rfl ⟨rfl, (by repeat (first | exact Below.refl _ _ | assumption | refine below_drewN ?_ _ | refine Below.drew ?_ | refine Below.alloc ?_ (by first | exact Nat.le_refl _ | exact Below.size (by assumption) | (simp; done) | (simp; omega)) _ | refine Below.setCell ?_ (by first | exact Nat.le_refl _ | exact Below.size (by assumption) | (simp; done) | (simp; omega)) _ | refine Below.trans ?_ (by assumption)))⟩
set_option maxRecDepth 100000 in
set_option maxHeartbeats 1000000 in
theorem part_vec (a b : Int) (w : World) : Calls Tryz.prog 115 #[.agg #[.int .i64 a, .int .i64 b]] w fun e w' => e = .returned (.agg #[.int .i64 20, .int .i64 a, .int .i64 b, .string ⟨#[]⟩, .slice none 0 0]) ∧ Below w.heap.size w w' := by
  go_enter Tryz.func115, Tryz.ntmps115
  go_wp2
  exact bodyPost_ret (v := .agg #[.int .i64 20, .int .i64 a, .int .i64 b, .string ⟨#[]⟩, .slice none 0 0]) (by simp [results, Tryz.results115, go_sem]) rfl ⟨rfl, (by repeat (first | exact Below.refl _ _ | assumption | refine below_drewN ?_ _ | refine Below.drew ?_ | refine Below.alloc ?_ (by first | exact Nat.le_refl _ | exact Below.size (by assumption) | (simp; done) | (simp; omega)) _ | refine Below.setCell ?_ (by first | exact Nat.le_refl _ | exact Below.size (by assumption) | (simp; done) | (simp; omega)) _ | refine Below.trans ?_ (by assumption)))⟩
theorem mp_vec (a b : Int) (w : World) : (method 295 140 (.agg #[.int .i64 a, .int .i64 b]) "loop.example/seedlip/impl.part").run Tryz.prog w = .ok (115, (.agg #[.int .i64 a, .int .i64 b])) w := by kernel_rfl
theorem mm_vec (a b : Int) (w : World) : (method 295 140 (.agg #[.int .i64 a, .int .i64 b]) "loop.example/seedlip/impl.many").run Tryz.prog w = .ok (114, (.agg #[.int .i64 a, .int .i64 b])) w := by kernel_rfl
theorem mw_vec (a b : Int) (w : World) : (method 295 140 (.agg #[.int .i64 a, .int .i64 b]) "loop.example/seedlip/impl.worth").run Tryz.prog w = .ok (117, (.agg #[.int .i64 a, .int .i64 b])) w := by kernel_rfl
set_option maxRecDepth 100000 in
set_option maxHeartbeats 1000000 in
theorem many_vec (a b : Int) (w : World) : Calls Tryz.prog 114 #[(.agg #[.int .i64 a, .int .i64 b])] w fun e w' => e = .returned (.int .i64 0) ∧ Below w.heap.size w w' := by
  go_enter Tryz.func114, Tryz.ntmps114
  go_wp2
  go_ret
  exact ⟨rfl, (by repeat (first | exact Below.refl _ _ | assumption | refine below_drewN ?_ _ | refine Below.drew ?_ | refine Below.alloc ?_ (by first | exact Nat.le_refl _ | exact Below.size (by assumption) | (simp; done) | (simp; omega)) _ | refine Below.setCell ?_ (by first | exact Nat.le_refl _ | exact Below.size (by assumption) | (simp; done) | (simp; omega)) _ | refine Below.trans ?_ (by assumption)))⟩
set_option maxRecDepth 100000 in
set_option maxHeartbeats 1000000 in
theorem part_name (s : ByteArray) (w : World) : Calls Tryz.prog 119 #[.agg #[.string s]] w fun e w' => e = .returned (.agg #[.int .i64 21, .int .i64 0, .int .i64 0, .string s, .slice none 0 0]) ∧ Below w.heap.size w w' := by
  go_enter Tryz.func119, Tryz.ntmps119
  go_wp2
  exact bodyPost_ret (v := .agg #[.int .i64 21, .int .i64 0, .int .i64 0, .string s, .slice none 0 0]) (by simp [results, Tryz.results119, go_sem]) rfl ⟨rfl, (by repeat (first | exact Below.refl _ _ | assumption | refine below_drewN ?_ _ | refine Below.drew ?_ | refine Below.alloc ?_ (by first | exact Nat.le_refl _ | exact Below.size (by assumption) | (simp; done) | (simp; omega)) _ | refine Below.setCell ?_ (by first | exact Nat.le_refl _ | exact Below.size (by assumption) | (simp; done) | (simp; omega)) _ | refine Below.trans ?_ (by assumption)))⟩
theorem mp_name (s : ByteArray) (w : World) : (method 295 142 (.agg #[.string s]) "loop.example/seedlip/impl.part").run Tryz.prog w = .ok (119, (.agg #[.string s])) w := by kernel_rfl
theorem mm_name (s : ByteArray) (w : World) : (method 295 142 (.agg #[.string s]) "loop.example/seedlip/impl.many").run Tryz.prog w = .ok (118, (.agg #[.string s])) w := by kernel_rfl
theorem mw_name (s : ByteArray) (w : World) : (method 295 142 (.agg #[.string s]) "loop.example/seedlip/impl.worth").run Tryz.prog w = .ok (121, (.agg #[.string s])) w := by kernel_rfl
set_option maxRecDepth 100000 in
set_option maxHeartbeats 1000000 in
theorem many_name (s : ByteArray) (w : World) : Calls Tryz.prog 118 #[(.agg #[.string s])] w fun e w' => e = .returned (.int .i64 0) ∧ Below w.heap.size w w' := by
  go_enter Tryz.func118, Tryz.ntmps118
  go_wp2
  go_ret
  exact ⟨rfl, (by repeat (first | exact Below.refl _ _ | assumption | refine below_drewN ?_ _ | refine Below.drew ?_ | refine Below.alloc ?_ (by first | exact Nat.le_refl _ | exact Below.size (by assumption) | (simp; done) | (simp; omega)) _ | refine Below.setCell ?_ (by first | exact Nat.le_refl _ | exact Below.size (by assumption) | (simp; done) | (simp; omega)) _ | refine Below.trans ?_ (by assumption)))⟩
set_option maxRecDepth 100000 in
set_option maxHeartbeats 1000000 in
theorem part_tru  (w : World) : Calls Tryz.prog 123 #[.agg #[]] w fun e w' => e = .returned (.agg #[.int .i64 24, .int .i64 0, .int .i64 0, .string ⟨#[]⟩, .slice none 0 0]) ∧ Below w.heap.size w w' := by
  go_enter Tryz.func123, Tryz.ntmps123
  go_wp2
  exact bodyPost_ret (v := .agg #[.int .i64 24, .int .i64 0, .int .i64 0, .string ⟨#[]⟩, .slice none 0 0]) (by simp [results, Tryz.results123, go_sem]) rfl ⟨rfl, (by repeat (first | exact Below.refl _ _ | assumption | refine below_drewN ?_ _ | refine Below.drew ?_ | refine Below.alloc ?_ (by first | exact Nat.le_refl _ | exact Below.size (by assumption) | (simp; done) | (simp; omega)) _ | refine Below.setCell ?_ (by first | exact Nat.le_refl _ | exact Below.size (by assumption) | (simp; done) | (simp; omega)) _ | refine Below.trans ?_ (by assumption)))⟩
theorem mp_tru  (w : World) : (method 295 144 (.agg #[]) "loop.example/seedlip/impl.part").run Tryz.prog w = .ok (123, (.agg #[])) w := by kernel_rfl
theorem mm_tru  (w : World) : (method 295 144 (.agg #[]) "loop.example/seedlip/impl.many").run Tryz.prog w = .ok (122, (.agg #[])) w := by kernel_rfl
theorem mw_tru  (w : World) : (method 295 144 (.agg #[]) "loop.example/seedlip/impl.worth").run Tryz.prog w = .ok (125, (.agg #[])) w := by kernel_rfl
set_option maxRecDepth 100000 in
set_option maxHeartbeats 1000000 in
theorem many_tru  (w : World) : Calls Tryz.prog 122 #[(.agg #[])] w fun e w' => e = .returned (.int .i64 0) ∧ Below w.heap.size w w' := by
  go_enter Tryz.func122, Tryz.ntmps122
  go_wp2
  go_ret
  exact ⟨rfl, (by repeat (first | exact Below.refl _ _ | assumption | refine below_drewN ?_ _ | refine Below.drew ?_ | refine Below.alloc ?_ (by first | exact Nat.le_refl _ | exact Below.size (by assumption) | (simp; done) | (simp; omega)) _ | refine Below.setCell ?_ (by first | exact Nat.le_refl _ | exact Below.size (by assumption) | (simp; done) | (simp; omega)) _ | refine Below.trans ?_ (by assumption)))⟩
theorem mp_un (op : Int) (w : World) : (method 295 146 (.agg #[.int .i64 op]) "loop.example/seedlip/impl.part").run Tryz.prog w = .ok (112, (.int .i64 op)) w := by kernel_rfl
theorem mm_un (op : Int) (w : World) : (method 295 146 (.agg #[.int .i64 op]) "loop.example/seedlip/impl.many").run Tryz.prog w = .ok (127, (.agg #[.int .i64 op])) w := by kernel_rfl
theorem mw_un (op : Int) (w : World) : (method 295 146 (.agg #[.int .i64 op]) "loop.example/seedlip/impl.worth").run Tryz.prog w = .ok (128, (.agg #[.int .i64 op])) w := by kernel_rfl
set_option maxRecDepth 100000 in
set_option maxHeartbeats 1000000 in
theorem many_un (op : Int) (w : World) : Calls Tryz.prog 127 #[(.agg #[.int .i64 op])] w fun e w' => e = .returned (.int .i64 1) ∧ Below w.heap.size w w' := by
  go_enter Tryz.func127, Tryz.ntmps127
  go_wp2
  go_ret
  exact ⟨rfl, (by repeat (first | exact Below.refl _ _ | assumption | refine below_drewN ?_ _ | refine Below.drew ?_ | refine Below.alloc ?_ (by first | exact Nat.le_refl _ | exact Below.size (by assumption) | (simp; done) | (simp; omega)) _ | refine Below.setCell ?_ (by first | exact Nat.le_refl _ | exact Below.size (by assumption) | (simp; done) | (simp; omega)) _ | refine Below.trans ?_ (by assumption)))⟩
theorem mp_bin (op : Int) (w : World) : (method 295 147 (.agg #[.int .i64 op]) "loop.example/seedlip/impl.part").run Tryz.prog w = .ok (112, (.int .i64 op)) w := by kernel_rfl
theorem mm_bin (op : Int) (w : World) : (method 295 147 (.agg #[.int .i64 op]) "loop.example/seedlip/impl.many").run Tryz.prog w = .ok (138, (.agg #[.int .i64 op])) w := by kernel_rfl
theorem mw_bin (op : Int) (w : World) : (method 295 147 (.agg #[.int .i64 op]) "loop.example/seedlip/impl.worth").run Tryz.prog w = .ok (139, (.agg #[.int .i64 op])) w := by kernel_rfl
set_option maxRecDepth 100000 in
set_option maxHeartbeats 1000000 in
theorem many_bin (op : Int) (w : World) : Calls Tryz.prog 138 #[(.agg #[.int .i64 op])] w fun e w' => e = .returned (.int .i64 2) ∧ Below w.heap.size w w' := by
  go_enter Tryz.func138, Tryz.ntmps138
  go_wp2
  go_ret
  exact ⟨rfl, (by repeat (first | exact Below.refl _ _ | assumption | refine below_drewN ?_ _ | refine Below.drew ?_ | refine Below.alloc ?_ (by first | exact Nat.le_refl _ | exact Below.size (by assumption) | (simp; done) | (simp; omega)) _ | refine Below.setCell ?_ (by first | exact Nat.le_refl _ | exact Below.size (by assumption) | (simp; done) | (simp; omega)) _ | refine Below.trans ?_ (by assumption)))⟩
theorem mp_cmp (op : Int) (w : World) : (method 295 148 (.agg #[.int .i64 op]) "loop.example/seedlip/impl.part").run Tryz.prog w = .ok (112, (.int .i64 op)) w := by kernel_rfl
theorem mm_cmp (op : Int) (w : World) : (method 295 148 (.agg #[.int .i64 op]) "loop.example/seedlip/impl.many").run Tryz.prog w = .ok (154, (.agg #[.int .i64 op])) w := by kernel_rfl
theorem mw_cmp (op : Int) (w : World) : (method 295 148 (.agg #[.int .i64 op]) "loop.example/seedlip/impl.worth").run Tryz.prog w = .ok (155, (.agg #[.int .i64 op])) w := by kernel_rfl
set_option maxRecDepth 100000 in
set_option maxHeartbeats 1000000 in
theorem many_cmp (op : Int) (w : World) : Calls Tryz.prog 154 #[(.agg #[.int .i64 op])] w fun e w' => e = .returned (.int .i64 2) ∧ Below w.heap.size w w' := by
  go_enter Tryz.func154, Tryz.ntmps154
  go_wp2
  go_ret
  exact ⟨rfl, (by repeat (first | exact Below.refl _ _ | assumption | refine below_drewN ?_ _ | refine Below.drew ?_ | refine Below.alloc ?_ (by first | exact Nat.le_refl _ | exact Below.size (by assumption) | (simp; done) | (simp; omega)) _ | refine Below.setCell ?_ (by first | exact Nat.le_refl _ | exact Below.size (by assumption) | (simp; done) | (simp; omega)) _ | refine Below.trans ?_ (by assumption)))⟩
set_option maxRecDepth 100000 in
set_option maxHeartbeats 1000000 in
theorem part_cut (a b : Int) (w : World) : Calls Tryz.prog 164 #[.agg #[.int .i64 a, .int .i64 b]] w fun e w' => e = .returned (.agg #[.int .i64 22, .int .i64 a, .int .i64 b, .string ⟨#[]⟩, .slice none 0 0]) ∧ Below w.heap.size w w' := by
  go_enter Tryz.func164, Tryz.ntmps164
  go_wp2
  exact bodyPost_ret (v := .agg #[.int .i64 22, .int .i64 a, .int .i64 b, .string ⟨#[]⟩, .slice none 0 0]) (by simp [results, Tryz.results164, go_sem]) rfl ⟨rfl, (by repeat (first | exact Below.refl _ _ | assumption | refine below_drewN ?_ _ | refine Below.drew ?_ | refine Below.alloc ?_ (by first | exact Nat.le_refl _ | exact Below.size (by assumption) | (simp; done) | (simp; omega)) _ | refine Below.setCell ?_ (by first | exact Nat.le_refl _ | exact Below.size (by assumption) | (simp; done) | (simp; omega)) _ | refine Below.trans ?_ (by assumption)))⟩
theorem mp_cut (a b : Int) (w : World) : (method 295 150 (.agg #[.int .i64 a, .int .i64 b]) "loop.example/seedlip/impl.part").run Tryz.prog w = .ok (164, (.agg #[.int .i64 a, .int .i64 b])) w := by kernel_rfl
theorem mm_cut (a b : Int) (w : World) : (method 295 150 (.agg #[.int .i64 a, .int .i64 b]) "loop.example/seedlip/impl.many").run Tryz.prog w = .ok (163, (.agg #[.int .i64 a, .int .i64 b])) w := by kernel_rfl
theorem mw_cut (a b : Int) (w : World) : (method 295 150 (.agg #[.int .i64 a, .int .i64 b]) "loop.example/seedlip/impl.worth").run Tryz.prog w = .ok (166, (.agg #[.int .i64 a, .int .i64 b])) w := by kernel_rfl
set_option maxRecDepth 100000 in
set_option maxHeartbeats 1000000 in
theorem many_cut (a b : Int) (w : World) : Calls Tryz.prog 163 #[(.agg #[.int .i64 a, .int .i64 b])] w fun e w' => e = .returned (.int .i64 1) ∧ Below w.heap.size w w' := by
  go_enter Tryz.func163, Tryz.ntmps163
  go_wp2
  go_ret
  exact ⟨rfl, (by repeat (first | exact Below.refl _ _ | assumption | refine below_drewN ?_ _ | refine Below.drew ?_ | refine Below.alloc ?_ (by first | exact Nat.le_refl _ | exact Below.size (by assumption) | (simp; done) | (simp; omega)) _ | refine Below.setCell ?_ (by first | exact Nat.le_refl _ | exact Below.size (by assumption) | (simp; done) | (simp; omega)) _ | refine Below.trans ?_ (by assumption)))⟩
theorem mp_iff (op : Int) (w : World) : (method 295 151 (.agg #[.int .i64 op]) "loop.example/seedlip/impl.part").run Tryz.prog w = .ok (112, (.int .i64 op)) w := by kernel_rfl
theorem mm_iff (op : Int) (w : World) : (method 295 151 (.agg #[.int .i64 op]) "loop.example/seedlip/impl.many").run Tryz.prog w = .ok (168, (.agg #[.int .i64 op])) w := by kernel_rfl
theorem mw_iff (op : Int) (w : World) : (method 295 151 (.agg #[.int .i64 op]) "loop.example/seedlip/impl.worth").run Tryz.prog w = .ok (169, (.agg #[.int .i64 op])) w := by kernel_rfl
set_option maxRecDepth 100000 in
set_option maxHeartbeats 1000000 in
theorem many_iff (op : Int) (w : World) : Calls Tryz.prog 168 #[(.agg #[.int .i64 op])] w fun e w' => e = .returned (.int .i64 3) ∧ Below w.heap.size w w' := by
  go_enter Tryz.func168, Tryz.ntmps168
  go_wp2
  go_ret
  exact ⟨rfl, (by repeat (first | exact Below.refl _ _ | assumption | refine below_drewN ?_ _ | refine Below.drew ?_ | refine Below.alloc ?_ (by first | exact Nat.le_refl _ | exact Below.size (by assumption) | (simp; done) | (simp; omega)) _ | refine Below.setCell ?_ (by first | exact Nat.le_refl _ | exact Below.size (by assumption) | (simp; done) | (simp; omega)) _ | refine Below.trans ?_ (by assumption)))⟩
theorem mp_no (op : Int) (w : World) : (method 295 152 (.agg #[.int .i64 op]) "loop.example/seedlip/impl.part").run Tryz.prog w = .ok (112, (.int .i64 op)) w := by kernel_rfl
theorem mm_no (op : Int) (w : World) : (method 295 152 (.agg #[.int .i64 op]) "loop.example/seedlip/impl.many").run Tryz.prog w = .ok (171, (.agg #[.int .i64 op])) w := by kernel_rfl
theorem mw_no (op : Int) (w : World) : (method 295 152 (.agg #[.int .i64 op]) "loop.example/seedlip/impl.worth").run Tryz.prog w = .ok (172, (.agg #[.int .i64 op])) w := by kernel_rfl
set_option maxRecDepth 100000 in
set_option maxHeartbeats 1000000 in
theorem many_no (op : Int) (w : World) : Calls Tryz.prog 171 #[(.agg #[.int .i64 op])] w fun e w' => e = .returned (.int .i64 1) ∧ Below w.heap.size w w' := by
  go_enter Tryz.func171, Tryz.ntmps171
  go_wp2
  go_ret
  exact ⟨rfl, (by repeat (first | exact Below.refl _ _ | assumption | refine below_drewN ?_ _ | refine Below.drew ?_ | refine Below.alloc ?_ (by first | exact Nat.le_refl _ | exact Below.size (by assumption) | (simp; done) | (simp; omega)) _ | refine Below.setCell ?_ (by first | exact Nat.le_refl _ | exact Below.size (by assumption) | (simp; done) | (simp; omega)) _ | refine Below.trans ?_ (by assumption)))⟩
theorem mp_both (op : Int) (w : World) : (method 295 153 (.agg #[.int .i64 op]) "loop.example/seedlip/impl.part").run Tryz.prog w = .ok (112, (.int .i64 op)) w := by kernel_rfl
theorem mm_both (op : Int) (w : World) : (method 295 153 (.agg #[.int .i64 op]) "loop.example/seedlip/impl.many").run Tryz.prog w = .ok (173, (.agg #[.int .i64 op])) w := by kernel_rfl
theorem mw_both (op : Int) (w : World) : (method 295 153 (.agg #[.int .i64 op]) "loop.example/seedlip/impl.worth").run Tryz.prog w = .ok (174, (.agg #[.int .i64 op])) w := by kernel_rfl
set_option maxRecDepth 100000 in
set_option maxHeartbeats 1000000 in
theorem many_both (op : Int) (w : World) : Calls Tryz.prog 173 #[(.agg #[.int .i64 op])] w fun e w' => e = .returned (.int .i64 2) ∧ Below w.heap.size w w' := by
  go_enter Tryz.func173, Tryz.ntmps173
  go_wp2
  go_ret
  exact ⟨rfl, (by repeat (first | exact Below.refl _ _ | assumption | refine below_drewN ?_ _ | refine Below.drew ?_ | refine Below.alloc ?_ (by first | exact Nat.le_refl _ | exact Below.size (by assumption) | (simp; done) | (simp; omega)) _ | refine Below.setCell ?_ (by first | exact Nat.le_refl _ | exact Below.size (by assumption) | (simp; done) | (simp; omega)) _ | refine Below.trans ?_ (by assumption)))⟩
theorem mp_any (op : Int) (w : World) : (method 295 154 (.agg #[.int .i64 op]) "loop.example/seedlip/impl.part").run Tryz.prog w = .ok (112, (.int .i64 op)) w := by kernel_rfl
theorem mm_any (op : Int) (w : World) : (method 295 154 (.agg #[.int .i64 op]) "loop.example/seedlip/impl.many").run Tryz.prog w = .ok (175, (.agg #[.int .i64 op])) w := by kernel_rfl
theorem mw_any (op : Int) (w : World) : (method 295 154 (.agg #[.int .i64 op]) "loop.example/seedlip/impl.worth").run Tryz.prog w = .ok (176, (.agg #[.int .i64 op])) w := by kernel_rfl
set_option maxRecDepth 100000 in
set_option maxHeartbeats 1000000 in
theorem many_any (op : Int) (w : World) : Calls Tryz.prog 175 #[(.agg #[.int .i64 op])] w fun e w' => e = .returned (.int .i64 2) ∧ Below w.heap.size w w' := by
  go_enter Tryz.func175, Tryz.ntmps175
  go_wp2
  go_ret
  exact ⟨rfl, (by repeat (first | exact Below.refl _ _ | assumption | refine below_drewN ?_ _ | refine Below.drew ?_ | refine Below.alloc ?_ (by first | exact Nat.le_refl _ | exact Below.size (by assumption) | (simp; done) | (simp; omega)) _ | refine Below.setCell ?_ (by first | exact Nat.le_refl _ | exact Below.size (by assumption) | (simp; done) | (simp; omega)) _ | refine Below.trans ?_ (by assumption)))⟩
end Go.Proofs.YtfopmobopmdahaaGreat
