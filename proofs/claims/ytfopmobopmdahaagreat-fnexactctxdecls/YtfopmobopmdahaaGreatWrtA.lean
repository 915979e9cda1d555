/- Kinds of terms, of the program. -/
import Derived.Test.YtfopmobopmdahaaGreatSrtC
import Derived.Test.YtfopmobopmdahaaGreatHsA
namespace Go.Proofs.YtfopmobopmdahaaGreat
open Go.ChangeShapes Go.WideShapes Go.ChangeAt Go.RowKit Go.Joins
set_option linter.unusedVariables false

set_option maxRecDepth 100000 in
set_option maxHeartbeats 4000000 in
theorem kind_vec (op a b : Int) (s : ByteArray) (n : Nat) (ad : Option Addr) (cp : Nat) (w : World) (h : op = 20) :
    Calls Tryz.prog 93 #[.agg #[.int .i64 op, .int .i64 a, .int .i64 b, .string s, .slice ad n cp]] w fun e w' => e = .returned (.tuple #[.iface 140 (.agg #[.int .i64 a, .int .i64 b]), .bool true]) ∧ Below w.heap.size w w' := by
  rcases h with rfl
  all_goals
    go_enter Tryz.func93, Tryz.ntmps93
    go_wp2
    exact bodyPost_ret (v := .tuple #[.iface 140 (.agg #[.int .i64 a, .int .i64 b]), .bool true]) (by simp [results, Tryz.results93, go_sem]) rfl ⟨rfl, (by repeat (first | exact Below.refl _ _ | assumption | refine below_drewN ?_ _ | refine Below.drew ?_ | refine Below.alloc ?_ (by first | exact Nat.le_refl _ | exact Below.size (by assumption) | (simp; done) | (simp; omega)) _ | refine Below.setCell ?_ (by first | exact Nat.le_refl _ | exact Below.size (by assumption) | (simp; done) | (simp; omega)) _ | refine Below.trans ?_ (by assumption)))⟩
set_option maxRecDepth 100000 in
set_option maxHeartbeats 4000000 in
theorem kind_name (op a b : Int) (s : ByteArray) (n : Nat) (ad : Option Addr) (cp : Nat) (w : World) (h : op = 21) :
    Calls Tryz.prog 93 #[.agg #[.int .i64 op, .int .i64 a, .int .i64 b, .string s, .slice ad n cp]] w fun e w' => e = .returned (.tuple #[.iface 142 (.agg #[.string s]), .bool true]) ∧ Below w.heap.size w w' := by
  rcases h with rfl
  all_goals
    go_enter Tryz.func93, Tryz.ntmps93
    go_wp2
    exact bodyPost_ret (v := .tuple #[.iface 142 (.agg #[.string s]), .bool true]) (by simp [results, Tryz.results93, go_sem]) rfl ⟨rfl, (by repeat (first | exact Below.refl _ _ | assumption | refine below_drewN ?_ _ | refine Below.drew ?_ | refine Below.alloc ?_ (by first | exact Nat.le_refl _ | exact Below.size (by assumption) | (simp; done) | (simp; omega)) _ | refine Below.setCell ?_ (by first | exact Nat.le_refl _ | exact Below.size (by assumption) | (simp; done) | (simp; omega)) _ | refine Below.trans ?_ (by assumption)))⟩
set_option maxRecDepth 100000 in
set_option maxHeartbeats 4000000 in
theorem kind_tru (op a b : Int) (s : ByteArray) (n : Nat) (ad : Option Addr) (cp : Nat) (w : World) (h : op = 24) :
    Calls Tryz.prog 93 #[.agg #[.int .i64 op, .int .i64 a, .int .i64 b, .string s, .slice ad n cp]] w fun e w' => e = .returned (.tuple #[.iface 144 (.agg #[]), .bool true]) ∧ Below w.heap.size w w' := by
  rcases h with rfl
  all_goals
    go_enter Tryz.func93, Tryz.ntmps93
    go_wp2
    exact bodyPost_ret (v := .tuple #[.iface 144 (.agg #[]), .bool true]) (by simp [results, Tryz.results93, go_sem]) rfl ⟨rfl, (by repeat (first | exact Below.refl _ _ | assumption | refine below_drewN ?_ _ | refine Below.drew ?_ | refine Below.alloc ?_ (by first | exact Nat.le_refl _ | exact Below.size (by assumption) | (simp; done) | (simp; omega)) _ | refine Below.setCell ?_ (by first | exact Nat.le_refl _ | exact Below.size (by assumption) | (simp; done) | (simp; omega)) _ | refine Below.trans ?_ (by assumption)))⟩
set_option maxRecDepth 100000 in
set_option maxHeartbeats 4000000 in
theorem kind_un (op a b : Int) (s : ByteArray) (n : Nat) (ad : Option Addr) (cp : Nat) (w : World) (h : op = 1 ∨ op = 2) :
    Calls Tryz.prog 93 #[.agg #[.int .i64 op, .int .i64 a, .int .i64 b, .string s, .slice ad n cp]] w fun e w' => e = .returned (.tuple #[.iface 146 (.agg #[.int .i64 op]), .bool true]) ∧ Below w.heap.size w w' := by
  rcases h with rfl | rfl
  all_goals
    go_enter Tryz.func93, Tryz.ntmps93
    go_wp2
    exact bodyPost_ret (v := .tuple #[.iface 146 (.agg #[.int .i64 _]), .bool true]) (by simp [results, Tryz.results93, go_sem]) rfl ⟨rfl, (by repeat (first | exact Below.refl _ _ | assumption | refine below_drewN ?_ _ | refine Below.drew ?_ | refine Below.alloc ?_ (by first | exact Nat.le_refl _ | exact Below.size (by assumption) | (simp; done) | (simp; omega)) _ | refine Below.setCell ?_ (by first | exact Nat.le_refl _ | exact Below.size (by assumption) | (simp; done) | (simp; omega)) _ | refine Below.trans ?_ (by assumption)))⟩
set_option maxRecDepth 100000 in
set_option maxHeartbeats 4000000 in
theorem kind_bin (op a b : Int) (s : ByteArray) (n : Nat) (ad : Option Addr) (cp : Nat) (w : World) (h : op = 3 ∨ op = 4 ∨ op = 5 ∨ op = 6 ∨ op = 7 ∨ op = 8 ∨ op = 9 ∨ op = 10 ∨ op = 11 ∨ op = 12 ∨ op = 13 ∨ op = 14) :
    Calls Tryz.prog 93 #[.agg #[.int .i64 op, .int .i64 a, .int .i64 b, .string s, .slice ad n cp]] w fun e w' => e = .returned (.tuple #[.iface 147 (.agg #[.int .i64 op]), .bool true]) ∧ Below w.heap.size w w' := by
  rcases h with rfl | rfl | rfl | rfl | rfl | rfl | rfl | rfl | rfl | rfl | rfl | rfl
  all_goals
    go_enter Tryz.func93, Tryz.ntmps93
    go_wp2
    exact bodyPost_ret (v := .tuple #[.iface 147 (.agg #[.int .i64 _]), .bool true]) (by simp [results, Tryz.results93, go_sem]) rfl ⟨rfl, (by repeat (first | exact Below.refl _ _ | assumption | refine below_drewN ?_ _ | refine Below.drew ?_ | refine Below.alloc ?_ (by first | exact Nat.le_refl _ | exact Below.size (by assumption) | (simp; done) | (simp; omega)) _ | refine Below.setCell ?_ (by first | exact Nat.le_refl _ | exact Below.size (by assumption) | (simp; done) | (simp; omega)) _ | refine Below.trans ?_ (by assumption)))⟩
set_option maxRecDepth 100000 in
set_option maxHeartbeats 4000000 in
theorem kind_cmp (op a b : Int) (s : ByteArray) (n : Nat) (ad : Option Addr) (cp : Nat) (w : World) (h : op = 15 ∨ op = 16 ∨ op = 17) :
    Calls Tryz.prog 93 #[.agg #[.int .i64 op, .int .i64 a, .int .i64 b, .string s, .slice ad n cp]] w fun e w' => e = .returned (.tuple #[.iface 148 (.agg #[.int .i64 op]), .bool true]) ∧ Below w.heap.size w w' := by
  rcases h with rfl | rfl | rfl
  all_goals
    go_enter Tryz.func93, Tryz.ntmps93
    go_wp2
    exact bodyPost_ret (v := .tuple #[.iface 148 (.agg #[.int .i64 _]), .bool true]) (by simp [results, Tryz.results93, go_sem]) rfl ⟨rfl, (by repeat (first | exact Below.refl _ _ | assumption | refine below_drewN ?_ _ | refine Below.drew ?_ | refine Below.alloc ?_ (by first | exact Nat.le_refl _ | exact Below.size (by assumption) | (simp; done) | (simp; omega)) _ | refine Below.setCell ?_ (by first | exact Nat.le_refl _ | exact Below.size (by assumption) | (simp; done) | (simp; omega)) _ | refine Below.trans ?_ (by assumption)))⟩
set_option maxRecDepth 100000 in
set_option maxHeartbeats 4000000 in
theorem kind_cut (op a b : Int) (s : ByteArray) (n : Nat) (ad : Option Addr) (cp : Nat) (w : World) (h : op = 22) :
    Calls Tryz.prog 93 #[.agg #[.int .i64 op, .int .i64 a, .int .i64 b, .string s, .slice ad n cp]] w fun e w' => e = .returned (.tuple #[.iface 150 (.agg #[.int .i64 a, .int .i64 b]), .bool true]) ∧ Below w.heap.size w w' := by
  rcases h with rfl
  all_goals
    go_enter Tryz.func93, Tryz.ntmps93
    go_wp2
    exact bodyPost_ret (v := .tuple #[.iface 150 (.agg #[.int .i64 a, .int .i64 b]), .bool true]) (by simp [results, Tryz.results93, go_sem]) rfl ⟨rfl, (by repeat (first | exact Below.refl _ _ | assumption | refine below_drewN ?_ _ | refine Below.drew ?_ | refine Below.alloc ?_ (by first | exact Nat.le_refl _ | exact Below.size (by assumption) | (simp; done) | (simp; omega)) _ | refine Below.setCell ?_ (by first | exact Nat.le_refl _ | exact Below.size (by assumption) | (simp; done) | (simp; omega)) _ | refine Below.trans ?_ (by assumption)))⟩
set_option maxRecDepth 100000 in
set_option maxHeartbeats 4000000 in
theorem kind_iff (op a b : Int) (s : ByteArray) (n : Nat) (ad : Option Addr) (cp : Nat) (w : World) (h : op = 23) :
    Calls Tryz.prog 93 #[.agg #[.int .i64 op, .int .i64 a, .int .i64 b, .string s, .slice ad n cp]] w fun e w' => e = .returned (.tuple #[.iface 151 (.agg #[.int .i64 op]), .bool true]) ∧ Below w.heap.size w w' := by
  rcases h with rfl
  all_goals
    go_enter Tryz.func93, Tryz.ntmps93
    go_wp2
    exact bodyPost_ret (v := .tuple #[.iface 151 (.agg #[.int .i64 _]), .bool true]) (by simp [results, Tryz.results93, go_sem]) rfl ⟨rfl, (by repeat (first | exact Below.refl _ _ | assumption | refine below_drewN ?_ _ | refine Below.drew ?_ | refine Below.alloc ?_ (by first | exact Nat.le_refl _ | exact Below.size (by assumption) | (simp; done) | (simp; omega)) _ | refine Below.setCell ?_ (by first | exact Nat.le_refl _ | exact Below.size (by assumption) | (simp; done) | (simp; omega)) _ | refine Below.trans ?_ (by assumption)))⟩
set_option maxRecDepth 100000 in
set_option maxHeartbeats 4000000 in
theorem kind_no (op a b : Int) (s : ByteArray) (n : Nat) (ad : Option Addr) (cp : Nat) (w : World) (h : op = 25) :
    Calls Tryz.prog 93 #[.agg #[.int .i64 op, .int .i64 a, .int .i64 b, .string s, .slice ad n cp]] w fun e w' => e = .returned (.tuple #[.iface 152 (.agg #[.int .i64 op]), .bool true]) ∧ Below w.heap.size w w' := by
  rcases h with rfl
  all_goals
    go_enter Tryz.func93, Tryz.ntmps93
    go_wp2
    exact bodyPost_ret (v := .tuple #[.iface 152 (.agg #[.int .i64 _]), .bool true]) (by simp [results, Tryz.results93, go_sem]) rfl ⟨rfl, (by repeat (first | exact Below.refl _ _ | assumption | refine below_drewN ?_ _ | refine Below.drew ?_ | refine Below.alloc ?_ (by first | exact Nat.le_refl _ | exact Below.size (by assumption) | (simp; done) | (simp; omega)) _ | refine Below.setCell ?_ (by first | exact Nat.le_refl _ | exact Below.size (by assumption) | (simp; done) | (simp; omega)) _ | refine Below.trans ?_ (by assumption)))⟩
set_option maxRecDepth 100000 in
set_option maxHeartbeats 4000000 in
theorem kind_both (op a b : Int) (s : ByteArray) (n : Nat) (ad : Option Addr) (cp : Nat) (w : World) (h : op = 26) :
    Calls Tryz.prog 93 #[.agg #[.int .i64 op, .int .i64 a, .int .i64 b, .string s, .slice ad n cp]] w fun e w' => e = .returned (.tuple #[.iface 153 (.agg #[.int .i64 op]), .bool true]) ∧ Below w.heap.size w w' := by
  rcases h with rfl
  all_goals
    go_enter Tryz.func93, Tryz.ntmps93
    go_wp2
    exact bodyPost_ret (v := .tuple #[.iface 153 (.agg #[.int .i64 _]), .bool true]) (by simp [results, Tryz.results93, go_sem]) rfl ⟨rfl, (by repeat (first | exact Below.refl _ _ | assumption | refine below_drewN ?_ _ | refine Below.drew ?_ | refine Below.alloc ?_ (by first | exact Nat.le_refl _ | exact Below.size (by assumption) | (simp; done) | (simp; omega)) _ | refine Below.setCell ?_ (by first | exact Nat.le_refl _ | exact Below.size (by assumption) | (simp; done) | (simp; omega)) _ | refine Below.trans ?_ (by assumption)))⟩
set_option maxRecDepth 100000 in
set_option maxHeartbeats 4000000 in
theorem kind_any (op a b : Int) (s : ByteArray) (n : Nat) (ad : Option Addr) (cp : Nat) (w : World) (h : op = 27) :
    Calls Tryz.prog 93 #[.agg #[.int .i64 op, .int .i64 a, .int .i64 b, .string s, .slice ad n cp]] w fun e w' => e = .returned (.tuple #[.iface 154 (.agg #[.int .i64 op]), .bool true]) ∧ Below w.heap.size w w' := by
  rcases h with rfl
  all_goals
    go_enter Tryz.func93, Tryz.ntmps93
    go_wp2
    exact bodyPost_ret (v := .tuple #[.iface 154 (.agg #[.int .i64 _]), .bool true]) (by simp [results, Tryz.results93, go_sem]) rfl ⟨rfl, (by repeat (first | exact Below.refl _ _ | assumption | refine below_drewN ?_ _ | refine Below.drew ?_ | refine Below.alloc ?_ (by first | exact Nat.le_refl _ | exact Below.size (by assumption) | (simp; done) | (simp; omega)) _ | refine Below.setCell ?_ (by first | exact Nat.le_refl _ | exact Below.size (by assumption) | (simp; done) | (simp; omega)) _ | refine Below.trans ?_ (by assumption)))⟩
set_option maxRecDepth 100000 in
set_option maxHeartbeats 4000000 in
theorem kind_none (op a b : Int) (s : ByteArray) (n : Nat) (ad : Option Addr) (cp : Nat) (w : World) (h : op < 1 ∨ 27 < op ∨ op = 18 ∨ op = 19) :
    Calls Tryz.prog 93 #[.agg #[.int .i64 op, .int .i64 a, .int .i64 b, .string s, .slice ad n cp]] w fun e w' => e = .returned (.tuple #[.iface 144 (.agg #[]), .bool false]) ∧ Below w.heap.size w w' := by
  have n20 : (op == 20) = false := by simp; omega
  have n21 : (op == 21) = false := by simp; omega
  have n24 : (op == 24) = false := by simp; omega
  have n1 : (op == 1) = false := by simp; omega
  have n2 : (op == 2) = false := by simp; omega
  have n3 : (op == 3) = false := by simp; omega
  have n4 : (op == 4) = false := by simp; omega
  have n5 : (op == 5) = false := by simp; omega
  have n6 : (op == 6) = false := by simp; omega
  have n7 : (op == 7) = false := by simp; omega
  have n8 : (op == 8) = false := by simp; omega
  have n9 : (op == 9) = false := by simp; omega
  have n10 : (op == 10) = false := by simp; omega
  have n11 : (op == 11) = false := by simp; omega
  have n12 : (op == 12) = false := by simp; omega
  have n13 : (op == 13) = false := by simp; omega
  have n14 : (op == 14) = false := by simp; omega
  have n15 : (op == 15) = false := by simp; omega
  have n16 : (op == 16) = false := by simp; omega
  have n17 : (op == 17) = false := by simp; omega
  have n22 : (op == 22) = false := by simp; omega
  have n23 : (op == 23) = false := by simp; omega
  have n25 : (op == 25) = false := by simp; omega
  have n26 : (op == 26) = false := by simp; omega
  have n27 : (op == 27) = false := by simp; omega
  clear h
  go_enter Tryz.func93, Tryz.ntmps93
  go_wp2
  exact bodyPost_ret (v := .tuple #[.iface 144 (.agg #[]), .bool false]) (by simp [results, Tryz.results93, go_sem]) rfl ⟨rfl, (by repeat (first | exact Below.refl _ _ | assumption | refine below_drewN ?_ _ | refine Below.drew ?_ | refine Below.alloc ?_ (by first | exact Nat.le_refl _ | exact Below.size (by assumption) | (simp; done) | (simp; omega)) _ | refine Below.setCell ?_ (by first | exact Nat.le_refl _ | exact Below.size (by assumption) | (simp; done) | (simp; omega)) _ | refine Below.trans ?_ (by assumption)))⟩
end Go.Proofs.YtfopmobopmdahaaGreat
