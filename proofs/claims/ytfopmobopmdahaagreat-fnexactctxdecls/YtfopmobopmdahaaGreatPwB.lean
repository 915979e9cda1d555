/- What the program's partWorth returns: the sort of a term and what it is. -/
import Derived.Test.YtfopmobopmdahaaGreatPwM
namespace Go.Proofs.YtfopmobopmdahaaGreat
open Go.ChangeShapes Go.WideShapes Go.ChangeAt Go.RowKit Go.Joins
set_option linter.unusedVariables false
set_option linter.unusedSimpArgs false

theorem entersAt {f : FuncId} {fn : Func} {c : Code} (hf : Tryz.prog.funcs[f]? = some fn) (hname : (fn.name == "runtime.NumGoroutine") = false) (hb : fn.body = some c) (args : Array Value) (w : World) :
    (callFunc f args).run Tryz.prog w = .ok (.enter f args) w := by
  have h1 : fn.name ≠ "runtime.NumGoroutine" := by simpa using hname
  simp [callFunc, hf, h1, hb]
/-- The answer of partWorth. -/
def PwAns (n : Nat) (S : Nat → ByteArray) (V E : Nat → Int) (t : TT) (e : Ending) : Prop := ∃ x y r, e = .returned (.tuple #[.agg #[.int .i64 x, .int .i64 y], .bool r]) ∧ Ans (t.sort n S V) (t.ev n S V E) x y r
theorem hs_bare {op a b : Int} {s : ByteArray} {m : Nat} (h20 : op ≠ 20) (h21 : op ≠ 21) (h22 : op ≠ 22) : (hsB op 0 0 ⟨#[]⟩ op a b s = true ∧ arity op = m) ↔ PlainP op a b s m := by
  have e0 : (⟨#[]⟩ : ByteArray).toList = [] := by rw [ByteArray.toList_eq]
  unfold hsB PlainP
  rw [e0]
  simp only [Bool.and_eq_true, beq_iff_eq]
  constructor
  · rintro ⟨⟨⟨⟨_, h1⟩, h2⟩, h3⟩, h4⟩
    exact ⟨fun _ => h3.symm, fun _ _ => ⟨h1.symm, h2.symm⟩, h4.symm⟩
  · rintro ⟨h1, h2, h3⟩
    exact ⟨⟨⟨⟨trivial, (h2 h20 h22).1.symm⟩, (h2 h20 h22).2.symm⟩, (h1 h21).symm⟩, h3.symm⟩
theorem hs_ab {op a b : Int} {s : ByteArray} {m : Nat} (h : op = 20 ∨ op = 22) : (hsB op a b ⟨#[]⟩ op a b s = true ∧ arity op = m) ↔ PlainP op a b s m := by
  have e0 : (⟨#[]⟩ : ByteArray).toList = [] := by rw [ByteArray.toList_eq]
  unfold hsB PlainP
  rw [e0]
  simp only [Bool.and_eq_true, beq_iff_eq]
  constructor
  · rintro ⟨⟨_, h3⟩, h4⟩
    exact ⟨fun _ => h3.symm, fun h1 h2 => by omega, h4.symm⟩
  · rintro ⟨h1, h2, h3⟩
    exact ⟨⟨⟨⟨trivial, trivial⟩, trivial⟩, (h1 (by omega)).symm⟩, h3.symm⟩
theorem hs_name {a b : Int} {s : ByteArray} {m : Nat} : (hsB 21 0 0 s 21 a b s = true ∧ arity 21 = m) ↔ PlainP 21 a b s m := by
  unfold hsB PlainP
  simp only [Bool.and_eq_true, beq_iff_eq]
  constructor
  · rintro ⟨⟨⟨⟨_, h1⟩, h2⟩, _⟩, h4⟩
    exact ⟨fun h => (h rfl).elim, fun _ _ => ⟨h1.symm, h2.symm⟩, h4.symm⟩
  · rintro ⟨h1, h2, h3⟩
    exact ⟨⟨⟨⟨trivial, (h2 (by omega) (by omega)).1.symm⟩, (h2 (by omega) (by omega)).2.symm⟩, trivial⟩, h3.symm⟩
theorem one_neg (op A B : Int) : oneS op A B (-1) = -1 := by
  unfold oneS
  repeat' split
  all_goals omega
theorem both_neg0 (op b : Int) : bothS op (-1) b = -1 := by
  unfold bothS
  repeat' split
  all_goals omega
theorem both_neg1 (op a : Int) : bothS op a (-1) = -1 := by
  unfold bothS
  repeat' split
  all_goals omega
set_option maxRecDepth 100000 in
set_option maxHeartbeats 2000000 in
theorem pw_un (hi B n : Nat) (S : Nat → ByteArray) (V E : Nat → Int) (hEnv : ∀ i, i < n → okB (V i) (E i) = true) (op a b : Int) (s : ByteArray) (m : Nat) (kid : Nat → TT) (hop : op = 1 ∨ op = 2) (hss : s.size ≤ 1048576) (hm20 : m ≤ 1048576)
    (ih : ∀ i, i < m → ∀ (ad : Option Addr) (cp : Nat) (w : World), (kid i).In w 0 hi ad → hi ≤ w.heap.size → Known w B n S V E → Calls Tryz.prog 89 #[.map (some B), .agg #[.int .i64 (kid i).op, .int .i64 (kid i).a, .int .i64 (kid i).b, .string (kid i).s, .slice ad (kid i).n cp]] w fun e w' => PwAns n S V E (kid i) e ∧ Below w.heap.size w w')
    (ad : Option Addr) (cp : Nat) (w : World) (hin : (TT.node op a b s m kid).In w 0 hi ad) (hhi : hi ≤ w.heap.size) (hkn : Known w B n S V E) :
    Calls Tryz.prog 89 #[.map (some B), .agg #[.int .i64 op, .int .i64 a, .int .i64 b, .string s, .slice ad m cp]] w fun e w' => PwAns n S V E (.node op a b s m kid) e ∧ Below w.heap.size w w' := by
  have har : arity op = 1 := by rcases hop with rfl | rfl <;> rfl
  refine (part_gen hi B n S V E op a b s m kid 146 (.agg #[.int .i64 op]) (.int .i64 op) 112 127 128 op 0 0 ⟨#[]⟩ 1
    (fun i x y => x = (kid i).sort n S V ∧ y = (kid i).ev n S V E ∧ Good x y) (fun i => (kid i).sort n S V = -1) (fun X Y x y r => tup x y r = unV op (X 0) (Y 0))
    (fun ad cp w => kind_un op a b s m ad cp w hop) (mp_un op) (mm_un op) (mw_un op) (entersAt Tryz.func112 (by kernel_rfl) rfl) (entersAt Tryz.func127 (by kernel_rfl) rfl) (entersAt Tryz.func128 (by kernel_rfl) rfl)
    (part_bare op) (many_un op) ?hw ?hi hm20 ad cp w hin hhi hkn).mono ?_
  case hw =>
    intro hM KB X Y w hv hkn'
    obtain rfl : m = 1 := by omega
    refine (worth_un op KB X Y _ w hv).mono ?_
    rintro e w' ⟨rfl, hb⟩
    obtain ⟨c, d, t, hV⟩ := unV_form op (X 0) (Y 0)
    exact ⟨⟨c, d, t, by rw [hV], by rw [hV]; rfl⟩, hb⟩
  case hi =>
    intro i hi' ad cp w h1 h2 h3
    refine (ih i hi' ad cp w h1 h2 h3).mono ?_
    rintro e w' ⟨⟨x, y, r, rfl, h4, h5⟩, hb⟩
    exact ⟨⟨x, y, r, rfl, h4, h5⟩, hb⟩
  rintro e w' ⟨⟨x, y, r, rfl, hcase⟩, hb⟩
  refine ⟨⟨x, y, r, rfl, ?_⟩, hb⟩
  have hiff := hs_bare (a := a) (b := b) (s := s) (m := m) (show op ≠ 20 by omega) (show op ≠ 21 by omega) (show op ≠ 22 by omega)
  rw [har] at hiff
  rcases hcase with ⟨rfl, hno⟩ | ⟨hyes, hcase⟩
  · exact Ans.no rfl (sort_no (fun hp => hno (hiff.2 hp)))
  · have hpl : PlainP op a b s m := hiff.1 hyes
    obtain rfl : m = 1 := by have := hpl.2.2; omega
    have hsv : (TT.node op a b s 1 kid).sort n S V = oneS op a b ((kid 0).sort n S V) := by
      rw [sort_plain hpl]
      rw [if_neg (by omega), if_neg (by omega), if_neg (by omega), if_pos rfl]
    have hev : (TT.node op a b s 1 kid).ev n S V E = unE op ((kid 0).sort n S V) ((kid 0).ev n S V E) := by
      simp only [TT.ev]
      rw [if_neg (by omega), if_neg (by omega), if_neg (by omega), if_neg (by omega), if_neg (by omega), if_neg (by omega), if_neg (by omega), if_neg (by omega), if_pos (by trivial)]
    rw [hsv, hev]
    rcases hcase with ⟨rfl, i, hi, hk⟩ | ⟨X, Y, hk, hpost⟩
    · obtain rfl : i = 0 := by omega
      exact Ans.no rfl (by rw [hk]; exact one_neg _ _ _)
    · obtain ⟨h1, h2, h3⟩ := hk 0 (by omega)
      rw [h1, h2] at hpost h3
      exact fin_un hop h3 hpost
set_option maxRecDepth 100000 in
set_option maxHeartbeats 2000000 in
theorem pw_bin (hi B n : Nat) (S : Nat → ByteArray) (V E : Nat → Int) (hEnv : ∀ i, i < n → okB (V i) (E i) = true) (op a b : Int) (s : ByteArray) (m : Nat) (kid : Nat → TT) (hop : op = 3 ∨ op = 4 ∨ op = 5 ∨ op = 6 ∨ op = 7 ∨ op = 8 ∨ op = 9 ∨ op = 10 ∨ op = 11 ∨ op = 12 ∨ op = 13 ∨ op = 14) (hss : s.size ≤ 1048576) (hm20 : m ≤ 1048576)
    (ih : ∀ i, i < m → ∀ (ad : Option Addr) (cp : Nat) (w : World), (kid i).In w 0 hi ad → hi ≤ w.heap.size → Known w B n S V E → Calls Tryz.prog 89 #[.map (some B), .agg #[.int .i64 (kid i).op, .int .i64 (kid i).a, .int .i64 (kid i).b, .string (kid i).s, .slice ad (kid i).n cp]] w fun e w' => PwAns n S V E (kid i) e ∧ Below w.heap.size w w')
    (ad : Option Addr) (cp : Nat) (w : World) (hin : (TT.node op a b s m kid).In w 0 hi ad) (hhi : hi ≤ w.heap.size) (hkn : Known w B n S V E) :
    Calls Tryz.prog 89 #[.map (some B), .agg #[.int .i64 op, .int .i64 a, .int .i64 b, .string s, .slice ad m cp]] w fun e w' => PwAns n S V E (.node op a b s m kid) e ∧ Below w.heap.size w w' := by
  have har : arity op = 2 := by rcases hop with rfl | rfl | rfl | rfl | rfl | rfl | rfl | rfl | rfl | rfl | rfl | rfl <;> rfl
  refine (part_gen hi B n S V E op a b s m kid 147 (.agg #[.int .i64 op]) (.int .i64 op) 112 138 139 op 0 0 ⟨#[]⟩ 2
    (fun i x y => x = (kid i).sort n S V ∧ y = (kid i).ev n S V E ∧ Good x y) (fun i => (kid i).sort n S V = -1) (fun X Y x y r => tup x y r = binV op (X 0) (Y 0) (X 1) (Y 1))
    (fun ad cp w => kind_bin op a b s m ad cp w hop) (mp_bin op) (mm_bin op) (mw_bin op) (entersAt Tryz.func112 (by kernel_rfl) rfl) (entersAt Tryz.func138 (by kernel_rfl) rfl) (entersAt Tryz.func139 (by kernel_rfl) rfl)
    (part_bare op) (many_bin op) ?hw ?hi hm20 ad cp w hin hhi hkn).mono ?_
  case hw =>
    intro hM KB X Y w hv hkn'
    obtain rfl : m = 2 := by omega
    refine (worth_bin op KB X Y _ w hv).mono ?_
    rintro e w' ⟨rfl, hb⟩
    obtain ⟨c, d, t, hV⟩ := binV_form op (X 0) (Y 0) (X 1) (Y 1)
    exact ⟨⟨c, d, t, by rw [hV], by rw [hV]; rfl⟩, hb⟩
  case hi =>
    intro i hi' ad cp w h1 h2 h3
    refine (ih i hi' ad cp w h1 h2 h3).mono ?_
    rintro e w' ⟨⟨x, y, r, rfl, h4, h5⟩, hb⟩
    exact ⟨⟨x, y, r, rfl, h4, h5⟩, hb⟩
  rintro e w' ⟨⟨x, y, r, rfl, hcase⟩, hb⟩
  refine ⟨⟨x, y, r, rfl, ?_⟩, hb⟩
  have hiff := hs_bare (a := a) (b := b) (s := s) (m := m) (show op ≠ 20 by omega) (show op ≠ 21 by omega) (show op ≠ 22 by omega)
  rw [har] at hiff
  rcases hcase with ⟨rfl, hno⟩ | ⟨hyes, hcase⟩
  · exact Ans.no rfl (sort_no (fun hp => hno (hiff.2 hp)))
  · have hpl : PlainP op a b s m := hiff.1 hyes
    obtain rfl : m = 2 := by have := hpl.2.2; omega
    have hsv : (TT.node op a b s 2 kid).sort n S V = bothS op ((kid 0).sort n S V) ((kid 1).sort n S V) := by
      rw [sort_plain hpl]
      rw [if_neg (by omega), if_neg (by omega), if_neg (by omega), if_neg (by omega), if_pos rfl]
    have hev : (TT.node op a b s 2 kid).ev n S V E = binE op ((kid 0).sort n S V) ((kid 0).ev n S V E) ((kid 1).sort n S V) ((kid 1).ev n S V E) := by
      simp only [TT.ev]
      rw [if_neg (by omega), if_neg (by omega), if_neg (by omega), if_neg (by omega), if_neg (by omega), if_neg (by omega), if_neg (by omega), if_neg (by omega), if_neg (by omega), if_neg (by omega)]
    rw [hsv, hev]
    rcases hcase with ⟨rfl, i, hi, hk⟩ | ⟨X, Y, hk, hpost⟩
    · have : i = 0 ∨ i = 1 := by omega
      rcases this with rfl | rfl
      · exact Ans.no rfl (by rw [hk]; exact both_neg0 _ _)
      · exact Ans.no rfl (by rw [hk]; exact both_neg1 _ _)
    · obtain ⟨h1, h2, h3⟩ := hk 0 (by omega)
      obtain ⟨k1, k2, k3⟩ := hk 1 (by omega)
      rw [h1, h2, k1, k2] at hpost
      rw [h1, h2] at h3
      rw [k1, k2] at k3
      exact fin_bin (by omega) (by omega) h3 k3 hpost
set_option maxRecDepth 100000 in
set_option maxHeartbeats 2000000 in
theorem pw_cmp (hi B n : Nat) (S : Nat → ByteArray) (V E : Nat → Int) (hEnv : ∀ i, i < n → okB (V i) (E i) = true) (op a b : Int) (s : ByteArray) (m : Nat) (kid : Nat → TT) (hop : op = 15 ∨ op = 16 ∨ op = 17) (hss : s.size ≤ 1048576) (hm20 : m ≤ 1048576)
    (ih : ∀ i, i < m → ∀ (ad : Option Addr) (cp : Nat) (w : World), (kid i).In w 0 hi ad → hi ≤ w.heap.size → Known w B n S V E → Calls Tryz.prog 89 #[.map (some B), .agg #[.int .i64 (kid i).op, .int .i64 (kid i).a, .int .i64 (kid i).b, .string (kid i).s, .slice ad (kid i).n cp]] w fun e w' => PwAns n S V E (kid i) e ∧ Below w.heap.size w w')
    (ad : Option Addr) (cp : Nat) (w : World) (hin : (TT.node op a b s m kid).In w 0 hi ad) (hhi : hi ≤ w.heap.size) (hkn : Known w B n S V E) :
    Calls Tryz.prog 89 #[.map (some B), .agg #[.int .i64 op, .int .i64 a, .int .i64 b, .string s, .slice ad m cp]] w fun e w' => PwAns n S V E (.node op a b s m kid) e ∧ Below w.heap.size w w' := by
  have har : arity op = 2 := by rcases hop with rfl | rfl | rfl <;> rfl
  refine (part_gen hi B n S V E op a b s m kid 148 (.agg #[.int .i64 op]) (.int .i64 op) 112 154 155 op 0 0 ⟨#[]⟩ 2
    (fun i x y => x = (kid i).sort n S V ∧ y = (kid i).ev n S V E ∧ Good x y) (fun i => (kid i).sort n S V = -1) (fun X Y x y r => tup x y r = tup 0 (b01 (cmpR op (X 0) (Y 0) (X 1) (Y 1))) (cmpT op (X 0) (Y 0) (X 1) (Y 1)))
    (fun ad cp w => kind_cmp op a b s m ad cp w hop) (mp_cmp op) (mm_cmp op) (mw_cmp op) (entersAt Tryz.func112 (by kernel_rfl) rfl) (entersAt Tryz.func154 (by kernel_rfl) rfl) (entersAt Tryz.func155 (by kernel_rfl) rfl)
    (part_bare op) (many_cmp op) ?hw ?hi hm20 ad cp w hin hhi hkn).mono ?_
  case hw =>
    intro hM KB X Y w hv hkn'
    obtain rfl : m = 2 := by omega
    refine (worth_cmp op KB X Y _ w hv).mono ?_
    rintro e w' ⟨rfl, hb⟩
    exact ⟨⟨_, _, _, rfl, rfl⟩, hb⟩
  case hi =>
    intro i hi' ad cp w h1 h2 h3
    refine (ih i hi' ad cp w h1 h2 h3).mono ?_
    rintro e w' ⟨⟨x, y, r, rfl, h4, h5⟩, hb⟩
    exact ⟨⟨x, y, r, rfl, h4, h5⟩, hb⟩
  rintro e w' ⟨⟨x, y, r, rfl, hcase⟩, hb⟩
  refine ⟨⟨x, y, r, rfl, ?_⟩, hb⟩
  have hiff := hs_bare (a := a) (b := b) (s := s) (m := m) (show op ≠ 20 by omega) (show op ≠ 21 by omega) (show op ≠ 22 by omega)
  rw [har] at hiff
  rcases hcase with ⟨rfl, hno⟩ | ⟨hyes, hcase⟩
  · exact Ans.no rfl (sort_no (fun hp => hno (hiff.2 hp)))
  · have hpl : PlainP op a b s m := hiff.1 hyes
    obtain rfl : m = 2 := by have := hpl.2.2; omega
    have hsv : (TT.node op a b s 2 kid).sort n S V = bothS op ((kid 0).sort n S V) ((kid 1).sort n S V) := by
      rw [sort_plain hpl]
      rw [if_neg (by omega), if_neg (by omega), if_neg (by omega), if_neg (by omega), if_pos rfl]
    have hev : (TT.node op a b s 2 kid).ev n S V E = b01 (cmpR op ((kid 0).sort n S V) ((kid 0).ev n S V E) ((kid 1).sort n S V) ((kid 1).ev n S V E)) := by
      simp only [TT.ev]
      rw [if_neg (by omega), if_neg (by omega), if_neg (by omega), if_neg (by omega), if_neg (by omega), if_neg (by omega), if_neg (by omega), if_neg (by omega), if_neg (by omega), if_pos (by omega)]
    rw [hsv, hev]
    rcases hcase with ⟨rfl, i, hi, hk⟩ | ⟨X, Y, hk, hpost⟩
    · have : i = 0 ∨ i = 1 := by omega
      rcases this with rfl | rfl
      · exact Ans.no rfl (by rw [hk]; exact both_neg0 _ _)
      · exact Ans.no rfl (by rw [hk]; exact both_neg1 _ _)
    · obtain ⟨h1, h2, h3⟩ := hk 0 (by omega)
      obtain ⟨k1, k2, k3⟩ := hk 1 (by omega)
      rw [h1, h2, k1, k2] at hpost
      rw [h1, h2] at h3
      rw [k1, k2] at k3
      exact fin_cmp (by omega) (by omega) h3 k3 hpost
set_option maxRecDepth 100000 in
set_option maxHeartbeats 2000000 in
theorem pw_no (hi B n : Nat) (S : Nat → ByteArray) (V E : Nat → Int) (hEnv : ∀ i, i < n → okB (V i) (E i) = true) (op a b : Int) (s : ByteArray) (m : Nat) (kid : Nat → TT) (hop : op = 25) (hss : s.size ≤ 1048576) (hm20 : m ≤ 1048576)
    (ih : ∀ i, i < m → ∀ (ad : Option Addr) (cp : Nat) (w : World), (kid i).In w 0 hi ad → hi ≤ w.heap.size → Known w B n S V E → Calls Tryz.prog 89 #[.map (some B), .agg #[.int .i64 (kid i).op, .int .i64 (kid i).a, .int .i64 (kid i).b, .string (kid i).s, .slice ad (kid i).n cp]] w fun e w' => PwAns n S V E (kid i) e ∧ Below w.heap.size w w')
    (ad : Option Addr) (cp : Nat) (w : World) (hin : (TT.node op a b s m kid).In w 0 hi ad) (hhi : hi ≤ w.heap.size) (hkn : Known w B n S V E) :
    Calls Tryz.prog 89 #[.map (some B), .agg #[.int .i64 op, .int .i64 a, .int .i64 b, .string s, .slice ad m cp]] w fun e w' => PwAns n S V E (.node op a b s m kid) e ∧ Below w.heap.size w w' := by
  have har : arity op = 1 := by rcases hop with rfl <;> rfl
  refine (part_gen hi B n S V E op a b s m kid 152 (.agg #[.int .i64 op]) (.int .i64 op) 112 171 172 op 0 0 ⟨#[]⟩ 1
    (fun i x y => x = (kid i).sort n S V ∧ y = (kid i).ev n S V E ∧ Good x y) (fun i => (kid i).sort n S V = -1) (fun X Y x y r => tup x y r = tup 0 (b01 (!isT (X 0) (Y 0))) (X 0 == 0))
    (fun ad cp w => kind_no op a b s m ad cp w hop) (mp_no op) (mm_no op) (mw_no op) (entersAt Tryz.func112 (by kernel_rfl) rfl) (entersAt Tryz.func171 (by kernel_rfl) rfl) (entersAt Tryz.func172 (by kernel_rfl) rfl)
    (part_bare op) (many_no op) ?hw ?hi hm20 ad cp w hin hhi hkn).mono ?_
  case hw =>
    intro hM KB X Y w hv hkn'
    obtain rfl : m = 1 := by omega
    refine (worth_no op KB X Y _ w hv).mono ?_
    rintro e w' ⟨rfl, hb⟩
    exact ⟨⟨_, _, _, rfl, rfl⟩, hb⟩
  case hi =>
    intro i hi' ad cp w h1 h2 h3
    refine (ih i hi' ad cp w h1 h2 h3).mono ?_
    rintro e w' ⟨⟨x, y, r, rfl, h4, h5⟩, hb⟩
    exact ⟨⟨x, y, r, rfl, h4, h5⟩, hb⟩
  rintro e w' ⟨⟨x, y, r, rfl, hcase⟩, hb⟩
  refine ⟨⟨x, y, r, rfl, ?_⟩, hb⟩
  have hiff := hs_bare (a := a) (b := b) (s := s) (m := m) (show op ≠ 20 by omega) (show op ≠ 21 by omega) (show op ≠ 22 by omega)
  rw [har] at hiff
  rcases hcase with ⟨rfl, hno⟩ | ⟨hyes, hcase⟩
  · exact Ans.no rfl (sort_no (fun hp => hno (hiff.2 hp)))
  · have hpl : PlainP op a b s m := hiff.1 hyes
    obtain rfl : m = 1 := by have := hpl.2.2; omega
    have hsv : (TT.node op a b s 1 kid).sort n S V = oneS op a b ((kid 0).sort n S V) := by
      rw [sort_plain hpl]
      rw [if_neg (by omega), if_neg (by omega), if_neg (by omega), if_pos rfl]
    have hev : (TT.node op a b s 1 kid).ev n S V E = 1 - ((kid 0).ev n S V E) := by
      simp only [TT.ev]
      rw [if_neg (by omega), if_neg (by omega), if_neg (by omega), if_pos hop]
    rw [hsv, hev]
    rcases hcase with ⟨rfl, i, hi, hk⟩ | ⟨X, Y, hk, hpost⟩
    · obtain rfl : i = 0 := by omega
      exact Ans.no rfl (by rw [hk]; exact one_neg _ _ _)
    · obtain ⟨h1, h2, h3⟩ := hk 0 (by omega)
      rw [h1, h2] at hpost h3
      exact by subst hop; exact fin_no h3 hpost
set_option maxRecDepth 100000 in
set_option maxHeartbeats 2000000 in
theorem pw_both (hi B n : Nat) (S : Nat → ByteArray) (V E : Nat → Int) (hEnv : ∀ i, i < n → okB (V i) (E i) = true) (op a b : Int) (s : ByteArray) (m : Nat) (kid : Nat → TT) (hop : op = 26) (hss : s.size ≤ 1048576) (hm20 : m ≤ 1048576)
    (ih : ∀ i, i < m → ∀ (ad : Option Addr) (cp : Nat) (w : World), (kid i).In w 0 hi ad → hi ≤ w.heap.size → Known w B n S V E → Calls Tryz.prog 89 #[.map (some B), .agg #[.int .i64 (kid i).op, .int .i64 (kid i).a, .int .i64 (kid i).b, .string (kid i).s, .slice ad (kid i).n cp]] w fun e w' => PwAns n S V E (kid i) e ∧ Below w.heap.size w w')
    (ad : Option Addr) (cp : Nat) (w : World) (hin : (TT.node op a b s m kid).In w 0 hi ad) (hhi : hi ≤ w.heap.size) (hkn : Known w B n S V E) :
    Calls Tryz.prog 89 #[.map (some B), .agg #[.int .i64 op, .int .i64 a, .int .i64 b, .string s, .slice ad m cp]] w fun e w' => PwAns n S V E (.node op a b s m kid) e ∧ Below w.heap.size w w' := by
  have har : arity op = 2 := by rcases hop with rfl <;> rfl
  refine (part_gen hi B n S V E op a b s m kid 153 (.agg #[.int .i64 op]) (.int .i64 op) 112 173 174 op 0 0 ⟨#[]⟩ 2
    (fun i x y => x = (kid i).sort n S V ∧ y = (kid i).ev n S V E ∧ Good x y) (fun i => (kid i).sort n S V = -1) (fun X Y x y r => tup x y r = tup 0 (b01 (isT (X 0) (Y 0) && isT (X 1) (Y 1))) ((X 0 == 0) && (X 1 == 0)))
    (fun ad cp w => kind_both op a b s m ad cp w hop) (mp_both op) (mm_both op) (mw_both op) (entersAt Tryz.func112 (by kernel_rfl) rfl) (entersAt Tryz.func173 (by kernel_rfl) rfl) (entersAt Tryz.func174 (by kernel_rfl) rfl)
    (part_bare op) (many_both op) ?hw ?hi hm20 ad cp w hin hhi hkn).mono ?_
  case hw =>
    intro hM KB X Y w hv hkn'
    obtain rfl : m = 2 := by omega
    refine (worth_both op KB X Y _ w hv).mono ?_
    rintro e w' ⟨rfl, hb⟩
    exact ⟨⟨_, _, _, rfl, rfl⟩, hb⟩
  case hi =>
    intro i hi' ad cp w h1 h2 h3
    refine (ih i hi' ad cp w h1 h2 h3).mono ?_
    rintro e w' ⟨⟨x, y, r, rfl, h4, h5⟩, hb⟩
    exact ⟨⟨x, y, r, rfl, h4, h5⟩, hb⟩
  rintro e w' ⟨⟨x, y, r, rfl, hcase⟩, hb⟩
  refine ⟨⟨x, y, r, rfl, ?_⟩, hb⟩
  have hiff := hs_bare (a := a) (b := b) (s := s) (m := m) (show op ≠ 20 by omega) (show op ≠ 21 by omega) (show op ≠ 22 by omega)
  rw [har] at hiff
  rcases hcase with ⟨rfl, hno⟩ | ⟨hyes, hcase⟩
  · exact Ans.no rfl (sort_no (fun hp => hno (hiff.2 hp)))
  · have hpl : PlainP op a b s m := hiff.1 hyes
    obtain rfl : m = 2 := by have := hpl.2.2; omega
    have hsv : (TT.node op a b s 2 kid).sort n S V = bothS op ((kid 0).sort n S V) ((kid 1).sort n S V) := by
      rw [sort_plain hpl]
      rw [if_neg (by omega), if_neg (by omega), if_neg (by omega), if_neg (by omega), if_pos rfl]
    have hev : (TT.node op a b s 2 kid).ev n S V E = ((kid 0).ev n S V E) * ((kid 1).ev n S V E) := by
      simp only [TT.ev]
      rw [if_neg (by omega), if_neg (by omega), if_neg (by omega), if_neg (by omega), if_pos hop]
    rw [hsv, hev]
    rcases hcase with ⟨rfl, i, hi, hk⟩ | ⟨X, Y, hk, hpost⟩
    · have : i = 0 ∨ i = 1 := by omega
      rcases this with rfl | rfl
      · exact Ans.no rfl (by rw [hk]; exact both_neg0 _ _)
      · exact Ans.no rfl (by rw [hk]; exact both_neg1 _ _)
    · obtain ⟨h1, h2, h3⟩ := hk 0 (by omega)
      obtain ⟨k1, k2, k3⟩ := hk 1 (by omega)
      rw [h1, h2, k1, k2] at hpost
      rw [h1, h2] at h3
      rw [k1, k2] at k3
      exact by subst hop; exact fin_both h3 k3 hpost
set_option maxRecDepth 100000 in
set_option maxHeartbeats 2000000 in
theorem pw_any (hi B n : Nat) (S : Nat → ByteArray) (V E : Nat → Int) (hEnv : ∀ i, i < n → okB (V i) (E i) = true) (op a b : Int) (s : ByteArray) (m : Nat) (kid : Nat → TT) (hop : op = 27) (hss : s.size ≤ 1048576) (hm20 : m ≤ 1048576)
    (ih : ∀ i, i < m → ∀ (ad : Option Addr) (cp : Nat) (w : World), (kid i).In w 0 hi ad → hi ≤ w.heap.size → Known w B n S V E → Calls Tryz.prog 89 #[.map (some B), .agg #[.int .i64 (kid i).op, .int .i64 (kid i).a, .int .i64 (kid i).b, .string (kid i).s, .slice ad (kid i).n cp]] w fun e w' => PwAns n S V E (kid i) e ∧ Below w.heap.size w w')
    (ad : Option Addr) (cp : Nat) (w : World) (hin : (TT.node op a b s m kid).In w 0 hi ad) (hhi : hi ≤ w.heap.size) (hkn : Known w B n S V E) :
    Calls Tryz.prog 89 #[.map (some B), .agg #[.int .i64 op, .int .i64 a, .int .i64 b, .string s, .slice ad m cp]] w fun e w' => PwAns n S V E (.node op a b s m kid) e ∧ Below w.heap.size w w' := by
  have har : arity op = 2 := by rcases hop with rfl <;> rfl
  refine (part_gen hi B n S V E op a b s m kid 154 (.agg #[.int .i64 op]) (.int .i64 op) 112 175 176 op 0 0 ⟨#[]⟩ 2
    (fun i x y => x = (kid i).sort n S V ∧ y = (kid i).ev n S V E ∧ Good x y) (fun i => (kid i).sort n S V = -1) (fun X Y x y r => tup x y r = tup 0 (b01 (isT (X 0) (Y 0) || isT (X 1) (Y 1))) ((X 0 == 0) && (X 1 == 0)))
    (fun ad cp w => kind_any op a b s m ad cp w hop) (mp_any op) (mm_any op) (mw_any op) (entersAt Tryz.func112 (by kernel_rfl) rfl) (entersAt Tryz.func175 (by kernel_rfl) rfl) (entersAt Tryz.func176 (by kernel_rfl) rfl)
    (part_bare op) (many_any op) ?hw ?hi hm20 ad cp w hin hhi hkn).mono ?_
  case hw =>
    intro hM KB X Y w hv hkn'
    obtain rfl : m = 2 := by omega
    refine (worth_any op KB X Y _ w hv).mono ?_
    rintro e w' ⟨rfl, hb⟩
    exact ⟨⟨_, _, _, rfl, rfl⟩, hb⟩
  case hi =>
    intro i hi' ad cp w h1 h2 h3
    refine (ih i hi' ad cp w h1 h2 h3).mono ?_
    rintro e w' ⟨⟨x, y, r, rfl, h4, h5⟩, hb⟩
    exact ⟨⟨x, y, r, rfl, h4, h5⟩, hb⟩
  rintro e w' ⟨⟨x, y, r, rfl, hcase⟩, hb⟩
  refine ⟨⟨x, y, r, rfl, ?_⟩, hb⟩
  have hiff := hs_bare (a := a) (b := b) (s := s) (m := m) (show op ≠ 20 by omega) (show op ≠ 21 by omega) (show op ≠ 22 by omega)
  rw [har] at hiff
  rcases hcase with ⟨rfl, hno⟩ | ⟨hyes, hcase⟩
  · exact Ans.no rfl (sort_no (fun hp => hno (hiff.2 hp)))
  · have hpl : PlainP op a b s m := hiff.1 hyes
    obtain rfl : m = 2 := by have := hpl.2.2; omega
    have hsv : (TT.node op a b s 2 kid).sort n S V = bothS op ((kid 0).sort n S V) ((kid 1).sort n S V) := by
      rw [sort_plain hpl]
      rw [if_neg (by omega), if_neg (by omega), if_neg (by omega), if_neg (by omega), if_pos rfl]
    have hev : (TT.node op a b s 2 kid).ev n S V E = max ((kid 0).ev n S V E) ((kid 1).ev n S V E) := by
      simp only [TT.ev]
      rw [if_neg (by omega), if_neg (by omega), if_neg (by omega), if_neg (by omega), if_neg (by omega), if_pos hop]
    rw [hsv, hev]
    rcases hcase with ⟨rfl, i, hi, hk⟩ | ⟨X, Y, hk, hpost⟩
    · have : i = 0 ∨ i = 1 := by omega
      rcases this with rfl | rfl
      · exact Ans.no rfl (by rw [hk]; exact both_neg0 _ _)
      · exact Ans.no rfl (by rw [hk]; exact both_neg1 _ _)
    · obtain ⟨h1, h2, h3⟩ := hk 0 (by omega)
      obtain ⟨k1, k2, k3⟩ := hk 1 (by omega)
      rw [h1, h2, k1, k2] at hpost
      rw [h1, h2] at h3
      rw [k1, k2] at k3
      exact by subst hop; exact fin_any h3 k3 hpost
set_option maxRecDepth 100000 in
set_option maxHeartbeats 2000000 in
theorem pw_iff (hi B n : Nat) (S : Nat → ByteArray) (V E : Nat → Int) (hEnv : ∀ i, i < n → okB (V i) (E i) = true) (op a b : Int) (s : ByteArray) (m : Nat) (kid : Nat → TT) (hop : op = 23) (hss : s.size ≤ 1048576) (hm20 : m ≤ 1048576)
    (ih : ∀ i, i < m → ∀ (ad : Option Addr) (cp : Nat) (w : World), (kid i).In w 0 hi ad → hi ≤ w.heap.size → Known w B n S V E → Calls Tryz.prog 89 #[.map (some B), .agg #[.int .i64 (kid i).op, .int .i64 (kid i).a, .int .i64 (kid i).b, .string (kid i).s, .slice ad (kid i).n cp]] w fun e w' => PwAns n S V E (kid i) e ∧ Below w.heap.size w w')
    (ad : Option Addr) (cp : Nat) (w : World) (hin : (TT.node op a b s m kid).In w 0 hi ad) (hhi : hi ≤ w.heap.size) (hkn : Known w B n S V E) :
    Calls Tryz.prog 89 #[.map (some B), .agg #[.int .i64 op, .int .i64 a, .int .i64 b, .string s, .slice ad m cp]] w fun e w' => PwAns n S V E (.node op a b s m kid) e ∧ Below w.heap.size w w' := by
  have har : arity op = 3 := by rcases hop with rfl <;> rfl
  refine (part_gen hi B n S V E op a b s m kid 151 (.agg #[.int .i64 op]) (.int .i64 op) 112 168 169 op 0 0 ⟨#[]⟩ 3
    (fun i x y => x = (kid i).sort n S V ∧ y = (kid i).ev n S V E ∧ Good x y) (fun i => (kid i).sort n S V = -1) (fun X Y x y r => tup x y r = if X 0 = 0 ∧ X 1 = X 2 then (if isT (X 0) (Y 0) = true then tup (X 1) (Y 1) true else tup (X 2) (Y 2) true) else tup 0 0 false)
    (fun ad cp w => kind_iff op a b s m ad cp w hop) (mp_iff op) (mm_iff op) (mw_iff op) (entersAt Tryz.func112 (by kernel_rfl) rfl) (entersAt Tryz.func168 (by kernel_rfl) rfl) (entersAt Tryz.func169 (by kernel_rfl) rfl)
    (part_bare op) (many_iff op) ?hw ?hi hm20 ad cp w hin hhi hkn).mono ?_
  case hw =>
    intro hM KB X Y w hv hkn'
    obtain rfl : m = 3 := by omega
    refine (worth_if op KB X Y _ w hv).mono ?_
    rintro e w' ⟨rfl, hb⟩
    by_cases h1 : X 0 = 0 ∧ X 1 = X 2
    · by_cases h2 : isT (X 0) (Y 0) = true
      · rw [if_pos h1, if_pos h2, if_pos h1, if_pos h2]; exact ⟨⟨_, _, _, rfl, rfl⟩, hb⟩
      · rw [if_pos h1, if_neg h2, if_pos h1, if_neg h2]; exact ⟨⟨_, _, _, rfl, rfl⟩, hb⟩
    · rw [if_neg h1, if_neg h1]; exact ⟨⟨_, _, _, rfl, rfl⟩, hb⟩
  case hi =>
    intro i hi' ad cp w h1 h2 h3
    refine (ih i hi' ad cp w h1 h2 h3).mono ?_
    rintro e w' ⟨⟨x, y, r, rfl, h4, h5⟩, hb⟩
    exact ⟨⟨x, y, r, rfl, h4, h5⟩, hb⟩
  rintro e w' ⟨⟨x, y, r, rfl, hcase⟩, hb⟩
  refine ⟨⟨x, y, r, rfl, ?_⟩, hb⟩
  have hiff := hs_bare (a := a) (b := b) (s := s) (m := m) (show op ≠ 20 by omega) (show op ≠ 21 by omega) (show op ≠ 22 by omega)
  rw [har] at hiff
  rcases hcase with ⟨rfl, hno⟩ | ⟨hyes, hcase⟩
  · exact Ans.no rfl (sort_no (fun hp => hno (hiff.2 hp)))
  · have hpl : PlainP op a b s m := hiff.1 hyes
    obtain rfl : m = 3 := by have := hpl.2.2; omega
    have hsv : (TT.node op a b s 3 kid).sort n S V = (if ((kid 0).sort n S V) ≠ 0 ∨ ((kid 1).sort n S V) ≠ ((kid 2).sort n S V) then -1 else ((kid 1).sort n S V)) := by
      rw [sort_plain hpl]
      rw [if_neg (by omega), if_neg (by omega), if_neg (by omega), if_neg (by omega), if_neg (by omega)]
    have hev : (TT.node op a b s 3 kid).ev n S V E = (if ((kid 0).ev n S V E) = 1 then ((kid 1).ev n S V E) else ((kid 2).ev n S V E)) := by
      simp only [TT.ev]
      rw [if_neg (by omega), if_neg (by omega), if_neg (by omega), if_neg (by omega), if_neg (by omega), if_neg (by omega), if_pos hop]
    rw [hsv, hev]
    rcases hcase with ⟨rfl, i, hi, hk⟩ | ⟨X, Y, hk, hpost⟩
    · refine Ans.no rfl ?_
      have : i = 0 ∨ i = 1 ∨ i = 2 := by omega
      rcases this with rfl | rfl | rfl
      all_goals
        rw [hk]
        split
        all_goals omega
    · obtain ⟨h1, h2, h3⟩ := hk 0 (by omega)
      obtain ⟨k1, k2, k3⟩ := hk 1 (by omega)
      obtain ⟨l1, l2, l3⟩ := hk 2 (by omega)
      rw [h1, h2, k1, k2, l1, l2] at hpost
      rw [h1, h2] at h3
      rw [k1, k2] at k3
      rw [l1, l2] at l3
      exact fin_if h3 k3 l3 hpost
set_option maxRecDepth 100000 in
set_option maxHeartbeats 2000000 in
theorem pw_cut (hi B n : Nat) (S : Nat → ByteArray) (V E : Nat → Int) (hEnv : ∀ i, i < n → okB (V i) (E i) = true) (op a b : Int) (s : ByteArray) (m : Nat) (kid : Nat → TT) (hop : op = 22) (hss : s.size ≤ 1048576) (hm20 : m ≤ 1048576)
    (ih : ∀ i, i < m → ∀ (ad : Option Addr) (cp : Nat) (w : World), (kid i).In w 0 hi ad → hi ≤ w.heap.size → Known w B n S V E → Calls Tryz.prog 89 #[.map (some B), .agg #[.int .i64 (kid i).op, .int .i64 (kid i).a, .int .i64 (kid i).b, .string (kid i).s, .slice ad (kid i).n cp]] w fun e w' => PwAns n S V E (kid i) e ∧ Below w.heap.size w w')
    (ad : Option Addr) (cp : Nat) (w : World) (hin : (TT.node op a b s m kid).In w 0 hi ad) (hhi : hi ≤ w.heap.size) (hkn : Known w B n S V E) :
    Calls Tryz.prog 89 #[.map (some B), .agg #[.int .i64 op, .int .i64 a, .int .i64 b, .string s, .slice ad m cp]] w fun e w' => PwAns n S V E (.node op a b s m kid) e ∧ Below w.heap.size w w' := by
  have har : arity op = 1 := by rcases hop with rfl <;> rfl
  refine (part_gen hi B n S V E op a b s m kid 150 (.agg #[.int .i64 a, .int .i64 b]) (.agg #[.int .i64 a, .int .i64 b]) 164 163 166 22 a b ⟨#[]⟩ 1
    (fun i x y => x = (kid i).sort n S V ∧ y = (kid i).ev n S V E ∧ Good x y) (fun i => (kid i).sort n S V = -1) (fun X Y x y r => tup x y r = cutV (X 0) (Y 0) a b)
    (fun ad cp w => kind_cut op a b s m ad cp w hop) (mp_cut a b) (mm_cut a b) (mw_cut a b) (entersAt Tryz.func164 (by kernel_rfl) rfl) (entersAt Tryz.func163 (by kernel_rfl) rfl) (entersAt Tryz.func166 (by kernel_rfl) rfl)
    (part_cut a b) (many_cut a b) ?hw ?hi hm20 ad cp w hin hhi hkn).mono ?_
  case hw =>
    intro hM KB X Y w hv hkn'
    obtain rfl : m = 1 := by omega
    refine (worth_cut a b KB X Y _ w hv).mono ?_
    rintro e w' ⟨rfl, hb⟩
    obtain ⟨c, d, t, hV⟩ := cutV_form (X 0) (Y 0) a b
    exact ⟨⟨c, d, t, by rw [hV], by rw [hV]; rfl⟩, hb⟩
  case hi =>
    intro i hi' ad cp w h1 h2 h3
    refine (ih i hi' ad cp w h1 h2 h3).mono ?_
    rintro e w' ⟨⟨x, y, r, rfl, h4, h5⟩, hb⟩
    exact ⟨⟨x, y, r, rfl, h4, h5⟩, hb⟩
  rintro e w' ⟨⟨x, y, r, rfl, hcase⟩, hb⟩
  refine ⟨⟨x, y, r, rfl, ?_⟩, hb⟩
  have hiff := (by subst hop; exact hs_ab (Or.inr rfl) : (hsB 22 a b ⟨#[]⟩ op a b s = true ∧ arity op = m) ↔ PlainP op a b s m)
  rw [har] at hiff
  rcases hcase with ⟨rfl, hno⟩ | ⟨hyes, hcase⟩
  · exact Ans.no rfl (sort_no (fun hp => hno (hiff.2 hp)))
  · have hpl : PlainP op a b s m := hiff.1 hyes
    obtain rfl : m = 1 := by have := hpl.2.2; omega
    have hsv : (TT.node op a b s 1 kid).sort n S V = oneS op a b ((kid 0).sort n S V) := by
      rw [sort_plain hpl]
      rw [if_neg (by omega), if_neg (by omega), if_neg (by omega), if_pos rfl]
    have hev : (TT.node op a b s 1 kid).ev n S V E = cutE ((kid 0).sort n S V) ((kid 0).ev n S V E) a b := by
      simp only [TT.ev]
      rw [if_neg (by omega), if_neg (by omega), if_neg (by omega), if_neg (by omega), if_neg (by omega), if_neg (by omega), if_neg (by omega), if_pos hop]
    rw [hsv, hev]
    rcases hcase with ⟨rfl, i, hi, hk⟩ | ⟨X, Y, hk, hpost⟩
    · obtain rfl : i = 0 := by omega
      exact Ans.no rfl (by rw [hk]; exact one_neg _ _ _)
    · obtain ⟨h1, h2, h3⟩ := hk 0 (by omega)
      rw [h1, h2] at hpost h3
      exact by subst hop; exact fin_cut h3 hpost
set_option maxRecDepth 100000 in
set_option maxHeartbeats 2000000 in
theorem pw_vec (hi B n : Nat) (S : Nat → ByteArray) (V E : Nat → Int) (hEnv : ∀ i, i < n → okB (V i) (E i) = true) (op a b : Int) (s : ByteArray) (m : Nat) (kid : Nat → TT) (hop : op = 20) (hss : s.size ≤ 1048576) (hm20 : m ≤ 1048576)
    (ih : ∀ i, i < m → ∀ (ad : Option Addr) (cp : Nat) (w : World), (kid i).In w 0 hi ad → hi ≤ w.heap.size → Known w B n S V E → Calls Tryz.prog 89 #[.map (some B), .agg #[.int .i64 (kid i).op, .int .i64 (kid i).a, .int .i64 (kid i).b, .string (kid i).s, .slice ad (kid i).n cp]] w fun e w' => PwAns n S V E (kid i) e ∧ Below w.heap.size w w')
    (ad : Option Addr) (cp : Nat) (w : World) (hin : (TT.node op a b s m kid).In w 0 hi ad) (hhi : hi ≤ w.heap.size) (hkn : Known w B n S V E) :
    Calls Tryz.prog 89 #[.map (some B), .agg #[.int .i64 op, .int .i64 a, .int .i64 b, .string s, .slice ad m cp]] w fun e w' => PwAns n S V E (.node op a b s m kid) e ∧ Below w.heap.size w w' := by
  have har : arity op = 0 := by rcases hop with rfl <;> rfl
  refine (part_gen hi B n S V E op a b s m kid 140 (.agg #[.int .i64 a, .int .i64 b]) (.agg #[.int .i64 a, .int .i64 b]) 115 114 117 20 a b ⟨#[]⟩ 0
    (fun i x y => x = (kid i).sort n S V ∧ y = (kid i).ev n S V E ∧ Good x y) (fun i => (kid i).sort n S V = -1) (fun X Y x y r => tup x y r = tup a b (okB a b))
    (fun ad cp w => kind_vec op a b s m ad cp w hop) (mp_vec a b) (mm_vec a b) (mw_vec a b) (entersAt Tryz.func115 (by kernel_rfl) rfl) (entersAt Tryz.func114 (by kernel_rfl) rfl) (entersAt Tryz.func117 (by kernel_rfl) rfl)
    (part_vec a b) (many_vec a b) ?hw ?hi hm20 ad cp w hin hhi hkn).mono ?_
  case hw =>
    intro hM KB X Y w hv hkn'
    obtain rfl : m = 0 := by omega
    refine (worth_vec a b KB X Y _ w hv).mono ?_
    rintro e w' ⟨rfl, hb⟩
    exact ⟨⟨_, _, _, rfl, rfl⟩, hb⟩
  case hi =>
    intro i hi' ad cp w h1 h2 h3
    refine (ih i hi' ad cp w h1 h2 h3).mono ?_
    rintro e w' ⟨⟨x, y, r, rfl, h4, h5⟩, hb⟩
    exact ⟨⟨x, y, r, rfl, h4, h5⟩, hb⟩
  rintro e w' ⟨⟨x, y, r, rfl, hcase⟩, hb⟩
  refine ⟨⟨x, y, r, rfl, ?_⟩, hb⟩
  have hiff := (by subst hop; exact hs_ab (Or.inl rfl) : (hsB 20 a b ⟨#[]⟩ op a b s = true ∧ arity op = m) ↔ PlainP op a b s m)
  rw [har] at hiff
  rcases hcase with ⟨rfl, hno⟩ | ⟨hyes, hcase⟩
  · exact Ans.no rfl (sort_no (fun hp => hno (hiff.2 hp)))
  · have hpl : PlainP op a b s m := hiff.1 hyes
    obtain rfl : m = 0 := by have := hpl.2.2; omega
    have hsv : (TT.node op a b s 0 kid).sort n S V = (if okB a b = true then a else -1) := by
      rw [sort_plain hpl]
      rw [if_pos hop]
    have hev : (TT.node op a b s 0 kid).ev n S V E = b := by
      simp only [TT.ev]
      rw [if_pos hop]
    rw [hsv, hev]
    rcases hcase with ⟨rfl, i, hi, hk⟩ | ⟨X, Y, hk, hpost⟩
    · omega
    · obtain ⟨rfl, rfl, rfl⟩ := tup_inj hpost
      cases hok : okB x y
      · exact Ans.no rfl (by simp)
      · exact Ans.yes rfl (by simp) rfl (Or.inr hok)
set_option maxRecDepth 100000 in
set_option maxHeartbeats 2000000 in
theorem pw_tru (hi B n : Nat) (S : Nat → ByteArray) (V E : Nat → Int) (hEnv : ∀ i, i < n → okB (V i) (E i) = true) (op a b : Int) (s : ByteArray) (m : Nat) (kid : Nat → TT) (hop : op = 24) (hss : s.size ≤ 1048576) (hm20 : m ≤ 1048576)
    (ih : ∀ i, i < m → ∀ (ad : Option Addr) (cp : Nat) (w : World), (kid i).In w 0 hi ad → hi ≤ w.heap.size → Known w B n S V E → Calls Tryz.prog 89 #[.map (some B), .agg #[.int .i64 (kid i).op, .int .i64 (kid i).a, .int .i64 (kid i).b, .string (kid i).s, .slice ad (kid i).n cp]] w fun e w' => PwAns n S V E (kid i) e ∧ Below w.heap.size w w')
    (ad : Option Addr) (cp : Nat) (w : World) (hin : (TT.node op a b s m kid).In w 0 hi ad) (hhi : hi ≤ w.heap.size) (hkn : Known w B n S V E) :
    Calls Tryz.prog 89 #[.map (some B), .agg #[.int .i64 op, .int .i64 a, .int .i64 b, .string s, .slice ad m cp]] w fun e w' => PwAns n S V E (.node op a b s m kid) e ∧ Below w.heap.size w w' := by
  have har : arity op = 0 := by rcases hop with rfl <;> rfl
  refine (part_gen hi B n S V E op a b s m kid 144 (.agg #[]) (.agg #[]) 123 122 125 24 0 0 ⟨#[]⟩ 0
    (fun i x y => x = (kid i).sort n S V ∧ y = (kid i).ev n S V E ∧ Good x y) (fun i => (kid i).sort n S V = -1) (fun X Y x y r => tup x y r = tup 0 1 true)
    (fun ad cp w => kind_tru op a b s m ad cp w hop) (mp_tru ) (mm_tru ) (mw_tru ) (entersAt Tryz.func123 (by kernel_rfl) rfl) (entersAt Tryz.func122 (by kernel_rfl) rfl) (entersAt Tryz.func125 (by kernel_rfl) rfl)
    (part_tru) (many_tru ) ?hw ?hi hm20 ad cp w hin hhi hkn).mono ?_
  case hw =>
    intro hM KB X Y w hv hkn'
    obtain rfl : m = 0 := by omega
    refine (worth_true KB X Y _ w hv).mono ?_
    rintro e w' ⟨rfl, hb⟩
    exact ⟨⟨_, _, _, rfl, rfl⟩, hb⟩
  case hi =>
    intro i hi' ad cp w h1 h2 h3
    refine (ih i hi' ad cp w h1 h2 h3).mono ?_
    rintro e w' ⟨⟨x, y, r, rfl, h4, h5⟩, hb⟩
    exact ⟨⟨x, y, r, rfl, h4, h5⟩, hb⟩
  rintro e w' ⟨⟨x, y, r, rfl, hcase⟩, hb⟩
  refine ⟨⟨x, y, r, rfl, ?_⟩, hb⟩
  have hiff := (by subst hop; exact hs_bare (by omega) (by omega) (by omega) : (hsB 24 0 0 ⟨#[]⟩ op a b s = true ∧ arity op = m) ↔ PlainP op a b s m)
  rw [har] at hiff
  rcases hcase with ⟨rfl, hno⟩ | ⟨hyes, hcase⟩
  · exact Ans.no rfl (sort_no (fun hp => hno (hiff.2 hp)))
  · have hpl : PlainP op a b s m := hiff.1 hyes
    obtain rfl : m = 0 := by have := hpl.2.2; omega
    have hsv : (TT.node op a b s 0 kid).sort n S V = 0 := by
      rw [sort_plain hpl]
      rw [if_neg (by omega), if_neg (by omega), if_pos hop]
    have hev : (TT.node op a b s 0 kid).ev n S V E = 1 := by
      simp only [TT.ev]
      rw [if_neg (by omega), if_neg (by omega), if_pos hop]
    rw [hsv, hev]
    rcases hcase with ⟨rfl, i, hi, hk⟩ | ⟨X, Y, hk, hpost⟩
    · omega
    · obtain ⟨rfl, rfl, rfl⟩ := tup_inj hpost
      exact Ans.yes rfl rfl rfl (Or.inl ⟨rfl, Or.inr rfl⟩)
set_option maxRecDepth 100000 in
set_option maxHeartbeats 2000000 in
theorem pw_name (hi B n : Nat) (S : Nat → ByteArray) (V E : Nat → Int) (hEnv : ∀ i, i < n → okB (V i) (E i) = true) (op a b : Int) (s : ByteArray) (m : Nat) (kid : Nat → TT) (hop : op = 21) (hss : s.size ≤ 1048576) (hm20 : m ≤ 1048576)
    (ih : ∀ i, i < m → ∀ (ad : Option Addr) (cp : Nat) (w : World), (kid i).In w 0 hi ad → hi ≤ w.heap.size → Known w B n S V E → Calls Tryz.prog 89 #[.map (some B), .agg #[.int .i64 (kid i).op, .int .i64 (kid i).a, .int .i64 (kid i).b, .string (kid i).s, .slice ad (kid i).n cp]] w fun e w' => PwAns n S V E (kid i) e ∧ Below w.heap.size w w')
    (ad : Option Addr) (cp : Nat) (w : World) (hin : (TT.node op a b s m kid).In w 0 hi ad) (hhi : hi ≤ w.heap.size) (hkn : Known w B n S V E) :
    Calls Tryz.prog 89 #[.map (some B), .agg #[.int .i64 op, .int .i64 a, .int .i64 b, .string s, .slice ad m cp]] w fun e w' => PwAns n S V E (.node op a b s m kid) e ∧ Below w.heap.size w w' := by
  have har : arity op = 0 := by rcases hop with rfl <;> rfl
  refine (part_gen hi B n S V E op a b s m kid 142 (.agg #[.string s]) (.agg #[.string s]) 119 118 121 21 0 0 s 0
    (fun i x y => x = (kid i).sort n S V ∧ y = (kid i).ev n S V E ∧ Good x y) (fun i => (kid i).sort n S V = -1) (fun X Y x y r => (findI S s n = -1 ∧ tup x y r = tup 0 0 false) ∨ ∃ k : Nat, findI S s n = k ∧ tup x y r = tup (V k) (E k) true)
    (fun ad cp w => kind_name op a b s m ad cp w hop) (mp_name s) (mm_name s) (mw_name s) (entersAt Tryz.func119 (by kernel_rfl) rfl) (entersAt Tryz.func118 (by kernel_rfl) rfl) (entersAt Tryz.func121 (by kernel_rfl) rfl)
    (part_name s) (many_name s) ?hw ?hi hm20 ad cp w hin hhi hkn).mono ?_
  case hw =>
    intro hM KB X Y w hv hkn'
    obtain rfl : m = 0 := by omega
    refine (worth_name s B n S V E _ w hss hkn').mono ?_
    rintro e w' ⟨⟨h1, rfl⟩ | ⟨k, h1, rfl⟩, hb⟩
    · exact ⟨⟨_, _, _, rfl, Or.inl ⟨h1, rfl⟩⟩, hb⟩
    · exact ⟨⟨_, _, _, rfl, Or.inr ⟨k, h1, rfl⟩⟩, hb⟩
  case hi =>
    intro i hi' ad cp w h1 h2 h3
    refine (ih i hi' ad cp w h1 h2 h3).mono ?_
    rintro e w' ⟨⟨x, y, r, rfl, h4, h5⟩, hb⟩
    exact ⟨⟨x, y, r, rfl, h4, h5⟩, hb⟩
  rintro e w' ⟨⟨x, y, r, rfl, hcase⟩, hb⟩
  refine ⟨⟨x, y, r, rfl, ?_⟩, hb⟩
  have hiff := (by subst hop; exact hs_name : (hsB 21 0 0 s op a b s = true ∧ arity op = m) ↔ PlainP op a b s m)
  rw [har] at hiff
  rcases hcase with ⟨rfl, hno⟩ | ⟨hyes, hcase⟩
  · exact Ans.no rfl (sort_no (fun hp => hno (hiff.2 hp)))
  · have hpl : PlainP op a b s m := hiff.1 hyes
    obtain rfl : m = 0 := by have := hpl.2.2; omega
    have hsv : (TT.node op a b s 0 kid).sort n S V = (if findI S s n < 0 then -1 else V (findI S s n).toNat) := by
      rw [sort_plain hpl]
      rw [if_neg (by omega), if_pos hop]
    have hev : (TT.node op a b s 0 kid).ev n S V E = E (findI S s n).toNat := by
      simp only [TT.ev]
      rw [if_neg (by omega), if_pos hop]
    rw [hsv, hev]
    rcases hcase with ⟨rfl, i, hi, hk⟩ | ⟨X, Y, hk, ⟨hf, hpost⟩ | ⟨k, hf, hpost⟩⟩
    · omega
    · obtain ⟨rfl, rfl, rfl⟩ := tup_inj hpost
      exact Ans.no rfl (by rw [hf, if_pos (by omega)])
    · obtain ⟨rfl, rfl, rfl⟩ := tup_inj hpost
      have hkn2 : k < n := by
        rcases findI_cases S s n with ⟨f1, _⟩ | ⟨j, j1, f1, _, _⟩
        · omega
        · omega
      exact Ans.yes rfl (by rw [hf, if_neg (by omega), Int.toNat_natCast]) (by rw [hf, Int.toNat_natCast]) (Or.inr (hEnv k hkn2))
end Go.Proofs.YtfopmobopmdahaaGreat
