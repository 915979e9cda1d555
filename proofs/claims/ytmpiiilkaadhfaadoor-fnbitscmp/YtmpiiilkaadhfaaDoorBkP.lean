/- The builder of the program: gates that are kept, and what it stops at. -/
import Derived.Test.YtmpiiilkaadhfaaDoorNrG
import Derived.Test.YtmpiiilkaadhfaaDoorBkM
import Derived.Test.YtmpiiilkaadhfaaDoorBkI
namespace Go.Proofs.YtmpiiilkaadhfaaDoor
open Go.ChangeShapes Go.WideShapes Go.ChangeAt Go.RowKit Go.Joins
set_option linter.unusedVariables false
set_option maxRecDepth 100000
set_option linter.unusedSimpArgs false

/-- The blocks that a builder may write into. -/
def S4 (bb gb B g : Nat) (k : Nat) : Prop := k = bb ∨ k = gb ∨ k = B ∨ k = g
/-- Nothing that was there has turned but some blocks. -/
structure OutS (S : Nat → Prop) (w w' : World) : Prop where
  os : w'.os = w.os
  tape : w'.tape = w.tape
  output : w'.output = w.output
  size : w.heap.size ≤ w'.heap.size
  block : ∀ k, k < w.heap.size → ¬ S k → w'.heap[k]? = w.heap[k]?
theorem OutS.of {S : Nat → Prop} {w w' : World} (h : Below w.heap.size w w') : OutS S w w' := ⟨h.os, h.tape, h.output, h.size, fun k hk _ => h.block k hk⟩
theorem OutS.refl (S : Nat → Prop) (w : World) : OutS S w w := OutS.of (Below.refl _ _)
theorem OutS.drew {S : Nat → Prop} {a b : World} (h : OutS S a b) : OutS S a b.drew := ⟨h.os, h.tape, h.output, h.size, h.block⟩
theorem OutS.trans {S S' : Nat → Prop} {a b c : World} (h : OutS S a b) (k : OutS S' b c) (hS : ∀ i, i < a.heap.size → S' i → S i) : OutS S a c :=
  ⟨k.os.trans h.os, k.tape.trans h.tape, k.output.trans h.output, Nat.le_trans h.size k.size, fun i hi hn => (k.block i (Nat.lt_of_lt_of_le hi h.size) (fun e => hn (hS i hi e))).trans (h.block i hi hn)⟩
theorem OutS.below {S : Nat → Prop} {a b c : World} (h : OutS S a b) (k : Below b.heap.size b c) : OutS S a c := h.trans (OutS.of (S := S) k) (fun _ _ h => h)
theorem OutS.mov {S : Nat → Prop} {B : Nat} {a b c : World} (h : OutS S a b) (k : Mov B b c) (hB : B < a.heap.size → S B) : OutS S a c :=
  ⟨k.1.trans h.os, k.2.1.trans h.tape, k.2.2.1.trans h.output, Nat.le_trans h.size k.size, fun i hi hn => (k.2.2.2.2 i (Nat.lt_of_lt_of_le hi h.size) (fun e => hn (by subst e; exact hB hi))).trans (h.block i hi hn)⟩
theorem OutS.cell {S : Nat → Prop} {w w' : World} (h : OutS S w w') {p : Addr} {v : Value} (hc : w.cell? p = some v) (hn : ¬ S p.block) : w'.cell? p = some v :=
  (World.cell?_of_block (w := w) (h.block p.block (World.block_lt_of_cell? _ _ hc) hn)).trans hc
theorem OutS.frozen {S : Nat → Prop} {w w' : World} (h : OutS S w w') {p : Addr} (hl : p.block < w.heap.size) (hn : ¬ S p.block) : w'.frozen? p = w.frozen? p := World.frozen?_of_block (w := w) (h.block p.block hl hn)
theorem OutS.lower {S : Nat → Prop} {base : Nat} {w w' : World} (h : OutS S w w') (hS : ∀ k, S k → base ≤ k) (hb : base ≤ w.heap.size) : Below base w w' :=
  ⟨h.os, h.tape, h.output, h.size, fun k hk => h.block k (by omega) (fun e => by have := hS k e; omega)⟩
theorem Out3.outS {x y z b : Nat} {w w' : World} (h : Out3 x y z w w') : OutS (S4 b x y z) w w' :=
  ⟨h.os, h.tape, h.output, h.size, fun k hk hn => h.block k hk (fun e => hn (Or.inr (Or.inl e))) (fun e => hn (Or.inr (Or.inr (Or.inl e)))) (fun e => hn (Or.inr (Or.inr (Or.inr e))))⟩
/-- A builder, and what it makes. -/
structure Bld (w : World) (base bb gb B g : Nat) (aR : Addr) (s : KS) : Prop where
  p : w.cell? ⟨bb, 0, none⟩ = some (.pointer (some ⟨gb, 0, none⟩))
  f1 : s.ok = true → w.cell? ⟨bb, 1, none⟩ = some .nilIface
  f0 : s.ok = false → w.cell? ⟨bb, 1, none⟩ = some (.iface 168 (.pointer (some aR)))
  z : ∀ o, w.frozen? ⟨bb, o, none⟩ = false
  gr : s.ok = true → ∃ c, Grow w base gb s.m g s.n c B s.G
  n1 : bb ≠ gb
  n2 : bb ≠ B
  n3 : bb ≠ g
  bs : base ≤ bb ∧ base ≤ gb ∧ base ≤ B ∧ base ≤ g
  lg : g < w.heap.size ∧ gb < w.heap.size ∧ B < w.heap.size
theorem Bld.lt {w : World} {base bb gb B g : Nat} {aR : Addr} {s : KS} (h : Bld w base bb gb B g aR s) : bb < w.heap.size := World.block_lt_of_cell? _ _ h.p
theorem Bld.later {w w' : World} {base bb gb B g : Nat} {aR : Addr} {s : KS} (h : Bld w base bb gb B g aR s) (hb : Below w.heap.size w w') : Bld w' base bb gb B g aR s :=
  ⟨cell_later hb h.p, fun k => cell_later hb (h.f1 k), fun k => cell_later hb (h.f0 k), fun o => (hb.frozen (p := ⟨bb, o, none⟩) h.lt).trans (h.z o), fun k => by obtain ⟨c, hc⟩ := h.gr k; exact ⟨c, hc.later hb⟩, h.n1, h.n2, h.n3, h.bs, by have := h.lg; have := hb.size; omega⟩
theorem Bld.low {w : World} {base bb gb B g : Nat} {aR : Addr} {s : KS} (h : Bld w base bb gb B g aR s) : ∀ k, S4 bb gb B g k → base ≤ k := fun k hk => by
  have := h.bs
  rcases hk with e | e | e | e <;> omega
theorem Sent.out {w w' : World} {base bb gb B g : Nat} {aF aR aR' : Addr} {s : KS} (h : Sent w base aF aR) (hB : Bld w base bb gb B g aR' s) (o : OutS (S4 bb gb B g) w w') : Sent w' base aF aR := by
  have hn : ∀ k, k < base → ¬ S4 bb gb B g k := fun k hk e => by have := hB.low k e; omega
  have := h.b
  exact ⟨o.cell h.f (hn _ (by simp only; omega)), o.cell h.r (hn _ (by simp only; omega)), h.b⟩
/-- What is left behind a builder's step. -/
def BStep (w w' : World) (base bb gb B g : Nat) (aR : Addr) (s : KS) : Prop := ∃ g', Bld w' base bb gb B g' aR s ∧ (g' = g ∨ w.heap.size ≤ g') ∧ OutS (S4 bb gb B g) w w'
theorem BStep.trans {a b c : World} {base bb gb B g : Nat} {aR : Addr} {s t : KS} (h : BStep a b base bb gb B g aR s) (k : ∀ g', Bld b base bb gb B g' aR s → BStep b c base bb gb B g' aR t) : BStep a c base bb gb B g aR t := by
  obtain ⟨g1, h1, h2, h3⟩ := h
  obtain ⟨g2, k1, k2, k3⟩ := k g1 h1
  refine ⟨g2, k1, ?_, h3.trans k3 (fun i hi e => ?_)⟩
  · have := h3.size
    rcases k2 with e | e
    · rw [e]; exact h2
    · exact Or.inr (by omega)
  · rcases e with e | e | e | e
    · exact Or.inl e
    · exact Or.inr (Or.inl e)
    · exact Or.inr (Or.inr (Or.inl e))
    · rcases h2 with e' | e'
      · exact Or.inr (Or.inr (Or.inr (by omega)))
      · omega
theorem BStep.of {a b : World} {base bb gb B g : Nat} {aR : Addr} {s : KS} (h : Bld a base bb gb B g aR s) (k : Below a.heap.size a b) : BStep a b base bb gb B g aR s := ⟨g, h.later k, Or.inl rfl, OutS.of k⟩
theorem BStep.below {a b c : World} {base bb gb B g : Nat} {aR : Addr} {s : KS} (h : BStep a b base bb gb B g aR s) (k : Below b.heap.size b c) : BStep a c base bb gb B g aR s := h.trans (fun g' hb => BStep.of hb k)
set_option maxRecDepth 100000 in
set_option maxHeartbeats 400000 in
theorem stop_any (bb : Nat) (e1 : Value) (aR : Addr) (w : World) (q1 : w.cell? ⟨bb, 1, none⟩ = some .nilIface) (z1 : w.frozen? ⟨bb, 1, none⟩ = false) :
    Calls Tryd.prog 69 #[.pointer (some ⟨bb, 0, none⟩), .iface 168 (.pointer (some aR))] w fun e w' => e = .returned (.tuple #[]) ∧ w' = w.setCell ⟨bb, 1, none⟩ (.iface 168 (.pointer (some aR))) := by
  go_enter Tryd.func69, Tryd.ntmps69
  go_wp2
  first | go_end0 | refine bodyPost_ret (results_none rfl _ _ _) rfl ?_
  exact ⟨rfl, rfl⟩
set_option maxRecDepth 100000 in
set_option maxHeartbeats 800000 in
theorem bfull_any (base bb gb B g : Nat) (aF aR : Addr) (s : KS) (w : World) (hb : Bld w base bb gb B g aR s) (hs : Sent w base aF aR) :
    Calls Tryd.prog 103 #[.pointer (some ⟨bb, 0, none⟩)] w fun e w' => e = .returned (.bool (!s.ok)) ∧ Below w.heap.size w w' := by
  have r := hs.r
  cases hk : s.ok
  · have q1 := hb.f0 hk
    clear hb hs
    go_enter Tryd.func103, Tryd.ntmps103
    go_wp2
    go_region_held3 (fun w' => w'.cell? ⟨bb, 1, none⟩ = some (.iface 168 (.pointer (some aR))) ∧ w'.cell? ⟨1, 0, none⟩ = some (.iface 168 (.pointer (some aR)))) (first | exact ⟨q1, r⟩ | go_keep)
      (first | (go_at_call 109; refine (is_same aR _).mono ?_; rintro e w1 ⟨rfl, rfl⟩))
    all_goals go_wp2
    all_goals go_ret
    all_goals exact ⟨rfl, (by repeat (first | exact Below.refl _ _ | assumption | refine below_drewN ?_ _ | refine Below.drew ?_ | refine Below.alloc ?_ (by first | exact Nat.le_refl _ | exact Below.size (by assumption) | (simp; done) | (simp; omega)) _ | refine Below.setCell ?_ (by first | exact Nat.le_refl _ | exact Below.size (by assumption) | (simp; done) | (simp; omega)) _ | refine Below.trans ?_ (by assumption)))⟩
  · have q1 := hb.f1 hk
    clear hb hs
    go_enter Tryd.func103, Tryd.ntmps103
    go_wp2
    go_region_held3 (fun w' => w'.cell? ⟨bb, 1, none⟩ = some .nilIface ∧ w'.cell? ⟨1, 0, none⟩ = some (.iface 168 (.pointer (some aR)))) (first | exact ⟨q1, r⟩ | go_keep)
      (first | (go_at_call 109; refine (is_nil aR _).mono ?_; rintro e w1 ⟨rfl, rfl⟩))
    all_goals go_wp2
    all_goals go_ret
    all_goals exact ⟨rfl, (by repeat (first | exact Below.refl _ _ | assumption | refine below_drewN ?_ _ | refine Below.drew ?_ | refine Below.alloc ?_ (by first | exact Nat.le_refl _ | exact Below.size (by assumption) | (simp; done) | (simp; omega)) _ | refine Below.setCell ?_ (by first | exact Nat.le_refl _ | exact Below.size (by assumption) | (simp; done) | (simp; omega)) _ | refine Below.trans ?_ (by assumption)))⟩
set_option maxRecDepth 100000 in
set_option maxHeartbeats 800000 in
theorem kept_any (bb : Nat) (aR : Addr) (k : Int) (w : World) (q1 : w.cell? ⟨bb, 1, none⟩ = some .nilIface) (z1 : w.frozen? ⟨bb, 1, none⟩ = false) (r : w.cell? ⟨1, 0, none⟩ = some (.iface 168 (.pointer (some aR)))) :
    Calls Tryd.prog 104 #[.pointer (some ⟨bb, 0, none⟩), .int .i64 k] w fun e w' => e = .returned (.int .i64 k) ∧ (k ≠ 0 ∧ w' = w ∨ k = 0 ∧ w' = w.setCell ⟨bb, 1, none⟩ (.iface 168 (.pointer (some aR)))) := by
  by_cases hk : k = 0
  · subst hk
    go_enter Tryd.func104, Tryd.ntmps104
    go_wp2_with fail
    refine (stop_any bb .nilIface aR _ q1 z1).mono ?_
    rintro e w1 ⟨rfl, rfl⟩
    go_wp2
    go_ret
    exact ⟨rfl, Or.inr ⟨by trivial, rfl⟩⟩
  · have kb : (k == 0) = false := by simp [hk]
    have HK := hide hk
    go_enter Tryd.func104, Tryd.ntmps104
    go_wp2
    go_ret
    exact ⟨rfl, Or.inl ⟨unhide HK, rfl⟩⟩
set_option maxRecDepth 100000 in
set_option maxHeartbeats 1500000 in
theorem band_any (base bb gb B g : Nat) (aF aR : Addr) (s : KS) (a b : Int) (w : World) (hb : Bld w base bb gb B g aR s) (hs : Sent w base aF aR) (hbase : base ≤ w.heap.size) (hk : KOk s) (ha : Mk s a) (hb' : Mk s b) :
    Calls Tryd.prog 89 #[.pointer (some ⟨bb, 0, none⟩), .int .i64 a, .int .i64 b] w fun e w' => e = .returned (.int .i64 (andK 0 s a b).2) ∧ BStep w w' base bb gb B g aR (andK 0 s a b).1 := by
  obtain ⟨m, n, G, ok⟩ := s
  have HB := hide hb
  have HS := hide hs
  cases ok
  · have HR := hide (show andK 0 ⟨m, n, G, false⟩ a b = (⟨m, n, G, false⟩, 0) by simp [andK])
    clear hk ha hb' hb hs
    go_enter Tryd.func89, Tryd.ntmps89
    go_wp2_with fail
    refine (bfull_any base bb gb B g aF aR _ _ (unhide HB) (unhide HS)).mono ?_
    rintro e w1 ⟨rfl, b1⟩
    have HB1 := hide b1
    clear b1
    go_wp2
    go_ret
    rw [unhide HR]
    exact ⟨rfl, BStep.of (unhide HB) (unhide HB1)⟩
  · have HR := hide (show andK 0 ⟨m, n, G, true⟩ a b = kR (andR m n G a b) by simp [andK])
    obtain ⟨hm0, hm1, hn, hN⟩ := hk
    have ha2 := hide (ha.2.2 rfl)
    have hb2 := hide (hb'.2.2 rfl)
    have HN := hide (hN rfl)
    simp only at hm0 hm1 hn
    clear hN ha hb' hb hs
    go_enter Tryd.func89, Tryd.ntmps89
    go_wp2_with fail
    refine (bfull_any base bb gb B g aF aR _ _ (unhide HB) (unhide HS)).mono ?_
    rintro e w1 ⟨rfl, b1⟩
    have HB1 := hide ((unhide HB).later b1)
    have HS1 := hide ((unhide HS).out (unhide HB) (OutS.of b1))
    have p0 := (unhide HB1).p
    obtain ⟨c, hG⟩ := (unhide HB1).gr rfl
    have HG := hide hG
    have l1 := b1.size
    have HBL := hide b1
    clear b1 hG
    go_wp2_with fail
    refine (and_any gb g n c B base m G a b _ (unhide HG) (Nat.le_trans hbase l1) (unhide HN) (unhide ha2) (unhide hb2)).mono ?_
    rintro e w2 ⟨rfl, h1, o2⟩
    have o4 : OutS (S4 bb gb B g) w1 w2 := o2.outS
    have nb : ∀ k, k = bb → ¬ (k = gb ∨ k = B ∨ k = g) := fun k e => by have h1 := (unhide HB).n1; have h2 := (unhide HB).n2; have h3 := (unhide HB).n3; omega
    have ob : w2.heap[bb]? = w1.heap[bb]? := o2.block bb (unhide HB1).lt (unhide HB).n1 (unhide HB).n2 (unhide HB).n3
    have c0 : w2.cell? ⟨bb, 0, none⟩ = some (.pointer (some ⟨gb, 0, none⟩)) := (World.cell?_of_block ob).trans (unhide HB1).p
    have c1 : w2.cell? ⟨bb, 1, none⟩ = some .nilIface := (World.cell?_of_block ob).trans ((unhide HB1).f1 rfl)
    have zf : Hid (∀ o, w2.frozen? ⟨bb, o, none⟩ = false) := fun o => (World.frozen?_of_block ob).trans ((unhide HB1).z o)
    have z1 := unhide zf 1
    have r2 := ((unhide HS1).out (unhide HB1) o4).r
    have H1 := hide h1
    have HO := hide o4
    have l2 := o2.size
    clear h1 o2 o4 ob nb
    generalize hr : andR m n G a b = r at *
    have HRR := hide hr
    clear hr
    go_wp2_with fail
    refine (kept_any bb aR r.k _ c1 z1 r2).mono ?_
    have lg := (unhide HB1).lg
    rintro e w3 ⟨rfl, ⟨hk, rfl⟩ | ⟨hk, rfl⟩⟩
    · obtain ⟨g', ⟨c', hG'⟩, hgg⟩ := unhide H1 hk
      have HG' := hide hG'
      have HGG := hide hgg
      have HKK := hide hk
      clear hG' hgg hk
      go_wp2
      go_ret
      rw [unhide HR]
      refine ⟨rfl, g', ⟨c0, fun _ => c1, fun e => ?_, unhide zf, fun _ => ⟨c', ?_⟩, (unhide HB).n1, (unhide HB).n2, ?_, ?_, ?_⟩, ?_, (OutS.of (unhide HBL)).trans (unhide HO) (fun _ _ e => e)⟩
      · simp [kR, unhide HKK] at e
      · have hm : r.m = m := by rw [← unhide HRR]; exact by rcases andR_ways m n G a b hm0 (mkP_bd (unhide ha2)).1 (mkP_bd (unhide hb2)).1 with h | h; (· exact absurd (by rw [← unhide HRR]; exact h.1) (unhide HKK)); (· exact h.2)
        show Grow _ _ _ r.m _ _ _ _ _
        rw [hm]
        exact unhide HG'
      · have := (unhide HB1).lt; have := (unhide HB1).n3; rcases unhide HGG with e | e <;> omega
      · have hb := (unhide HB).bs
        exact ⟨hb.1, hb.2.1, hb.2.2.1, own_base (unhide HG').2.1⟩
      · exact ⟨(own_cap (unhide HG').2.1).2, (unhide HG').1.lt, (unhide HG').2.2.1.lt⟩
      · rcases unhide HGG with e | e
        · exact Or.inl e
        · exact Or.inr (by omega)
    · have HKK := hide hk
      clear hk
      go_wp2
      go_ret
      rw [unhide HR]
      refine ⟨by simp [kR, unhide HKK], g, ⟨by rw [World.cell?_setCell_other _ _ _ _ (by simp)]; exact c0, fun e => ?_, fun _ => World.cell?_setCell_same _ _ _ c1, fun o => by simp [go_sem]; exact unhide zf o, fun e => ?_, (unhide HB).n1, (unhide HB).n2, (unhide HB).n3, (unhide HB).bs, by simp; omega⟩, Or.inl rfl, ((OutS.of (unhide HBL)).trans (unhide HO) (fun _ _ e => e)).mov (Mov.set (R := bb) _ _ _) (fun _ => Or.inl rfl)⟩
      · simp [kR, unhide HKK] at e
      · simp [kR, unhide HKK] at e
set_option maxRecDepth 100000 in
set_option maxHeartbeats 1500000 in
theorem bxor_any (base bb gb B g : Nat) (aF aR : Addr) (s : KS) (a b : Int) (w : World) (hb : Bld w base bb gb B g aR s) (hs : Sent w base aF aR) (hbase : base ≤ w.heap.size) (hk : KOk s) (ha : Mk s a) (hb' : Mk s b) :
    Calls Tryd.prog 90 #[.pointer (some ⟨bb, 0, none⟩), .int .i64 a, .int .i64 b] w fun e w' => e = .returned (.int .i64 (xorK 0 s a b).2) ∧ BStep w w' base bb gb B g aR (xorK 0 s a b).1 := by
  obtain ⟨m, n, G, ok⟩ := s
  have HB := hide hb
  have HS := hide hs
  cases ok
  · have HR := hide (show xorK 0 ⟨m, n, G, false⟩ a b = (⟨m, n, G, false⟩, 0) by simp [xorK])
    clear hk ha hb' hb hs
    go_enter Tryd.func90, Tryd.ntmps90
    go_wp2_with fail
    refine (bfull_any base bb gb B g aF aR _ _ (unhide HB) (unhide HS)).mono ?_
    rintro e w1 ⟨rfl, b1⟩
    have HB1 := hide b1
    clear b1
    go_wp2
    go_ret
    rw [unhide HR]
    exact ⟨rfl, BStep.of (unhide HB) (unhide HB1)⟩
  · have HR := hide (show xorK 0 ⟨m, n, G, true⟩ a b = kR (xorR m n G a b) by simp [xorK])
    obtain ⟨hm0, hm1, hn, hN⟩ := hk
    have ha2 := hide (ha.2.2 rfl)
    have hb2 := hide (hb'.2.2 rfl)
    have HN := hide (hN rfl)
    simp only at hm0 hm1 hn
    clear hN ha hb' hb hs
    go_enter Tryd.func90, Tryd.ntmps90
    go_wp2_with fail
    refine (bfull_any base bb gb B g aF aR _ _ (unhide HB) (unhide HS)).mono ?_
    rintro e w1 ⟨rfl, b1⟩
    have HB1 := hide ((unhide HB).later b1)
    have HS1 := hide ((unhide HS).out (unhide HB) (OutS.of b1))
    have p0 := (unhide HB1).p
    obtain ⟨c, hG⟩ := (unhide HB1).gr rfl
    have HG := hide hG
    have l1 := b1.size
    have HBL := hide b1
    clear b1 hG
    go_wp2_with fail
    refine (xor_any gb g n c B base m G a b _ (unhide HG) (Nat.le_trans hbase l1) (unhide HN) (unhide ha2) (unhide hb2)).mono ?_
    rintro e w2 ⟨rfl, h1, o2⟩
    have o4 : OutS (S4 bb gb B g) w1 w2 := o2.outS
    have nb : ∀ k, k = bb → ¬ (k = gb ∨ k = B ∨ k = g) := fun k e => by have h1 := (unhide HB).n1; have h2 := (unhide HB).n2; have h3 := (unhide HB).n3; omega
    have ob : w2.heap[bb]? = w1.heap[bb]? := o2.block bb (unhide HB1).lt (unhide HB).n1 (unhide HB).n2 (unhide HB).n3
    have c0 : w2.cell? ⟨bb, 0, none⟩ = some (.pointer (some ⟨gb, 0, none⟩)) := (World.cell?_of_block ob).trans (unhide HB1).p
    have c1 : w2.cell? ⟨bb, 1, none⟩ = some .nilIface := (World.cell?_of_block ob).trans ((unhide HB1).f1 rfl)
    have zf : Hid (∀ o, w2.frozen? ⟨bb, o, none⟩ = false) := fun o => (World.frozen?_of_block ob).trans ((unhide HB1).z o)
    have z1 := unhide zf 1
    have r2 := ((unhide HS1).out (unhide HB1) o4).r
    have H1 := hide h1
    have HO := hide o4
    have l2 := o2.size
    clear h1 o2 o4 ob nb
    generalize hr : xorR m n G a b = r at *
    have HRR := hide hr
    clear hr
    go_wp2_with fail
    refine (kept_any bb aR r.k _ c1 z1 r2).mono ?_
    have lg := (unhide HB1).lg
    rintro e w3 ⟨rfl, ⟨hk, rfl⟩ | ⟨hk, rfl⟩⟩
    · obtain ⟨g', ⟨c', hG'⟩, hgg⟩ := unhide H1 hk
      have HG' := hide hG'
      have HGG := hide hgg
      have HKK := hide hk
      clear hG' hgg hk
      go_wp2
      go_ret
      rw [unhide HR]
      refine ⟨rfl, g', ⟨c0, fun _ => c1, fun e => ?_, unhide zf, fun _ => ⟨c', ?_⟩, (unhide HB).n1, (unhide HB).n2, ?_, ?_, ?_⟩, ?_, (OutS.of (unhide HBL)).trans (unhide HO) (fun _ _ e => e)⟩
      · simp [kR, unhide HKK] at e
      · have hm : r.m = m := by rw [← unhide HRR]; exact by rcases xorR_ways m n G a b hm0 (mkP_bd (unhide ha2)).1 (mkP_bd (unhide hb2)).1 with h | h; (· exact absurd (by rw [← unhide HRR]; exact h.1) (unhide HKK)); (· exact h.2)
        show Grow _ _ _ r.m _ _ _ _ _
        rw [hm]
        exact unhide HG'
      · have := (unhide HB1).lt; have := (unhide HB1).n3; rcases unhide HGG with e | e <;> omega
      · have hb := (unhide HB).bs
        exact ⟨hb.1, hb.2.1, hb.2.2.1, own_base (unhide HG').2.1⟩
      · exact ⟨(own_cap (unhide HG').2.1).2, (unhide HG').1.lt, (unhide HG').2.2.1.lt⟩
      · rcases unhide HGG with e | e
        · exact Or.inl e
        · exact Or.inr (by omega)
    · have HKK := hide hk
      clear hk
      go_wp2
      go_ret
      rw [unhide HR]
      refine ⟨by simp [kR, unhide HKK], g, ⟨by rw [World.cell?_setCell_other _ _ _ _ (by simp)]; exact c0, fun e => ?_, fun _ => World.cell?_setCell_same _ _ _ c1, fun o => by simp [go_sem]; exact unhide zf o, fun e => ?_, (unhide HB).n1, (unhide HB).n2, (unhide HB).n3, (unhide HB).bs, by simp; omega⟩, Or.inl rfl, ((OutS.of (unhide HBL)).trans (unhide HO) (fun _ _ e => e)).mov (Mov.set (R := bb) _ _ _) (fun _ => Or.inl rfl)⟩
      · simp [kR, unhide HKK] at e
      · simp [kR, unhide HKK] at e
end Go.Proofs.YtmpiiilkaadhfaaDoor
