/- The stack of layers that the program builds: how it lies in memory, and what stays as it was. -/
import Derived.Test.YtfopmobopmdahaaGreatCxS
import Derived.Laws.OwnMore
namespace Go.Proofs.YtfopmobopmdahaaGreat
open Go.ChangeShapes Go.WideShapes Go.ChangeAt Go.RowKit Go.Joins
set_option linter.unusedVariables false

/-- Where a stack lies: its block, and its three lists. -/
structure SK where
  B : Nat
  dv : Value
  tv : Value
  mv : Value
/-- A block that is none of a stack's. -/
structure Far (K : SK) (x : Nat) : Prop where
  b : x ≠ K.B
  d : K.dv.ownBlock ≠ some x
  t : K.tv.ownBlock ≠ some x
  m : K.mv.ownBlock ≠ some x
/-- From one world to another nothing but a stack has turned, and what is far from it stays far. -/
structure Stp (K : SK) (w : World) (K' : SK) (w' : World) : Prop where
  os : w'.os = w.os
  tape : w'.tape = w.tape
  output : w'.output = w.output
  size : w.heap.size ≤ w'.heap.size
  far : ∀ x, x < w.heap.size → Far K x → Far K' x
  block : ∀ x, x < w.heap.size → Far K x → w'.heap[x]? = w.heap[x]?
theorem Stp.refl (K : SK) (w : World) : Stp K w K w := ⟨rfl, rfl, rfl, Nat.le_refl _, fun _ _ h => h, fun _ _ _ => rfl⟩
theorem Stp.trans {K K' K'' : SK} {a b c : World} (h : Stp K a K' b) (k : Stp K' b K'' c) : Stp K a K'' c :=
  ⟨k.os.trans h.os, k.tape.trans h.tape, k.output.trans h.output, Nat.le_trans h.size k.size, fun x hx hf => k.far x (Nat.lt_of_lt_of_le hx h.size) (h.far x hx hf), fun x hx hf => (k.block x (Nat.lt_of_lt_of_le hx h.size) (h.far x hx hf)).trans (h.block x hx hf)⟩
theorem Stp.of {K : SK} {w w' : World} (h : Below w.heap.size w w') : Stp K w K w' := ⟨h.os, h.tape, h.output, h.size, fun _ _ h => h, fun x hx _ => h.block x hx⟩
theorem Stp.drew {K K' : SK} {w w' : World} (h : Stp K w K' w') : Stp K w K' w'.drew := ⟨h.os, h.tape, h.output, h.size, h.far, h.block⟩
/-- All of a stack's blocks are from here on. -/
def Up (K : SK) (base : Nat) : Prop := base ≤ K.B ∧ (∀ k, K.dv.ownBlock = some k → base ≤ k) ∧ (∀ k, K.tv.ownBlock = some k → base ≤ k) ∧ ∀ k, K.mv.ownBlock = some k → base ≤ k
theorem Up.far {K : SK} {base x : Nat} (h : Up K base) (hx : x < base) : Far K x :=
  ⟨by have := h.1; omega, fun e => by have := h.2.1 x e; omega, fun e => by have := h.2.2.1 x e; omega, fun e => by have := h.2.2.2 x e; omega⟩
theorem Stp.below {K K' : SK} {w w' : World} {base : Nat} (h : Stp K w K' w') (hu : Up K base) (hb : base ≤ w.heap.size) : Below base w w' :=
  ⟨h.os, h.tape, h.output, h.size, fun x hx => h.block x (by omega) (hu.far hx)⟩
theorem Stp.cell {K K' : SK} {w w' : World} (h : Stp K w K' w') {p : Addr} {v : Value} (hc : w.cell? p = some v) (hf : Far K p.block) : w'.cell? p = some v :=
  (World.cell?_of_block (w := w) (h.block p.block (World.block_lt_of_cell? _ _ hc) hf)).trans hc
/-- Marks as cells. -/
def mcell (p : Nat × Nat) : List Value := [.int .i64 (p.1 : Int), .int .i64 (p.2 : Int), .slice none 0 0, .int .i64 0]
def mcells (M : List (Nat × Nat)) : List Value := M.flatMap mcell
theorem mcells_app (L M : List (Nat × Nat)) : mcells (L ++ M) = mcells L ++ mcells M := by simp [mcells]
theorem mcells_size : ∀ (L : List (Nat × Nat)), (mcells L).length = L.length * 4
  | [] => rfl
  | p :: L => by
    have e : mcells (p :: L) = mcell p ++ mcells L := rfl
    rw [e, List.length_append, mcells_size L]; simp [mcell]; omega
theorem mcells_cell {L : List (Nat × Nat)} : ∀ u ∈ mcells L, u.oneCell' = true := by
  intro u hu
  unfold mcells at hu
  rw [List.mem_flatMap] at hu
  obtain ⟨p, _, h⟩ := hu
  unfold mcell at h
  simp only [List.mem_cons, List.not_mem_nil, or_false] at h
  rcases h with h | h | h | h <;> subst h <;> rfl
theorem mcells_at : ∀ (L : List (Nat × Nat)) (i j : Nat) (h : i < L.length), j < 4 → (mcells L)[i * 4 + j]? = (mcell L[i])[j]?
  | [], i, j, h, _ => by simp at h
  | p :: L, 0, j, h, hj => by
    have e : mcells (p :: L) = mcell p ++ mcells L := rfl
    rw [e, Nat.zero_mul, Nat.zero_add, List.getElem?_append_left (by simp [mcell]; omega)]
    rfl
  | p :: L, i + 1, j, h, hj => by
    have e : mcells (p :: L) = mcell p ++ mcells L := rfl
    have h' : i < L.length := by simpa using h
    have ih := mcells_at L i j h' hj
    have hl : (mcell p).length = 4 := rfl
    rw [e, List.getElem?_append_right (by rw [hl]; omega), hl, show (i + 1) * 4 + j - 4 = i * 4 + j by omega]
    simpa using ih
/-- What is written anew as it was is as it was. -/
theorem set_same {α : Type} : ∀ (l : List α) (i : Nat) (v : α), l[i]? = some v → l.set i v = l
  | [], _, _, _ => rfl
  | x :: l, 0, v, h => by simp at h; subst h; rfl
  | x :: l, i + 1, v, h => by simp at h; simp [set_same l i v h]
/-- A stack of these names, these terms, these marks. -/
structure Stk (w : World) (base : Nat) (K : SK) (L : List (ByteArray × Int)) (T : List Lt) (M : List (Nat × Nat)) : Prop where
  up : base ≤ K.B
  c0 : w.cell? ⟨K.B, 0, none⟩ = some K.dv
  c1 : w.cell? ⟨K.B, 1, none⟩ = some K.tv
  c2 : w.cell? ⟨K.B, 2, none⟩ = some K.mv
  fz : ∀ o, w.frozen? ⟨K.B, o, none⟩ = false
  od : w.ownsRow base 40 2 K.dv L.length (dcells L)
  ot : w.ownsRow base 50 5 K.tv T.length (tcells T)
  om : w.ownsRow base 101 4 K.mv M.length (mcells M)
  nd : K.dv.ownBlock ≠ some K.B
  nt : K.tv.ownBlock ≠ some K.B
  nm : K.mv.ownBlock ≠ some K.B
  dt : K.dv.ownBlock = none ∨ K.dv.ownBlock ≠ K.tv.ownBlock
  dm : K.dv.ownBlock = none ∨ K.dv.ownBlock ≠ K.mv.ownBlock
  tm : K.tv.ownBlock = none ∨ K.tv.ownBlock ≠ K.mv.ownBlock
variable {w w' : World} {base : Nat} {K K' : SK} {L : List (ByteArray × Int)} {T : List Lt} {M : List (Nat × Nat)}
theorem Stk.lt (h : Stk w base K L T M) : K.B < w.heap.size := World.block_lt_of_cell? _ _ h.c0
theorem Stk.isUp (h : Stk w base K L T M) : Up K base := ⟨h.up, fun k e => (World.ownsRow.lt h.od k e).1, fun k e => (World.ownsRow.lt h.ot k e).1, fun k e => (World.ownsRow.lt h.om k e).1⟩
theorem Stk.far_new (h : Stk w base K L T M) {x : Nat} (hx : w.heap.size ≤ x) : Far K x :=
  ⟨by have := h.lt; omega, fun e => by have := (World.ownsRow.lt h.od x e).2; omega, fun e => by have := (World.ownsRow.lt h.ot x e).2; omega, fun e => by have := (World.ownsRow.lt h.om x e).2; omega⟩
theorem Stk.later (h : Stk w base K L T M) (hb : Below w.heap.size w w') : Stk w' base K L T M :=
  ⟨h.up, cell_later hb h.c0, cell_later hb h.c1, cell_later hb h.c2, fun o => (hb.frozen (p := ⟨K.B, o, none⟩) h.lt).trans (h.fz o), h.od.kept (grown_below hb) (by cases K.dv.ownBlock <;> simp), h.ot.kept (grown_below hb) (by cases K.tv.ownBlock <;> simp), h.om.kept (grown_below hb) (by cases K.mv.ownBlock <;> simp), h.nd, h.nt, h.nm, h.dt, h.dm, h.tm⟩
theorem Stk.drew (h : Stk w base K L T M) : Stk w.drew base K L T M := ⟨h.up, h.c0, h.c1, h.c2, h.fz, h.od, h.ot, h.om, h.nd, h.nt, h.nm, h.dt, h.dm, h.tm⟩
/-- A list's slice, written out. -/
theorem own_slice {e : TypeId} {size n : Nat} {v : Value} {xs : List Value} (h : w.ownsRow base e size v n xs) : ∃ (a : Option Addr) (c : Nat), v = .slice a n c ∧ n ≤ c ∧ c ≤ maxLen ∧ (0 < n → ∃ g, a = some ⟨g, 0, none⟩) ∧ (a = none → c = 0) := by
  rcases h.2 with ⟨rfl, rfl⟩ | ⟨g, cap, cur, rfl, _, _, h1, h2, _⟩
  · exact ⟨none, 0, rfl, Nat.le_refl _, by unfold maxLen; omega, fun h => by omega, fun _ => rfl⟩
  · exact ⟨_, cap, rfl, h1, h2, fun _ => ⟨g, rfl⟩, fun h => by cases h⟩
theorem opt_ne {a b : Option Nat} (h : a = none ∨ a ≠ b) : b = none ∨ b ≠ a := by
  rcases h with rfl | h
  · cases b <;> simp
  · exact Or.inr (Ne.symm h)
theorem new_ne {d d' t : Option Nat} {s : Nat} (h : d = none ∨ d ≠ t) (hn : ∀ k, d' = some k → d = some k ∨ s ≤ k) (ht : ∀ k, t = some k → k < s) : d' = none ∨ d' ≠ t := by
  cases d' with
  | none => exact Or.inl rfl
  | some k =>
    refine Or.inr (fun e => ?_)
    rcases hn k rfl with h1 | h1
    · rcases h with h2 | h2
      · rw [h2] at h1; cases h1
      · exact h2 (h1.trans e)
    · have := ht k e.symm; omega
/-- One of the three lists has grown (v' as it is now, w1 behind it), and is laid into the stack's block. -/
theorem Stk.put_d {v' : Value} {w1 : World} {L' : List (ByteArray × Int)} (h : Stk w base K L T M) (hg : w.grownBy w1 K.dv.ownBlock) (ho : w1.ownsRow base 40 2 v' L'.length (dcells L')) (hn : ∀ k, v'.ownBlock = some k → K.dv.ownBlock = some k ∨ w.heap.size ≤ k) {w2 : World} (hb : Below w1.heap.size w1 w2) :
    Stk (w2.setCell ⟨K.B, 0, none⟩ v') base { K with dv := v' } L' T M ∧ Stp K w { K with dv := v' } (w2.setCell ⟨K.B, 0, none⟩ v') := by
  have hlt := h.lt
  have blk : ∀ x, x < w.heap.size → K.dv.ownBlock ≠ some x → w2.heap[x]? = w.heap[x]? := fun x hx hne => (hb.block x (Nat.lt_of_lt_of_le hx hg.size)).trans (hg.block x hx (fun e => hne e.symm))
  have cel : ∀ (p : Addr) (u : Value), w.cell? p = some u → K.dv.ownBlock ≠ some p.block → w2.cell? p = some u := fun p u hc hne => (World.cell?_of_block (w := w) (blk p.block (World.block_lt_of_cell? _ _ hc) hne)).trans hc
  have d0 := cel _ _ h.c0 h.nd
  have d1 := cel _ _ h.c1 h.nd
  have d2 := cel _ _ h.c2 h.nd
  have hf2 : ∀ o, w2.frozen? ⟨K.B, o, none⟩ = false := fun o => (World.frozen?_of_block (w := w) (a := ⟨K.B, o, none⟩) (blk K.B hlt h.nd)).trans (h.fz o)
  have nv : v'.ownBlock ≠ some K.B := fun e => by rcases hn _ e with h1 | h1; exact h.nd h1; omega
  have gs : w2.grownBy (w2.setCell ⟨K.B, 0, none⟩ v') (some K.B) := ⟨rfl, rfl, rfl, by simp, fun k _ hk => Below.heap_setCell _ _ _ _ (by intro e; exact hk (by rw [e]))⟩
  have sz : w.heap.size ≤ w2.heap.size := Nat.le_trans hg.size hb.size
  refine ⟨⟨h.up, World.cell?_setCell_same _ _ _ d0, (by rw [World.cell?_setCell_other _ _ _ _ (by simp)]; exact d1), (by rw [World.cell?_setCell_other _ _ _ _ (by simp)]; exact d2), fun o => by rw [World.frozen?_setCell]; exact hf2 o, (ho.kept (grown_below hb) (by cases v'.ownBlock <;> simp)).kept gs (Or.inr nv), ((h.ot.kept hg (opt_ne h.dt)).kept (grown_below hb) (by cases K.tv.ownBlock <;> simp)).kept gs (Or.inr h.nt), ((h.om.kept hg (opt_ne h.dm)).kept (grown_below hb) (by cases K.mv.ownBlock <;> simp)).kept gs (Or.inr h.nm), nv, h.nt, h.nm, (new_ne h.dt hn (fun k e => (World.ownsRow.lt h.ot k e).2)), (new_ne h.dm hn (fun k e => (World.ownsRow.lt h.om k e).2)), h.tm⟩, ?_⟩
  refine ⟨hb.os.trans hg.os, hb.tape.trans hg.tape, hb.output.trans hg.output, by simpa using sz, fun x hx hf => ⟨hf.b, (fun e => by rcases hn _ e with h1 | h1; exact hf.d h1; omega), hf.t, hf.m⟩, fun x hx hf => ?_⟩
  rw [Below.heap_setCell _ _ _ _ (fun e => hf.b (by rw [e]))]
  exact blk x hx hf.d
/-- One of the three lists has grown (v' as it is now, w1 behind it), and is laid into the stack's block. -/
theorem Stk.put_t {v' : Value} {w1 : World} {T' : List Lt} (h : Stk w base K L T M) (hg : w.grownBy w1 K.tv.ownBlock) (ho : w1.ownsRow base 50 5 v' T'.length (tcells T')) (hn : ∀ k, v'.ownBlock = some k → K.tv.ownBlock = some k ∨ w.heap.size ≤ k) {w2 : World} (hb : Below w1.heap.size w1 w2) :
    Stk (w2.setCell ⟨K.B, 1, none⟩ v') base { K with tv := v' } L T' M ∧ Stp K w { K with tv := v' } (w2.setCell ⟨K.B, 1, none⟩ v') := by
  have hlt := h.lt
  have blk : ∀ x, x < w.heap.size → K.tv.ownBlock ≠ some x → w2.heap[x]? = w.heap[x]? := fun x hx hne => (hb.block x (Nat.lt_of_lt_of_le hx hg.size)).trans (hg.block x hx (fun e => hne e.symm))
  have cel : ∀ (p : Addr) (u : Value), w.cell? p = some u → K.tv.ownBlock ≠ some p.block → w2.cell? p = some u := fun p u hc hne => (World.cell?_of_block (w := w) (blk p.block (World.block_lt_of_cell? _ _ hc) hne)).trans hc
  have d0 := cel _ _ h.c0 h.nt
  have d1 := cel _ _ h.c1 h.nt
  have d2 := cel _ _ h.c2 h.nt
  have hf2 : ∀ o, w2.frozen? ⟨K.B, o, none⟩ = false := fun o => (World.frozen?_of_block (w := w) (a := ⟨K.B, o, none⟩) (blk K.B hlt h.nt)).trans (h.fz o)
  have nv : v'.ownBlock ≠ some K.B := fun e => by rcases hn _ e with h1 | h1; exact h.nt h1; omega
  have gs : w2.grownBy (w2.setCell ⟨K.B, 1, none⟩ v') (some K.B) := ⟨rfl, rfl, rfl, by simp, fun k _ hk => Below.heap_setCell _ _ _ _ (by intro e; exact hk (by rw [e]))⟩
  have sz : w.heap.size ≤ w2.heap.size := Nat.le_trans hg.size hb.size
  refine ⟨⟨h.up, (by rw [World.cell?_setCell_other _ _ _ _ (by simp)]; exact d0), World.cell?_setCell_same _ _ _ d1, (by rw [World.cell?_setCell_other _ _ _ _ (by simp)]; exact d2), fun o => by rw [World.frozen?_setCell]; exact hf2 o, ((h.od.kept hg h.dt).kept (grown_below hb) (by cases K.dv.ownBlock <;> simp)).kept gs (Or.inr h.nd), (ho.kept (grown_below hb) (by cases v'.ownBlock <;> simp)).kept gs (Or.inr nv), ((h.om.kept hg (opt_ne h.tm)).kept (grown_below hb) (by cases K.mv.ownBlock <;> simp)).kept gs (Or.inr h.nm), h.nd, nv, h.nm, (opt_ne (new_ne (opt_ne h.dt) hn (fun k e => (World.ownsRow.lt h.od k e).2))), h.dm, (new_ne h.tm hn (fun k e => (World.ownsRow.lt h.om k e).2))⟩, ?_⟩
  refine ⟨hb.os.trans hg.os, hb.tape.trans hg.tape, hb.output.trans hg.output, by simpa using sz, fun x hx hf => ⟨hf.b, hf.d, (fun e => by rcases hn _ e with h1 | h1; exact hf.t h1; omega), hf.m⟩, fun x hx hf => ?_⟩
  rw [Below.heap_setCell _ _ _ _ (fun e => hf.b (by rw [e]))]
  exact blk x hx hf.t
/-- One of the three lists has grown (v' as it is now, w1 behind it), and is laid into the stack's block. -/
theorem Stk.put_m {v' : Value} {w1 : World} {M' : List (Nat × Nat)} (h : Stk w base K L T M) (hg : w.grownBy w1 K.mv.ownBlock) (ho : w1.ownsRow base 101 4 v' M'.length (mcells M')) (hn : ∀ k, v'.ownBlock = some k → K.mv.ownBlock = some k ∨ w.heap.size ≤ k) {w2 : World} (hb : Below w1.heap.size w1 w2) :
    Stk (w2.setCell ⟨K.B, 2, none⟩ v') base { K with mv := v' } L T M' ∧ Stp K w { K with mv := v' } (w2.setCell ⟨K.B, 2, none⟩ v') := by
  have hlt := h.lt
  have blk : ∀ x, x < w.heap.size → K.mv.ownBlock ≠ some x → w2.heap[x]? = w.heap[x]? := fun x hx hne => (hb.block x (Nat.lt_of_lt_of_le hx hg.size)).trans (hg.block x hx (fun e => hne e.symm))
  have cel : ∀ (p : Addr) (u : Value), w.cell? p = some u → K.mv.ownBlock ≠ some p.block → w2.cell? p = some u := fun p u hc hne => (World.cell?_of_block (w := w) (blk p.block (World.block_lt_of_cell? _ _ hc) hne)).trans hc
  have d0 := cel _ _ h.c0 h.nm
  have d1 := cel _ _ h.c1 h.nm
  have d2 := cel _ _ h.c2 h.nm
  have hf2 : ∀ o, w2.frozen? ⟨K.B, o, none⟩ = false := fun o => (World.frozen?_of_block (w := w) (a := ⟨K.B, o, none⟩) (blk K.B hlt h.nm)).trans (h.fz o)
  have nv : v'.ownBlock ≠ some K.B := fun e => by rcases hn _ e with h1 | h1; exact h.nm h1; omega
  have gs : w2.grownBy (w2.setCell ⟨K.B, 2, none⟩ v') (some K.B) := ⟨rfl, rfl, rfl, by simp, fun k _ hk => Below.heap_setCell _ _ _ _ (by intro e; exact hk (by rw [e]))⟩
  have sz : w.heap.size ≤ w2.heap.size := Nat.le_trans hg.size hb.size
  refine ⟨⟨h.up, (by rw [World.cell?_setCell_other _ _ _ _ (by simp)]; exact d0), (by rw [World.cell?_setCell_other _ _ _ _ (by simp)]; exact d1), World.cell?_setCell_same _ _ _ d2, fun o => by rw [World.frozen?_setCell]; exact hf2 o, ((h.od.kept hg h.dm).kept (grown_below hb) (by cases K.dv.ownBlock <;> simp)).kept gs (Or.inr h.nd), ((h.ot.kept hg h.tm).kept (grown_below hb) (by cases K.tv.ownBlock <;> simp)).kept gs (Or.inr h.nt), (ho.kept (grown_below hb) (by cases v'.ownBlock <;> simp)).kept gs (Or.inr nv), h.nd, h.nt, nv, h.dt, (opt_ne (new_ne (opt_ne h.dm) hn (fun k e => (World.ownsRow.lt h.od k e).2))), (opt_ne (new_ne (opt_ne h.tm) hn (fun k e => (World.ownsRow.lt h.ot k e).2)))⟩, ?_⟩
  refine ⟨hb.os.trans hg.os, hb.tape.trans hg.tape, hb.output.trans hg.output, by simpa using sz, fun x hx hf => ⟨hf.b, hf.d, hf.t, (fun e => by rcases hn _ e with h1 | h1; exact hf.m h1; omega)⟩, fun x hx hf => ?_⟩
  rw [Below.heap_setCell _ _ _ _ (fun e => hf.b (by rw [e]))]
  exact blk x hx hf.m
end Go.Proofs.YtfopmobopmdahaaGreat
