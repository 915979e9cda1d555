/- The builder of the program: one number's marks or the other's, bit by bit. -/
import Derived.Test.YtnjjobompjoigaaDoorBkQ
namespace Go.Proofs.YtnjjobompjoigaaDoor
open Go.ChangeShapes Go.WideShapes Go.ChangeAt Go.RowKit Go.Joins
set_option linter.unusedVariables false
set_option maxRecDepth 100000
set_option linter.unusedSimpArgs false

theorem Grow.mov {w w' : World} {base gb : Nat} {m : Int} {g n c B R : Nat} {G : Nat → Gt} (h : Grow w base gb m g n c B G) (hm : Mov R w w') (h1 : R ≠ gb) (h2 : R ≠ B) (h3 : R ≠ g) : Grow w' base gb m g n c B G := by
  obtain ⟨⟨p0, p1, p2, pf⟩, ho, ht, hr⟩ := h
  have lt := World.block_lt_of_cell? _ _ p0
  refine ⟨⟨hm.cell p0 (by simp only; omega), hm.cell p1 (by simp only; omega), hm.cell p2 (by simp only; omega), fun o => (World.frozen?_of_block (hm.2.2.2.2 gb lt (by omega))).trans (pf o)⟩, ho.kept (grown_mov hm) (Or.inr (by simp [Value.ownBlock]; omega)), ht.keep (hm.2.2.2.2 B ht.lt (by omega)), hr⟩
theorem Bld.mov {w w' : World} {base bb gb B g R : Nat} {aR : Addr} {s : KS} (h : Bld w base bb gb B g aR s) (hm : Mov R w w') (hn : ¬ S4 bb gb B g R) : Bld w' base bb gb B g aR s := by
  have e1 : R ≠ bb := fun e => hn (Or.inl e)
  have e2 : R ≠ gb := fun e => hn (Or.inr (Or.inl e))
  have e3 : R ≠ B := fun e => hn (Or.inr (Or.inr (Or.inl e)))
  have e4 : R ≠ g := fun e => hn (Or.inr (Or.inr (Or.inr e)))
  have hz := hm.size
  exact ⟨hm.cell h.p (by simp only; omega), fun k => hm.cell (h.f1 k) (by simp only; omega), fun k => hm.cell (h.f0 k) (by simp only; omega), fun o => (World.frozen?_of_block (hm.2.2.2.2 bb h.lt (by omega))).trans (h.z o), fun k => by obtain ⟨c, hc⟩ := h.gr k; exact ⟨c, hc.mov hm e2 e3 e4⟩, h.n1, h.n2, h.n3, h.bs, by have := h.lg; omega⟩
/-- A row that is being made, and the builder. -/
structure RowP (w wr : World) (base bb gb B g g' : Nat) (aF aR : Addr) (s : KS) (R : List Int) (n j row : Nat) : Prop where
  b : Bld wr base bb gb B g' aR s
  s : Sent wr base aF aR
  gs : GS g g' w.heap.size
  ne : ¬ S4 bb gb B g' row
  o : OutS (S4 bb gb B g) w wr
  i : Ints wr row 0 j (at0 R)
  m : Made wr row n
theorem RowP.drew {w wr : World} {base bb gb B g g' : Nat} {aF aR : Addr} {s : KS} {R : List Int} {n j row : Nat} (h : RowP w wr base bb gb B g g' aF aR s R n j row) : RowP w wr.drew base bb gb B g g' aF aR s R n j row :=
  ⟨h.b.later (Below.refl _ _).drew, h.s.drew, h.gs, h.ne, h.o.drew, h.i, h.m⟩
theorem RowP.call {w wr w1 : World} {base bb gb B g g' : Nat} {aF aR : Addr} {s t : KS} {R : List Int} {n j row : Nat} (h : RowP w wr base bb gb B g g' aF aR s R n j row) (k : BStep wr w1 base bb gb B g' aR t) : ∃ g'', RowP w w1 base bb gb B g g'' aF aR t R n j row ∧ OutS (S4 bb gb B g') wr w1 := by
  obtain ⟨g2, k1, k2, k3⟩ := k
  refine ⟨g2, ⟨k1, h.s.out h.b k3, gates_step h.gs k2 h.o.size, fun e => ?_, outS_step h.gs h.o k3, fun i hi => k3.cell (h.i i hi) h.ne, Nat.lt_of_lt_of_le h.m.1 k3.size, fun i hi => ?_⟩, k3⟩
  · rcases e with e | e | e | e
    · exact h.ne (Or.inl e)
    · exact h.ne (Or.inr (Or.inl e))
    · exact h.ne (Or.inr (Or.inr (Or.inl e)))
    · rcases k2 with e' | e'
      · exact h.ne (Or.inr (Or.inr (Or.inr (by omega))))
      · have := h.m.1; omega
  · obtain ⟨⟨v, hv⟩, hf⟩ := h.m.2 i hi
    exact ⟨⟨v, k3.cell hv h.ne⟩, (k3.frozen (p := ⟨row, i, none⟩) h.m.1 h.ne).trans hf⟩
theorem RowP.put {w wr : World} {base bb gb B g g' : Nat} {aF aR : Addr} {s : KS} {R : List Int} {n j row : Nat} {x : Int} (h : RowP w wr base bb gb B g g' aF aR s R n j row) (hj : j < n) (hR : R.length = j) (hrow : w.heap.size ≤ row) (hbase : base ≤ w.heap.size) : RowP w (wr.setCell ⟨row, j, none⟩ (.int .i64 x)) base bb gb B g g' aF aR s (R ++ [x]) n (j + 1) row := by
  have mv : Mov row wr (wr.setCell ⟨row, j, none⟩ (.int .i64 x)) := Mov.set _ _ _
  obtain ⟨⟨u, hu⟩, hf⟩ := h.m.2 j hj
  have hb := h.s.b
  have hbs := h.b.bs
  have he : at0 (R ++ [x]) j = x := by rw [← hR]; exact at0_last R x
  have hi : Ints wr row 0 j (at0 (R ++ [x])) := fun i hi => by rw [at0_fore (by omega)]; exact h.i i hi
  have hp := hi.put hu
  rw [he] at hp
  refine ⟨h.b.mov mv h.ne, ⟨mv.cell h.s.f (by simp only; omega), mv.cell h.s.r ?_, hb⟩, h.gs, h.ne, h.o.mov mv (fun e => by omega), hp, h.m.set _ _⟩
  simp only; omega
theorem infoMark : (Tryd.prog.info? 72).map (fun i => (i.zero, i.size, i.bytes)) = some (some (.int .i64 0), 1, 8) := by kernel_rfl
end Go.Proofs.YtnjjobompjoigaaDoor
