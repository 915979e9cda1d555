/- Terms as trees in memory; what the laws' counts, copies and comparisons of them return. -/
import Derived.Test.YtaikhigeoebkjaaDecB
namespace Go.Proofs.Ytaikhigeoebkjaa
open Go.ChangeShapes Go.WideShapes Go.ChangeAt Go.RowKit Go.Joins
set_option linter.unusedVariables false

/-- A term: its Op, A, B, Name, how many Kids it has, and these (behind them: nil, which is no term). -/
inductive TT where
  | nil : TT
  | node (op a b : Int) (s : ByteArray) (n : Nat) (kid : Nat → TT) : TT
def TT.op : TT → Int | .nil => 0 | .node x _ _ _ _ _ => x
def TT.a : TT → Int | .nil => 0 | .node _ x _ _ _ _ => x
def TT.b : TT → Int | .nil => 0 | .node _ _ x _ _ _ => x
def TT.s : TT → ByteArray | .nil => ByteArray.empty | .node _ _ _ x _ _ => x
def TT.n : TT → Nat | .nil => 0 | .node _ _ _ _ x _ => x
def TT.kid : TT → Nat → TT | .nil => fun _ => .nil | .node _ _ _ _ _ x => x
/-- The five cells of a term, from a place on. -/
def Five (w : World) (bl o : Nat) (t : TT) (ad : Option Addr) (cp : Nat) : Prop :=
  w.cell? ⟨bl, o, none⟩ = some (.int .i64 t.op) ∧ w.cell? ⟨bl, o + 1, none⟩ = some (.int .i64 t.a) ∧ w.cell? ⟨bl, o + 2, none⟩ = some (.int .i64 t.b) ∧ w.cell? ⟨bl, o + 3, none⟩ = some (.string t.s) ∧ w.cell? ⟨bl, o + 4, none⟩ = some (.slice ad t.n cp)
/-- The Kids lie in memory, in blocks from lo on and below hi, their list at an address. -/
def TT.In (w : World) (lo hi : Nat) : TT → Option Addr → Prop
  | .nil, _ => False
  | .node _ _ _ _ n kid, ad => n = 0 ∨ ∃ bl off, ad = some ⟨bl, off, none⟩ ∧ lo ≤ bl ∧ bl < hi ∧ ∃ (AD : Nat → Option Addr) (CP : Nat → Nat), ∀ i, i < n → Five w bl (off + i * 5) (kid i) (AD i) (CP i) ∧ (kid i).n ≤ CP i ∧ (kid i).In w lo hi (AD i)
theorem Five.keep {w w' : World} {bl o : Nat} {t : TT} {ad : Option Addr} {cp : Nat} (h : Five w bl o t ad cp) (hk : ∀ o, w'.cell? ⟨bl, o, none⟩ = w.cell? ⟨bl, o, none⟩) : Five w' bl o t ad cp := by
  unfold Five
  rw [hk, hk, hk, hk, hk]
  exact h
theorem TT.In.keep {w w' : World} {lo hi : Nat} (hk : ∀ b o, lo ≤ b → b < hi → w'.cell? ⟨b, o, none⟩ = w.cell? ⟨b, o, none⟩) : ∀ (t : TT) (ad : Option Addr), t.In w lo hi ad → t.In w' lo hi ad
  | .nil, _, h => h.elim
  | .node _ _ _ _ n kid, ad, h => by
    rcases h with h | ⟨bl, off, h1, h2, h3, AD, CP, h4⟩
    · exact Or.inl h
    · exact Or.inr ⟨bl, off, h1, h2, h3, AD, CP, fun i hi => ⟨(h4 i hi).1.keep (fun o => hk bl o h2 h3), (h4 i hi).2.1, TT.In.keep hk (kid i) (AD i) (h4 i hi).2.2⟩⟩
theorem TT.In.later {w w' : World} {lo hi : Nat} {t : TT} {ad : Option Addr} (h : t.In w lo hi ad) (hb : Below hi w w') : t.In w' lo hi ad :=
  TT.In.keep (fun b o _ h => hb.cell (p := ⟨b, o, none⟩) h) t ad h
theorem TT.In.drew {w : World} {lo hi : Nat} {t : TT} {ad : Option Addr} (h : t.In w lo hi ad) : t.In w.drew lo hi ad := TT.In.keep (w := w) (w' := w.drew) (fun _ _ _ _ => rfl) t ad h
theorem TT.In.drewN {w : World} {lo hi : Nat} {t : TT} {ad : Option Addr} (h : t.In w lo hi ad) (m : Nat) : t.In (w.drewN m) lo hi ad := TT.In.keep (w := w) (w' := w.drewN m) (fun _ _ _ _ => rfl) t ad h
theorem TT.In.wide {w : World} {lo hi lo' hi' : Nat} (hl : lo' ≤ lo) (hh : hi ≤ hi') : ∀ (t : TT) (ad : Option Addr), t.In w lo hi ad → t.In w lo' hi' ad
  | .nil, _, h => h.elim
  | .node _ _ _ _ n kid, ad, h => by
    rcases h with h | ⟨bl, off, h1, h2, h3, AD, CP, h4⟩
    · exact Or.inl h
    · exact Or.inr ⟨bl, off, h1, by omega, by omega, AD, CP, fun i hi => ⟨(h4 i hi).1, (h4 i hi).2.1, TT.In.wide hl hh (kid i) (AD i) (h4 i hi).2.2⟩⟩
/-- All lists and names take at most so many signs. -/
def TT.Fit (M : Nat) : TT → Prop
  | .nil => True
  | .node _ _ _ s n kid => n ≤ M ∧ s.size ≤ M ∧ ∀ i, i < n → (kid i).Fit M

theorem TT.In.set {w : World} {lo hi : Nat} {t : TT} {ad : Option Addr} (h : t.In w lo hi ad) {p : Addr} (hp : p.block < lo) (v : Value) : t.In (w.setCell p v) lo hi ad :=
  TT.In.keep (fun b o h1 _ => World.cell?_setCell_other _ _ _ _ (by intro e; cases p; simp at hp; injection e; omega)) t ad h
/-- A term's five cells, written from a place on. -/
def put5 (w : World) (B o : Nat) (t : TT) (ad : Option Addr) (cp : Nat) : World :=
  ((((w.setCell ⟨B, o, none⟩ (.int .i64 t.op)).setCell ⟨B, o + 1, none⟩ (.int .i64 t.a)).setCell ⟨B, o + 2, none⟩ (.int .i64 t.b)).setCell ⟨B, o + 3, none⟩ (.string t.s)).setCell ⟨B, o + 4, none⟩ (.slice ad t.n cp)
theorem put5_other (w : World) (B o : Nat) (t : TT) (ad : Option Addr) (cp : Nat) (b j : Nat) (h : b ≠ B ∨ j < o ∨ o + 5 ≤ j) : (put5 w B o t ad cp).cell? ⟨b, j, none⟩ = w.cell? ⟨b, j, none⟩ := by
  unfold put5
  rw [World.cell?_setCell_other _ _ _ _ (by simp; omega), World.cell?_setCell_other _ _ _ _ (by simp; omega), World.cell?_setCell_other _ _ _ _ (by simp; omega), World.cell?_setCell_other _ _ _ _ (by simp; omega), World.cell?_setCell_other _ _ _ _ (by simp; omega)]
theorem Made.put5 {w : World} {B m : Nat} (h : Made w B m) (o : Nat) (t : TT) (ad : Option Addr) (cp : Nat) : Made (put5 w B o t ad cp) B m := ((((h.set _ _).set _ _).set _ _).set _ _).set _ _
theorem set_there {w : World} {B m : Nat} (h : Made w B m) (j : Nat) (hj : j < m) (v : Value) : (w.setCell ⟨B, j, none⟩ v).cell? ⟨B, j, none⟩ = some v := by
  obtain ⟨⟨u, hu⟩, _⟩ := h.2 j hj
  exact World.cell?_setCell_same _ _ _ hu
theorem put5_at {w : World} {B m : Nat} (h : Made w B m) (o : Nat) (ho : o + 4 < m) (t : TT) (ad : Option Addr) (cp : Nat) : Five (put5 w B o t ad cp) B o t ad cp := by
  have m1 := h.set ⟨B, o, none⟩ (.int .i64 t.op)
  have m2 := m1.set ⟨B, o + 1, none⟩ (.int .i64 t.a)
  have m3 := m2.set ⟨B, o + 2, none⟩ (.int .i64 t.b)
  have m4 := m3.set ⟨B, o + 3, none⟩ (.string t.s)
  unfold put5
  refine ⟨?_, ?_, ?_, ?_, set_there m4 _ (by omega) _⟩
  · rw [World.cell?_setCell_other _ _ _ _ (by simp), World.cell?_setCell_other _ _ _ _ (by simp), World.cell?_setCell_other _ _ _ _ (by simp), World.cell?_setCell_other _ _ _ _ (by simp)]; exact set_there h _ (by omega) _
  · rw [World.cell?_setCell_other _ _ _ _ (by simp), World.cell?_setCell_other _ _ _ _ (by simp), World.cell?_setCell_other _ _ _ _ (by simp)]; exact set_there m1 _ (by omega) _
  · rw [World.cell?_setCell_other _ _ _ _ (by simp), World.cell?_setCell_other _ _ _ _ (by simp)]; exact set_there m2 _ (by omega) _
  · rw [World.cell?_setCell_other _ _ _ _ (by simp)]; exact set_there m3 _ (by omega) _
theorem put5_size (w : World) (B o : Nat) (t : TT) (ad : Option Addr) (cp : Nat) : (put5 w B o t ad cp).heap.size = w.heap.size := by simp [put5]
theorem put5_below {w : World} {H B : Nat} (hB : H ≤ B) (o : Nat) (t : TT) (ad : Option Addr) (cp : Nat) : Below H w (put5 w B o t ad cp) :=
  (((((Below.refl H w).setCell hB _).setCell hB _).setCell hB _).setCell hB _).setCell hB _
/-- The first k Kids of a list that is being written. -/
def KidsTo (w : World) (B k : Nat) (kid : Nat → TT) : Prop := ∃ (AD : Nat → Option Addr) (CP : Nat → Nat), ∀ i, i < k → Five w B (i * 5) (kid i) (AD i) (CP i) ∧ (kid i).n ≤ CP i ∧ (kid i).In w (B + 1) w.heap.size (AD i)
theorem KidsTo.later {w w' : World} {B k : Nat} {kid : Nat → TT} (h : KidsTo w B k kid) (hb : Below w.heap.size w w') (hB : B < w.heap.size) : KidsTo w' B k kid := by
  obtain ⟨AD, CP, h⟩ := h
  exact ⟨AD, CP, fun i hi => ⟨(h i hi).1.keep (fun o => hb.cell (p := ⟨B, o, none⟩) hB), (h i hi).2.1, TT.In.wide (Nat.le_refl _) hb.size _ _ ((h i hi).2.2.later hb)⟩⟩
theorem KidsTo.put {w : World} {B k m : Nat} {kid : Nat → TT} (h : KidsTo w B k kid) (hm : Made w B m) (hk : k * 5 + 4 < m) (ad : Option Addr) (cp : Nat) (hcp : (kid k).n ≤ cp) (hin : (kid k).In w (B + 1) w.heap.size ad) :
    KidsTo (put5 w B (k * 5) (kid k) ad cp) B (k + 1) kid := by
  obtain ⟨AD, CP, h⟩ := h
  have keepIn : ∀ (t : TT) (x : Option Addr), t.In w (B + 1) w.heap.size x → t.In (put5 w B (k * 5) (kid k) ad cp) (B + 1) (put5 w B (k * 5) (kid k) ad cp).heap.size x := by
    intro t x hx
    rw [put5_size]
    exact TT.In.keep (fun b o h1 _ => put5_other _ _ _ _ _ _ _ _ (Or.inl (by omega))) t x hx
  refine ⟨fun i => if i = k then ad else AD i, fun i => if i = k then cp else CP i, fun i hi => ?_⟩
  by_cases e : i = k
  · subst e
    simp only [if_true]
    exact ⟨put5_at hm _ hk _ _ _, hcp, keepIn _ _ hin⟩
  · simp only [if_neg e]
    obtain ⟨h1, h2, h3⟩ := h i (by omega)
    refine ⟨?_, h2, keepIn _ _ h3⟩
    unfold Five
    rw [put5_other _ _ _ _ _ _ _ _ (by omega), put5_other _ _ _ _ _ _ _ _ (by omega), put5_other _ _ _ _ _ _ _ _ (by omega), put5_other _ _ _ _ _ _ _ _ (by omega), put5_other _ _ _ _ _ _ _ _ (by omega)]
    exact h1
theorem KidsTo.whole {w : World} {B n : Nat} {op a b : Int} {s : ByteArray} {kid : Nat → TT} (h : KidsTo w B n kid) (hB : B < w.heap.size) : (TT.node op a b s n kid).In w B w.heap.size (some ⟨B, 0, none⟩) := by
  obtain ⟨AD, CP, h⟩ := h
  refine Or.inr ⟨B, 0, rfl, Nat.le_refl _, hB, AD, CP, fun i hi => ⟨by rw [Nat.zero_add]; exact (h i hi).1, (h i hi).2.1, TT.In.wide (Nat.le_succ _) (Nat.le_refl _) _ _ (h i hi).2.2⟩⟩
end Go.Proofs.Ytaikhigeoebkjaa
