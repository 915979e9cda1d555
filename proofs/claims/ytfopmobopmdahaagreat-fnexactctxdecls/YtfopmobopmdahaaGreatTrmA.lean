/- Terms as trees in memory; what the laws' counts, copies and comparisons of them return. -/
import Derived.Test.YtfopmobopmdahaaGreatDecB
namespace Go.Proofs.YtfopmobopmdahaaGreat
open Go.ChangeShapes Go.WideShapes Go.ChangeAt Go.RowKit Go.Joins
set_option linter.unusedVariables false

/-- A term: its Op, A, B, Name, how many Kids it has, and these (behind them: nil, which is no term). -/
inductive TT where
  | nil : TT
  | node (op a b : Int) (s : ByteArray) (n : Nat) (kid : Nat → TT) : TT
def TT.op : TT → Int | .nil => 0 | .node x _ _ _ _ _ => x
def TT.a : TT → Int | .nil => 0 | .node _ x _ _ _ _ => x
def TT.b : TT → Int | .nil => 0 | .node _ _ x _ _ _ => x
def TT.s : TT → ByteArray | .nil => ByteArray.empty | .node _ _ _ x _ _ => x
def TT.n : TT → Nat | .nil => 0 | .node _ _ _ _ x _ => x
def TT.kid : TT → Nat → TT | .nil => fun _ => .nil | .node _ _ _ _ _ x => x
/-- The five cells of a term, from a place on. -/
def Five (w : World) (bl o : Nat) (t : TT) (ad : Option Addr) (cp : Nat) : Prop :=
  w.cell? ⟨bl, o, none⟩ = some (.int .i64 t.op) ∧ w.cell? ⟨bl, o + 1, none⟩ = some (.int .i64 t.a) ∧ w.cell? ⟨bl, o + 2, none⟩ = some (.int .i64 t.b) ∧ w.cell? ⟨bl, o + 3, none⟩ = some (.string t.s) ∧ w.cell? ⟨bl, o + 4, none⟩ = some (.slice ad t.n cp)
/-- The Kids lie in memory, in blocks from lo on and below hi, their list at an address. -/
def TT.In (w : World) (lo hi : Nat) : TT → Option Addr → Prop
  | .nil, _ => False
  | .node _ _ _ _ n kid, ad => n = 0 ∨ ∃ bl off, ad = some ⟨bl, off, none⟩ ∧ lo ≤ bl ∧ bl < hi ∧ ∃ (AD : Nat → Option Addr) (CP : Nat → Nat), ∀ i, i < n → Five w bl (off + i * 5) (kid i) (AD i) (CP i) ∧ (kid i).n ≤ CP i ∧ (kid i).In w lo hi (AD i)
theorem Five.keep {w w' : World} {bl o : Nat} {t : TT} {ad : Option Addr} {cp : Nat} (h : Five w bl o t ad cp) (hk : ∀ o, w'.cell? ⟨bl, o, none⟩ = w.cell? ⟨bl, o, none⟩) : Five w' bl o t ad cp := by
  unfold Five
  rw [hk, hk, hk, hk, hk]
  exact h
theorem TT.In.keep {w w' : World} {lo hi : Nat} (hk : ∀ b o, lo ≤ b → b < hi → w'.cell? ⟨b, o, none⟩ = w.cell? ⟨b, o, none⟩) : ∀ (t : TT) (ad : Option Addr), t.In w lo hi ad → t.In w' lo hi ad
  | .nil, _, h => h.elim
  | .node _ _ _ _ n kid, ad, h => by
    rcases h with h | ⟨bl, off, h1, h2, h3, AD, CP, h4⟩
    · exact Or.inl h
    · exact Or.inr ⟨bl, off, h1, h2, h3, AD, CP, fun i hi => ⟨(h4 i hi).1.keep (fun o => hk bl o h2 h3), (h4 i hi).2.1, TT.In.keep hk (kid i) (AD i) (h4 i hi).2.2⟩⟩
theorem TT.In.later {w w' : World} {lo hi : Nat} {t : TT} {ad : Option Addr} (h : t.In w lo hi ad) (hb : Below hi w w') : t.In w' lo hi ad :=
  TT.In.keep (fun b o _ h => hb.cell (p := ⟨b, o, none⟩) h) t ad h
theorem TT.In.drew {w : World} {lo hi : Nat} {t : TT} {ad : Option Addr} (h : t.In w lo hi ad) : t.In w.drew lo hi ad := TT.In.keep (w := w) (w' := w.drew) (fun _ _ _ _ => rfl) t ad h
theorem TT.In.drewN {w : World} {lo hi : Nat} {t : TT} {ad : Option Addr} (h : t.In w lo hi ad) (m : Nat) : t.In (w.drewN m) lo hi ad := TT.In.keep (w := w) (w' := w.drewN m) (fun _ _ _ _ => rfl) t ad h
theorem TT.In.wide {w : World} {lo hi lo' hi' : Nat} (hl : lo' ≤ lo) (hh : hi ≤ hi') : ∀ (t : TT) (ad : Option Addr), t.In w lo hi ad → t.In w lo' hi' ad
  | .nil, _, h => h.elim
  | .node _ _ _ _ n kid, ad, h => by
    rcases h with h | ⟨bl, off, h1, h2, h3, AD, CP, h4⟩
    · exact Or.inl h
    · exact Or.inr ⟨bl, off, h1, by omega, by omega, AD, CP, fun i hi => ⟨(h4 i hi).1, (h4 i hi).2.1, TT.In.wide hl hh (kid i) (AD i) (h4 i hi).2.2⟩⟩
/-- All lists and names take at most so many signs. -/
def TT.Fit (M : Nat) : TT → Prop
  | .nil => True
  | .node _ _ _ s n kid => n ≤ M ∧ s.size ≤ M ∧ ∀ i, i < n → (kid i).Fit M

set_option maxRecDepth 100000 in
set_option maxHeartbeats 2000000 in
theorem szTerm_any (hi : Nat) (t : TT) : ∀ (ad : Option Addr) (cp : Nat) (left : Int) (w : World), t.In w 0 hi ad → t.Fit maxLen → 0 ≤ left → left ≤ 1048576 → hi ≤ w.heap.size →
    Calls Tryz.prog 29 #[.agg #[.int .i64 t.op, .int .i64 t.a, .int .i64 t.b, .string t.s, .slice ad t.n cp], .int .i64 left] w fun e w' => (∃ z : Int, e = .returned (.int .i64 z) ∧ (z < 0 ∨ 0 ≤ z ∧ z ≤ left ∧ t.Fit 1048576)) ∧ Below w.heap.size w w' := by
  induction t with
  | nil => intro ad cp left w hin; exact hin.elim
  | node op a b s n kid ih =>
    intro ad cp left w hin hft h0 h1 hhi
    show Calls Tryz.prog 29 #[.agg #[.int .i64 op, .int .i64 a, .int .i64 b, .string s, .slice ad n cp], .int .i64 left] w _
    obtain ⟨fn, fs, fk⟩ := hft
    have HS : Hid (∀ (left : Int) (w : World), (TT.node op a b s n kid).In w 0 hi ad → 0 ≤ left → left ≤ 1048576 → hi ≤ w.heap.size → Calls Tryz.prog 55 #[.slice ad n cp, .int .i64 left] w fun e w' => (∃ z : Int, e = .returned (.int .i64 z) ∧ (z < 0 ∨ 0 ≤ z ∧ z ≤ left ∧ n ≤ 1048576 ∧ ∀ i, i < n → (kid i).Fit 1048576)) ∧ Below w.heap.size w w') := by
      clear hin h0 h1 hhi w left
      intro left w hin h0 h1 hhi
      have IH := hide ih
      have FK := hide fk
      clear ih fk
      unfold maxLen at fn
      by_cases h : (n : Int) ≤ left
      · rcases hin with rfl | ⟨bl, off, rfl, hlo, hbl, AD, CP, hd⟩
        · go_enter Tryz.func55, Tryz.ntmps55
          go_wp2
          go_loopw [5, 1] (fun i l wr => i = .int .i64 0 ∧ l = .int .i64 left ∧ Below w.heap.size w wr) (fun _ _ _ => 0)
          case atStart => exact ⟨rfl, by go_num, (by repeat (first | exact Below.refl _ _ | assumption | refine below_drewN ?_ _ | refine Below.drew ?_ | refine Below.alloc ?_ (by first | exact Nat.le_refl _ | exact Below.size (by assumption) | (simp; done) | (simp; omega)) _ | refine Below.setCell ?_ (by first | exact Nat.le_refl _ | exact Below.size (by assumption) | (simp; done) | (simp; omega)) _ | refine Below.trans ?_ (by assumption)))⟩
          case round =>
            obtain ⟨rfl, rfl, hbel⟩ := hrel
            go_wp2
            go_ret
            exact ⟨⟨_, rfl, Or.inr ⟨h0, by omega, by omega, fun i hi => by omega⟩⟩, (by repeat (first | exact Below.refl _ _ | assumption | refine below_drewN ?_ _ | refine Below.drew ?_ | refine Below.alloc ?_ (by first | exact Nat.le_refl _ | exact Below.size (by assumption) | (simp; done) | (simp; omega)) _ | refine Below.setCell ?_ (by first | exact Nat.le_refl _ | exact Below.size (by assumption) | (simp; done) | (simp; omega)) _ | refine Below.trans ?_ (by assumption)))⟩
        · have HD := hide hd
          clear hd
          go_enter Tryz.func55, Tryz.ntmps55
          go_wp2
          go_loopw [5, 1] (fun i l wr => ∃ (k : Nat) (z : Int), k ≤ n ∧ i = .int .i64 k ∧ l = .int .i64 z ∧ 0 ≤ z ∧ z ≤ left ∧ (∀ j, j < k → (kid j).Fit 1048576) ∧ Below w.heap.size w wr) (fun i _ _ => n - (intOf i).toNat)
          case atStart => exact ⟨0, left - n, by omega, rfl, by go_num, by omega, by omega, fun j hj => by omega, (by repeat (first | exact Below.refl _ _ | assumption | refine below_drewN ?_ _ | refine Below.drew ?_ | refine Below.alloc ?_ (by first | exact Nat.le_refl _ | exact Below.size (by assumption) | (simp; done) | (simp; omega)) _ | refine Below.setCell ?_ (by first | exact Nat.le_refl _ | exact Below.size (by assumption) | (simp; done) | (simp; omega)) _ | refine Below.trans ?_ (by assumption)))⟩
          case round =>
            obtain ⟨k, z, hk, rfl, rfl, z0, z1, hz, hbel⟩ := hrel
            have HZ := hide hz
            clear hz
            have hhr := Nat.le_trans hhi hbel.size
            by_cases hlt : k < n
            · obtain ⟨h5, hcp, hin⟩ := unhide HD k hlt
              obtain ⟨c0, c1, c2, c3, c4⟩ := h5.keep (w' := wr) (fun o => hbel.cell (p := ⟨bl, o, none⟩) (Nat.lt_of_lt_of_le hbl hhi))
              have hin' := hin.later (hbel.mono hhi)
              go_wp2_with fail
              refine (unhide IH k _ _ _ _ hin' (unhide FK k hlt) z0 (by omega) hhr).mono ?_
              rintro e w1 ⟨⟨y, rfl, hy⟩, b1⟩
              by_cases hle : 0 ≤ y
              · go_wp2
                go_roundw
                case rel =>
                  obtain ⟨_, hy1, hy2⟩ := hy.resolve_left (by omega)
                  refine ⟨k + 1, y, by omega, by go_num, rfl, by omega, by omega, ?_, hbel.trans (b1.mono hbel.size)⟩
                  intro j hj
                  by_cases e : j = k
                  · subst e; exact hy2
                  · exact unhide HZ j (by omega)
                case measure => simp [intOf]; omega
              · go_wp2
                go_ret
                exact ⟨⟨_, rfl, Or.inl (by omega)⟩, hbel.trans (b1.mono hbel.size)⟩
            · have e : k = n := by omega
              subst e
              go_wp2
              go_ret
              exact ⟨⟨_, rfl, Or.inr ⟨z0, z1, by omega, unhide HZ⟩⟩, hbel⟩
      · go_enter Tryz.func55, Tryz.ntmps55
        go_wp2
        go_ret
        exact ⟨⟨_, rfl, Or.inl (by omega)⟩, (by repeat (first | exact Below.refl _ _ | assumption | refine below_drewN ?_ _ | refine Below.drew ?_ | refine Below.alloc ?_ (by first | exact Nat.le_refl _ | exact Below.size (by assumption) | (simp; done) | (simp; omega)) _ | refine Below.setCell ?_ (by first | exact Nat.le_refl _ | exact Below.size (by assumption) | (simp; done) | (simp; omega)) _ | refine Below.trans ?_ (by assumption)))⟩
    clear ih fk
    unfold maxLen at fs fn
    by_cases h : (s.size : Int) ≤ left
    · go_enter Tryz.func29, Tryz.ntmps29
      go_wp2_with fail
      refine (unhide HS _ _ (hin.later ((Below.refl _ _).alloc hhi _)) (by omega) (by omega) (by simp; omega)).mono ?_
      rintro e w1 ⟨⟨y, rfl, hy⟩, b1⟩
      have BL := ((Below.refl w.heap.size w).alloc (Nat.le_refl _) (.cells #[.int .i64 op, .int .i64 a, .int .i64 b, .string s, .slice ad n cp] 45)).trans (b1.mono (by simp))
      by_cases hle : 0 ≤ y
      · obtain ⟨_, hy1, hy2, hy3⟩ := hy.resolve_left (by omega)
        have HY := hide hy3
        clear hy hy3
        go_wp2
        go_ret
        exact ⟨⟨_, rfl, Or.inr ⟨hle, by omega, hy2, by omega, unhide HY⟩⟩, BL⟩
      · clear hy
        go_wp2
        go_ret
        exact ⟨⟨_, rfl, Or.inl (by omega)⟩, BL⟩
    · go_enter Tryz.func29, Tryz.ntmps29
      go_wp2
      go_ret
      exact ⟨⟨_, rfl, Or.inl (by omega)⟩, (by repeat (first | exact Below.refl _ _ | assumption | refine below_drewN ?_ _ | refine Below.drew ?_ | refine Below.alloc ?_ (by first | exact Nat.le_refl _ | exact Below.size (by assumption) | (simp; done) | (simp; omega)) _ | refine Below.setCell ?_ (by first | exact Nat.le_refl _ | exact Below.size (by assumption) | (simp; done) | (simp; omega)) _ | refine Below.trans ?_ (by assumption)))⟩
theorem TT.In.set {w : World} {lo hi : Nat} {t : TT} {ad : Option Addr} (h : t.In w lo hi ad) {p : Addr} (hp : p.block < lo) (v : Value) : t.In (w.setCell p v) lo hi ad :=
  TT.In.keep (fun b o h1 _ => World.cell?_setCell_other _ _ _ _ (by intro e; cases p; simp at hp; injection e; omega)) t ad h
/-- A term's five cells, written from a place on. -/
def put5 (w : World) (B o : Nat) (t : TT) (ad : Option Addr) (cp : Nat) : World :=
  ((((w.setCell ⟨B, o, none⟩ (.int .i64 t.op)).setCell ⟨B, o + 1, none⟩ (.int .i64 t.a)).setCell ⟨B, o + 2, none⟩ (.int .i64 t.b)).setCell ⟨B, o + 3, none⟩ (.string t.s)).setCell ⟨B, o + 4, none⟩ (.slice ad t.n cp)
theorem put5_other (w : World) (B o : Nat) (t : TT) (ad : Option Addr) (cp : Nat) (b j : Nat) (h : b ≠ B ∨ j < o ∨ o + 5 ≤ j) : (put5 w B o t ad cp).cell? ⟨b, j, none⟩ = w.cell? ⟨b, j, none⟩ := by
  unfold put5
  rw [World.cell?_setCell_other _ _ _ _ (by simp; omega), World.cell?_setCell_other _ _ _ _ (by simp; omega), World.cell?_setCell_other _ _ _ _ (by simp; omega), World.cell?_setCell_other _ _ _ _ (by simp; omega), World.cell?_setCell_other _ _ _ _ (by simp; omega)]
theorem Made.put5 {w : World} {B m : Nat} (h : Made w B m) (o : Nat) (t : TT) (ad : Option Addr) (cp : Nat) : Made (put5 w B o t ad cp) B m := ((((h.set _ _).set _ _).set _ _).set _ _).set _ _
theorem set_there {w : World} {B m : Nat} (h : Made w B m) (j : Nat) (hj : j < m) (v : Value) : (w.setCell ⟨B, j, none⟩ v).cell? ⟨B, j, none⟩ = some v := by
  obtain ⟨⟨u, hu⟩, _⟩ := h.2 j hj
  exact World.cell?_setCell_same _ _ _ hu
theorem put5_at {w : World} {B m : Nat} (h : Made w B m) (o : Nat) (ho : o + 4 < m) (t : TT) (ad : Option Addr) (cp : Nat) : Five (put5 w B o t ad cp) B o t ad cp := by
  have m1 := h.set ⟨B, o, none⟩ (.int .i64 t.op)
  have m2 := m1.set ⟨B, o + 1, none⟩ (.int .i64 t.a)
  have m3 := m2.set ⟨B, o + 2, none⟩ (.int .i64 t.b)
  have m4 := m3.set ⟨B, o + 3, none⟩ (.string t.s)
  unfold put5
  refine ⟨?_, ?_, ?_, ?_, set_there m4 _ (by omega) _⟩
  · rw [World.cell?_setCell_other _ _ _ _ (by simp), World.cell?_setCell_other _ _ _ _ (by simp), World.cell?_setCell_other _ _ _ _ (by simp), World.cell?_setCell_other _ _ _ _ (by simp)]; exact set_there h _ (by omega) _
  · rw [World.cell?_setCell_other _ _ _ _ (by simp), World.cell?_setCell_other _ _ _ _ (by simp), World.cell?_setCell_other _ _ _ _ (by simp)]; exact set_there m1 _ (by omega) _
  · rw [World.cell?_setCell_other _ _ _ _ (by simp), World.cell?_setCell_other _ _ _ _ (by simp)]; exact set_there m2 _ (by omega) _
  · rw [World.cell?_setCell_other _ _ _ _ (by simp)]; exact set_there m3 _ (by omega) _
theorem put5_size (w : World) (B o : Nat) (t : TT) (ad : Option Addr) (cp : Nat) : (put5 w B o t ad cp).heap.size = w.heap.size := by simp [put5]
theorem put5_below {w : World} {H B : Nat} (hB : H ≤ B) (o : Nat) (t : TT) (ad : Option Addr) (cp : Nat) : Below H w (put5 w B o t ad cp) :=
  (((((Below.refl H w).setCell hB _).setCell hB _).setCell hB _).setCell hB _).setCell hB _
/-- The first k Kids of a list that is being written. -/
def KidsTo (w : World) (B k : Nat) (kid : Nat → TT) : Prop := ∃ (AD : Nat → Option Addr) (CP : Nat → Nat), ∀ i, i < k → Five w B (i * 5) (kid i) (AD i) (CP i) ∧ (kid i).n ≤ CP i ∧ (kid i).In w (B + 1) w.heap.size (AD i)
theorem KidsTo.later {w w' : World} {B k : Nat} {kid : Nat → TT} (h : KidsTo w B k kid) (hb : Below w.heap.size w w') (hB : B < w.heap.size) : KidsTo w' B k kid := by
  obtain ⟨AD, CP, h⟩ := h
  exact ⟨AD, CP, fun i hi => ⟨(h i hi).1.keep (fun o => hb.cell (p := ⟨B, o, none⟩) hB), (h i hi).2.1, TT.In.wide (Nat.le_refl _) hb.size _ _ ((h i hi).2.2.later hb)⟩⟩
theorem KidsTo.put {w : World} {B k m : Nat} {kid : Nat → TT} (h : KidsTo w B k kid) (hm : Made w B m) (hk : k * 5 + 4 < m) (ad : Option Addr) (cp : Nat) (hcp : (kid k).n ≤ cp) (hin : (kid k).In w (B + 1) w.heap.size ad) :
    KidsTo (put5 w B (k * 5) (kid k) ad cp) B (k + 1) kid := by
  obtain ⟨AD, CP, h⟩ := h
  have keepIn : ∀ (t : TT) (x : Option Addr), t.In w (B + 1) w.heap.size x → t.In (put5 w B (k * 5) (kid k) ad cp) (B + 1) (put5 w B (k * 5) (kid k) ad cp).heap.size x := by
    intro t x hx
    rw [put5_size]
    exact TT.In.keep (fun b o h1 _ => put5_other _ _ _ _ _ _ _ _ (Or.inl (by omega))) t x hx
  refine ⟨fun i => if i = k then ad else AD i, fun i => if i = k then cp else CP i, fun i hi => ?_⟩
  by_cases e : i = k
  · subst e
    simp only [if_true]
    exact ⟨put5_at hm _ hk _ _ _, hcp, keepIn _ _ hin⟩
  · simp only [if_neg e]
    obtain ⟨h1, h2, h3⟩ := h i (by omega)
    refine ⟨?_, h2, keepIn _ _ h3⟩
    unfold Five
    rw [put5_other _ _ _ _ _ _ _ _ (by omega), put5_other _ _ _ _ _ _ _ _ (by omega), put5_other _ _ _ _ _ _ _ _ (by omega), put5_other _ _ _ _ _ _ _ _ (by omega), put5_other _ _ _ _ _ _ _ _ (by omega)]
    exact h1
theorem KidsTo.whole {w : World} {B n : Nat} {op a b : Int} {s : ByteArray} {kid : Nat → TT} (h : KidsTo w B n kid) (hB : B < w.heap.size) : (TT.node op a b s n kid).In w B w.heap.size (some ⟨B, 0, none⟩) := by
  obtain ⟨AD, CP, h⟩ := h
  refine Or.inr ⟨B, 0, rfl, Nat.le_refl _, hB, AD, CP, fun i hi => ⟨by rw [Nat.zero_add]; exact (h i hi).1, (h i hi).2.1, TT.In.wide (Nat.le_succ _) (Nat.le_refl _) _ _ (h i hi).2.2⟩⟩
theorem infoTerm : (Tryz.prog.info? 50).map (fun i => (i.zero, i.size, i.bytes)) = some (some (.agg #[.int .i64 0, .int .i64 0, .int .i64 0, .string ByteArray.empty, .slice none 0 0]), 5, 64) := by kernel_rfl
set_option maxRecDepth 100000 in
set_option maxHeartbeats 4000000 in
theorem toTerm_any (hi : Nat) (t : TT) : ∀ (ad : Option Addr) (cp : Nat) (w : World), t.In w 0 hi ad → t.Fit 1048576 → hi ≤ w.heap.size →
    Calls Tryz.prog 31 #[.agg #[.int .i64 t.op, .int .i64 t.a, .int .i64 t.b, .string t.s, .slice ad t.n cp]] w fun e w' => (∃ B, e = .returned (.agg #[.int .i64 t.op, .int .i64 t.a, .int .i64 t.b, .string t.s, .slice (some ⟨B, 0, none⟩) t.n t.n]) ∧ t.In w' w.heap.size w'.heap.size (some ⟨B, 0, none⟩)) ∧ Below w.heap.size w w' := by
  induction t with
  | nil => intro ad cp w hin; exact hin.elim
  | node op a b s n kid ih =>
    intro ad cp w hin hft hhi
    show Calls Tryz.prog 31 #[.agg #[.int .i64 op, .int .i64 a, .int .i64 b, .string s, .slice ad n cp]] w fun e w' => (∃ B, e = .returned (.agg #[.int .i64 op, .int .i64 a, .int .i64 b, .string s, .slice (some ⟨B, 0, none⟩) n n]) ∧ _) ∧ _
    obtain ⟨fn, fs, fk⟩ := hft
    have HS : Hid (∀ (w : World), (TT.node op a b s n kid).In w 0 hi ad → hi ≤ w.heap.size → Calls Tryz.prog 57 #[.slice ad n cp] w fun e w' => e = .returned (.slice (some ⟨w.heap.size, 0, none⟩) n n) ∧ (TT.node op a b s n kid).In w' w.heap.size w'.heap.size (some ⟨w.heap.size, 0, none⟩) ∧ Below w.heap.size w w') := by
      clear hin hhi w
      intro w hin hhi
      have IH := hide ih
      have FK := hide fk
      clear ih fk
      have hmk := run_make_wide (P := Tryz.prog) 48 50 _ 5 64 Tryz.underlying48 infoTerm .i64 .i64 n (by omega) (by omega)
      rcases hin with rfl | ⟨bl, off, rfl, hlo, hbl, AD, CP, hd⟩
      · simp only [Int.natCast_zero, Nat.zero_mul] at hmk
        go_enter Tryz.func57, Tryz.ntmps57
        go_wp2
        go_loopw [4] (fun i wr => i = .int .i64 0 ∧ wr.heap.size = w.heap.size + 1 ∧ Below w.heap.size w wr) (fun _ _ => 0)
        case atStart => exact ⟨rfl, by simp, (by repeat (first | exact Below.refl _ _ | assumption | refine below_drewN ?_ _ | refine Below.drew ?_ | refine Below.alloc ?_ (by first | exact Nat.le_refl _ | exact Below.size (by assumption) | (simp; done) | (simp; omega)) _ | refine Below.setCell ?_ (by first | exact Nat.le_refl _ | exact Below.size (by assumption) | (simp; done) | (simp; omega)) _ | refine Below.trans ?_ (by assumption)))⟩
        case round =>
          obtain ⟨rfl, hsz, hbel⟩ := hrel
          go_wp2
          go_ret
          exact ⟨rfl, Or.inl rfl, hbel⟩
      · have HD := hide hd
        clear hd
        go_enter Tryz.func57, Tryz.ntmps57
        go_wp2
        go_loopw [4] (fun i wr => ∃ k : Nat, k ≤ n ∧ i = .int .i64 k ∧ KidsTo wr w.heap.size k kid ∧ Made wr w.heap.size (n * 5) ∧ Below w.heap.size w wr) (fun i _ => n - (intOf i).toNat)
        case atStart => exact ⟨0, by omega, rfl, ⟨fun _ => none, fun _ => 0, fun i hi => by omega⟩, Made.new _ _ _ _, (by repeat (first | exact Below.refl _ _ | assumption | refine below_drewN ?_ _ | refine Below.drew ?_ | refine Below.alloc ?_ (by first | exact Nat.le_refl _ | exact Below.size (by assumption) | (simp; done) | (simp; omega)) _ | refine Below.setCell ?_ (by first | exact Nat.le_refl _ | exact Below.size (by assumption) | (simp; done) | (simp; omega)) _ | refine Below.trans ?_ (by assumption)))⟩
        case round =>
          obtain ⟨k, hk, rfl, hdk, hmd, hbel⟩ := hrel
          have HK := hide hdk
          have HM := hide hmd
          clear hdk hmd
          have hlt0 := (unhide HM).1
          by_cases hlt : k < n
          · obtain ⟨h5, hcp, hin⟩ := unhide HD k hlt
            obtain ⟨c0, c1, c2, c3, c4⟩ := h5.keep (w' := wr) (fun o => hbel.cell (p := ⟨bl, o, none⟩) (Nat.lt_of_lt_of_le hbl hhi))
            have hin' := hin.later (hbel.mono hhi)
            go_wp2_with fail
            refine (unhide IH k _ _ _ hin' (unhide FK k hlt) (Nat.le_trans hhi hbel.size)).mono ?_
            rintro e w1 ⟨⟨B1, rfl, in1⟩, b1⟩
            have HM1 := hide ((unhide HM).later b1)
            have HK1 := hide ((unhide HK).later b1 hlt0)
            have IN1 := hide (TT.In.wide (show w.heap.size + 1 ≤ wr.heap.size from hlt0) (Nat.le_refl _) _ _ in1)
            obtain ⟨⟨u0, q0⟩, f0⟩ := (unhide HM1).2 (k * 5) (by omega)
            obtain ⟨⟨u1, q1⟩, f1⟩ := (unhide HM1).2 (k * 5 + 1) (by omega)
            obtain ⟨⟨u2, q2⟩, f2⟩ := (unhide HM1).2 (k * 5 + 2) (by omega)
            obtain ⟨⟨u3, q3⟩, f3⟩ := (unhide HM1).2 (k * 5 + 3) (by omega)
            obtain ⟨⟨u4, q4⟩, f4⟩ := (unhide HM1).2 (k * 5 + 4) (by omega)
            have l1 := (unhide HM1).1
            clear in1
            have hb1 := hbel.trans (b1.mono hbel.size)
            go_wp2
            go_roundw
            case rel => exact ⟨k + 1, by omega, by go_num, (unhide HK1).put (unhide HM1) (by omega) _ _ (Nat.le_refl _) (unhide IN1), (unhide HM1).put5 _ _ _ _, hb1.trans (put5_below (Nat.le_refl _) _ _ _ _)⟩
            case measure => simp [intOf]; omega
          · have e : k = n := by omega
            subst e
            go_wp2
            go_ret
            exact ⟨rfl, (unhide HK).whole hlt0, hbel⟩
    clear ih fk
    go_enter Tryz.func31, Tryz.ntmps31
    go_wp2_with fail
    have e1 : Below w.heap.size w (((w.alloc (.cells #[.int .i64 op, .int .i64 a, .int .i64 b, .string s, .slice ad n cp] 45)).alloc (.cells #[.int .i64 0, .int .i64 0, .int .i64 0, .string { data := #[] }, .slice none 0 0] 50)).alloc (.cells #[.int .i64 op, .int .i64 a, .int .i64 b, .string s, .slice none 0 0] 50)) := (((Below.refl w.heap.size w).alloc (by simp <;> omega) _).alloc (by simp <;> omega) _).alloc (by simp <;> omega) _
    refine (unhide HS _ (hin.later (e1.mono hhi)) (by simp; omega)).mono ?_
    rintro e w1 ⟨rfl, in1, b1⟩
    have BL := e1.trans (b1.mono (by simp <;> omega))
    simp only [World.size_alloc] at in1
    have IN1 := hide in1
    clear in1 e1
    have r0 : w1.cell? ⟨w.heap.size + 1, 0, none⟩ = some (.int .i64 0) := cell_later b1 (by simp [go_sem])
    have r1 : w1.cell? ⟨w.heap.size + 1, 1, none⟩ = some (.int .i64 0) := cell_later b1 (by simp [go_sem])
    have r2 : w1.cell? ⟨w.heap.size + 1, 2, none⟩ = some (.int .i64 0) := cell_later b1 (by simp [go_sem])
    have r3 : w1.cell? ⟨w.heap.size + 1, 3, none⟩ = some (.string ⟨#[]⟩) := cell_later b1 (by simp [go_sem])
    have r4 : w1.cell? ⟨w.heap.size + 1, 4, none⟩ = some (.slice none 0 0) := cell_later b1 (by simp [go_sem])
    have p0 : w1.cell? ⟨w.heap.size + 2, 0, none⟩ = some (.int .i64 op) := cell_later b1 (by simp [go_sem])
    have p1 : w1.cell? ⟨w.heap.size + 2, 1, none⟩ = some (.int .i64 a) := cell_later b1 (by simp [go_sem])
    have p2 : w1.cell? ⟨w.heap.size + 2, 2, none⟩ = some (.int .i64 b) := cell_later b1 (by simp [go_sem])
    have p3 : w1.cell? ⟨w.heap.size + 2, 3, none⟩ = some (.string s) := cell_later b1 (by simp [go_sem])
    have p4 : w1.cell? ⟨w.heap.size + 2, 4, none⟩ = some (.slice none 0 0) := cell_later b1 (by simp [go_sem])
    have f4 : w1.frozen? ⟨w.heap.size + 2, 4, none⟩ = false := by rw [b1.frozen (by simp)]; simp [go_sem]
    have g0 : w1.frozen? ⟨w.heap.size + 1, 0, none⟩ = false := by rw [b1.frozen (by simp)]; simp [go_sem]
    have g1 : w1.frozen? ⟨w.heap.size + 1, 1, none⟩ = false := by rw [b1.frozen (by simp)]; simp [go_sem]
    have g2 : w1.frozen? ⟨w.heap.size + 1, 2, none⟩ = false := by rw [b1.frozen (by simp)]; simp [go_sem]
    have g3 : w1.frozen? ⟨w.heap.size + 1, 3, none⟩ = false := by rw [b1.frozen (by simp)]; simp [go_sem]
    have g4 : w1.frozen? ⟨w.heap.size + 1, 4, none⟩ = false := by rw [b1.frozen (by simp)]; simp [go_sem]
    clear b1
    have n0 : w.heap.size + 2 ≠ w.heap.size + 1 := by omega
    have n1 : w.heap.size + 1 ≠ w.heap.size + 2 := by omega
    go_wp2
    refine bodyPost_ret (v := .agg #[.int .i64 op, .int .i64 a, .int .i64 b, .string s, .slice (some ⟨w.heap.size + 1 + 1 + 1, 0, none⟩) n n]) (by simp [results, Tryz.results31, go_sem, r0, r1, r2, r3, r4]) rfl ⟨⟨_, rfl, ?_⟩, ?_⟩
    · refine TT.In.wide (lo := w.heap.size + 1 + 1 + 1) (hi := w1.heap.size) (by omega) (by simp) _ _ ?_
      exact ((((((unhide IN1).set (by simp) _).set (by simp) _).set (by simp) _).set (by simp) _).set (by simp) _).set (by simp) _
    · exact (((((BL.setCell (by simp <;> omega) _).setCell (by simp) _).setCell (by simp) _).setCell (by simp) _).setCell (by simp) _).setCell (by simp) _
set_option maxRecDepth 100000 in
set_option maxHeartbeats 4000000 in
theorem eqTerm_same (hi : Nat) (t : TT) : ∀ (ad ad' : Option Addr) (cp cp' : Nat) (w : World), t.In w 0 hi ad → t.In w 0 hi ad' → t.Fit 1048576 → hi ≤ w.heap.size →
    Calls Tryz.prog 33 #[.agg #[.int .i64 t.op, .int .i64 t.a, .int .i64 t.b, .string t.s, .slice ad t.n cp], .agg #[.int .i64 t.op, .int .i64 t.a, .int .i64 t.b, .string t.s, .slice ad' t.n cp']] w fun e w' => e = .returned (.bool true) ∧ Below w.heap.size w w' := by
  induction t with
  | nil => intro ad ad' cp cp' w hin; exact hin.elim
  | node op a b s n kid ih =>
    intro ad ad' cp cp' w hin hin' hft hhi
    show Calls Tryz.prog 33 #[.agg #[.int .i64 op, .int .i64 a, .int .i64 b, .string s, .slice ad n cp], .agg #[.int .i64 op, .int .i64 a, .int .i64 b, .string s, .slice ad' n cp']] w _
    obtain ⟨fn, fs, fk⟩ := hft
    have HS : Hid (∀ (w : World), (TT.node op a b s n kid).In w 0 hi ad → (TT.node op a b s n kid).In w 0 hi ad' → hi ≤ w.heap.size → Calls Tryz.prog 60 #[.slice ad n cp, .slice ad' n cp'] w fun e w' => e = .returned (.bool true) ∧ Below w.heap.size w w') := by
      clear hin hin' hhi w
      intro w hin hin' hhi
      have IH := hide ih
      have FK := hide fk
      clear ih fk
      rcases hin with rfl | ⟨bl, off, rfl, hlo, hbl, AD, CP, hd⟩
      · go_enter Tryz.func60, Tryz.ntmps60
        go_wp2
        go_loopw [5] (fun i wr => i = .int .i64 0 ∧ Below w.heap.size w wr) (fun _ _ => 0)
        case atStart => exact ⟨rfl, (by repeat (first | exact Below.refl _ _ | assumption | refine below_drewN ?_ _ | refine Below.drew ?_ | refine Below.alloc ?_ (by first | exact Nat.le_refl _ | exact Below.size (by assumption) | (simp; done) | (simp; omega)) _ | refine Below.setCell ?_ (by first | exact Nat.le_refl _ | exact Below.size (by assumption) | (simp; done) | (simp; omega)) _ | refine Below.trans ?_ (by assumption)))⟩
        case round =>
          obtain ⟨rfl, hbel⟩ := hrel
          go_wp2
          go_ret
          exact ⟨rfl, hbel⟩
      · rcases hin' with rfl | ⟨bl', off', rfl, hlo', hbl', AD', CP', hd'⟩
        · go_enter Tryz.func60, Tryz.ntmps60
          go_wp2
          go_loopw [5] (fun i wr => i = .int .i64 0 ∧ Below w.heap.size w wr) (fun _ _ => 0)
          case atStart => exact ⟨rfl, (by repeat (first | exact Below.refl _ _ | assumption | refine below_drewN ?_ _ | refine Below.drew ?_ | refine Below.alloc ?_ (by first | exact Nat.le_refl _ | exact Below.size (by assumption) | (simp; done) | (simp; omega)) _ | refine Below.setCell ?_ (by first | exact Nat.le_refl _ | exact Below.size (by assumption) | (simp; done) | (simp; omega)) _ | refine Below.trans ?_ (by assumption)))⟩
          case round =>
            obtain ⟨rfl, hbel⟩ := hrel
            go_wp2
            go_ret
            exact ⟨rfl, hbel⟩
        · have HD := hide hd
          have HE := hide hd'
          clear hd hd'
          have kn : ((n : Int) != (n : Int)) = false := by simp
          go_enter Tryz.func60, Tryz.ntmps60
          go_wp2
          go_loopw [5] (fun i wr => ∃ k : Nat, k ≤ n ∧ i = .int .i64 k ∧ Below w.heap.size w wr) (fun i _ => n - (intOf i).toNat)
          case atStart => exact ⟨0, by omega, rfl, (by repeat (first | exact Below.refl _ _ | assumption | refine below_drewN ?_ _ | refine Below.drew ?_ | refine Below.alloc ?_ (by first | exact Nat.le_refl _ | exact Below.size (by assumption) | (simp; done) | (simp; omega)) _ | refine Below.setCell ?_ (by first | exact Nat.le_refl _ | exact Below.size (by assumption) | (simp; done) | (simp; omega)) _ | refine Below.trans ?_ (by assumption)))⟩
          case round =>
            obtain ⟨k, hk, rfl, hbel⟩ := hrel
            by_cases hlt : k < n
            · obtain ⟨h5, hcp, hin⟩ := unhide HD k hlt
              obtain ⟨h5', hcp', hin'⟩ := unhide HE k hlt
              have c := h5.keep (w' := wr) (fun o => hbel.cell (p := ⟨bl, o, none⟩) (Nat.lt_of_lt_of_le hbl hhi))
              have d := h5'.keep (w' := wr) (fun o => hbel.cell (p := ⟨bl', o, none⟩) (Nat.lt_of_lt_of_le hbl' hhi))
              have H1 := hide (hin.later (hbel.mono hhi))
              have H2 := hide (hin'.later (hbel.mono hhi))
              have lb := Nat.lt_of_lt_of_le (Nat.lt_of_lt_of_le hbl hhi) hbel.size
              have lb' := Nat.lt_of_lt_of_le (Nat.lt_of_lt_of_le hbl' hhi) hbel.size
              obtain ⟨c0, c1, c2, c3, c4⟩ := id c
              obtain ⟨d0, d1, d2, d3, d4⟩ := id d
              clear hin hin' h5 h5'
              go_wp2
              go_region_held3 (fun w' => w'.cell? ⟨bl, off + k * 5, none⟩ = some (.int .i64 (kid k).op) ∧ w'.cell? ⟨bl, off + k * 5 + 1, none⟩ = some (.int .i64 (kid k).a) ∧ w'.cell? ⟨bl, off + k * 5 + 2, none⟩ = some (.int .i64 (kid k).b) ∧ w'.cell? ⟨bl, off + k * 5 + 3, none⟩ = some (.string (kid k).s) ∧ w'.cell? ⟨bl, off + k * 5 + 4, none⟩ = some (.slice (AD k) (kid k).n (CP k)) ∧ w'.cell? ⟨bl', off' + k * 5, none⟩ = some (.int .i64 (kid k).op) ∧ w'.cell? ⟨bl', off' + k * 5 + 1, none⟩ = some (.int .i64 (kid k).a) ∧ w'.cell? ⟨bl', off' + k * 5 + 2, none⟩ = some (.int .i64 (kid k).b) ∧ w'.cell? ⟨bl', off' + k * 5 + 3, none⟩ = some (.string (kid k).s) ∧ w'.cell? ⟨bl', off' + k * 5 + 4, none⟩ = some (.slice (AD' k) (kid k).n (CP' k))) (first | go_keep | exact ⟨c.1, c.2.1, c.2.2.1, c.2.2.2.1, c.2.2.2.2, d.1, d.2.1, d.2.2.1, d.2.2.2.1, d.2.2.2.2⟩)
                (first | (go_at_call 33; refine (unhide IH k _ _ _ _ _ (by first | exact unhide H1 | exact (unhide H1).drew) (by first | exact unhide H2 | exact (unhide H2).drew) (unhide FK k hlt) (by exact Nat.le_trans hhi hbel.size)).mono ?_; rintro e wq ⟨rfl, bq⟩; have BL := (by first | exact hbel.trans (bq.mono hbel.size) | exact hbel.drew.trans (bq.mono hbel.size)); have c := c.keep (w' := wq) (fun o => bq.cell (p := ⟨bl, o, none⟩) lb); have d := d.keep (w' := wq) (fun o => bq.cell (p := ⟨bl', o, none⟩) lb')))
              all_goals go_wp2
              all_goals go_roundw
              all_goals first | exact ⟨k + 1, by omega, by go_num, (by first | exact BL | exact BL.drew)⟩ | (simp [intOf]; omega)
            · go_wp2
              go_ret
              exact ⟨rfl, hbel⟩
    clear ih fk
    go_enter Tryz.func33, Tryz.ntmps33
    go_wp2_with fail
    have e1 : Below w.heap.size w ((w.alloc (.cells #[.int .i64 op, .int .i64 a, .int .i64 b, .string s, .slice ad n cp] 50)).alloc (.cells #[.int .i64 op, .int .i64 a, .int .i64 b, .string s, .slice ad' n cp'] 50)) := ((Below.refl w.heap.size w).alloc (by simp <;> omega) _).alloc (by simp <;> omega) _
    refine (unhide HS _ (hin.later (e1.mono hhi)) (hin'.later (e1.mono hhi)) (by simp; omega)).mono ?_
    rintro e w1 ⟨rfl, b1⟩
    have BL := e1.trans (b1.mono (by simp <;> omega))
    clear e1 b1
    go_wp2
    go_ret
    exact ⟨rfl, BL⟩
end Go.Proofs.YtfopmobopmdahaaGreat
