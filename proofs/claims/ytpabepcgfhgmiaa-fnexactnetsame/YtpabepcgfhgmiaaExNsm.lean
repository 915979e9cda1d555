/- At every argument the program's NetSame answers as the model's: the law FnExactNetSame returns true for any two nets, right or not, and leaves them as they were. No condition (the law itself answers true where they have more than 1048576 gates). -/
import Derived.Test.YtpabepcgfhgmiaaNsA
namespace Go.Proofs.Ytpabepcgfhgmiaa
open Go.ChangeShapes Go.WideShapes Go.ChangeAt Go.RowKit Go.Joins
open Go.ChangeMaps (open_string shut_string)
set_option linter.unusedVariables false
theorem laidOut : laidOutB Try.prog = true := by kernel_rfl

namespace exNsm
set_option maxHeartbeats 2000000 in
theorem walk (ma : Int) (a : Option Addr) (lena capa : Nat) (Ga : Nat → Gt) (mb : Int) (b : Option Addr) (lenb capb : Nat) (Gb : Nat → Gt) (w : World) (wma : W64 ma) (lca : lena ≤ capa) (lna : lena ≤ maxLen) (hda : GtsAt w a lena Ga) (hwa : WG lena Ga) (wmb : W64 mb) (lcb : lenb ≤ capb) (lnb : lenb ≤ maxLen) (hdb : GtsAt w b lenb Gb) (hwb : WG lenb Gb) :
    Calls Try.prog 4 #[.agg #[.int .i64 ma, .slice a lena capa], .agg #[.int .i64 mb, .slice b lenb capb]] w fun e w' => e = .returned (.bool true) ∧ Below w.heap.size w w' := by
  have Da := hda
  have Db := hdb
  have BL : Below w.heap.size w w := Below.refl _ _
  clear hda hdb
  have kb : (nsB ma mb lena lenb Ga Gb != nsB ma mb lena lenb Ga Gb) = false := by simp
  go_enter Try.func4, Try.ntmps4
  go_wp2_with fail
  obtain ⟨vz, hvz⟩ : ∃ v, v = w.alloc (.cells #[.int .i64 ma, .slice a lena capa] 24) := ⟨_, rfl⟩
  have bvz : Below w.heap.size w vz := by rw [hvz]; exact (Below.refl _ _).alloc (Nat.le_refl _) _
  have A : NBox vz w.heap.size ma a lena capa := by rw [hvz]; exact NBox.new _ _ _ _ _ _
  have hsz : w.heap.size + 1 = vz.heap.size := by rw [hvz]; simp
  try rw [hsz]
  rw [← hvz]
  clear hvz hsz
  replace Da := Da.later bvz
  replace Db := Db.later bvz
  replace BL := BL.trans (bvz.mono BL.size)
  clear bvz
  obtain ⟨vB, hvB⟩ : ∃ v, v = vz.alloc (.cells #[.int .i64 mb, .slice b lenb capb] 24) := ⟨_, rfl⟩
  have bvB : Below vz.heap.size vz vB := by rw [hvB]; exact (Below.refl _ _).alloc (Nat.le_refl _) _
  have B : NBox vB vz.heap.size mb b lenb capb := by rw [hvB]; exact NBox.new _ _ _ _ _ _
  rw [← hvB]
  clear hvB
  replace Da := Da.later bvB
  replace Db := Db.later bvB
  replace A := A.later bvB
  replace BL := BL.trans (bvB.mono BL.size)
  clear bvB
  refine (szNet_any _ _ _ _ 1048576 _ (by omega) (by omega) lna).mono ?_
  rintro e w2 ⟨⟨za, rfl, hza⟩, b2⟩
  replace Da := Da.later b2
  replace Db := Db.later b2
  replace A := A.later b2
  replace B := B.later b2
  replace BL := BL.trans (b2.mono BL.size)
  clear b2
  by_cases h0 : 0 ≤ za
  · have hz0 : za ≤ 1048576 := by rcases hza with h | h <;> omega
    have na : lena ≤ 1048576 := by rcases hza with h | h <;> omega
    obtain ⟨A0, A1⟩ := id A
    have Al := World.block_lt_of_cell? _ _ A0
    obtain ⟨B0, B1⟩ := id B
    have Bl := World.block_lt_of_cell? _ _ B0
    go_wp2_with fail
    clear A0 A1 Al
    clear B0 B1 Bl
    refine (szNet_any _ _ _ _ za _ h0 hz0 lnb).mono ?_
    rintro e w3 ⟨⟨zb, rfl, hzb⟩, b3⟩
    replace Da := Da.later b3
    replace Db := Db.later b3
    replace A := A.later b3
    replace B := B.later b3
    replace BL := BL.trans (b3.mono BL.size)
    clear b3
    by_cases h1 : 0 ≤ zb
    · have nb : lenb ≤ 1048576 := by rcases hzb with h | h <;> omega
      obtain ⟨A0, A1⟩ := id A
      have Al := World.block_lt_of_cell? _ _ A0
      obtain ⟨B0, B1⟩ := id B
      have Bl := World.block_lt_of_cell? _ _ B0
      go_wp2
      go_region_held3 (fun w' => w'.cell? ⟨w.heap.size, 0, none⟩ = some (.int .i64 ma) ∧ w'.cell? ⟨w.heap.size, 1, none⟩ = some (.slice a lena capa) ∧ w'.cell? ⟨vz.heap.size, 0, none⟩ = some (.int .i64 mb) ∧ w'.cell? ⟨vz.heap.size, 1, none⟩ = some (.slice b lenb capb)) (first | go_keep | exact ⟨A0, A1, B0, B1⟩)
        (first | (go_at_call_of 9 (Value.agg #[.int .i64 ma, .slice a lena capa]); refine (toNet_any ma a lena capa _ _ (by first | exact Da | exact Da.drew | exact Da.drew.drew) na).mono ?_; rintro e wq ⟨Xq, rfl, leq, Cq, mq, bq⟩; have ltq := mq.1; have Da := GtsAt.later (by first | exact Da | exact Da.drew | exact Da.drew.drew) bq; have Db := GtsAt.later (by first | exact Db | exact Db.drew | exact Db.drew.drew) bq; have A := NBox.later (by first | exact A | exact A.drew | exact A.drew.drew) bq; have B := NBox.later (by first | exact B | exact B.drew | exact B.drew.drew) bq; have A0 := A.1; have A1 := A.2; have B0 := B.1; have B1 := B.2; have BL := (by first | exact BL.trans (bq.mono BL.size) | exact BL.drew.trans (bq.mono BL.size) | exact BL.drew.drew.trans (bq.mono BL.size)); (try (have Cp := Gts.later (by first | exact Cp | exact Cp.drew | exact Cp.drew.drew) bq; have ltp := Nat.lt_of_lt_of_le (by exact ltp) bq.size))) | (go_at_call_of 9 (Value.agg #[.int .i64 mb, .slice b lenb capb]); refine (toNet_any mb b lenb capb _ _ (by first | exact Db | exact Db.drew | exact Db.drew.drew) nb).mono ?_; rintro e wp ⟨Xp, rfl, lep, Cp, mp, bp⟩; have ltp := mp.1; have Da := GtsAt.later (by first | exact Da | exact Da.drew | exact Da.drew.drew) bp; have Db := GtsAt.later (by first | exact Db | exact Db.drew | exact Db.drew.drew) bp; have A := NBox.later (by first | exact A | exact A.drew | exact A.drew.drew) bp; have B := NBox.later (by first | exact B | exact B.drew | exact B.drew.drew) bp; have A0 := A.1; have A1 := A.2; have B0 := B.1; have B1 := B.2; have BL := (by first | exact BL.trans (bp.mono BL.size) | exact BL.drew.trans (bp.mono BL.size) | exact BL.drew.drew.trans (bp.mono BL.size)); (try (have Cq := Gts.later (by first | exact Cq | exact Cq.drew | exact Cq.drew.drew) bp; have ltq := Nat.lt_of_lt_of_le (by exact ltq) bp.size))) | (go_at_call 12; refine (sNetSame_any _ _ _ _ _ _ _ _ _ _ _ (Gts.at (by first | exact Cq | exact Cq.drew | exact Cq.drew.drew) (by exact ltq)) (Gts.at (by first | exact Cp | exact Cp.drew | exact Cp.drew.drew) (by exact ltp)) na nb).mono ?_; rintro e ws ⟨rfl, bs⟩; have Da := GtsAt.later (by first | exact Da | exact Da.drew | exact Da.drew.drew) bs; have Db := GtsAt.later (by first | exact Db | exact Db.drew | exact Db.drew.drew) bs; have A := NBox.later (by first | exact A | exact A.drew | exact A.drew.drew) bs; have B := NBox.later (by first | exact B | exact B.drew | exact B.drew.drew) bs; have A0 := A.1; have A1 := A.2; have B0 := B.1; have B1 := B.2; have BL := (by first | exact BL.trans (bs.mono BL.size) | exact BL.drew.trans (bs.mono BL.size) | exact BL.drew.drew.trans (bs.mono BL.size))))
      all_goals
        clear A0 A1 B0 B1 Al Bl
        obtain ⟨A0, A1⟩ := id A
        have Al := World.block_lt_of_cell? _ _ A0
        obtain ⟨B0, B1⟩ := id B
        have Bl := World.block_lt_of_cell? _ _ B0
        go_wp2_with fail
        clear A0 A1 Al
        clear B0 B1 Bl
        refine (toNet_any _ _ _ _ _ _ Da na).mono ?_
        rintro e w4 ⟨YB, rfl, Yle, Y, Ym, b4⟩
        replace Da := Da.later b4
        replace Db := Db.later b4
        replace A := A.later b4
        replace B := B.later b4
        replace BL := BL.trans (b4.mono BL.size)
        clear b4
        have Ylt := Ym.1
        clear Yle
        obtain ⟨A0, A1⟩ := id A
        have Al := World.block_lt_of_cell? _ _ A0
        obtain ⟨B0, B1⟩ := id B
        have Bl := World.block_lt_of_cell? _ _ B0
        go_wp2_with fail
        clear A0 A1 Al
        clear B0 B1 Bl
        obtain ⟨vP, hvP⟩ : ∃ v, v = w4.alloc (.cells #[.int .i64 ma, .slice (some ⟨YB, 0, none⟩) lena lena] 29) := ⟨_, rfl⟩
        have bvP : Below w4.heap.size w4 vP := by rw [hvP]; exact (Below.refl _ _).alloc (Nat.le_refl _) _
        have P : NBox vP w4.heap.size ma (some ⟨YB, 0, none⟩) lena lena := by rw [hvP]; exact NBox.new _ _ _ _ _ _
        rw [← hvP]
        clear hvP
        replace Da := Da.later bvP
        replace Db := Db.later bvP
        replace Y := Y.later bvP
        replace Ym := Ym.later bvP
        replace A := A.later bvP
        replace B := B.later bvP
        replace Ylt := Nat.lt_of_lt_of_le Ylt bvP.size
        replace BL := BL.trans (bvP.mono BL.size)
        clear bvP
        refine (toNet_any _ _ _ _ _ _ Db nb).mono ?_
        rintro e w5 ⟨ZB, rfl, Zle, Z, Zm, b5⟩
        replace Da := Da.later b5
        replace Db := Db.later b5
        replace Y := Y.later b5
        replace Ym := Ym.later b5
        replace A := A.later b5
        replace B := B.later b5
        replace P := P.later b5
        replace Ylt := Nat.lt_of_lt_of_le Ylt b5.size
        replace BL := BL.trans (b5.mono BL.size)
        clear b5
        have Zlt := Zm.1
        clear Zle
        obtain ⟨A0, A1⟩ := id A
        have Al := World.block_lt_of_cell? _ _ A0
        obtain ⟨B0, B1⟩ := id B
        have Bl := World.block_lt_of_cell? _ _ B0
        obtain ⟨P0, P1⟩ := id P
        have Pl := World.block_lt_of_cell? _ _ P0
        go_wp2_with fail
        clear A0 A1 Al
        clear B0 B1 Bl
        clear P0 P1 Pl
        obtain ⟨vQ, hvQ⟩ : ∃ v, v = w5.alloc (.cells #[.int .i64 mb, .slice (some ⟨ZB, 0, none⟩) lenb lenb] 29) := ⟨_, rfl⟩
        have bvQ : Below w5.heap.size w5 vQ := by rw [hvQ]; exact (Below.refl _ _).alloc (Nat.le_refl _) _
        have Q : NBox vQ w5.heap.size mb (some ⟨ZB, 0, none⟩) lenb lenb := by rw [hvQ]; exact NBox.new _ _ _ _ _ _
        rw [← hvQ]
        clear hvQ
        replace Da := Da.later bvQ
        replace Db := Db.later bvQ
        replace Y := Y.later bvQ
        replace Ym := Ym.later bvQ
        replace Z := Z.later bvQ
        replace Zm := Zm.later bvQ
        replace A := A.later bvQ
        replace B := B.later bvQ
        replace P := P.later bvQ
        replace Ylt := Nat.lt_of_lt_of_le Ylt bvQ.size
        replace Zlt := Nat.lt_of_lt_of_le Zlt bvQ.size
        replace BL := BL.trans (bvQ.mono BL.size)
        clear bvQ
        refine (iNetSame_any _ _ _ _ _ _ _ _ _ _ _ (Y.at Ylt) (Z.at Zlt) na nb).mono ?_
        rintro e w6 ⟨rfl, b6⟩
        replace Da := Da.later b6
        replace Db := Db.later b6
        replace Y := Y.later b6
        replace Ym := Ym.later b6
        replace Z := Z.later b6
        replace Zm := Zm.later b6
        replace A := A.later b6
        replace B := B.later b6
        replace P := P.later b6
        replace Q := Q.later b6
        replace Ylt := Nat.lt_of_lt_of_le Ylt b6.size
        replace Zlt := Nat.lt_of_lt_of_le Zlt b6.size
        replace BL := BL.trans (b6.mono BL.size)
        clear b6
        obtain ⟨A0, A1⟩ := id A
        have Al := World.block_lt_of_cell? _ _ A0
        obtain ⟨B0, B1⟩ := id B
        have Bl := World.block_lt_of_cell? _ _ B0
        obtain ⟨P0, P1⟩ := id P
        have Pl := World.block_lt_of_cell? _ _ P0
        obtain ⟨Q0, Q1⟩ := id Q
        have Ql := World.block_lt_of_cell? _ _ Q0
        go_wp2
        go_region_held3 (fun w' => w'.cell? ⟨w.heap.size, 0, none⟩ = some (.int .i64 ma) ∧ w'.cell? ⟨w.heap.size, 1, none⟩ = some (.slice a lena capa) ∧ w'.cell? ⟨w4.heap.size, 0, none⟩ = some (.int .i64 ma) ∧ w'.cell? ⟨w4.heap.size, 1, none⟩ = some (.slice (some ⟨YB, 0, none⟩) lena lena)) (first | go_keep | exact ⟨A0, A1, P0, P1⟩)
          (first | (go_at_call 9; refine (toNet_any _ _ _ _ _ _ (by first | exact Da | exact Da.drew | exact Da.drew.drew) na).mono ?_; rintro e wq ⟨Bq, rfl, leq, Xq, mq, bq⟩; have ltq := mq.1; have Da := GtsAt.later (by first | exact Da | exact Da.drew | exact Da.drew.drew) bq; have Db := GtsAt.later (by first | exact Db | exact Db.drew | exact Db.drew.drew) bq; have Y := Gts.later (by first | exact Y | exact Y.drew | exact Y.drew.drew) bq; have Ym := Made.later (by first | exact Ym | exact Ym.drew | exact Ym.drew.drew) bq; have Z := Gts.later (by first | exact Z | exact Z.drew | exact Z.drew.drew) bq; have Zm := Made.later (by first | exact Zm | exact Zm.drew | exact Zm.drew.drew) bq; have A := NBox.later (by first | exact A | exact A.drew | exact A.drew.drew) bq; have B := NBox.later (by first | exact B | exact B.drew | exact B.drew.drew) bq; have P := NBox.later (by first | exact P | exact P.drew | exact P.drew.drew) bq; have Q := NBox.later (by first | exact Q | exact Q.drew | exact Q.drew.drew) bq; have A0 := A.1; have A1 := A.2; have B0 := B.1; have B1 := B.2; have P0 := P.1; have P1 := P.2; have Q0 := Q.1; have Q1 := Q.2; have Ylt := Nat.lt_of_lt_of_le (by exact Ylt) bq.size; have Zlt := Nat.lt_of_lt_of_le (by exact Zlt) bq.size; have BL := (by first | exact BL.trans (bq.mono BL.size) | exact BL.drew.trans (bq.mono BL.size) | exact BL.drew.drew.trans (bq.mono BL.size))) | (go_at_call 11; refine (eqNet_same _ _ _ _ _ _ _ _ (Gts.at (by first | exact Y | exact Y.drew | exact Y.drew.drew) (by exact Ylt)) (Gts.at (by first | exact Xq | exact Xq.drew | exact Xq.drew.drew) (by exact ltq)) na).mono ?_; rintro e wp ⟨rfl, bp⟩; have Da := GtsAt.later (by first | exact Da | exact Da.drew | exact Da.drew.drew) bp; have Db := GtsAt.later (by first | exact Db | exact Db.drew | exact Db.drew.drew) bp; have Y := Gts.later (by first | exact Y | exact Y.drew | exact Y.drew.drew) bp; have Ym := Made.later (by first | exact Ym | exact Ym.drew | exact Ym.drew.drew) bp; have Z := Gts.later (by first | exact Z | exact Z.drew | exact Z.drew.drew) bp; have Zm := Made.later (by first | exact Zm | exact Zm.drew | exact Zm.drew.drew) bp; have A := NBox.later (by first | exact A | exact A.drew | exact A.drew.drew) bp; have B := NBox.later (by first | exact B | exact B.drew | exact B.drew.drew) bp; have P := NBox.later (by first | exact P | exact P.drew | exact P.drew.drew) bp; have Q := NBox.later (by first | exact Q | exact Q.drew | exact Q.drew.drew) bp; have A0 := A.1; have A1 := A.2; have B0 := B.1; have B1 := B.2; have P0 := P.1; have P1 := P.2; have Q0 := Q.1; have Q1 := Q.2; have Ylt := Nat.lt_of_lt_of_le (by exact Ylt) bp.size; have Zlt := Nat.lt_of_lt_of_le (by exact Zlt) bp.size; have BL := (by first | exact BL.trans (bp.mono BL.size) | exact BL.drew.trans (bp.mono BL.size) | exact BL.drew.drew.trans (bp.mono BL.size))))
        all_goals
          (try clear A0 A1 B0 B1 P0 P1 Q0 Q1 Al Bl Pl Ql)
          obtain ⟨A0, A1⟩ := id A
          have Al := World.block_lt_of_cell? _ _ A0
          obtain ⟨B0, B1⟩ := id B
          have Bl := World.block_lt_of_cell? _ _ B0
          obtain ⟨P0, P1⟩ := id P
          have Pl := World.block_lt_of_cell? _ _ P0
          obtain ⟨Q0, Q1⟩ := id Q
          have Ql := World.block_lt_of_cell? _ _ Q0
          go_wp2
          go_region_held3 (fun w' => w'.cell? ⟨vz.heap.size, 0, none⟩ = some (.int .i64 mb) ∧ w'.cell? ⟨vz.heap.size, 1, none⟩ = some (.slice b lenb capb) ∧ w'.cell? ⟨w5.heap.size, 0, none⟩ = some (.int .i64 mb) ∧ w'.cell? ⟨w5.heap.size, 1, none⟩ = some (.slice (some ⟨ZB, 0, none⟩) lenb lenb)) (first | go_keep | exact ⟨B0, B1, Q0, Q1⟩)
            (first | (go_at_call 9; refine (toNet_any _ _ _ _ _ _ (by first | exact Db | exact Db.drew | exact Db.drew.drew) nb).mono ?_; rintro e wq ⟨Bq, rfl, leq, Xq, mq, bq⟩; have ltq := mq.1; have Da := GtsAt.later (by first | exact Da | exact Da.drew | exact Da.drew.drew) bq; have Db := GtsAt.later (by first | exact Db | exact Db.drew | exact Db.drew.drew) bq; have Y := Gts.later (by first | exact Y | exact Y.drew | exact Y.drew.drew) bq; have Ym := Made.later (by first | exact Ym | exact Ym.drew | exact Ym.drew.drew) bq; have Z := Gts.later (by first | exact Z | exact Z.drew | exact Z.drew.drew) bq; have Zm := Made.later (by first | exact Zm | exact Zm.drew | exact Zm.drew.drew) bq; have A := NBox.later (by first | exact A | exact A.drew | exact A.drew.drew) bq; have B := NBox.later (by first | exact B | exact B.drew | exact B.drew.drew) bq; have P := NBox.later (by first | exact P | exact P.drew | exact P.drew.drew) bq; have Q := NBox.later (by first | exact Q | exact Q.drew | exact Q.drew.drew) bq; have A0 := A.1; have A1 := A.2; have B0 := B.1; have B1 := B.2; have P0 := P.1; have P1 := P.2; have Q0 := Q.1; have Q1 := Q.2; have Ylt := Nat.lt_of_lt_of_le (by exact Ylt) bq.size; have Zlt := Nat.lt_of_lt_of_le (by exact Zlt) bq.size; have BL := (by first | exact BL.trans (bq.mono BL.size) | exact BL.drew.trans (bq.mono BL.size) | exact BL.drew.drew.trans (bq.mono BL.size))) | (go_at_call 11; refine (eqNet_same _ _ _ _ _ _ _ _ (Gts.at (by first | exact Z | exact Z.drew | exact Z.drew.drew) (by exact Zlt)) (Gts.at (by first | exact Xq | exact Xq.drew | exact Xq.drew.drew) (by exact ltq)) nb).mono ?_; rintro e wp ⟨rfl, bp⟩; have Da := GtsAt.later (by first | exact Da | exact Da.drew | exact Da.drew.drew) bp; have Db := GtsAt.later (by first | exact Db | exact Db.drew | exact Db.drew.drew) bp; have Y := Gts.later (by first | exact Y | exact Y.drew | exact Y.drew.drew) bp; have Ym := Made.later (by first | exact Ym | exact Ym.drew | exact Ym.drew.drew) bp; have Z := Gts.later (by first | exact Z | exact Z.drew | exact Z.drew.drew) bp; have Zm := Made.later (by first | exact Zm | exact Zm.drew | exact Zm.drew.drew) bp; have A := NBox.later (by first | exact A | exact A.drew | exact A.drew.drew) bp; have B := NBox.later (by first | exact B | exact B.drew | exact B.drew.drew) bp; have P := NBox.later (by first | exact P | exact P.drew | exact P.drew.drew) bp; have Q := NBox.later (by first | exact Q | exact Q.drew | exact Q.drew.drew) bp; have A0 := A.1; have A1 := A.2; have B0 := B.1; have B1 := B.2; have P0 := P.1; have P1 := P.2; have Q0 := Q.1; have Q1 := Q.2; have Ylt := Nat.lt_of_lt_of_le (by exact Ylt) bp.size; have Zlt := Nat.lt_of_lt_of_le (by exact Zlt) bp.size; have BL := (by first | exact BL.trans (bp.mono BL.size) | exact BL.drew.trans (bp.mono BL.size) | exact BL.drew.drew.trans (bp.mono BL.size))))
          all_goals go_wp2
          all_goals go_ret
          all_goals exact ⟨rfl, (by first | exact BL | exact BL.drew)⟩
    · go_wp2
      go_ret
      exact ⟨rfl, BL⟩
  · go_wp2
    go_ret
    exact ⟨rfl, BL⟩

set_option maxRecDepth 100000 in
theorem lifted (os : Os) (started : os.Started) (H : Type) (enc : TypeId × Value → H) :
    ReturnsInHanded {} Try.checked os 4 .any (Rows.fnExactNetSameSpec.pre6 enc Try.prog Try.f4 Rows.fnExactNetSameRow.domain false) (Rows.fnExactNetSameSpec.post enc Try.prog Try.f4 false true false false) := by
  refine returnsInHanded_of_change (C := Try.checked) own started (by kernel_rfl) Try.func4
    (ChangeSpec.witness6 (enc := enc) (C := Try.checked) false ⟨#[], #[.agg #[.int .i64 0, .slice none 0 0], .agg #[.int .i64 0, .slice none 0 0]], []⟩ 8 (by kernel_rfl) (by kernel_rfl) (by kernel_rfl) (by kernel_rfl)) ?_
  intro W base args ds gs before hval0 hW hcnd _
  have hval : ∀ (j : Nat) t v, Try.f4.params[j]? = some t → args[j]? = some v → Value.okWide Try.prog W .any base t v := hval0
  have hW' := hW
  obtain ⟨p, q, hA0, hV, rfl, hfz, hnd⟩ := hW
  have hA : DataW.TrodAll enc Try.prog W 0 (fun _ => true) true Try.f4.params.toList args.toList ds p := hA0
  rw [Try.params4] at hA hval
  obtain ⟨v0, vs0, d0, ds0, p0, q0, hargs, rfl, rfl, h0, r0⟩ := trodAll_cons hA
  obtain ⟨v1, vs1, d1, ds1, p1, q1, rfl, rfl, rfl, h1, r1⟩ := trodAll_cons r0
  obtain ⟨rfl, rfl, rfl⟩ := trodAll_nil r1
  obtain rfl : args = #[v0, v1] := by cases args; simp_all
  obtain ⟨rfl, rfl⟩ := trodVars_none hV
  have k0 := h0
  have lt0 : ∀ x ∈ p0, x.block < W.heap.size := by obtain ⟨m, hm⟩ := k0; exact DataW.trod_lt m _ _ _ hm
  obtain ⟨ma, a, lena, capa, Ga, rfl, wma, lca, lna, hda, hwa⟩ := net_in (hval 0 24 v0 rfl rfl) h0
  have k1 := h1
  have lt1 : ∀ x ∈ p1, x.block < W.heap.size := by obtain ⟨m, hm⟩ := k1; exact DataW.trod_lt m _ _ _ hm
  obtain ⟨mb, b, lenb, capb, Gb, rfl, wmb, lcb, lnb, hdb, hwb⟩ := net_in (hval 1 24 v1 rfl rfl) h1
  clear hA0 hval0
  refine (walk ma a lena capa Ga mb b lenb capb Gb W wma lca lna hda hwa wmb lcb lnb hdb hwb).mono fun e W' ⟨he, bel⟩ => ?_
  subst he
  exact ⟨_, rfl, _, _, _, [], _, [], hW', trodAll_mk1 (shut_bool Try.underlying4 _), (trodAll_cons_mk (Below.trod laidOut (by kernel_rfl) (of_decide_eq_true (by kernel_rfl)) k0 bel lt0) (trodAll_cons_mk (Below.trod laidOut (by kernel_rfl) (of_decide_eq_true (by kernel_rfl)) k1 bel lt1) trodAll_mk0)), rfl, bel.frame _, fun h => by cases h⟩

theorem over : Rows.fnExactNetSameRow.holds Try.pinned (OpenSpec.ofChange Rows.fnExactNetSameSpec) :=
  OpenClaim.holds_of_wide 4 Try.f4 rfl rfl rfl rfl rfl rfl rfl ⟨rfl, rfl, rfl, rfl, rfl⟩ rfl rfl rfl rfl rfl (by kernel_rfl) Try.func4 (by kernel_rfl)
    (of_decide_eq_true (by kernel_rfl)) (by unfold Func.isWrapper; first | (rw [if_pos (by decide +kernel)]; kernel_rfl) | (rw [if_neg (by decide +kernel)]; exact ⟨rfl, rfl⟩))
    (fun os started H enc _ => lifted os started H enc)
end exNsm

theorem exNsm_holds : Rows.FnExactNetSameSaid := exNsm.over
#print axioms exNsm_holds
end Go.Proofs.Ytpabepcgfhgmiaa
