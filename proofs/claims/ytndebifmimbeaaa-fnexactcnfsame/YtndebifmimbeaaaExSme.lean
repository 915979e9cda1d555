/- At every argument the program's CnfSame answers as the model's: the law FnExactCnfSame returns true for any two of clauses, right or not, and leaves them as they were. No condition (the law itself answers true where they take more than 1048576 numbers and lists). -/
import Derived.Test.YtndebifmimbeaaaCnfC
namespace Go.Proofs.Ytndebifmimbeaaa
open Go.ChangeShapes Go.WideShapes Go.ChangeAt Go.RowKit Go.Joins
open Go.ChangeMaps (open_string shut_string)
set_option linter.unusedVariables false
theorem laidOut : laidOutB Try.prog = true := by kernel_rfl

namespace exSme
set_option maxHeartbeats 2000000 in
theorem walk (ma : Int) (a : Option Addr) (lena capa : Nat) (Aa : Nat → Option Addr) (La Ca : Nat → Nat) (Va : Nat → Nat → Int) (mb : Int) (b : Option Addr) (lenb capb : Nat) (Ab : Nat → Option Addr) (Lb Cb : Nat → Nat) (Vb : Nat → Nat → Int) (w : World) (wma : W64 ma) (lca : lena ≤ capa) (lna : lena ≤ maxLen) (hda : RwsAt w a lena Aa La Ca Va) (hwa : ∀ i, i < lena → La i ≤ maxLen ∧ ∀ j, j < La i → W64 (Va i j)) (wmb : W64 mb) (lcb : lenb ≤ capb) (lnb : lenb ≤ maxLen) (hdb : RwsAt w b lenb Ab Lb Cb Vb) (hwb : ∀ i, i < lenb → Lb i ≤ maxLen ∧ ∀ j, j < Lb i → W64 (Vb i j)) :
    Calls Try.prog 4 #[.agg #[.int .i64 ma, .slice a lena capa], .agg #[.int .i64 mb, .slice b lenb capb]] w fun e w' => e = .returned (.bool true) ∧ Below w.heap.size w w' := by
  have Da := hda
  have Db := hdb
  have BL : Below w.heap.size w w := Below.refl _ _
  clear hda hdb
  have kb : (sameB ma mb lena lenb La Lb Va Vb != sameB ma mb lena lenb La Lb Va Vb) = false := by simp
  go_enter Try.func4, Try.ntmps4
  go_wp2_with fail
  obtain ⟨vz, hvz⟩ : ∃ v, v = w.alloc (.cells #[.int .i64 ma, .slice a lena capa] 24) := ⟨_, rfl⟩
  have bvz : Below w.heap.size w vz := by rw [hvz]; exact (Below.refl _ _).alloc (Nat.le_refl _) _
  have A : Box vz w.heap.size ma a lena capa := by rw [hvz]; exact Box.new _ _ _ _ _ _
  have hsz : w.heap.size + 1 = vz.heap.size := by rw [hvz]; simp
  try rw [hsz]
  rw [← hvz]
  clear hvz hsz
  replace Da := Da.later bvz
  replace Db := Db.later bvz
  replace BL := BL.trans (bvz.mono BL.size)
  clear bvz
  obtain ⟨vB, hvB⟩ : ∃ v, v = vz.alloc (.cells #[.int .i64 mb, .slice b lenb capb] 24) := ⟨_, rfl⟩
  have bvB : Below vz.heap.size vz vB := by rw [hvB]; exact (Below.refl _ _).alloc (Nat.le_refl _) _
  have B : Box vB vz.heap.size mb b lenb capb := by rw [hvB]; exact Box.new _ _ _ _ _ _
  rw [← hvB]
  clear hvB
  replace Da := Da.later bvB
  replace Db := Db.later bvB
  replace A := A.later bvB
  replace BL := BL.trans (bvB.mono BL.size)
  clear bvB
  refine (szCnf_any _ _ _ _ _ _ _ _ 1048576 _ Da (by omega) (by omega) lna (fun i hi => (hwa i hi).1)).mono ?_
  rintro e w2 ⟨⟨za, rfl, hza⟩, b2⟩
  replace Da := Da.later b2
  replace Db := Db.later b2
  replace A := A.later b2
  replace B := B.later b2
  replace BL := BL.trans (b2.mono BL.size)
  clear b2
  by_cases h0 : 0 ≤ za
  · have hz0 : za ≤ 1048576 := by rcases hza with h | h <;> omega
    have Fa : Hid (Fits lena La Va) := by
      obtain ⟨_, hz1, hn, hs⟩ := hza.resolve_left (by omega)
      exact ⟨by omega, fun i hi => ⟨by have := hs i hi; omega, (hwa i hi).2⟩⟩
    clear hwa
    obtain ⟨A0, A1⟩ := id A
    have Al := World.block_lt_of_cell? _ _ A0
    obtain ⟨B0, B1⟩ := id B
    have Bl := World.block_lt_of_cell? _ _ B0
    go_wp2_with fail
    clear A0 A1 Al
    clear B0 B1 Bl
    refine (szCnf_any _ _ _ _ _ _ _ _ za _ Db h0 hz0 lnb (fun i hi => (hwb i hi).1)).mono ?_
    rintro e w3 ⟨⟨zb, rfl, hzb⟩, b3⟩
    replace Da := Da.later b3
    replace Db := Db.later b3
    replace A := A.later b3
    replace B := B.later b3
    replace BL := BL.trans (b3.mono BL.size)
    clear b3
    by_cases h1 : 0 ≤ zb
    · have Fb : Hid (Fits lenb Lb Vb) := by
        obtain ⟨_, hz1, hn, hs⟩ := hzb.resolve_left (by omega)
        exact ⟨by omega, fun i hi => ⟨by have := hs i hi; omega, (hwb i hi).2⟩⟩
      clear hwb
      obtain ⟨A0, A1⟩ := id A
      have Al := World.block_lt_of_cell? _ _ A0
      obtain ⟨B0, B1⟩ := id B
      have Bl := World.block_lt_of_cell? _ _ B0
      go_wp2
      go_region_held3 (fun w' => w'.cell? ⟨w.heap.size, 0, none⟩ = some (.int .i64 ma) ∧ w'.cell? ⟨w.heap.size, 1, none⟩ = some (.slice a lena capa) ∧ w'.cell? ⟨vz.heap.size, 0, none⟩ = some (.int .i64 mb) ∧ w'.cell? ⟨vz.heap.size, 1, none⟩ = some (.slice b lenb capb)) (first | go_keep | exact ⟨A0, A1, B0, B1⟩)
        (first | (go_at_call_of 11 (Value.agg #[.int .i64 ma, .slice a lena capa]); refine (toCnf_any ma a lena capa _ _ _ _ _ (by first | exact Da | exact Da.drew | exact Da.drew.drew) (unhide Fa).1 (fun i hi => ((unhide Fa).2 i hi).1)).mono ?_; rintro e wq ⟨Xq, bsq, rfl, leq, ltq, Cq, bq⟩; have Da := RwsAt.later (by first | exact Da | exact Da.drew | exact Da.drew.drew) bq; have Db := RwsAt.later (by first | exact Db | exact Db.drew | exact Db.drew.drew) bq; have A := Box.later (by first | exact A | exact A.drew | exact A.drew.drew) bq; have B := Box.later (by first | exact B | exact B.drew | exact B.drew.drew) bq; have A0 := A.1; have A1 := A.2; have B0 := B.1; have B1 := B.2; have BL := (by first | exact BL.trans (bq.mono BL.size) | exact BL.drew.trans (bq.mono BL.size) | exact BL.drew.drew.trans (bq.mono BL.size)); (try (have Cp := Cop.later (by first | exact Cp | exact Cp.drew | exact Cp.drew.drew) bq; have ltp := Nat.lt_of_lt_of_le (by exact ltp) bq.size))) | (go_at_call_of 11 (Value.agg #[.int .i64 mb, .slice b lenb capb]); refine (toCnf_any mb b lenb capb _ _ _ _ _ (by first | exact Db | exact Db.drew | exact Db.drew.drew) (unhide Fb).1 (fun i hi => ((unhide Fb).2 i hi).1)).mono ?_; rintro e wp ⟨Xp, bsp, rfl, lep, ltp, Cp, bp⟩; have Da := RwsAt.later (by first | exact Da | exact Da.drew | exact Da.drew.drew) bp; have Db := RwsAt.later (by first | exact Db | exact Db.drew | exact Db.drew.drew) bp; have A := Box.later (by first | exact A | exact A.drew | exact A.drew.drew) bp; have B := Box.later (by first | exact B | exact B.drew | exact B.drew.drew) bp; have A0 := A.1; have A1 := A.2; have B0 := B.1; have B1 := B.2; have BL := (by first | exact BL.trans (bp.mono BL.size) | exact BL.drew.trans (bp.mono BL.size) | exact BL.drew.drew.trans (bp.mono BL.size)); (try (have Cq := Cop.later (by first | exact Cq | exact Cq.drew | exact Cq.drew.drew) bp; have ltq := Nat.lt_of_lt_of_le (by exact ltq) bp.size))) | (go_at_call 14; refine (sCnfSame_any _ _ _ _ _ _ _ _ _ _ _ _ _ _ _ _ _ ((Cop.rws (by first | exact Cq | exact Cq.drew | exact Cq.drew.drew)).at (by exact ltq)) (unhide Fa) ((Cop.rws (by first | exact Cp | exact Cp.drew | exact Cp.drew.drew)).at (by exact ltp)) (unhide Fb)).mono ?_; rintro e ws ⟨rfl, bs⟩; have Da := RwsAt.later (by first | exact Da | exact Da.drew | exact Da.drew.drew) bs; have Db := RwsAt.later (by first | exact Db | exact Db.drew | exact Db.drew.drew) bs; have A := Box.later (by first | exact A | exact A.drew | exact A.drew.drew) bs; have B := Box.later (by first | exact B | exact B.drew | exact B.drew.drew) bs; have A0 := A.1; have A1 := A.2; have B0 := B.1; have B1 := B.2; have BL := (by first | exact BL.trans (bs.mono BL.size) | exact BL.drew.trans (bs.mono BL.size) | exact BL.drew.drew.trans (bs.mono BL.size))))
      all_goals
        clear A0 A1 B0 B1 Al Bl
        obtain ⟨A0, A1⟩ := id A
        have Al := World.block_lt_of_cell? _ _ A0
        obtain ⟨B0, B1⟩ := id B
        have Bl := World.block_lt_of_cell? _ _ B0
        go_wp2_with fail
        clear A0 A1 Al
        clear B0 B1 Bl
        refine (toCnf_any _ _ _ _ _ _ _ _ _ Da (unhide Fa).1 (fun i hi => ((unhide Fa).2 i hi).1)).mono ?_
        rintro e w4 ⟨YB, Ybs, rfl, Yle, Ylt, Y, b4⟩
        replace Da := Da.later b4
        replace Db := Db.later b4
        replace A := A.later b4
        replace B := B.later b4
        replace BL := BL.trans (b4.mono BL.size)
        clear b4
        clear Yle
        obtain ⟨A0, A1⟩ := id A
        have Al := World.block_lt_of_cell? _ _ A0
        obtain ⟨B0, B1⟩ := id B
        have Bl := World.block_lt_of_cell? _ _ B0
        go_wp2_with fail
        clear A0 A1 Al
        clear B0 B1 Bl
        obtain ⟨vP, hvP⟩ : ∃ v, v = w4.alloc (.cells #[.int .i64 ma, .slice (some ⟨YB, 0, none⟩) lena lena] 27) := ⟨_, rfl⟩
        have bvP : Below w4.heap.size w4 vP := by rw [hvP]; exact (Below.refl _ _).alloc (Nat.le_refl _) _
        have P : Box vP w4.heap.size ma (some ⟨YB, 0, none⟩) lena lena := by rw [hvP]; exact Box.new _ _ _ _ _ _
        rw [← hvP]
        clear hvP
        replace Da := Da.later bvP
        replace Db := Db.later bvP
        replace Y := Y.later bvP
        replace A := A.later bvP
        replace B := B.later bvP
        replace Ylt := Nat.lt_of_lt_of_le Ylt bvP.size
        replace BL := BL.trans (bvP.mono BL.size)
        clear bvP
        refine (toCnf_any _ _ _ _ _ _ _ _ _ Db (unhide Fb).1 (fun i hi => ((unhide Fb).2 i hi).1)).mono ?_
        rintro e w5 ⟨ZB, Zbs, rfl, Zle, Zlt, Z, b5⟩
        replace Da := Da.later b5
        replace Db := Db.later b5
        replace Y := Y.later b5
        replace A := A.later b5
        replace B := B.later b5
        replace P := P.later b5
        replace Ylt := Nat.lt_of_lt_of_le Ylt b5.size
        replace BL := BL.trans (b5.mono BL.size)
        clear b5
        clear Zle
        obtain ⟨A0, A1⟩ := id A
        have Al := World.block_lt_of_cell? _ _ A0
        obtain ⟨B0, B1⟩ := id B
        have Bl := World.block_lt_of_cell? _ _ B0
        obtain ⟨P0, P1⟩ := id P
        have Pl := World.block_lt_of_cell? _ _ P0
        go_wp2_with fail
        clear A0 A1 Al
        clear B0 B1 Bl
        clear P0 P1 Pl
        obtain ⟨vQ, hvQ⟩ : ∃ v, v = w5.alloc (.cells #[.int .i64 mb, .slice (some ⟨ZB, 0, none⟩) lenb lenb] 27) := ⟨_, rfl⟩
        have bvQ : Below w5.heap.size w5 vQ := by rw [hvQ]; exact (Below.refl _ _).alloc (Nat.le_refl _) _
        have Q : Box vQ w5.heap.size mb (some ⟨ZB, 0, none⟩) lenb lenb := by rw [hvQ]; exact Box.new _ _ _ _ _ _
        rw [← hvQ]
        clear hvQ
        replace Da := Da.later bvQ
        replace Db := Db.later bvQ
        replace Y := Y.later bvQ
        replace Z := Z.later bvQ
        replace A := A.later bvQ
        replace B := B.later bvQ
        replace P := P.later bvQ
        replace Ylt := Nat.lt_of_lt_of_le Ylt bvQ.size
        replace Zlt := Nat.lt_of_lt_of_le Zlt bvQ.size
        replace BL := BL.trans (bvQ.mono BL.size)
        clear bvQ
        refine (iCnfSame_any _ _ _ _ _ _ _ _ _ _ _ _ _ _ _ _ _ (Y.rws.at Ylt) (unhide Fa) (Z.rws.at Zlt) (unhide Fb)).mono ?_
        rintro e w6 ⟨rfl, b6⟩
        replace Da := Da.later b6
        replace Db := Db.later b6
        replace Y := Y.later b6
        replace Z := Z.later b6
        replace A := A.later b6
        replace B := B.later b6
        replace P := P.later b6
        replace Q := Q.later b6
        replace Ylt := Nat.lt_of_lt_of_le Ylt b6.size
        replace Zlt := Nat.lt_of_lt_of_le Zlt b6.size
        replace BL := BL.trans (b6.mono BL.size)
        clear b6
        obtain ⟨A0, A1⟩ := id A
        have Al := World.block_lt_of_cell? _ _ A0
        obtain ⟨B0, B1⟩ := id B
        have Bl := World.block_lt_of_cell? _ _ B0
        obtain ⟨P0, P1⟩ := id P
        have Pl := World.block_lt_of_cell? _ _ P0
        obtain ⟨Q0, Q1⟩ := id Q
        have Ql := World.block_lt_of_cell? _ _ Q0
        go_wp2
        go_region_held3 (fun w' => w'.cell? ⟨w.heap.size, 0, none⟩ = some (.int .i64 ma) ∧ w'.cell? ⟨w.heap.size, 1, none⟩ = some (.slice a lena capa) ∧ w'.cell? ⟨w4.heap.size, 0, none⟩ = some (.int .i64 ma) ∧ w'.cell? ⟨w4.heap.size, 1, none⟩ = some (.slice (some ⟨YB, 0, none⟩) lena lena)) (first | go_keep | exact ⟨A0, A1, P0, P1⟩)
          (first | (go_at_call 11; refine (toCnf_any _ _ _ _ _ _ _ _ _ (by first | exact Da | exact Da.drew | exact Da.drew.drew) (unhide Fa).1 (fun i hi => ((unhide Fa).2 i hi).1)).mono ?_; rintro e wq ⟨Bq, bsq, rfl, leq, ltq, Xq, bq⟩; have Da := RwsAt.later (by first | exact Da | exact Da.drew | exact Da.drew.drew) bq; have Db := RwsAt.later (by first | exact Db | exact Db.drew | exact Db.drew.drew) bq; have Y := Cop.later (by first | exact Y | exact Y.drew | exact Y.drew.drew) bq; have Z := Cop.later (by first | exact Z | exact Z.drew | exact Z.drew.drew) bq; have A := Box.later (by first | exact A | exact A.drew | exact A.drew.drew) bq; have B := Box.later (by first | exact B | exact B.drew | exact B.drew.drew) bq; have P := Box.later (by first | exact P | exact P.drew | exact P.drew.drew) bq; have Q := Box.later (by first | exact Q | exact Q.drew | exact Q.drew.drew) bq; have A0 := A.1; have A1 := A.2; have B0 := B.1; have B1 := B.2; have P0 := P.1; have P1 := P.2; have Q0 := Q.1; have Q1 := Q.2; have Ylt := Nat.lt_of_lt_of_le (by exact Ylt) bq.size; have Zlt := Nat.lt_of_lt_of_le (by exact Zlt) bq.size; have BL := (by first | exact BL.trans (bq.mono BL.size) | exact BL.drew.trans (bq.mono BL.size) | exact BL.drew.drew.trans (bq.mono BL.size))) | (go_at_call 13; refine (eqCnf_same _ _ _ _ _ _ _ _ _ _ _ _ _ (by exact Ylt) (by exact ltq) (Cop.rws (by first | exact Y | exact Y.drew | exact Y.drew.drew)) (Cop.rws (by first | exact Xq | exact Xq.drew | exact Xq.drew.drew)) (unhide Fa).1 (fun i hi => ((unhide Fa).2 i hi).1)).mono ?_; rintro e wp ⟨rfl, bp⟩; have Da := RwsAt.later (by first | exact Da | exact Da.drew | exact Da.drew.drew) bp; have Db := RwsAt.later (by first | exact Db | exact Db.drew | exact Db.drew.drew) bp; have Y := Cop.later (by first | exact Y | exact Y.drew | exact Y.drew.drew) bp; have Z := Cop.later (by first | exact Z | exact Z.drew | exact Z.drew.drew) bp; have A := Box.later (by first | exact A | exact A.drew | exact A.drew.drew) bp; have B := Box.later (by first | exact B | exact B.drew | exact B.drew.drew) bp; have P := Box.later (by first | exact P | exact P.drew | exact P.drew.drew) bp; have Q := Box.later (by first | exact Q | exact Q.drew | exact Q.drew.drew) bp; have A0 := A.1; have A1 := A.2; have B0 := B.1; have B1 := B.2; have P0 := P.1; have P1 := P.2; have Q0 := Q.1; have Q1 := Q.2; have Ylt := Nat.lt_of_lt_of_le (by exact Ylt) bp.size; have Zlt := Nat.lt_of_lt_of_le (by exact Zlt) bp.size; have BL := (by first | exact BL.trans (bp.mono BL.size) | exact BL.drew.trans (bp.mono BL.size) | exact BL.drew.drew.trans (bp.mono BL.size))))
        all_goals
          (try clear A0 A1 B0 B1 P0 P1 Q0 Q1 Al Bl Pl Ql)
          obtain ⟨A0, A1⟩ := id A
          have Al := World.block_lt_of_cell? _ _ A0
          obtain ⟨B0, B1⟩ := id B
          have Bl := World.block_lt_of_cell? _ _ B0
          obtain ⟨P0, P1⟩ := id P
          have Pl := World.block_lt_of_cell? _ _ P0
          obtain ⟨Q0, Q1⟩ := id Q
          have Ql := World.block_lt_of_cell? _ _ Q0
          go_wp2
          go_region_held3 (fun w' => w'.cell? ⟨vz.heap.size, 0, none⟩ = some (.int .i64 mb) ∧ w'.cell? ⟨vz.heap.size, 1, none⟩ = some (.slice b lenb capb) ∧ w'.cell? ⟨w5.heap.size, 0, none⟩ = some (.int .i64 mb) ∧ w'.cell? ⟨w5.heap.size, 1, none⟩ = some (.slice (some ⟨ZB, 0, none⟩) lenb lenb)) (first | go_keep | exact ⟨B0, B1, Q0, Q1⟩)
            (first | (go_at_call 11; refine (toCnf_any _ _ _ _ _ _ _ _ _ (by first | exact Db | exact Db.drew | exact Db.drew.drew) (unhide Fb).1 (fun i hi => ((unhide Fb).2 i hi).1)).mono ?_; rintro e wq ⟨Bq, bsq, rfl, leq, ltq, Xq, bq⟩; have Da := RwsAt.later (by first | exact Da | exact Da.drew | exact Da.drew.drew) bq; have Db := RwsAt.later (by first | exact Db | exact Db.drew | exact Db.drew.drew) bq; have Y := Cop.later (by first | exact Y | exact Y.drew | exact Y.drew.drew) bq; have Z := Cop.later (by first | exact Z | exact Z.drew | exact Z.drew.drew) bq; have A := Box.later (by first | exact A | exact A.drew | exact A.drew.drew) bq; have B := Box.later (by first | exact B | exact B.drew | exact B.drew.drew) bq; have P := Box.later (by first | exact P | exact P.drew | exact P.drew.drew) bq; have Q := Box.later (by first | exact Q | exact Q.drew | exact Q.drew.drew) bq; have A0 := A.1; have A1 := A.2; have B0 := B.1; have B1 := B.2; have P0 := P.1; have P1 := P.2; have Q0 := Q.1; have Q1 := Q.2; have Ylt := Nat.lt_of_lt_of_le (by exact Ylt) bq.size; have Zlt := Nat.lt_of_lt_of_le (by exact Zlt) bq.size; have BL := (by first | exact BL.trans (bq.mono BL.size) | exact BL.drew.trans (bq.mono BL.size) | exact BL.drew.drew.trans (bq.mono BL.size))) | (go_at_call 13; refine (eqCnf_same _ _ _ _ _ _ _ _ _ _ _ _ _ (by exact Zlt) (by exact ltq) (Cop.rws (by first | exact Z | exact Z.drew | exact Z.drew.drew)) (Cop.rws (by first | exact Xq | exact Xq.drew | exact Xq.drew.drew)) (unhide Fb).1 (fun i hi => ((unhide Fb).2 i hi).1)).mono ?_; rintro e wp ⟨rfl, bp⟩; have Da := RwsAt.later (by first | exact Da | exact Da.drew | exact Da.drew.drew) bp; have Db := RwsAt.later (by first | exact Db | exact Db.drew | exact Db.drew.drew) bp; have Y := Cop.later (by first | exact Y | exact Y.drew | exact Y.drew.drew) bp; have Z := Cop.later (by first | exact Z | exact Z.drew | exact Z.drew.drew) bp; have A := Box.later (by first | exact A | exact A.drew | exact A.drew.drew) bp; have B := Box.later (by first | exact B | exact B.drew | exact B.drew.drew) bp; have P := Box.later (by first | exact P | exact P.drew | exact P.drew.drew) bp; have Q := Box.later (by first | exact Q | exact Q.drew | exact Q.drew.drew) bp; have A0 := A.1; have A1 := A.2; have B0 := B.1; have B1 := B.2; have P0 := P.1; have P1 := P.2; have Q0 := Q.1; have Q1 := Q.2; have Ylt := Nat.lt_of_lt_of_le (by exact Ylt) bp.size; have Zlt := Nat.lt_of_lt_of_le (by exact Zlt) bp.size; have BL := (by first | exact BL.trans (bp.mono BL.size) | exact BL.drew.trans (bp.mono BL.size) | exact BL.drew.drew.trans (bp.mono BL.size))))
          all_goals go_wp2
          all_goals go_ret
          all_goals exact ⟨rfl, (by first | exact BL | exact BL.drew)⟩
    · go_wp2
      go_ret
      exact ⟨rfl, BL⟩
  · go_wp2
    go_ret
    exact ⟨rfl, BL⟩

set_option maxRecDepth 100000 in
theorem lifted (os : Os) (started : os.Started) (H : Type) (enc : TypeId × Value → H) :
    ReturnsInHanded {} Try.checked os 4 .any (Rows.fnExactCnfSameSpec.pre6 enc Try.prog Try.f4 Rows.fnExactCnfSameRow.domain false) (Rows.fnExactCnfSameSpec.post enc Try.prog Try.f4 false true false false) := by
  refine returnsInHanded_of_change (C := Try.checked) own started (by kernel_rfl) Try.func4
    (ChangeSpec.witness6 (enc := enc) (C := Try.checked) false ⟨#[], #[.agg #[.int .i64 0, .slice none 0 0], .agg #[.int .i64 0, .slice none 0 0]], []⟩ 8 (by kernel_rfl) (by kernel_rfl) (by kernel_rfl) (by kernel_rfl)) ?_
  intro W base args ds gs before hval0 hW hcnd _
  have hval : ∀ (j : Nat) t v, Try.f4.params[j]? = some t → args[j]? = some v → Value.okWide Try.prog W .any base t v := hval0
  have hW' := hW
  obtain ⟨p, q, hA0, hV, rfl, hfz, hnd⟩ := hW
  have hA : DataW.TrodAll enc Try.prog W 0 (fun _ => true) true Try.f4.params.toList args.toList ds p := hA0
  rw [Try.params4] at hA hval
  obtain ⟨v0, vs0, d0, ds0, p0, q0, hargs, rfl, rfl, h0, r0⟩ := trodAll_cons hA
  obtain ⟨v1, vs1, d1, ds1, p1, q1, rfl, rfl, rfl, h1, r1⟩ := trodAll_cons r0
  obtain ⟨rfl, rfl, rfl⟩ := trodAll_nil r1
  obtain rfl : args = #[v0, v1] := by cases args; simp_all
  obtain ⟨rfl, rfl⟩ := trodVars_none hV
  have k0 := h0
  have lt0 : ∀ x ∈ p0, x.block < W.heap.size := by obtain ⟨m, hm⟩ := k0; exact DataW.trod_lt m _ _ _ hm
  obtain ⟨ma, a, lena, capa, Aa, La, Ca, Va, rfl, wma, lca, lna, hda, hwa⟩ := cnf_in (hval 0 24 v0 rfl rfl) h0
  have k1 := h1
  have lt1 : ∀ x ∈ p1, x.block < W.heap.size := by obtain ⟨m, hm⟩ := k1; exact DataW.trod_lt m _ _ _ hm
  obtain ⟨mb, b, lenb, capb, Ab, Lb, Cb, Vb, rfl, wmb, lcb, lnb, hdb, hwb⟩ := cnf_in (hval 1 24 v1 rfl rfl) h1
  clear hA0 hval0
  refine (walk ma a lena capa Aa La Ca Va mb b lenb capb Ab Lb Cb Vb W wma lca lna hda hwa wmb lcb lnb hdb hwb).mono fun e W' ⟨he, bel⟩ => ?_
  subst he
  exact ⟨_, rfl, _, _, _, [], _, [], hW', trodAll_mk1 (shut_bool Try.underlying4 _), (trodAll_cons_mk (Below.trod laidOut (by kernel_rfl) (of_decide_eq_true (by kernel_rfl)) k0 bel lt0) (trodAll_cons_mk (Below.trod laidOut (by kernel_rfl) (of_decide_eq_true (by kernel_rfl)) k1 bel lt1) trodAll_mk0)), rfl, bel.frame _, fun h => by cases h⟩

theorem over : Rows.fnExactCnfSameRow.holds Try.pinned (OpenSpec.ofChange Rows.fnExactCnfSameSpec) :=
  OpenClaim.holds_of_wide 4 Try.f4 rfl rfl rfl rfl rfl rfl rfl ⟨rfl, rfl, rfl, rfl, rfl⟩ rfl rfl rfl rfl rfl (by kernel_rfl) Try.func4 (by kernel_rfl)
    (of_decide_eq_true (by kernel_rfl)) (by unfold Func.isWrapper; first | (rw [if_pos (by decide +kernel)]; kernel_rfl) | (rw [if_neg (by decide +kernel)]; exact ⟨rfl, rfl⟩))
    (fun os started H enc _ => lifted os started H enc)
end exSme

theorem exSme_holds : Rows.FnExactCnfSameSaid := exSme.over
#print axioms exSme_holds
end Go.Proofs.Ytndebifmimbeaaa
