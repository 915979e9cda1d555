/- What the program's TermMany returns. -/
import Derived.Test.YtfopmobopmdahaaGreatTrmB
namespace Go.Proofs.YtfopmobopmdahaaGreat
open Go.ChangeShapes Go.WideShapes Go.ChangeAt Go.RowKit Go.Joins
set_option linter.unusedVariables false

theorem Five.lt {w : World} {bl o : Nat} {t : TT} {ad : Option Addr} {cp : Nat} (h : Five w bl o t ad cp) : bl < w.heap.size := World.block_lt_of_cell? _ _ h.1
theorem Five.later {w w' : World} {bl o : Nat} {t : TT} {ad : Option Addr} {cp : Nat} (h : Five w bl o t ad cp) (hb : Below w.heap.size w w') : Five w' bl o t ad cp := h.keep (fun o => hb.cell (p := ⟨bl, o, none⟩) h.lt)
set_option maxRecDepth 100000 in
set_option maxHeartbeats 4000000 in
theorem iMany_any (hi : Nat) (t : TT) (ad : Option Addr) (cp : Nat) (w : World) (hin : t.In w 0 hi ad) (hft : t.Fit 1048576) (hhi : hi ≤ w.heap.size) :
    Calls Tryz.prog 87 #[.agg #[.int .i64 t.op, .int .i64 t.a, .int .i64 t.b, .string t.s, .slice ad t.n cp]] w fun e w' => e = .returned (manyV t.N t.D) ∧ Below w.heap.size w w' := by
  have hdp := (TT.D_pos hin).1
  have HI := hide hin
  clear hin
  go_enter Tryz.func87, Tryz.ntmps87
  go_wp2_with fail
  have e1 : Below w.heap.size w ((w.alloc (.cells #[.int .i64 t.op, .int .i64 t.a, .int .i64 t.b, .string t.s, .slice ad t.n cp] 50)).alloc (.cells #[.int .i64 0, .int .i64 0] 124)) := ((Below.refl w.heap.size w).alloc (by simp <;> omega) _).alloc (by simp <;> omega) _
  refine (add_any hi t ad cp (w.heap.size + 1) 0 0 1 _ ((unhide HI).later (e1.mono hhi)) hft (by omega) (by simp) (by omega) (by omega) (by omega) (by omega) (by simp [go_sem]) (by simp [go_sem]) (by simp [go_sem]) (by simp [go_sem])).mono ?_
  rintro e w1 ⟨⟨h1, h2, rfl, c0, c1, _, _⟩ | ⟨hno, rfl⟩, s1, b1⟩
  · have BL := e1.trans (b1.mono (by omega))
    have HV : Hid (manyV t.N t.D = .tuple #[.int .i64 (t.N : Int), .int .i64 (t.D : Int)]) := manyV_yes ⟨by omega, by omega⟩
    rw [show ((0 + t.N : Nat) : Int) = (t.N : Int) from by omega] at c0
    rw [show ((max 0 (1 + t.D - 1) : Nat) : Int) = (t.D : Int) from by omega] at c1
    go_wp2
    go_region
    all_goals go_wp2
    all_goals exact bodyPost_ret (v := .tuple #[.int .i64 (t.N : Int), .int .i64 (t.D : Int)]) (by simp [results, Tryz.results87, go_sem]) rfl ⟨by rw [unhide HV], by first | exact BL | exact BL.drew⟩
  · have BL := e1.trans (b1.mono (by omega))
    have HV : Hid (manyV t.N t.D = .tuple #[.int .i64 21, .int .i64 8]) := manyV_no (by omega)
    clear hno
    go_wp2
    exact bodyPost_ret (v := .tuple #[.int .i64 21, .int .i64 8]) (by simp [results, Tryz.results87, go_sem]) rfl ⟨by rw [unhide HV], BL⟩
end Go.Proofs.YtfopmobopmdahaaGreat
