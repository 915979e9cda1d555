/- At every argument the program's BitsCmp answers as the model's: the law FnExactBitsCmp returns true for every net, every question and any two lists of marks, right or not, leaves them as they were, and what is handed back is memory of its own. Conditions: none beyond the given card's; the package's two errors read as the program's text lays them, which the card ties. (The law itself answers true where a list or the net has more than 1048576 entries.) -/
import Derived.Test.YtnjjobompjoigaaDoorExBcp
import Derived.Test.YtnjjobompjoigaaDoorTie
import Derived.Test.YtnjjobompjoigaaDoorCards
import Derived.SevenTiedAt
import Derived.LaidMore
import Derived.LaidOnce
import Derived.OpenShut
import Derived.Stop.Joined
import Derived.Stop.LaidTwo
namespace Go.Proofs.YtnjjobompjoigaaDoor
open Go.ChangeShapes Go.WideShapes Go.ChangeAt Go.RowKit Go.Joins
open Go.ChangeMaps (open_string shut_string)
set_option linter.unusedVariables false
set_option maxRecDepth 100000
theorem gF : Tryd.prog.globalNamed "loop.example/seedlip/impl.errBitsForm" = some 0 := by kernel_rfl
theorem gR : Tryd.prog.globalNamed "loop.example/seedlip/impl.errBitsRoom" = some 1 := by kernel_rfl
theorem tF : (Tryd.prog.globals[0]?).map (·.type) = some 68 := by kernel_rfl
theorem tR : (Tryd.prog.globals[1]?).map (·.type) = some 68 := by kernel_rfl
theorem cellsE : Tryd.prog.cellsOf 142 = 1 := by kernel_rfl
theorem cellsS : Tryd.prog.cellsOf 9 = 1 := by kernel_rfl
theorem starE : "*" ++ "errors.errorString" = "*errors.errorString" := by decide
theorem rowE (u : TypeId) (h : Tryd.prog.typeName? 3 u = some "*errors.errorString") : u = 114 :=
  typeName_ptr_named (nm := "errors.errorString") (by rw [starE]; kernel_rfl) (by kernel_rfl) (by decide) u (by rw [starE]; exact h)
def laid2 : List (String × DataW Unit) := [("loop.example/seedlip/impl.errBitsForm", Rows.laid_loop_example_seedlip_impl_errBitsForm), ("loop.example/seedlip/impl.errBitsRoom", Rows.laid_loop_example_seedlip_impl_errBitsRoom)]
theorem door_met (os : Os) (args : Array Value) : laidMetH Tryd.prog laid2 ((World.doorLaid Tryd.prog 400 os).forCall (fun _ _ => 0) ⟨#[], args, []⟩).memory :=
  laidMetH_of_parts3 (fuel := 8) (laidMet_of_run' 8 (by kernel_rfl) (by kernel_rfl)) (by kernel_rfl) (by kernel_rfl)
theorem var_bel {W W' : World} {n : String} {cs : Array Value} (h : W.var? Tryd.prog n = some cs) (hb : Below W.heap.size W W') : W'.var? Tryd.prog n = some cs := by
  unfold World.var? at h ⊢
  cases hg : Tryd.prog.globalNamed n with
  | none => simp [hg] at h
  | some g =>
    simp only [hg, Option.bind_some] at h ⊢
    have hlt : g < W.heap.size := by
      rcases Nat.lt_or_ge g W.heap.size with h' | h'
      · exact h'
      · simp [Array.getElem?_eq_none h'] at h
    rw [hb.block g hlt]
    exact h

namespace exBcp
set_option maxRecDepth 100000 in
theorem lifted (os : Os) (started : os.Started) (H : Type) (enc : TypeId × Value → H) :
    ReturnsInHanded {} Tryd.checked os 3 .any (fun w args => (Rows.fnExactBitsCmpSpec.pre enc Tryd.prog Tryd.f3 [] false w args ∧ laidMetH Tryd.prog laid2 w) ∧ sizedMet enc Tryd.prog Tryd.f3 (OpenSpec.ofChange Rows.fnExactBitsCmpSpec) false w args) (Rows.fnExactBitsCmpSpec.post enc Tryd.prog Tryd.f3 false true false false) := by
  refine returnsInHanded_of_change_and (C := Tryd.checked) (X := fun w _ => laidMetH Tryd.prog laid2 w) (fun _ _ _ hh h => h.of_heap hh) own started (by kernel_rfl) Tryd.func3
    (ChangeSpec.witness_shaped (enc := enc) (C := Tryd.checked) (os := os) (X := fun w _ => laidMetH Tryd.prog laid2 w) false (World.doorLaid Tryd.prog 400 os) #[.agg #[.int .i64 0, .slice none 0 0], .int .i64 0, .slice none 0 0, .slice none 0 0] 8 rfl (World.shaped_of_RefB (by kernel_rfl) (by kernel_rfl)) (by kernel_rfl) (by kernel_rfl) (by kernel_rfl) (door_met os _)) ?_
  intro W base args ds gs before hval0 hW _ _ hL _
  have hval : ∀ (j : Nat) t v, Tryd.f3.params[j]? = some t → args[j]? = some v → Value.okWide Tryd.prog W .any base t v := hval0
  have hW' := hW
  obtain ⟨p, q, hA0, hV0, rfl, hfz, hnd⟩ := hW
  have hA : DataW.TrodAll enc Tryd.prog W 0 (fun _ => true) true Tryd.f3.params.toList args.toList ds p := hA0
  rw [Tryd.params3] at hA hval
  obtain ⟨v0, vs0, d0, ds0, p0, q0, hargs, rfl, rfl, h0, r0⟩ := trodAll_cons hA
  obtain ⟨v1, vs1, d1, ds1, p1, q1, rfl, rfl, rfl, h1, r1⟩ := trodAll_cons r0
  obtain ⟨v2, vs2, d2, ds2, p2, q2, rfl, rfl, rfl, h2, r2⟩ := trodAll_cons r1
  obtain ⟨v3, vs3, d3, ds3, p3, q3, rfl, rfl, rfl, h3, r3⟩ := trodAll_cons r2
  obtain ⟨rfl, rfl, rfl⟩ := trodAll_nil r3
  obtain rfl : args = #[v0, v1, v2, v3] := by cases args; simp_all
  have hV : DataW.TrodVars enc Tryd.prog W (fun _ => true) ["loop.example/seedlip/impl.errBitsForm", "loop.example/seedlip/impl.errBitsRoom"] gs q := hV0
  rw [MakeChecks.laidMetH_plain _ _ _ (by kernel_rfl)] at hL
  obtain ⟨aF, aR, s0, s1, c0, c1, t0, t1, hv0, hv1, hc0, hs0, hz0, hc1, hs1, hz1, hne, hb0, hb1⟩ := laid_sentinels2 hL gF tF gR tR Tryd.underlying68 rowE Tryd.underlying114 Tryd.underlying142 rfl rfl Tryd.underlying9 cellsE cellsS
  have vr : ∀ {X : World}, X.var? Tryd.prog "loop.example/seedlip/impl.errBitsForm" = some #[.iface 114 (.pointer (some aF))] → X.var? Tryd.prog "loop.example/seedlip/impl.errBitsRoom" = some #[.iface 114 (.pointer (some aR))] → ∀ sp : Nat → Bool,
      DataW.TrodVars enc Tryd.prog X sp ["loop.example/seedlip/impl.errBitsForm", "loop.example/seedlip/impl.errBitsRoom"] [tok enc (.iface 114 (.pointer (some aF))), tok enc (.iface 114 (.pointer (some aR)))] [.cell 0 0, .cell 1 0] :=
    fun x0 x1 sp => vars_read2 enc gF tF Tryd.underlying68 x0 trivial gR tR Tryd.underlying68 x1 trivial sp
  obtain ⟨rfl, rfl⟩ := hV.unique (vr hv0 hv1 _)
  have hg0 : W.cell? ⟨0, 0, none⟩ = some (.iface 114 (.pointer (some aF))) := by simpa using World.var?_cell gF hv0 0
  have hg1 : W.cell? ⟨1, 0, none⟩ = some (.iface 114 (.pointer (some aR))) := by simpa using World.var?_cell gR hv1 0
  have hSent : Sent W 2 aF aR := ⟨hg0, hg1, by omega⟩
  have hs2 : 2 ≤ W.heap.size := by have := World.block_lt_of_cell? _ _ hg1; simp only at this; omega
  have k0 := h0
  have lt0 : ∀ x ∈ p0, x.block < W.heap.size := by obtain ⟨m, hm⟩ := k0; exact DataW.trod_lt m _ _ _ hm
  obtain ⟨mc, c, lenc, capc, Gc, rfl, wmc, lcc, lnc, hdc, hwc⟩ := net_in (hval 0 24 v0 rfl rfl) h0
  obtain ⟨a, rfl, rfl, rfl, wa⟩ := open_int Tryd.underlying3 (hval 1 3 v1 rfl rfl) h1
  obtain ⟨u, lenu, capu, rfl⟩ := okWide_slice Tryd.underlying25 (hval 2 25 v2 rfl rfl)
  have k2 := h2
  have lt2 : ∀ x ∈ p2, x.block < W.heap.size := by obtain ⟨m, hm⟩ := k2; exact DataW.trod_lt m _ _ _ hm
  obtain ⟨lcu, lnu, Vu, hdu, hwu⟩ := ints_in64 h2
  obtain ⟨v, lenv, capv, rfl⟩ := okWide_slice Tryd.underlying25 (hval 3 25 v3 rfl rfl)
  have k3 := h3
  have lt3 : ∀ x ∈ p3, x.block < W.heap.size := by obtain ⟨m, hm⟩ := k3; exact DataW.trod_lt m _ _ _ hm
  obtain ⟨lcv, lnv, Vv, hdv, hwv⟩ := ints_in64 h3
  clear hA0 hV0 hval0
  refine (walk mc c lenc capc Gc a u lenu capu Vu v lenv capv Vv aF aR W hSent hs2 wmc lcc lnc hdc hwc wa hdu lcu lnu hwu hdv lcv lnv hwv).mono fun e W' ⟨he, bel⟩ => ?_
  subst he
  exact ⟨_, rfl, _, _, _, [], _, [.cell 0 0, .cell 1 0], hW', trodAll_mk1 (shut_bool Tryd.underlying4 _), (trodAll_cons_mk (Below.trod laidOut (by kernel_rfl) (of_decide_eq_true (by kernel_rfl)) k0 bel lt0) (trodAll_cons_mk (shut_int Tryd.underlying3 wa) (trodAll_cons_mk (Below.trod laidOut (by kernel_rfl) (of_decide_eq_true (by kernel_rfl)) k2 bel lt2) (trodAll_cons_mk (Below.trod laidOut (by kernel_rfl) (of_decide_eq_true (by kernel_rfl)) k3 bel lt3) trodAll_mk0)))), vr (var_bel hv0 bel) (var_bel hv1 bel) _, bel.frame _, fun h => by cases h⟩


theorem over : Rows.fnExactBitsCmpRow.holds Tryd.pinned (OpenSpec.ofChange Rows.fnExactBitsCmpSpec) :=
  OpenClaim.holds_of_wide 3 Tryd.f3 rfl rfl rfl rfl rfl rfl rfl ⟨rfl, rfl, rfl, rfl, rfl⟩ rfl rfl rfl rfl rfl (by kernel_rfl) Tryd.func3 (by kernel_rfl)
    (of_decide_eq_true (by kernel_rfl)) (by unfold Func.isWrapper; first | (rw [if_pos (by decide +kernel)]; kernel_rfl) | (rw [if_neg (by decide +kernel)]; exact ⟨rfl, rfl⟩))
    (fun os started H enc _ => lifted os started H enc)
end exBcp

theorem exBcp_holds : Rows.FnExactBitsCmpCardSaid :=
  Claim7.holds_tied_plain_at .later [] [.sentinel, .sentinel] true _ _
    exBcp.over (fun _ h => by cases h) (by kernel_rfl) (fun _ h => by cases h) fnExactBitsCmp_row_tie rfl ⟨rfl, rfl⟩ (by kernel_rfl) rfl
    (fun f fn hf hfn => by
      obtain rfl : f = 3 := Option.some.inj ((show Tryd.prog.funcNamed "loop.example/seedlip/laws.FnExactBitsCmp" = some 3 by kernel_rfl).symm.trans hf) |>.symm
      obtain rfl : fn = Tryd.f3 := (Option.some.inj (Tryd.func3.symm.trans hfn)).symm
      exact ⟨by kernel_rfl, fun j t ht => by
        rw [Tryd.params3] at ht
        have hm : t ∈ [24, 3, 25, 25] := by simpa using Array.mem_of_getElem? ht
        have hall : ([24, 3, 25, 25].all fun u => !Tryd.prog.wantsStandIn u) = true := by kernel_rfl
        exact (show Tryd.prog.wantsStandIn t = false by simpa using List.all_eq_true.1 hall t hm)⟩)
    (by kernel_rfl)
#print axioms exBcp_holds
end Go.Proofs.YtnjjobompjoigaaDoor
