/- Multiplexers are right: the law FnBitsIf returns true for every two codes of bytes, and leaves them as they were. Conditions: none beyond the given card's; the package's two errors read as the program's text lays them, which the card ties. (The law itself answers true where a code is longer than 1048576 bytes.) -/
import Derived.Test.YtmpiiilkaadhfaaDoorNltA
import Derived.Test.YtmpiiilkaadhfaaDoorRd
import Derived.Test.YtmpiiilkaadhfaaDoorBtQ
import Derived.Test.YtmpiiilkaadhfaaDoorBtR
import Derived.Test.YtmpiiilkaadhfaaDoorBkZc
import Derived.Test.YtmpiiilkaadhfaaDoorBkV
import Derived.Test.YtmpiiilkaadhfaaDoorTie
import Derived.Test.YtmpiiilkaadhfaaDoorCards
import Derived.SevenTiedAt
import Derived.LaidMore
import Derived.LaidOnce
import Derived.OpenShut
import Derived.Stop.Joined
import Derived.Stop.LaidTwo
namespace Go.Proofs.YtmpiiilkaadhfaaDoor
open Go.ChangeShapes Go.WideShapes Go.ChangeAt Go.RowKit Go.Joins
open Go.ChangeMaps (open_string shut_string)
set_option linter.unusedVariables false
set_option maxRecDepth 100000
def b01 (b : Bool) : Int := if b then 1 else 0
/-- The number of so many bits from a place on. -/
def upI (f : Nat → Bool) : Nat → Nat → Int
  | _, 0 => 0
  | s, m + 1 => upI f (s + 1) m * 2 + b01 (f s)
theorem upI_last (f : Nat → Bool) (m : Nat) : ∀ s, upI f s (m + 1) = upI f s m + b01 (f (s + m)) * 2 ^ m := by
  induction m with
  | zero => intro s; simp [upI]
  | succ m ih =>
    intro s
    have e : upI f s (m + 1 + 1) = upI f (s + 1) (m + 1) * 2 + b01 (f s) := rfl
    have e' : upI f s (m + 1) = upI f (s + 1) m * 2 + b01 (f s) := rfl
    rw [e, ih, e', show s + 1 + m = s + (m + 1) by omega, Int.pow_succ]
    generalize b01 (f (s + (m + 1))) = x
    generalize (2 : Int) ^ m = y
    rw [Int.add_mul, Int.mul_assoc, ← Int.mul_assoc x y 2]
    omega
theorem b01_bd (b : Bool) : 0 ≤ b01 b ∧ b01 b ≤ 1 := by cases b <;> decide
theorem upI_bd (f : Nat → Bool) (m : Nat) : ∀ s, 0 ≤ upI f s m ∧ upI f s m < 2 ^ m := by
  induction m with
  | zero => intro s; simp [upI]
  | succ m ih =>
    intro s
    have h := ih (s + 1)
    have hb := b01_bd (f s)
    show 0 ≤ upI f (s + 1) m * 2 + b01 (f s) ∧ upI f (s + 1) m * 2 + b01 (f s) < _
    rw [Int.pow_succ]
    omega
theorem upI_small {f : Nat → Bool} {s m : Nat} (h : m ≤ 4) : 0 ≤ upI f s m ∧ upI f s m ≤ 16 := by
  have h1 := upI_bd f m s
  have : m = 0 ∨ m = 1 ∨ m = 2 ∨ m = 3 ∨ m = 4 := by omega
  rcases this with rfl | rfl | rfl | rfl | rfl <;> (simp at h1 ⊢ <;> omega)
def bvI (l : Nat) (V : Nat → Int) (n : Nat) (B : Nat → Bool) : Int := if l ≤ 4 then upI (fun i => metB (V i) n B) 0 l else 0
theorem bvI_yes {l : Nat} {V : Nat → Int} {n : Nat} {B : Nat → Bool} (h : l ≤ 4) : bvI l V n B = upI (fun i => metB (V i) n B) 0 l := if_pos h
theorem bvI_no {l : Nat} {V : Nat → Int} {n : Nat} {B : Nat → Bool} (h : ¬ l ≤ 4) : bvI l V n B = 0 := if_neg h
theorem pow_ways {k : Nat} (h : k < 4) : ((2 : Int) ^ k = 1 ∧ k = 0) ∨ ((2 : Int) ^ k = 2 ∧ k = 1) ∨ ((2 : Int) ^ k = 4 ∧ k = 2) ∨ ((2 : Int) ^ k = 8 ∧ k = 3) := by
  have : k = 0 ∨ k = 1 ∨ k = 2 ∨ k = 3 := by omega
  rcases this with rfl | rfl | rfl | rfl <;> simp
set_option maxRecDepth 100000 in
set_option maxHeartbeats 2000000 in
theorem iBitsVal_any (a : Option Addr) (l cap : Nat) (V : Nat → Int) (c : Option Addr) (n cap' : Nat) (B : Nat → Bool) (w : World) (hd : IntsAt w a l V) (hl : l ≤ 1048576) (hW : ∀ i, i < l → W64 (V i)) (he : BlsAt w c n B) (hn : n ≤ 1048576) :
    Calls Tryd.prog 13 #[.slice c n cap', .slice a l cap] w fun e w' => e = .returned (.int .i64 (bvI l V n B)) ∧ w' = w := by
  by_cases h4 : l ≤ 4
  · rw [bvI_yes h4]
    have HD := hide hd
    have HE := hide he
    have HW := hide hW
    clear hd he hW
    generalize hf : (fun i => metB (V i) n B) = f
    have HF : Hid (∀ i, metB (V i) n B = f i) := fun i => by rw [← hf]
    clear hf
    go_enter Tryd.func13, Tryd.ntmps13
    go_wp2
    go_loopw [13, 5] (fun i s wr => ∃ r : Nat, r ≤ l ∧ i = .int .i64 (r : Int) ∧ s = .int .i64 (upI f 0 r) ∧ wr = w) (fun i _ _ => l - (intOf i).toNat)
    case atStart => exact ⟨0, by omega, by simp, by simp [upI], rfl⟩
    case round =>
      obtain ⟨r, hr, rfl, rfl, rfl⟩ := hrel
      have hbd := upI_small (f := f) (s := 0) (m := r) (by omega)
      by_cases hlt : r < l
      · obtain ⟨b, off, rfl, hb, hd⟩ := (unhide HD).ok (show r < l by omega)
        have d0 := hd r (by omega)
        have hw := unhide HW r (by omega)
        have hfp := unhide HF r
        have HU : Hid (upI f 0 (r + 1) = upI f 0 r + b01 (f r) * 2 ^ r) := by
          have := upI_last f r 0
          rw [Nat.zero_add] at this; exact this
        clear hd
        generalize upI f 0 r = y at *
        generalize V r = v at *
        have HQ := hide hfp
        clear hfp
        go_wp2_with fail
        refine (iNetLit_any _ _ _ _ _ _ hw (unhide HE) hn).mono ?_
        rintro e w1 ⟨rfl, rfl⟩
        rw [unhide HQ]
        cases hq : f r
        · rw [hq] at HU
          go_wp2
          go_roundw
          case rel =>
            refine ⟨r + 1, by omega, by go_num, ?_, trivial⟩
            rw [unhide HU]; exact congrArg (Value.int .i64) (by simp [b01])
          case measure => simp [intOf]; omega
        · rw [hq] at HU
          rcases pow_ways (show r < 4 by omega) with ⟨e1, er⟩ | ⟨e1, er⟩ | ⟨e1, er⟩ | ⟨e1, er⟩
          all_goals
            rw [e1] at HU
            clear e1
            go_wp2
            go_roundw
            case rel =>
              refine ⟨r + 1, ?_, by go_num, ?_, trivial⟩
              · omega
              · rw [unhide HU]; exact congrArg (Value.int .i64) (by simp [b01])
            case measure => simp [intOf]; omega
      · have e : r = l := by omega
        subst e
        go_wp2
        go_ret
        exact ⟨rfl, rfl⟩
  · rw [bvI_no h4]
    clear hd he hW
    go_enter Tryd.func13, Tryd.ntmps13
    go_wp2
    go_ret
    exact ⟨rfl, rfl⟩
theorem laidOut : laidOutB Tryd.prog = true := by kernel_rfl

/-- A slice of integers that came in: it is nil, or it leads to a row of cells. -/
def IsRow (k : IntKind) (w : World) (a : Option Addr) (len cap : Nat) (zs : List Int) : Prop :=
  (a = none ∧ len = 0 ∧ cap = 0 ∧ zs = []) ∨
  ∃ x, a = some x ∧ len ≤ cap ∧ cap ≤ maxLen ∧ zs.length = cap ∧ (∀ i, i < zs.length → w.cell? (x.add i) = some (.int k (zs.getD i 0))) ∧ ∀ n ∈ zs, (Lit.int k n).wf = true
theorem IsRow.byts {w : World} {a : Option Addr} {len cap : Nat} {zs : List Int} (h : IsRow .u8 w a len cap zs) : Byts w w.heap.size a len ∧ len ≤ cap ∧ cap ≤ maxLen := by
  rcases h with ⟨rfl, rfl, rfl, _⟩ | ⟨x, rfl, h1, h2, h3, hc, hw⟩
  · exact ⟨Or.inl rfl, Nat.le_refl _, by unfold maxLen; omega⟩
  · refine ⟨?_, h1, h2⟩
    by_cases h0 : len = 0
    · exact Or.inl h0
    · obtain ⟨b, off, rfl, hc'⟩ := ints_at hc (by omega)
      refine Or.inr ⟨b, off, rfl, World.block_lt_of_cell? _ _ (hc' 0 (by omega)), fun i hi => ?_⟩
      have hi' : i < zs.length := by omega
      have hm : zs.getD i 0 ∈ zs := by simp [List.getD, hi']
      have hci := hc' i hi'
      generalize zs.getD i 0 = z at hm hci
      have hz := hw z hm
      simp [Lit.wf, IntKind.min, IntKind.max, IntKind.signed, IntKind.bits] at hz
      exact ⟨z, by omega, by omega, hci⟩
theorem Sent.later {w w' : World} {base : Nat} {aF aR : Addr} (h : Sent w base aF aR) (hb : Below w.heap.size w w') : Sent w' base aF aR := ⟨cell_later hb h.f, cell_later hb h.r, h.b⟩
theorem upI_cong {f g : Nat → Bool} {s : Nat} : ∀ {m : Nat}, (∀ i, i < m → f (s + i) = g (s + i)) → upI f s m = upI g s m
  | 0, _ => rfl
  | m + 1, h => by rw [upI_last, upI_last, upI_cong (fun i hi => h i (by omega)), h m (by omega)]
theorem ifBR_bdd (m : Int) (n : Nat) (G : Nat → Gt) (c : Int) (L M : List Int) : (ifBR m n G c L M).n ≤ 600 ∧ (ifBR m n G c L M).L.length ≤ 4 := by
  by_cases h : IfP m n G c L M
  · rw [ifBR_yes h]
    obtain ⟨h1, h2, h3, h4, h5⟩ := h
    have hk := mapK_good (f := fun t a b => oneK 1 t c a b) (kS_ok h1) (h2.mk (G := G) h1) (h3.mk (G := G) h1) (fun t a b q1 q2 q3 q4 => oneK_good (z := 1) (by omega) q1 ((kS_mk h1 h5).le q2) q3 q4) L.length (Nat.le_refl _) (by omega)
    refine ⟨brK_n hk.1, ?_⟩
    unfold brK
    split
    · show (mapK _ _ _ _ _).2.length ≤ 4
      rw [mapK_len]; exact h2.2.2
    · simp [nilB]
  · rw [ifBR_no h]; simp [nilB]
theorem if_bits {m : Int} {n : Nat} {G : Nat → Gt} {c : Int} {L M : List Int} {r : BR} (h : IfF m n G c L M r) (I : List Bool) (hI : (I.length : Int) = m) :
    bvI L.length (at0 r.L) (1 + I.length + r.n) (atB (outL I r.G r.n)) = if metB c (1 + I.length + r.n) (atB (outL I r.G r.n)) = true then bvI L.length (at0 L) (1 + I.length + r.n) (atB (outL I r.G r.n)) else bvI L.length (at0 M) (1 + I.length + r.n) (atB (outL I r.G r.n)) := by
  have h4 := h.len.2.2.2
  rw [bvI_yes h4, bvI_yes h4, bvI_yes h4]
  have hs := h.say I hI
  by_cases hc : metB c (1 + I.length + r.n) (atB (outL I r.G r.n)) = true
  · rw [if_pos hc]
    refine upI_cong (fun i hi => ?_)
    have := hs i hi
    rw [if_pos hc] at this
    simpa using this
  · rw [if_neg hc]
    refine upI_cong (fun i hi => ?_)
    have := hs i hi
    rw [if_neg hc] at this
    simpa using this
set_option linter.unusedSimpArgs false

namespace bIf
set_option maxRecDepth 100000 in
set_option maxHeartbeats 4000000 in
theorem walk (code : Option Addr) (lencode capcode : Nat) (zcode : List Int) (more : Option Addr) (lenmore capmore : Nat) (zmore : List Int) (aF aR : Addr) (w : World) (hS : Sent w 2 aF aR) (hsz : 2 ≤ w.heap.size) (wcode : IsRow .u8 w code lencode capcode zcode) (wmore : IsRow .u8 w more lenmore capmore zmore) :
    Calls Tryd.prog 4 #[.slice code lencode capcode, .slice more lenmore capmore] w fun e w' => e = .returned (.bool true) ∧ Below w.heap.size w w' := by
  obtain ⟨hby, hlc, hcm⟩ := wcode.byts
  obtain ⟨hby2, _, _⟩ := wmore.byts
  by_cases hl0 : lencode ≤ 1048576
  · by_cases hl1 : lenmore ≤ 1048576
    · go_enter Tryd.func4, Tryd.ntmps4
      go_wp2_with fail
      refine (drawBitsIf_any _ _ _ _ hl0 hlc hcm hby).mono ?_
      rintro e w1 ⟨m, g, n, cap, G, c, gu, nu, cu, L, gv, nv, cv, M, rfl, ⟨m0, m9, n4⟩, ⟨Dn, gl, _, wg⟩, wc, ru, rv, BL⟩
      have S := hS.later BL
      have HBY := hide hby2
      have HWG := hide wg
      have Du : IntsAt w1 (some ⟨gu, 0, none⟩) nu (at0 L) := Or.inr ⟨_, _, rfl, ru.lt, ru.i⟩
      have Dv : IntsAt w1 (some ⟨gv, 0, none⟩) nv (at0 M) := Or.inr ⟨_, _, rfl, rv.lt, rv.i⟩
      have HUl := hide ru.l
      have HVl := hide rv.l
      have HUv := hide ru.v
      have HVv := hide rv.v
      have ub := ru.b
      have vb := rv.b
      have uc := ru.c
      have vc := rv.c
      have HWC := hide wc
      clear wcode hby wmore hby2 wg ru rv hS wc
      obtain ⟨r, hr⟩ : ∃ r, r = ifBR m n G c L M := ⟨_, rfl⟩
      have hrn := ifBR_bdd m n G c L M
      rw [← hr] at hrn
      have hrn1 : r.n ≤ 1048576 := by omega
      have HR := hide hr
      clear hr
      obtain ⟨ln, hln⟩ : ∃ l, l = r.L.length := ⟨_, rfl⟩
      rw [← hln] at hrn
      have hl2 : ln ≤ 1048576 := by omega
      have HLN := hide hln
      clear hln
      have nn : n ≤ 1048576 := by omega
      go_wp2_with fail
      obtain ⟨vE, hvE⟩ : ∃ v, v = w1.alloc (.cells #[.int .i64 m, .slice (some ⟨g, 0, none⟩) n cap] 25) := ⟨_, rfl⟩
      have bvE : Below w1.heap.size w1 vE := by rw [hvE]; exact (Below.refl _ _).alloc (Nat.le_refl _) _
      have E : NBox vE w1.heap.size m (some ⟨g, 0, none⟩) n cap := by rw [hvE]; exact NBox.new _ _ _ _ _ _
      rw [← hvE]
      clear hvE
      replace Dn := Dn.later bvE
      replace Du := Du.later bvE
      replace Dv := Dv.later bvE
      replace S := S.later bvE
      replace gl := Nat.lt_of_lt_of_le gl bvE.size
      replace BL := BL.trans (bvE.mono BL.size)
      clear bvE
      refine (iBitsIf_cap m _ n _ G c _ nu _ L _ nv _ M 2 aF aR _ Dn (unhide HWG) ⟨_, rfl, rfl⟩ nn (unhide HWC) Du Dv (unhide HUl) (unhide HVl) (by omega) (by omega) (unhide HUv) (unhide HVv) S (by have := BL.size; omega)).mono ?_
      rintro e w2 ⟨⟨ax, cx, gx, cpx, rfl, ⟨K, _⟩, ⟨KI, _⟩, _, kc, ka⟩, b2⟩
      replace Dn := Dn.later b2
      replace Du := Du.later b2
      replace Dv := Dv.later b2
      replace S := S.later b2
      replace E := E.later b2
      replace gl := Nat.lt_of_lt_of_le gl b2.size
      replace BL := BL.trans (b2.mono BL.size)
      clear b2
      rw [← unhide HR] at K
      rw [← unhide HR] at KI
      rw [← unhide HR] at kc
      rw [← unhide HR] at ka
      (try rw [← unhide HR])
      (try rw [← unhide HLN])
      rw [← unhide HLN] at KI ka
      have HKC := hide kc
      have HKA := hide ka
      clear kc ka
      obtain ⟨E0, E1⟩ := id E
      have El := World.block_lt_of_cell? _ _ E0
      go_wp2_with fail
      clear E0 E1 El
      obtain ⟨vX, hvX⟩ : ∃ v, v = w2.alloc (.cells #[.int .i64 r.m, .slice ax r.n cx] 25) := ⟨_, rfl⟩
      have bvX : Below w2.heap.size w2 vX := by rw [hvX]; exact (Below.refl _ _).alloc (Nat.le_refl _) _
      have X : NBox vX w2.heap.size r.m ax r.n cx := by rw [hvX]; exact NBox.new _ _ _ _ _ _
      rw [← hvX]
      clear hvX
      replace Dn := Dn.later bvX
      replace Du := Du.later bvX
      replace Dv := Dv.later bvX
      replace S := S.later bvX
      replace K := K.later bvX
      replace KI := KI.later bvX
      replace E := E.later bvX
      replace gl := Nat.lt_of_lt_of_le gl bvX.size
      replace BL := BL.trans (bvX.mono BL.size)
      clear bvX
      refine (sBitsIf_any m _ n _ G c _ nu _ L _ nv _ M _ Dn (unhide HWG) (fun h => by cases h) (fun p h => by cases h; rfl) (fun p h => by cases h; exact gl) nn Du Dv (unhide HUl) (unhide HVl) (by omega) (by omega)).mono ?_
      rintro e w3 ⟨⟨az, cz, gz, cpz, rfl, ⟨W, _⟩, WI, _⟩, b3⟩
      replace Dn := Dn.later b3
      replace Du := Du.later b3
      replace Dv := Dv.later b3
      replace S := S.later b3
      replace K := K.later b3
      replace KI := KI.later b3
      replace E := E.later b3
      replace X := X.later b3
      replace gl := Nat.lt_of_lt_of_le gl b3.size
      replace BL := BL.trans (b3.mono BL.size)
      clear b3
      rw [← unhide HR] at W
      rw [← unhide HR] at WI
      (try rw [← unhide HR])
      (try rw [← unhide HLN])
      rw [← unhide HLN] at WI
      obtain ⟨E0, E1⟩ := id E
      have El := World.block_lt_of_cell? _ _ E0
      obtain ⟨X0, X1⟩ := id X
      have Xl := World.block_lt_of_cell? _ _ X0
      go_wp2_with fail
      clear E0 E1 El
      clear X0 X1 Xl
      obtain ⟨vZ, hvZ⟩ : ∃ v, v = w3.alloc (.cells #[.int .i64 r.m, .slice az r.n cz] 25) := ⟨_, rfl⟩
      have bvZ : Below w3.heap.size w3 vZ := by rw [hvZ]; exact (Below.refl _ _).alloc (Nat.le_refl _) _
      have Z : NBox vZ w3.heap.size r.m az r.n cz := by rw [hvZ]; exact NBox.new _ _ _ _ _ _
      rw [← hvZ]
      clear hvZ
      replace Dn := Dn.later bvZ
      replace Du := Du.later bvZ
      replace Dv := Dv.later bvZ
      replace S := S.later bvZ
      replace K := K.later bvZ
      replace KI := KI.later bvZ
      replace W := W.later bvZ
      replace WI := WI.later bvZ
      replace E := E.later bvZ
      replace X := X.later bvZ
      replace gl := Nat.lt_of_lt_of_le gl bvZ.size
      replace BL := BL.trans (bvZ.mono BL.size)
      clear bvZ
      refine (iNetSame_any _ _ _ _ _ _ _ _ _ _ _ K W hrn1 hrn1).mono ?_
      rintro e w4 ⟨rfl, b4⟩
      replace Dn := Dn.later b4
      replace Du := Du.later b4
      replace Dv := Dv.later b4
      replace S := S.later b4
      replace K := K.later b4
      replace KI := KI.later b4
      replace W := W.later b4
      replace WI := WI.later b4
      replace E := E.later b4
      replace X := X.later b4
      replace Z := Z.later b4
      replace gl := Nat.lt_of_lt_of_le gl b4.size
      replace BL := BL.trans (b4.mono BL.size)
      clear b4
      rw [nsB_refl]
      obtain ⟨E0, E1⟩ := id E
      have El := World.block_lt_of_cell? _ _ E0
      obtain ⟨X0, X1⟩ := id X
      have Xl := World.block_lt_of_cell? _ _ X0
      obtain ⟨Z0, Z1⟩ := id Z
      have Zl := World.block_lt_of_cell? _ _ Z0
      go_wp2_with fail
      clear E0 E1 El
      clear X0 X1 Xl
      clear Z0 Z1 Zl
      refine (wpInts_same _ _ _ _ _ _ _ KI WI hl2).mono ?_
      rintro e w5 ⟨rfl, b5⟩
      replace Dn := Dn.later b5
      replace Du := Du.later b5
      replace Dv := Dv.later b5
      replace S := S.later b5
      replace K := K.later b5
      replace KI := KI.later b5
      replace W := W.later b5
      replace WI := WI.later b5
      replace E := E.later b5
      replace X := X.later b5
      replace Z := Z.later b5
      replace gl := Nat.lt_of_lt_of_le gl b5.size
      replace BL := BL.trans (b5.mono BL.size)
      clear b5
      clear W WI Z
      by_cases hk : ln = 0
      · have hz : r.m = 0 ∧ r.n = 0 := by rw [unhide HR] at *; exact ifBR_zero (by rw [← unhide HLN]; exact hk)
        have kz : ((ln : Int) == 0) = true := by simp [hk]
        have HZ := hide hz
        have K9 := hide K
        clear hz hk
        obtain ⟨X0, X1⟩ := id X
        go_wp2_with fail
        refine (iNetSame_any r.m 0 ax none r.n 0 cx 0 r.G r.G _ (unhide K9) (Or.inl rfl) hrn1 (by omega)).mono ?_
        rintro e wq ⟨rfl, bq⟩
        have hs : nsB r.m 0 r.n 0 r.G r.G = true := by rw [(unhide HZ).1, (unhide HZ).2]; exact nsB_refl _ _ _
        rw [hs]
        go_wp2
        go_ret
        exact ⟨rfl, BL.trans (bq.mono BL.size)⟩
      · have kz : ((ln : Int) == 0) = false := by simp; omega
        have hF : IfF m n G c L M r := by rw [unhide HR]; exact ifBR_facts (by rw [← unhide HR, ← unhide HLN]; exact hk)
        have HF := hide hF
        obtain ⟨qx, hqx⟩ := unhide HKA hk
        have rm := hF.rm
        have hlu : ln = nu := by have := hF.len.1; rw [← unhide HLN] at this; rw [this]; exact unhide HUl
        have hlv : nv = nu := by have := hF.len.2.1; rw [unhide HUl, unhide HVl] at this; omega
        have HLU := hide hlu
        have HLV := hide hlv
        have hm0 := (netB_iff.1 hF.net).1
        have HX0 := hide X
        have HE0 := hide E
        have HK0 := hide K
        have HKI0 := hide KI
        have HDn := hide Dn
        have HDu := hide Du
        have HDv := hide Dv
        have HBL := hide BL
        subst hqx
        obtain ⟨M9, hM9⟩ := Int.eq_ofNat_of_zero_le hm0
        have HM9 := hide hM9
        have HRM := hide (rm.trans hM9)
        have Xb : w2.heap.size < w5.heap.size := World.block_lt_of_cell? _ _ X.1
        have Eb : w1.heap.size < w5.heap.size := World.block_lt_of_cell? _ _ E.1
        clear hF hk rm hM9 hm0 hlu hlv X E K KI Dn Du Dv S gl BL
        have E0 := (unhide HE0).1
        have E1 := (unhide HE0).2
        have X0 := (unhide HX0).1
        have X1 := (unhide HX0).2
        go_wp2
        go_loopw [13] (fun i wr => ∃ j : Nat, j ≤ 12 ∧ i = .int .i64 j ∧ Below w5.heap.size w5 wr) (fun i _ => 12 - (intOf i).toNat)
        case atStart => exact ⟨0, by omega, rfl, (by first | exact Below.refl _ _ | exact (by repeat (first | exact Below.refl _ _ | assumption | refine below_drewN ?_ _ | refine Below.drew ?_ | refine Below.alloc ?_ (by first | exact Nat.le_refl _ | exact Below.size (by assumption) | (simp; done) | (simp; omega)) _ | refine Below.setCell ?_ (by first | exact Nat.le_refl _ | exact Below.size (by assumption) | (simp; done) | (simp; omega)) _ | refine Below.trans ?_ (by assumption))))⟩
        case round =>
          clear E0 E1 X0 X1
          obtain ⟨j, hj, rfl, be⟩ := hrel
          have hB := Below.trans (unhide HBL) (be.mono (unhide HBL).size)
          by_cases hlt : j < 12
          · have klt : decide ((j : Int) < 12) = true := by simp; omega
            have hE := (unhide HE0).later be
            have hX := (unhide HX0).later be
            have E0 := hE.1
            have E1 := hE.2
            have X0 := hX.1
            have X1 := hX.2
            rw [unhide HM9] at E0
            rw [unhide HRM] at X0
            have kw : IntKind.i64.wrap (37 * (j : Int)) = 37 * (j : Int) := by rw [IntKind.wrap_i64]; omega
            clear hE hX
            go_wp2
            refine wp_region_held_drew (S := fun w' => (w'.cell? ⟨w1.heap.size, 0, none⟩ = some (.int .i64 (M9 : Int)) ∧ w'.cell? ⟨w1.heap.size, 1, none⟩ = some (.slice (some ⟨g, 0, none⟩) n cap)) ∧ w'.cell? ⟨w2.heap.size, 0, none⟩ = some (.int .i64 (M9 : Int)) ∧ w'.cell? ⟨w2.heap.size, 1, none⟩ = some (.slice (some ⟨qx, 0, none⟩) r.n cx)) (by kernel_rfl) ?_ (fun hHeld => ?_)
            · exact ⟨⟨E0, E1⟩, X0, X1⟩
            obtain ⟨wd, hwd⟩ : ∃ x, x = wr.drew := ⟨_, rfl⟩
            have bed : Below w5.heap.size w5 wd := by rw [hwd]; exact be.drew
            have hBd : Below w.heap.size w wd := by rw [hwd]; exact hB.drew
            replace E0 : wd.cell? ⟨w1.heap.size, 0, none⟩ = some (.int .i64 (M9 : Int)) := by rw [hwd]; exact E0
            replace E1 : wd.cell? ⟨w1.heap.size, 1, none⟩ = some (.slice (some ⟨g, 0, none⟩) n cap) := by rw [hwd]; exact E1
            replace X0 : wd.cell? ⟨w2.heap.size, 0, none⟩ = some (.int .i64 (M9 : Int)) := by rw [hwd]; exact X0
            replace X1 : wd.cell? ⟨w2.heap.size, 1, none⟩ = some (.slice (some ⟨qx, 0, none⟩) r.n cx) := by rw [hwd]; exact X1
            rw [← hwd]
            (try rw [← hwd] at hHeld)
            clear hwd
            refine wpAnyH_take (i := 0) (v := ?_) rfl (by kernel_rfl) (by kernel_rfl) (by kernel_rfl) (fun _ _ _ h => h) (Or.inl ⟨by rfl, ?_⟩) (by assumption) ?_
            rotate_left
            · (intro w hSw; (try dsimp only at hSw); first | (go_simp; done) | (go_simp; with_reducible rfl))
            try simp only [List.getElem_toArray, List.getElem_cons_succ, List.getElem_cons_zero, Act.put, List.setIfInBounds_toArray, List.set_cons_zero, List.set_cons_succ]
            refine wpAnyH_take (i := 1) (v := ?_) rfl (by kernel_rfl) (by kernel_rfl) (by kernel_rfl) (fun _ _ _ h => h) (Or.inl ⟨by rfl, ?_⟩) (by assumption) ?_
            rotate_left
            · (intro w hSw; (try dsimp only at hSw); first | (go_simp; done) | (go_simp; with_reducible rfl))
            try simp only [List.getElem_toArray, List.getElem_cons_succ, List.getElem_cons_zero, Act.put, List.setIfInBounds_toArray, List.set_cons_zero, List.set_cons_succ]
            refine wpAnyH_take (i := 2) (v := ?_) rfl (by kernel_rfl) (by kernel_rfl) (by kernel_rfl) (fun _ _ _ h => h) (Or.inl ⟨by rfl, ?_⟩) (by assumption) ?_
            rotate_left
            · (intro w hSw; (try dsimp only at hSw); first | (go_simp; done) | (go_simp; with_reducible rfl))
            try simp only [List.getElem_toArray, List.getElem_cons_succ, List.getElem_cons_zero, Act.put, List.setIfInBounds_toArray, List.set_cons_zero, List.set_cons_succ]
            refine wpAnyH_take (i := 4) (v := ?_) rfl (by kernel_rfl) (by kernel_rfl) (by kernel_rfl) (fun _ _ _ h => h) (Or.inl ⟨by rfl, ?_⟩) (by assumption) ?_
            rotate_left
            · (intro w hSw; (try dsimp only at hSw); first | (go_simp; done) | (go_simp; with_reducible rfl))
            try simp only [List.getElem_toArray, List.getElem_cons_succ, List.getElem_cons_zero, Act.put, List.setIfInBounds_toArray, List.set_cons_zero, List.set_cons_succ]
            refine wpAnyH_take (i := 5) (v := ?_) rfl (by kernel_rfl) (by kernel_rfl) (by kernel_rfl) (fun _ _ _ h => h) (Or.inl ⟨by rfl, ?_⟩) (by assumption) ?_
            rotate_left
            · (intro w hSw; (try dsimp only at hSw); first | (go_simp; done) | (go_simp; with_reducible rfl))
            try simp only [List.getElem_toArray, List.getElem_cons_succ, List.getElem_cons_zero, Act.put, List.setIfInBounds_toArray, List.set_cons_zero, List.set_cons_succ]
            refine wpAnyH_ready (rs := [3]) (by kernel_rfl) (by simp) ?_
            refine AllReadyH.cons rfl (fun K hK => ?_) AllReadyH.nil
            go_simp
            refine (wpHash_any _ _ _ _ wd ((unhide HBY).up hBd) hl1).mono ?_
            rintro e wh ⟨z, rfl, z0, z1, rfl⟩
            have kw2 : IntKind.i64.wrap (z + 37 * (j : Int)) = z + 37 * (j : Int) := by rw [IntKind.wrap_i64]; omega
            go_wp2_with fail
            refine hK.out _ _ ?_ (fun hHeld => ?_)
            · exact ⟨⟨E0, E1⟩, X0, X1⟩
            clear hK K
            try simp only [List.getElem_toArray, List.getElem_cons_succ, List.getElem_cons_zero, Act.put, List.setIfInBounds_toArray, List.set_cons_zero, List.set_cons_succ]
            refine wpAnyH_take (i := 6) (v := ?_) rfl (by kernel_rfl) (by kernel_rfl) (by kernel_rfl) (fun _ _ _ h => h) (Or.inl ⟨by rfl, ?_⟩) (by assumption) ?_
            rotate_left
            · (intro w hSw; (try dsimp only at hSw); first | (go_simp; done) | (go_simp; with_reducible rfl))
            try simp only [List.getElem_toArray, List.getElem_cons_succ, List.getElem_cons_zero, Act.put, List.setIfInBounds_toArray, List.set_cons_zero, List.set_cons_succ]
            refine wpAnyH_ready (rs := [7]) (by kernel_rfl) (by simp) ?_
            refine AllReadyH.cons rfl (fun K hK => ?_) AllReadyH.nil
            go_simp
            refine (wpIns_any M9 (some ⟨g, 0, none⟩) n cap _ _ (by have := unhide HM9; omega)).mono ?_
            rintro e w7 ⟨I, ib, ic, rfl, hIl, ibl, hIb, b7⟩
            have HIb := hide hIb
            have HIl := hide hIl
            have be7 := bed.trans (b7.mono bed.size)
            replace E0 := cell_later b7 E0
            replace E1 := cell_later b7 E1
            replace X0 := cell_later b7 X0
            replace X1 := cell_later b7 X1
            clear hIb hIl b7
            go_wp2_with fail
            refine hK.out _ _ ?_ (fun hHeld => ?_)
            · exact ⟨⟨E0, E1⟩, X0, X1⟩
            clear hK K
            try simp only [List.getElem_toArray, List.getElem_cons_succ, List.getElem_cons_zero, Act.put, List.setIfInBounds_toArray, List.set_cons_zero, List.set_cons_succ]
            refine wpAnyH_ready (rs := [8]) (by kernel_rfl) (by simp) ?_
            refine AllReadyH.cons rfl (fun K hK => ?_) AllReadyH.nil
            go_simp
            refine (iNetVals_cap (M9 : Int) (some ⟨qx, 0, none⟩) r.n cx r.G I ib 0 M9 ic w7 ((unhide HK0).later be7) (wg_net (unhide HF).rnet) hrn1 (by have := unhide HM9; omega) (unhide HIl) ibl (unhide HIb)).mono ?_
            rintro e w8 ⟨⟨va, vcap, rfl, hV, _⟩, b8⟩
            have be8 := be7.trans (b8.mono be7.size)
            replace E0 := cell_later b8 E0
            replace E1 := cell_later b8 E1
            replace X0 := cell_later b8 X0
            replace X1 := cell_later b8 X1
            have hnv : nvL (M9 : Int) r.n r.G I = outL I r.G r.n := nvL_yes (by rw [← unhide HRM]; exact (unhide HF).rnet) (by rw [unhide HIl])
            rw [hnv] at hV ⊢
            rw [outL_len] at hV ⊢
            have HV := hide hV
            have hIm : (I.length : Int) = m := by rw [unhide HIl]; exact (unhide HM9).symm
            have HB := hide (if_bits (unhide HF) I hIm)
            have hvl : 1 + I.length + r.n ≤ 1048576 := by have := unhide HM9; have := unhide HIl; omega
            clear hV hnv hIm b8
            go_wp2_with fail
            refine hK.out _ _ ?_ (fun hHeld => ?_)
            · exact ⟨⟨E0, E1⟩, X0, X1⟩
            clear hK K
            try simp only [List.getElem_toArray, List.getElem_cons_succ, List.getElem_cons_zero, Act.put, List.setIfInBounds_toArray, List.set_cons_zero, List.set_cons_succ]
            refine wpAnyH_ready (rs := [9]) (by kernel_rfl) (by simp) ?_
            refine AllReadyH.cons rfl (fun K hK => ?_) AllReadyH.nil
            go_simp
            refine hK.out _ _ ?_ (fun hHeld => ?_)
            · exact ⟨⟨E0, E1⟩, X0, X1⟩
            clear hK K
            try simp only [List.getElem_toArray, List.getElem_cons_succ, List.getElem_cons_zero, Act.put, List.setIfInBounds_toArray, List.set_cons_zero, List.set_cons_succ]
            refine wpAnyH_done (by kernel_rfl) ?_ _
            clear E0 E1 X0 X1
            go_wp2_with fail
            refine (iBitsVal_any _ nv _ (at0 M) _ (1 + I.length + r.n) _ (atB (outL I r.G r.n)) w8 ((unhide HDv).later be8) (by omega) (unhide HVv) (unhide HV) hvl).mono ?_
            rintro e wx ⟨rfl, rfl⟩
            go_wp2_with fail
            refine (iNetLit_any c _ (1 + I.length + r.n) _ (atB (outL I r.G r.n)) _ (unhide HWC) (unhide HV) hvl).mono ?_
            rintro e wy ⟨rfl, rfl⟩
            have hbits := unhide HB
            rw [unhide HUl, ← unhide HLU] at hbits
            cases hmet : metB c (1 + I.length + r.n) (atB (outL I r.G r.n))
            · rw [hmet] at hbits
              rw [if_neg (by simp)] at hbits
              have HWR : ∀ i, i < ln → W64 (at0 r.L i) := fun i hi => by have := (unhide HF).bd i (by rw [unhide HUl, ← unhide HLU]; exact hi); unfold W64; omega
              go_wp2_with fail
              refine (iBitsVal_any _ ln _ (at0 r.L) _ (1 + I.length + r.n) _ (atB (outL I r.G r.n)) _ ((unhide HKI0).later be8) hl2 HWR (unhide HV) hvl).mono ?_
              rintro e wz ⟨rfl, rfl⟩
              rw [hbits.trans (show bvI ln (at0 M) (1 + I.length + r.n) (atB (outL I r.G r.n)) = bvI nv (at0 M) (1 + I.length + r.n) (atB (outL I r.G r.n)) from by rw [show ln = nv by have := unhide HLU; have := unhide HLV; omega])]
              have kq : ∀ z : Int, (z != z) = false := fun z => by simp
              go_wp2
              go_roundw
              case rel => exact ⟨j + 1, by omega, by go_num, be8⟩
              case measure => simp [intOf] <;> omega
            · rw [hmet] at hbits
              rw [if_pos rfl] at hbits
              have HWR : ∀ i, i < ln → W64 (at0 r.L i) := fun i hi => by have := (unhide HF).bd i (by rw [unhide HUl, ← unhide HLU]; exact hi); unfold W64; omega
              go_wp2_with fail
              refine (iBitsVal_any _ nu _ (at0 L) _ (1 + I.length + r.n) _ (atB (outL I r.G r.n)) _ ((unhide HDu).later be8) (by omega) (unhide HUv) (unhide HV) hvl).mono ?_
              rintro e wx2 ⟨rfl, rfl⟩
              go_wp2_with fail
              refine (iBitsVal_any _ ln _ (at0 r.L) _ (1 + I.length + r.n) _ (atB (outL I r.G r.n)) _ ((unhide HKI0).later be8) hl2 HWR (unhide HV) hvl).mono ?_
              rintro e wz ⟨rfl, rfl⟩
              rw [hbits.trans (show bvI ln (at0 L) (1 + I.length + r.n) (atB (outL I r.G r.n)) = bvI nu (at0 L) (1 + I.length + r.n) (atB (outL I r.G r.n)) from by rw [unhide HLU])]
              have kq : ∀ z : Int, (z != z) = false := fun z => by simp
              go_wp2
              go_roundw
              case rel => exact ⟨j + 1, by omega, by go_num, be8⟩
              case measure => simp [intOf] <;> omega
          · have ej : j = 12 := by omega
            subst ej
            have hE := (unhide HE0).later be
            have hX := (unhide HX0).later be
            have E0 := hE.1
            have E1 := hE.2
            have X0 := hX.1
            have X1 := hX.2
            rw [unhide HM9] at E0
            rw [unhide HRM] at X0
            have klen : ((ln : Int) == (nu : Int)) = true := by have := unhide HLU; simp; omega
            clear hE hX
            go_wp2_with fail
            refine (wpGrown_any (M9 : Int) g n cap G qx r.n cx r.G _ ((unhide HDn).later be) ((unhide HK0).later be) (wg_net (unhide HF).rnet) (by rw [← unhide HRM]; exact (unhide HF).rnet) (unhide HF).rn (unhide HKC) hrn1 (unhide HF).pre).mono ?_
            rintro e wz ⟨rfl, bz⟩
            go_wp2
            go_ret
            exact ⟨rfl, hB.trans (bz.mono hB.size)⟩
    · go_enter Tryd.func4, Tryd.ntmps4
      go_wp2
      go_ret
      exact ⟨rfl, Below.refl _ _⟩
  · go_enter Tryd.func4, Tryd.ntmps4
    go_wp2
    go_ret
    exact ⟨rfl, Below.refl _ _⟩
end bIf
theorem gF : Tryd.prog.globalNamed "loop.example/seedlip/impl.errBitsForm" = some 0 := by kernel_rfl
theorem gR : Tryd.prog.globalNamed "loop.example/seedlip/impl.errBitsRoom" = some 1 := by kernel_rfl
theorem tF : (Tryd.prog.globals[0]?).map (·.type) = some 111 := by kernel_rfl
theorem tR : (Tryd.prog.globals[1]?).map (·.type) = some 111 := by kernel_rfl
theorem cellsE : Tryd.prog.cellsOf 196 = 1 := by kernel_rfl
theorem cellsS : Tryd.prog.cellsOf 9 = 1 := by kernel_rfl
theorem starE : "*" ++ "errors.errorString" = "*errors.errorString" := by decide
theorem rowE (u : TypeId) (h : Tryd.prog.typeName? 3 u = some "*errors.errorString") : u = 168 :=
  typeName_ptr_named (nm := "errors.errorString") (by rw [starE]; kernel_rfl) (by kernel_rfl) (by decide) u (by rw [starE]; exact h)
def laid2 : List (String × DataW Unit) := [("loop.example/seedlip/impl.errBitsForm", Rows.laid_loop_example_seedlip_impl_errBitsForm), ("loop.example/seedlip/impl.errBitsRoom", Rows.laid_loop_example_seedlip_impl_errBitsRoom)]
theorem door_met (os : Os) (args : Array Value) : laidMetH Tryd.prog laid2 ((World.doorLaid Tryd.prog 400 os).forCall (fun _ _ => 0) ⟨#[], args, []⟩).memory :=
  laidMetH_of_parts3 (fuel := 8) (laidMet_of_run' 8 (by kernel_rfl) (by kernel_rfl)) (by kernel_rfl) (by kernel_rfl)
theorem var_bel {W W' : World} {n : String} {cs : Array Value} (h : W.var? Tryd.prog n = some cs) (hb : Below W.heap.size W W') : W'.var? Tryd.prog n = some cs := by
  unfold World.var? at h ⊢
  cases hg : Tryd.prog.globalNamed n with
  | none => simp [hg] at h
  | some g =>
    simp only [hg, Option.bind_some] at h ⊢
    have hlt : g < W.heap.size := by
      rcases Nat.lt_or_ge g W.heap.size with h' | h'
      · exact h'
      · simp [Array.getElem?_eq_none h'] at h
    rw [hb.block g hlt]
    exact h

namespace bIf
set_option maxRecDepth 100000 in
theorem lifted (os : Os) (started : os.Started) (H : Type) (enc : TypeId × Value → H) :
    ReturnsInHanded {} Tryd.checked os 4 .any (fun w args => (Rows.fnBitsIfSpec.pre enc Tryd.prog Tryd.f4 [] false w args ∧ laidMetH Tryd.prog laid2 w) ∧ sizedMet enc Tryd.prog Tryd.f4 (OpenSpec.ofChange Rows.fnBitsIfSpec) false w args) (Rows.fnBitsIfSpec.post enc Tryd.prog Tryd.f4 false true false false) := by
  refine returnsInHanded_of_change_and (C := Tryd.checked) (X := fun w _ => laidMetH Tryd.prog laid2 w) (fun _ _ _ hh h => h.of_heap hh) own started (by kernel_rfl) Tryd.func4
    (ChangeSpec.witness_shaped (enc := enc) (C := Tryd.checked) (os := os) (X := fun w _ => laidMetH Tryd.prog laid2 w) false (World.doorLaid Tryd.prog 400 os) #[.slice none 0 0, .slice none 0 0] 8 rfl (World.shaped_of_RefB (by kernel_rfl) (by kernel_rfl)) (by kernel_rfl) (by kernel_rfl) (by kernel_rfl) (door_met os _)) ?_
  intro W base args ds gs before hval0 hW _ _ hL _
  have hval : ∀ (j : Nat) t v, Tryd.f4.params[j]? = some t → args[j]? = some v → Value.okWide Tryd.prog W .any base t v := hval0
  have hW' := hW
  obtain ⟨p, q, hA0, hV0, rfl, hfz, hnd⟩ := hW
  have hA : DataW.TrodAll enc Tryd.prog W 0 (fun _ => true) true Tryd.f4.params.toList args.toList ds p := hA0
  rw [Tryd.params4] at hA hval
  obtain ⟨v0, vs0, d0, ds0, p0, q0, hargs, rfl, rfl, h0, r0⟩ := trodAll_cons hA
  obtain ⟨v1, vs1, d1, ds1, p1, q1, rfl, rfl, rfl, h1, r1⟩ := trodAll_cons r0
  obtain ⟨rfl, rfl, rfl⟩ := trodAll_nil r1
  obtain rfl : args = #[v0, v1] := by cases args; simp_all
  have hV : DataW.TrodVars enc Tryd.prog W (fun _ => true) ["loop.example/seedlip/impl.errBitsForm", "loop.example/seedlip/impl.errBitsRoom"] gs q := hV0
  rw [MakeChecks.laidMetH_plain _ _ _ (by kernel_rfl)] at hL
  obtain ⟨aF, aR, s0, s1, c0, c1, t0, t1, hv0, hv1, hc0, hs0, hz0, hc1, hs1, hz1, hne, hb0, hb1⟩ := laid_sentinels2 hL gF tF gR tR Tryd.underlying111 rowE Tryd.underlying168 Tryd.underlying196 rfl rfl Tryd.underlying9 cellsE cellsS
  have vr : ∀ {X : World}, X.var? Tryd.prog "loop.example/seedlip/impl.errBitsForm" = some #[.iface 168 (.pointer (some aF))] → X.var? Tryd.prog "loop.example/seedlip/impl.errBitsRoom" = some #[.iface 168 (.pointer (some aR))] → ∀ sp : Nat → Bool,
      DataW.TrodVars enc Tryd.prog X sp ["loop.example/seedlip/impl.errBitsForm", "loop.example/seedlip/impl.errBitsRoom"] [tok enc (.iface 168 (.pointer (some aF))), tok enc (.iface 168 (.pointer (some aR)))] [.cell 0 0, .cell 1 0] :=
    fun x0 x1 sp => vars_read2 enc gF tF Tryd.underlying111 x0 trivial gR tR Tryd.underlying111 x1 trivial sp
  obtain ⟨rfl, rfl⟩ := hV.unique (vr hv0 hv1 _)
  have hg0 : W.cell? ⟨0, 0, none⟩ = some (.iface 168 (.pointer (some aF))) := by simpa using World.var?_cell gF hv0 0
  have hg1 : W.cell? ⟨1, 0, none⟩ = some (.iface 168 (.pointer (some aR))) := by simpa using World.var?_cell gR hv1 0
  have hSent : Sent W 2 aF aR := ⟨hg0, hg1, by omega⟩
  have hs2 : 2 ≤ W.heap.size := by have := World.block_lt_of_cell? _ _ hg1; simp only at this; omega
  obtain ⟨code, lencode, capcode, rfl⟩ := okWide_slice Tryd.underlying22 (hval 0 22 v0 rfl rfl)
  have k0 := h0
  have lt0 : ∀ x ∈ p0, x.block < W.heap.size := by obtain ⟨m, hm⟩ := k0; exact DataW.trod_lt m _ _ _ hm
  obtain ⟨zcode, wcode⟩ : ∃ zs, IsRow .u8 W code lencode capcode zs := by
    obtain ⟨fuel, hf⟩ := h0
    rcases open_ints Tryd.underlying22 Tryd.underlying5 (by kernel_rfl) hf with ⟨hcs, _⟩ | ⟨x, l, c, zs, hcs, _, hl, hm, hz, _, hcell, hwz⟩
    · simp [Value.cells] at hcs
      obtain ⟨rfl, rfl, rfl⟩ := hcs
      exact ⟨[], .inl ⟨rfl, rfl, rfl, rfl⟩⟩
    · simp [Value.cells] at hcs
      obtain ⟨rfl, rfl, rfl⟩ := hcs
      exact ⟨zs, .inr ⟨_, rfl, hl, hm, by simpa using hz, hcell, hwz⟩⟩
  obtain ⟨more, lenmore, capmore, rfl⟩ := okWide_slice Tryd.underlying22 (hval 1 22 v1 rfl rfl)
  have k1 := h1
  have lt1 : ∀ x ∈ p1, x.block < W.heap.size := by obtain ⟨m, hm⟩ := k1; exact DataW.trod_lt m _ _ _ hm
  obtain ⟨zmore, wmore⟩ : ∃ zs, IsRow .u8 W more lenmore capmore zs := by
    obtain ⟨fuel, hf⟩ := h1
    rcases open_ints Tryd.underlying22 Tryd.underlying5 (by kernel_rfl) hf with ⟨hcs, _⟩ | ⟨x, l, c, zs, hcs, _, hl, hm, hz, _, hcell, hwz⟩
    · simp [Value.cells] at hcs
      obtain ⟨rfl, rfl, rfl⟩ := hcs
      exact ⟨[], .inl ⟨rfl, rfl, rfl, rfl⟩⟩
    · simp [Value.cells] at hcs
      obtain ⟨rfl, rfl, rfl⟩ := hcs
      exact ⟨zs, .inr ⟨_, rfl, hl, hm, by simpa using hz, hcell, hwz⟩⟩
  clear hA0 hV0 hval0
  refine (walk code lencode capcode zcode more lenmore capmore zmore aF aR W hSent hs2 wcode wmore).mono fun e W' ⟨he, bel⟩ => ?_
  subst he
  exact ⟨_, rfl, _, _, _, [], _, [.cell 0 0, .cell 1 0], hW', trodAll_mk1 (shut_bool Tryd.underlying4 _), (trodAll_cons_mk (Below.trod laidOut (by kernel_rfl) (of_decide_eq_true (by kernel_rfl)) k0 bel lt0) (trodAll_cons_mk (Below.trod laidOut (by kernel_rfl) (of_decide_eq_true (by kernel_rfl)) k1 bel lt1) trodAll_mk0)), vr (var_bel hv0 bel) (var_bel hv1 bel) _, bel.frame _, fun h => by cases h⟩


theorem over : Rows.fnBitsIfRow.holds Tryd.pinned (OpenSpec.ofChange Rows.fnBitsIfSpec) :=
  OpenClaim.holds_of_wide 4 Tryd.f4 rfl rfl rfl rfl rfl rfl rfl ⟨rfl, rfl, rfl, rfl, rfl⟩ rfl rfl rfl rfl rfl (by kernel_rfl) Tryd.func4 (by kernel_rfl)
    (of_decide_eq_true (by kernel_rfl)) (by unfold Func.isWrapper; first | (rw [if_pos (by decide +kernel)]; kernel_rfl) | (rw [if_neg (by decide +kernel)]; exact ⟨rfl, rfl⟩))
    (fun os started H enc _ => lifted os started H enc)
end bIf

theorem bIf_holds : Rows.FnBitsIfCardSaid :=
  Claim7.holds_tied_plain_at .later [] [.sentinel, .sentinel] true _ _
    bIf.over (fun _ h => by cases h) (by kernel_rfl) (fun _ h => by cases h) fnBitsIf_row_tie rfl ⟨rfl, rfl⟩ (by kernel_rfl) rfl
    (fun f fn hf hfn => by
      obtain rfl : f = 4 := Option.some.inj ((show Tryd.prog.funcNamed "loop.example/seedlip/laws.FnBitsIf" = some 4 by kernel_rfl).symm.trans hf) |>.symm
      obtain rfl : fn = Tryd.f4 := (Option.some.inj (Tryd.func4.symm.trans hfn)).symm
      exact ⟨by kernel_rfl, fun j t ht => by
        rw [Tryd.params4] at ht
        have hm : t ∈ [22, 22] := by simpa using Array.mem_of_getElem? ht
        have hall : ([22, 22].all fun u => !Tryd.prog.wantsStandIn u) = true := by kernel_rfl
        exact (show Tryd.prog.wantsStandIn t = false by simpa using List.all_eq_true.1 hall t hm)⟩)
    (by kernel_rfl)
#print axioms bIf_holds
end Go.Proofs.YtmpiiilkaadhfaaDoor
