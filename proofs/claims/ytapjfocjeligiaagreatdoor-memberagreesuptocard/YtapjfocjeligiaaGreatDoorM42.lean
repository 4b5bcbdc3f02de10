import Derived.Test.YtapjfocjeligiaaGreatDoorM36
namespace Go.Proofs.YtapjfocjeligiaaGreatDoor
open Go.RowKit Go.Shelf Go.Sort
set_option linter.unusedVariables false
set_option linter.unusedSimpArgs false
attribute [local go_sem] Oper.semAt_some

/-- kinds as a row of bits -/
def kvA (p : Int) : List Bool → Int
  | [] => 0
  | b :: l => (if b then p else 0) + kvA (2 * p) l
def kvL (l : List Bool) : Int := kvA 1 l
def kdV (b0 b1 b2 b3 b5 : Bool) (nn nx NA NO : Nat) : Int := if b0 then 127 else kvL [b1, b2, b3, decide (0 < nn), (b5 || decide (0 < nx)), decide (0 < NA), decide (0 < NO)]
/-- the kinds of a type -/
def kdN (T : TT) : Int := kdV T.all T.nul T.fls T.tru T.any T.nums.length T.texts.length T.arrs.length T.objs.length
theorem or_kv0 : bits .or .u8 (kvL []) 1 = kvL [true] := by decide +kernel
theorem no_kv0 : kvL [false] = kvL [] := by decide +kernel
theorem or_kv1 : ∀ a0 : Bool, bits .or .u8 (kvL [a0]) 2 = kvL [a0, true] := by decide +kernel
theorem no_kv1 : ∀ a0 : Bool, kvL [a0, false] = kvL [a0] := by decide +kernel
theorem or_kv2 : ∀ a0 a1 : Bool, bits .or .u8 (kvL [a0, a1]) 4 = kvL [a0, a1, true] := by decide +kernel
theorem no_kv2 : ∀ a0 a1 : Bool, kvL [a0, a1, false] = kvL [a0, a1] := by decide +kernel
theorem or_kv3 : ∀ a0 a1 a2 : Bool, bits .or .u8 (kvL [a0, a1, a2]) 8 = kvL [a0, a1, a2, true] := by decide +kernel
theorem no_kv3 : ∀ a0 a1 a2 : Bool, kvL [a0, a1, a2, false] = kvL [a0, a1, a2] := by decide +kernel
theorem or_kv4 : ∀ a0 a1 a2 a3 : Bool, bits .or .u8 (kvL [a0, a1, a2, a3]) 16 = kvL [a0, a1, a2, a3, true] := by decide +kernel
theorem no_kv4 : ∀ a0 a1 a2 a3 : Bool, kvL [a0, a1, a2, a3, false] = kvL [a0, a1, a2, a3] := by decide +kernel
theorem or_kv5 : ∀ a0 a1 a2 a3 a4 : Bool, bits .or .u8 (kvL [a0, a1, a2, a3, a4]) 32 = kvL [a0, a1, a2, a3, a4, true] := by decide +kernel
theorem no_kv5 : ∀ a0 a1 a2 a3 a4 : Bool, kvL [a0, a1, a2, a3, a4, false] = kvL [a0, a1, a2, a3, a4] := by decide +kernel
theorem or_kv6 : ∀ a0 a1 a2 a3 a4 a5 : Bool, bits .or .u8 (kvL [a0, a1, a2, a3, a4, a5]) 64 = kvL [a0, a1, a2, a3, a4, a5, true] := by decide +kernel
theorem no_kv6 : ∀ a0 a1 a2 a3 a4 a5 : Bool, kvL [a0, a1, a2, a3, a4, a5, false] = kvL [a0, a1, a2, a3, a4, a5] := by decide +kernel
theorem kv_rg : ∀ a0 a1 a2 a3 a4 a5 a6 : Bool, 0 ≤ kvL [a0, a1, a2, a3, a4, a5, a6] ∧ kvL [a0, a1, a2, a3, a4, a5, a6] ≤ 127 := by decide +kernel

set_option maxRecDepth 100000 in
set_option maxHeartbeats 6400000 in
theorem w_KindsX (b0 b1 b2 b3 : Bool) (no : Option Addr) (nn nc : Nat) (b5 : Bool) (xo : Option Addr) (nx xc : Nat) (ao : Option Addr) (NA ac : Nat) (oo : Option Addr) (NO oc : Nat) (w : World) (z1 : nn ≤ 140737488355328) (z2 : nx ≤ 140737488355328) (z3 : NA ≤ 140737488355328) (z4 : NO ≤ 140737488355328) :
    Calls Tryz.prog 35 #[.agg #[.bool b0, .bool b1, .bool b2, .bool b3, .slice no nn nc, .bool b5, .slice xo nx xc, .slice ao NA ac, .slice oo NO oc]] w fun e w' => e = .returned (.int .u8 (kdV b0 b1 b2 b3 b5 nn nx NA NO)) ∧ Below w.heap.size w w' := by
  obtain ⟨R, hR⟩ : ∃ R, kdV b0 b1 b2 b3 b5 nn nx NA NO = R := ⟨_, rfl⟩
  have HR0 := Hid.mk hR.symm
  rw [hR]
  clear hR
  have HX0 := Hid.mk (tbx_new w (.bool b0) (.bool b1) (.bool b2) (.bool b3) (.slice no nn nc) (.bool b5) (.slice xo nx xc) (.slice ao NA ac) (.slice oo NO oc))
  obtain ⟨W0, hW0⟩ : ∃ W0, w.alloc (.cells #[.bool b0, .bool b1, .bool b2, .bool b3, .slice no nn nc, .bool b5, .slice xo nx xc, .slice ao NA ac, .slice oo NO oc] 29) = W0 := ⟨_, rfl⟩
  have hs0 : W0.heap.size = w.heap.size + 1 := by rw [← hW0]; simp
  rw [hW0] at HX0
  obtain ⟨_, c0, c1, c2, c3, c4, c5, c6, c7, c8, _⟩ := HX0.out
  cases b0 with
  | true =>
    go_enter Tryz.func35, Tryz.ntmps35
    go_wp2_with fail
    go_ret
    exact ⟨by rw [HR0.out]; rfl, HX0.out.below⟩
  | false =>
    obtain ⟨W1, hW1⟩ : ∃ W1, W0.alloc (.cells #[.bool false, .bool b1, .bool b2, .bool b3, .slice no nn nc, .bool b5, .slice xo nx xc, .slice ao NA ac, .slice oo NO oc] 89) = W1 := ⟨_, rfl⟩
    have HA : Hid (AskBx W1 (w.heap.size + 1) false b1 b2 b3 no nn nc b5 xo nx xc ao NA ac oo NO oc) := by
      rw [← hW1, ← hs0]
      exact ⟨⟨by simp [go_sem], by simp [go_sem], by simp [go_sem], by simp [go_sem], by simp [go_sem], by simp [go_sem], by simp [go_sem], by simp [go_sem], by simp [go_sem]⟩, by simp⟩
    have HB1 : Hid (Below w.heap.size w W1) := by rw [← hW1]; exact HX0.out.below.trans ((below1 W0 _).mono HX0.out.below.size)
    go_enter Tryz.func35, Tryz.ntmps35
    go_wp2_with fail
    refine (w_has _ _).mono ?_
    rintro e w2 ⟨rfl, hq⟩
    have HA2 := Hid.mk (HA.out.keep hq)
    have HB2 := Hid.mk (HB1.out.trans (hq.mono HB1.out.size))
    clear hq hW1 hW0 hs0 c0 c1 c2 c3 c4 c5 c6 c7 c8
    have C0 := Hid.mk (w_hasNull false b1 b2 b3 no nn nc b5 xo nx xc ao NA ac oo NO oc w2 (w.heap.size + 1) HA2.out)
    have C1 := Hid.mk (w_hasFalse false b1 b2 b3 no nn nc b5 xo nx xc ao NA ac oo NO oc w2 (w.heap.size + 1) HA2.out)
    have C2 := Hid.mk (w_hasTrue false b1 b2 b3 no nn nc b5 xo nx xc ao NA ac oo NO oc w2 (w.heap.size + 1) HA2.out)
    have C3 := Hid.mk (w_hasNumbers false b1 b2 b3 no nn nc b5 xo nx xc ao NA ac oo NO oc w2 (w.heap.size + 1) HA2.out z1)
    have C4 := Hid.mk (w_hasTexts false b1 b2 b3 no nn nc b5 xo nx xc ao NA ac oo NO oc w2 (w.heap.size + 1) HA2.out z2)
    have C5 := Hid.mk (w_hasArrays false b1 b2 b3 no nn nc b5 xo nx xc ao NA ac oo NO oc w2 (w.heap.size + 1) HA2.out z3)
    have C6 := Hid.mk (w_hasObjects false b1 b2 b3 no nn nc b5 xo nx xc ao NA ac oo NO oc w2 (w.heap.size + 1) HA2.out z4)
    have HG : Hid (R = kvL [b1, b2, b3, (decide (0 < nn)), (b5 || decide (0 < nx)), (decide (0 < NA)), (decide (0 < NO))]) := HR0.out
    clear HR0
    generalize (decide (0 < nn)) = h3 at C3 HG
    generalize (b5 || decide (0 < nx)) = h4 at C4 HG
    generalize (decide (0 < NA)) = h5 at C5 HG
    generalize (decide (0 < NO)) = h6 at C6 HG
    go_wp2_with fail
    go_loopw [3, 11] (fun rv i wr => ∃ (k : Nat) (r : Int), k ≤ 7 ∧ rv = .int .u8 r ∧ i = .int .i64 (k : Int) ∧ wr = w2 ∧ Hid (r = kvL ([b1, b2, b3, h3, h4, h5, h6].take k))) (fun _ i _ => 7 - (intOf i).toNat)
    case atStart => exact ⟨0, 0, by omega, rfl, rfl, rfl, rfl⟩
    case round =>
      obtain ⟨k, r, hk, rfl, rfl, rfl, HQ⟩ := hrel
      by_cases hlt : k < 7
      · have hor : k = 0 ∨ k = 1 ∨ k = 2 ∨ k = 3 ∨ k = 4 ∨ k = 5 ∨ k = 6 := by omega
        rcases hor with rfl | rfl | rfl | rfl | rfl | rfl | rfl
        · skip
          cases hh : b1 with
          | false =>
            have D := C0
            have ix := has_ix0 (w.heap.size + 1)
            rw [hh] at D
            go_wp2_with fail
            refine D.out.mono ?_
            rintro e v3 ⟨rfl, rfl⟩
            go_wp2_with fail
            go_roundw
            case rel => exact ⟨0 + 1, r, by omega, rfl, by go_num, by first | rfl | trivial, by have q : r = kvL [] := HQ.out; show r = kvL [false]; rw [q]; exact (no_kv0 ).symm⟩
            case measure => simp [intOf]
          | true =>
            have D := C0
            have ix := has_ix0 (w.heap.size + 1)
            rw [hh] at D
            go_wp2_with fail
            refine D.out.mono ?_
            rintro e v3 ⟨rfl, rfl⟩
            go_wp2_with fail
            refine (w_bitn0 _).mono ?_
            rintro e v4 ⟨rfl, rfl⟩
            go_wp2_with fail
            refine ⟨⟨0 + 1, bits .or .u8 r 1, by omega, rfl, by go_num, by first | rfl | trivial, ?_⟩, by simp [intOf]⟩
            have q : r = kvL [] := HQ.out
            show bits .or .u8 r 1 = kvL [true]
            rw [q]
            exact or_kv0 
        · skip
          cases hh : b2 with
          | false =>
            have D := C1
            have ix := has_ix1 (w.heap.size + 1)
            rw [hh] at D
            go_wp2_with fail
            refine D.out.mono ?_
            rintro e v3 ⟨rfl, rfl⟩
            go_wp2_with fail
            go_roundw
            case rel => exact ⟨1 + 1, r, by omega, rfl, by go_num, by first | rfl | trivial, by have q : r = kvL [b1] := HQ.out; show r = kvL [b1, false]; rw [q]; exact (no_kv1 b1).symm⟩
            case measure => simp [intOf]
          | true =>
            have D := C1
            have ix := has_ix1 (w.heap.size + 1)
            rw [hh] at D
            go_wp2_with fail
            refine D.out.mono ?_
            rintro e v3 ⟨rfl, rfl⟩
            go_wp2_with fail
            refine (w_bitn1 _).mono ?_
            rintro e v4 ⟨rfl, rfl⟩
            go_wp2_with fail
            refine ⟨⟨1 + 1, bits .or .u8 r 2, by omega, rfl, by go_num, by first | rfl | trivial, ?_⟩, by simp [intOf]⟩
            have q : r = kvL [b1] := HQ.out
            show bits .or .u8 r 2 = kvL [b1, true]
            rw [q]
            exact or_kv1 b1
        · skip
          cases hh : b3 with
          | false =>
            have D := C2
            have ix := has_ix2 (w.heap.size + 1)
            rw [hh] at D
            go_wp2_with fail
            refine D.out.mono ?_
            rintro e v3 ⟨rfl, rfl⟩
            go_wp2_with fail
            go_roundw
            case rel => exact ⟨2 + 1, r, by omega, rfl, by go_num, by first | rfl | trivial, by have q : r = kvL [b1, b2] := HQ.out; show r = kvL [b1, b2, false]; rw [q]; exact (no_kv2 b1 b2).symm⟩
            case measure => simp [intOf]
          | true =>
            have D := C2
            have ix := has_ix2 (w.heap.size + 1)
            rw [hh] at D
            go_wp2_with fail
            refine D.out.mono ?_
            rintro e v3 ⟨rfl, rfl⟩
            go_wp2_with fail
            refine (w_bitn2 _).mono ?_
            rintro e v4 ⟨rfl, rfl⟩
            go_wp2_with fail
            refine ⟨⟨2 + 1, bits .or .u8 r 4, by omega, rfl, by go_num, by first | rfl | trivial, ?_⟩, by simp [intOf]⟩
            have q : r = kvL [b1, b2] := HQ.out
            show bits .or .u8 r 4 = kvL [b1, b2, true]
            rw [q]
            exact or_kv2 b1 b2
        · skip
          cases hh : h3 with
          | false =>
            have D := C3
            have ix := has_ix3 (w.heap.size + 1)
            rw [hh] at D
            go_wp2_with fail
            refine D.out.mono ?_
            rintro e v3 ⟨rfl, rfl⟩
            go_wp2_with fail
            go_roundw
            case rel => exact ⟨3 + 1, r, by omega, rfl, by go_num, by first | rfl | trivial, by have q : r = kvL [b1, b2, b3] := HQ.out; show r = kvL [b1, b2, b3, false]; rw [q]; exact (no_kv3 b1 b2 b3).symm⟩
            case measure => simp [intOf]
          | true =>
            have D := C3
            have ix := has_ix3 (w.heap.size + 1)
            rw [hh] at D
            go_wp2_with fail
            refine D.out.mono ?_
            rintro e v3 ⟨rfl, rfl⟩
            go_wp2_with fail
            refine (w_bitn3 _).mono ?_
            rintro e v4 ⟨rfl, rfl⟩
            go_wp2_with fail
            refine ⟨⟨3 + 1, bits .or .u8 r 8, by omega, rfl, by go_num, by first | rfl | trivial, ?_⟩, by simp [intOf]⟩
            have q : r = kvL [b1, b2, b3] := HQ.out
            show bits .or .u8 r 8 = kvL [b1, b2, b3, true]
            rw [q]
            exact or_kv3 b1 b2 b3
        · skip
          cases hh : h4 with
          | false =>
            have D := C4
            have ix := has_ix4 (w.heap.size + 1)
            rw [hh] at D
            go_wp2_with fail
            refine D.out.mono ?_
            rintro e v3 ⟨rfl, rfl⟩
            go_wp2_with fail
            go_roundw
            case rel => exact ⟨4 + 1, r, by omega, rfl, by go_num, by first | rfl | trivial, by have q : r = kvL [b1, b2, b3, h3] := HQ.out; show r = kvL [b1, b2, b3, h3, false]; rw [q]; exact (no_kv4 b1 b2 b3 h3).symm⟩
            case measure => simp [intOf]
          | true =>
            have D := C4
            have ix := has_ix4 (w.heap.size + 1)
            rw [hh] at D
            go_wp2_with fail
            refine D.out.mono ?_
            rintro e v3 ⟨rfl, rfl⟩
            go_wp2_with fail
            refine (w_bitn4 _).mono ?_
            rintro e v4 ⟨rfl, rfl⟩
            go_wp2_with fail
            refine ⟨⟨4 + 1, bits .or .u8 r 16, by omega, rfl, by go_num, by first | rfl | trivial, ?_⟩, by simp [intOf]⟩
            have q : r = kvL [b1, b2, b3, h3] := HQ.out
            show bits .or .u8 r 16 = kvL [b1, b2, b3, h3, true]
            rw [q]
            exact or_kv4 b1 b2 b3 h3
        · skip
          cases hh : h5 with
          | false =>
            have D := C5
            have ix := has_ix5 (w.heap.size + 1)
            rw [hh] at D
            go_wp2_with fail
            refine D.out.mono ?_
            rintro e v3 ⟨rfl, rfl⟩
            go_wp2_with fail
            go_roundw
            case rel => exact ⟨5 + 1, r, by omega, rfl, by go_num, by first | rfl | trivial, by have q : r = kvL [b1, b2, b3, h3, h4] := HQ.out; show r = kvL [b1, b2, b3, h3, h4, false]; rw [q]; exact (no_kv5 b1 b2 b3 h3 h4).symm⟩
            case measure => simp [intOf]
          | true =>
            have D := C5
            have ix := has_ix5 (w.heap.size + 1)
            rw [hh] at D
            go_wp2_with fail
            refine D.out.mono ?_
            rintro e v3 ⟨rfl, rfl⟩
            go_wp2_with fail
            refine (w_bitn5 _).mono ?_
            rintro e v4 ⟨rfl, rfl⟩
            go_wp2_with fail
            refine ⟨⟨5 + 1, bits .or .u8 r 32, by omega, rfl, by go_num, by first | rfl | trivial, ?_⟩, by simp [intOf]⟩
            have q : r = kvL [b1, b2, b3, h3, h4] := HQ.out
            show bits .or .u8 r 32 = kvL [b1, b2, b3, h3, h4, true]
            rw [q]
            exact or_kv5 b1 b2 b3 h3 h4
        · skip
          cases hh : h6 with
          | false =>
            have D := C6
            have ix := has_ix6 (w.heap.size + 1)
            rw [hh] at D
            go_wp2_with fail
            refine D.out.mono ?_
            rintro e v3 ⟨rfl, rfl⟩
            go_wp2_with fail
            go_roundw
            case rel => exact ⟨6 + 1, r, by omega, rfl, by go_num, by first | rfl | trivial, by have q : r = kvL [b1, b2, b3, h3, h4, h5] := HQ.out; show r = kvL [b1, b2, b3, h3, h4, h5, false]; rw [q]; exact (no_kv6 b1 b2 b3 h3 h4 h5).symm⟩
            case measure => simp [intOf]
          | true =>
            have D := C6
            have ix := has_ix6 (w.heap.size + 1)
            rw [hh] at D
            go_wp2_with fail
            refine D.out.mono ?_
            rintro e v3 ⟨rfl, rfl⟩
            go_wp2_with fail
            refine (w_bitn6 _).mono ?_
            rintro e v4 ⟨rfl, rfl⟩
            go_wp2_with fail
            refine ⟨⟨6 + 1, bits .or .u8 r 64, by omega, rfl, by go_num, by first | rfl | trivial, ?_⟩, by simp [intOf]⟩
            have q : r = kvL [b1, b2, b3, h3, h4, h5] := HQ.out
            show bits .or .u8 r 64 = kvL [b1, b2, b3, h3, h4, h5, true]
            rw [q]
            exact or_kv6 b1 b2 b3 h3 h4 h5
      · have hk7 : k = 7 := by omega
        subst hk7
        go_wp2_with fail
        go_ret
        have q : r = kvL [b1, b2, b3, h3, h4, h5, h6] := HQ.out
        exact ⟨by rw [HG.out, q]; rfl, HB2.out⟩
theorem w_sKinds (h : Nat) (T : TT) (v : Value) (w : World) (hI : InT w h T v) : Calls Tryz.prog 35 #[v] w fun e w' => e = .returned (.int .u8 (kdN T)) ∧ Below w.heap.size w w' := by
  cases h with
  | zero => exact hI.elim
  | succ h =>
    obtain ⟨no, nc, xo, xc, ao, ac, oo, oc, rfl, _, ⟨a5, a6, a7, a8⟩, _⟩ := hI
    exact w_KindsX T.all T.nul T.fls T.tru no _ nc T.any xo _ xc ao _ ac oo _ oc w a5 a6 a7 a8
end Go.Proofs.YtapjfocjeligiaaGreatDoor
