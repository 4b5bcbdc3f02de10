import Derived.Test.YtdmkfdaddacdhaaGreatDoorZE7z
import Derived.Test.YtdmkfdaddacdhaaGreatDoorM29
import Derived.Test.YtdmkfdaddacdhaaGreatDoorM18
import Derived.Test.YtdmkfdaddacdhaaGreatDoorM30
namespace Go.Proofs.YtdmkfdaddacdhaaGreatDoor
open Go.RowKit
set_option linter.unusedVariables false
set_option linter.unusedSimpArgs false

/-- value.Formed, at a height -/
def FvOk (h : Nat) : Prop := ∀ (T : VT) (v : Value) (w : World), InH w h T v → Calls Tryz.prog 102 #[v] w fun e w' => e = .returned (.bool (formN h T)) ∧ Below w.heap.size w w'

theorem InH.shape {W : World} {h : Nat} {T : VT} {v0 v1 v2 v3 v4 : Value} (hI : InH W h T (.agg #[v0, v1, v2, v3, v4])) : ∃ (k : Int) (n t : ByteArray) (io : Option Addr) (N icap : Nat) (ko : Option Addr) (K kcap : Nat), v0 = .int .i64 k ∧ v1 = .string n ∧ v2 = .string t ∧ v3 = .slice io N icap ∧ v4 = .slice ko K kcap := by
  cases h with
  | zero => exact hI.elim
  | succ h =>
    obtain ⟨io, icap, ko, kcap, e, _⟩ := hI.open
    simp only [Value.agg.injEq, Array.mk.injEq, List.cons.injEq, and_true] at e
    exact ⟨_, _, _, io, _, icap, ko, _, kcap, e.1, e.2.1, e.2.2.1, e.2.2.2.1, e.2.2.2.2⟩

set_option maxRecDepth 100000 in
set_option maxHeartbeats 3200000 in
theorem w_allFormed (h : Nat) (ih : FvOk h) (io : Option Addr) (N icap : Nat) (ts : List VT) (w : World) (hi : IIn w h io ts) (hN : ts.length = N) (hcap : N ≤ icap) (hN2 : N ≤ 140737488355328) :
    Calls Tryz.prog 137 #[.slice io N icap] w fun e w' => e = .returned (.bool (ts.all (formN h))) ∧ Below w.heap.size w w' := by
  have HI := Hid.mk hi
  have HNN := Hid.mk hN
  have HIh := Hid.mk ih
  clear hi hN ih
  go_enter Tryz.func137, Tryz.ntmps137
  go_wp2_with fail
  go_loopw [7] (fun i wr => ∃ k : Nat, k ≤ N ∧ i = .int .i64 (k : Int) ∧ Hid (Below w.heap.size w wr) ∧ Hid ((ts.take k).all (formN h) = true)) (fun i _ => N - (intOf i).toNat)
  case atStart => exact ⟨0, Nat.zero_le _, rfl, Below.refl _ _, rfl⟩
  case round =>
    obtain ⟨k, hk, rfl, HB, HQ⟩ := hrel
    by_cases hlt : k < N
    · have hl1 : (k : Int) < (N : Int) := by omega
      have hkl : k < ts.length := by rw [HNN.out]; exact hlt
      obtain ⟨b, off, hio, hbl, hrow⟩ := (HI.out.keep HB.out).row (by omega)
      subst hio
      obtain ⟨v0, v1, v2, v3, v4, ⟨c0, c1, c2, c3, c4⟩, ht⟩ := hrow k hkl
      obtain ⟨ik, inm, itx, iio, iN, iicap, iko, iK, ikcap, rfl, rfl, rfl, rfl, rfl⟩ := ht.shape
      have HBx := Hid.mk (below1 wr (.cells #[.int .i64 ik, .string inm, .string itx, .slice iio iN iicap, .slice iko iK ikcap] 25))
      have HC := Hid.mk (HIh.out _ _ (wr.alloc (.cells #[.int .i64 ik, .string inm, .string itx, .slice iio iN iicap, .slice iko iK ikcap] 25)) (ht.keep HBx.out))
      have HUp := Hid.mk (all_up (f := formN h) hkl)
      have HNo := Hid.mk (fun hh => all_no (f := formN h) hkl hh)
      clear hrow hbl ht
      cases hf : formN h ts[k] with
      | true =>
        rw [hf] at HC
        have HN : Hid ((ts.take (k + 1)).all (formN h) = true) := by show _ = _; rw [HUp.out, HQ.out, hf]; rfl
        clear hf hkl HUp HNo
        go_wp2_with fail
        refine HC.out.mono ?_
        rintro e w2 ⟨rfl, hb2⟩
        have HB2 := Hid.mk (HB.out.trans ((below_more HBx.out hb2).mono HB.out.size))
        clear hb2 c0 c1 c2 c3 c4
        go_wp2_with fail
        go_roundw
        case rel => exact ⟨k + 1, hlt, by go_num, HB2, HN⟩
        case measure => simp [intOf]; omega
      | false =>
        rw [hf] at HC
        have HF := Hid.mk (HNo.out hf)
        clear hf hkl HUp HNo
        go_wp2_with fail
        refine HC.out.mono ?_
        rintro e w2 ⟨rfl, hb2⟩
        have HB2 := Hid.mk (HB.out.trans ((below_more HBx.out hb2).mono HB.out.size))
        clear hb2 c0 c1 c2 c3 c4
        go_wp2_with fail
        go_ret
        exact ⟨by rw [HF.out]; rfl, HB2.out⟩
    · have hl1 : ¬ (k : Int) < (N : Int) := by omega
      have HF : Hid (ts.all (formN h) = true) := by
        have h1 := HQ.out
        rw [List.take_of_length_le (by rw [HNN.out]; omega)] at h1
        exact h1
      go_wp2_with fail
      go_ret
      exact ⟨by rw [HF.out]; rfl, HB.out⟩

/-- both boxes of value.Formed -/
structure VB2 (w u : World) (a b c d e b' c' d' e' : Value) : Prop where
  one : VBx w u a b c d e
  two : VBx (w.alloc (.cells #[a, b, c, d, e] 25)) u a b' c' d' e'
theorem VB2.keep {w u u' : World} {a b c d e b' c' d' e' : Value} (h : VB2 w u a b c d e b' c' d' e') (hb : Below u.heap.size u u') : VB2 w u' a b c d e b' c' d' e' := ⟨h.one.keep hb, h.two.keep hb⟩
theorem vb2_new (w : World) (a b c d e b' c' d' e' : Value) : VB2 w ((w.alloc (.cells #[a, b, c, d, e] 25)).alloc (.cells #[a, b', c', d', e'] 25)) a b c d e b' c' d' e' :=
  ⟨(vbx_new w a b c d e).keep (below1 _ _), vbx_new _ a b' c' d' e'⟩
theorem VB2.d0 {w u : World} {a b c d e b' c' d' e' : Value} (h : VB2 w u a b c d e b' c' d' e') : u.cell? ⟨w.heap.size + 1, 0, none⟩ = some a := by have := h.two.c0; rwa [World.size_alloc] at this
theorem VB2.d1 {w u : World} {a b c d e b' c' d' e' : Value} (h : VB2 w u a b c d e b' c' d' e') : u.cell? ⟨w.heap.size + 1, 1, none⟩ = some b' := by have := h.two.c1; rwa [World.size_alloc] at this
theorem VB2.d2 {w u : World} {a b c d e b' c' d' e' : Value} (h : VB2 w u a b c d e b' c' d' e') : u.cell? ⟨w.heap.size + 1, 2, none⟩ = some c' := by have := h.two.c2; rwa [World.size_alloc] at this
theorem VB2.d3 {w u : World} {a b c d e b' c' d' e' : Value} (h : VB2 w u a b c d e b' c' d' e') : u.cell? ⟨w.heap.size + 1, 3, none⟩ = some d' := by have := h.two.c3; rwa [World.size_alloc] at this
theorem VB2.d4 {w u : World} {a b c d e b' c' d' e' : Value} (h : VB2 w u a b c d e b' c' d' e') : u.cell? ⟨w.heap.size + 1, 4, none⟩ = some e' := by have := h.two.c4; rwa [World.size_alloc] at this
end Go.Proofs.YtdmkfdaddacdhaaGreatDoor
namespace Go.Proofs.YtdmkfdaddacdhaaGreatDoor
open Go.RowKit
set_option linter.unusedVariables false
set_option linter.unusedSimpArgs false

set_option maxRecDepth 100000 in
set_option maxHeartbeats 3200000 in
theorem formv_0 (nm tx : ByteArray) (io : Option Addr) (N icap : Nat) (ko : Option Addr) (K kcap : Nat) (A R O : Bool) (w : World)
    (HAll : Hid (∀ u, Below w.heap.size w u → Calls Tryz.prog 137 #[.slice io N icap] u fun e w' => e = .returned (.bool A) ∧ Below u.heap.size u w'))
    (HR : Hid (∀ u, Below w.heap.size w u → Calls Tryz.prog 138 #[.slice ko K kcap] u fun e w' => e = .returned (.bool R) ∧ Below u.heap.size u w'))
    (HO : Hid (∀ u, Below w.heap.size w u → Calls Tryz.prog 139 #[.slice ko K kcap] u fun e w' => e = .returned (.bool O) ∧ Below u.heap.size u w'))
    (hn : nm.size ≤ 140737488355328) (ht : tx.size ≤ 140737488355328) (hN : N ≤ icap) (hK : K ≤ kcap) :
    Calls Tryz.prog 102 #[.agg #[.int .i64 0, .string nm, .string tx, .slice io N icap, .slice ko K kcap]] w fun e w' => e = .returned (.bool (formV 0 nm tx N K A (R && O))) ∧ Below w.heap.size w w' := by
  have HNum : Hid (∀ u, Below w.heap.size w u → Calls Tryz.prog 123 #[.string nm] u fun e w' => e = .returned (.bool (Pl.formed nm.data.toList)) ∧ Below u.heap.size u w') := fun u _ => w_Formed nm u (by unfold maxLen; omega)
  have HUtf : Hid (∀ u, Below w.heap.size w u → Calls Tryz.prog 136 #[.string tx] u fun e w' => e = .returned (.bool (okB tx.data.toList)) ∧ Below u.heap.size u w') := fun u _ => w_Valid tx u (by omega)
  have HX := Hid.mk (vb2_new w (.int .i64 0) (.string nm) (.string tx) (.slice io N icap) (.slice ko K kcap) (.string nm) (.string tx) (.slice io N icap) (.slice ko K kcap))
  have HF : Hid (formV 0 nm tx N K A (R && O) = bareB nm tx N K) := by show _ = _; unfold formV; rw [if_pos (by omega)]
  go_enter Tryz.func102, Tryz.ntmps102
  go_wp2_with fail
  refine (w_bare 0 nm tx io N icap ko K kcap _).mono ?_
  rintro e w9 ⟨rfl, hb9⟩
  have HX9 := Hid.mk (HX.out.keep hb9)
  clear hb9
  go_wp2_with fail
  go_ret
  exact ⟨by rw [HF.out]; rfl, HX9.out.one.below⟩

set_option maxRecDepth 100000 in
set_option maxHeartbeats 3200000 in
theorem formv_1 (nm tx : ByteArray) (io : Option Addr) (N icap : Nat) (ko : Option Addr) (K kcap : Nat) (A R O : Bool) (w : World)
    (HAll : Hid (∀ u, Below w.heap.size w u → Calls Tryz.prog 137 #[.slice io N icap] u fun e w' => e = .returned (.bool A) ∧ Below u.heap.size u w'))
    (HR : Hid (∀ u, Below w.heap.size w u → Calls Tryz.prog 138 #[.slice ko K kcap] u fun e w' => e = .returned (.bool R) ∧ Below u.heap.size u w'))
    (HO : Hid (∀ u, Below w.heap.size w u → Calls Tryz.prog 139 #[.slice ko K kcap] u fun e w' => e = .returned (.bool O) ∧ Below u.heap.size u w'))
    (hn : nm.size ≤ 140737488355328) (ht : tx.size ≤ 140737488355328) (hN : N ≤ icap) (hK : K ≤ kcap) :
    Calls Tryz.prog 102 #[.agg #[.int .i64 1, .string nm, .string tx, .slice io N icap, .slice ko K kcap]] w fun e w' => e = .returned (.bool (formV 1 nm tx N K A (R && O))) ∧ Below w.heap.size w w' := by
  have HNum : Hid (∀ u, Below w.heap.size w u → Calls Tryz.prog 123 #[.string nm] u fun e w' => e = .returned (.bool (Pl.formed nm.data.toList)) ∧ Below u.heap.size u w') := fun u _ => w_Formed nm u (by unfold maxLen; omega)
  have HUtf : Hid (∀ u, Below w.heap.size w u → Calls Tryz.prog 136 #[.string tx] u fun e w' => e = .returned (.bool (okB tx.data.toList)) ∧ Below u.heap.size u w') := fun u _ => w_Valid tx u (by omega)
  have HX := Hid.mk (vb2_new w (.int .i64 1) (.string nm) (.string tx) (.slice io N icap) (.slice ko K kcap) (.string nm) (.string tx) (.slice io N icap) (.slice ko K kcap))
  have HF : Hid (formV 1 nm tx N K A (R && O) = bareB nm tx N K) := by show _ = _; unfold formV; rw [if_pos (by omega)]
  go_enter Tryz.func102, Tryz.ntmps102
  go_wp2_with fail
  refine (w_bare 1 nm tx io N icap ko K kcap _).mono ?_
  rintro e w9 ⟨rfl, hb9⟩
  have HX9 := Hid.mk (HX.out.keep hb9)
  clear hb9
  go_wp2_with fail
  go_ret
  exact ⟨by rw [HF.out]; rfl, HX9.out.one.below⟩

set_option maxRecDepth 100000 in
set_option maxHeartbeats 3200000 in
theorem formv_2 (nm tx : ByteArray) (io : Option Addr) (N icap : Nat) (ko : Option Addr) (K kcap : Nat) (A R O : Bool) (w : World)
    (HAll : Hid (∀ u, Below w.heap.size w u → Calls Tryz.prog 137 #[.slice io N icap] u fun e w' => e = .returned (.bool A) ∧ Below u.heap.size u w'))
    (HR : Hid (∀ u, Below w.heap.size w u → Calls Tryz.prog 138 #[.slice ko K kcap] u fun e w' => e = .returned (.bool R) ∧ Below u.heap.size u w'))
    (HO : Hid (∀ u, Below w.heap.size w u → Calls Tryz.prog 139 #[.slice ko K kcap] u fun e w' => e = .returned (.bool O) ∧ Below u.heap.size u w'))
    (hn : nm.size ≤ 140737488355328) (ht : tx.size ≤ 140737488355328) (hN : N ≤ icap) (hK : K ≤ kcap) :
    Calls Tryz.prog 102 #[.agg #[.int .i64 2, .string nm, .string tx, .slice io N icap, .slice ko K kcap]] w fun e w' => e = .returned (.bool (formV 2 nm tx N K A (R && O))) ∧ Below w.heap.size w w' := by
  have HNum : Hid (∀ u, Below w.heap.size w u → Calls Tryz.prog 123 #[.string nm] u fun e w' => e = .returned (.bool (Pl.formed nm.data.toList)) ∧ Below u.heap.size u w') := fun u _ => w_Formed nm u (by unfold maxLen; omega)
  have HUtf : Hid (∀ u, Below w.heap.size w u → Calls Tryz.prog 136 #[.string tx] u fun e w' => e = .returned (.bool (okB tx.data.toList)) ∧ Below u.heap.size u w') := fun u _ => w_Valid tx u (by omega)
  have HX := Hid.mk (vb2_new w (.int .i64 2) (.string nm) (.string tx) (.slice io N icap) (.slice ko K kcap) (.string nm) (.string tx) (.slice io N icap) (.slice ko K kcap))
  have HF : Hid (formV 2 nm tx N K A (R && O) = bareB nm tx N K) := by show _ = _; unfold formV; rw [if_pos (by omega)]
  go_enter Tryz.func102, Tryz.ntmps102
  go_wp2_with fail
  refine (w_bare 2 nm tx io N icap ko K kcap _).mono ?_
  rintro e w9 ⟨rfl, hb9⟩
  have HX9 := Hid.mk (HX.out.keep hb9)
  clear hb9
  go_wp2_with fail
  go_ret
  exact ⟨by rw [HF.out]; rfl, HX9.out.one.below⟩

end Go.Proofs.YtdmkfdaddacdhaaGreatDoor
namespace Go.Proofs.YtdmkfdaddacdhaaGreatDoor
open Go.RowKit
set_option linter.unusedVariables false
set_option linter.unusedSimpArgs false

set_option maxRecDepth 100000 in
set_option maxHeartbeats 3200000 in
theorem formv_3 (nm tx : ByteArray) (io : Option Addr) (N icap : Nat) (ko : Option Addr) (K kcap : Nat) (A R O : Bool) (w : World)
    (HAll : Hid (∀ u, Below w.heap.size w u → Calls Tryz.prog 137 #[.slice io N icap] u fun e w' => e = .returned (.bool A) ∧ Below u.heap.size u w'))
    (HR : Hid (∀ u, Below w.heap.size w u → Calls Tryz.prog 138 #[.slice ko K kcap] u fun e w' => e = .returned (.bool R) ∧ Below u.heap.size u w'))
    (HO : Hid (∀ u, Below w.heap.size w u → Calls Tryz.prog 139 #[.slice ko K kcap] u fun e w' => e = .returned (.bool O) ∧ Below u.heap.size u w'))
    (hn : nm.size ≤ 140737488355328) (ht : tx.size ≤ 140737488355328) (hN : N ≤ icap) (hK : K ≤ kcap) :
    Calls Tryz.prog 102 #[.agg #[.int .i64 3, .string nm, .string tx, .slice io N icap, .slice ko K kcap]] w fun e w' => e = .returned (.bool (formV 3 nm tx N K A (R && O))) ∧ Below w.heap.size w w' := by
  have HNum : Hid (∀ u, Below w.heap.size w u → Calls Tryz.prog 123 #[.string nm] u fun e w' => e = .returned (.bool (Pl.formed nm.data.toList)) ∧ Below u.heap.size u w') := fun u _ => w_Formed nm u (by unfold maxLen; omega)
  have HUtf : Hid (∀ u, Below w.heap.size w u → Calls Tryz.prog 136 #[.string tx] u fun e w' => e = .returned (.bool (okB tx.data.toList)) ∧ Below u.heap.size u w') := fun u _ => w_Valid tx u (by omega)
  have HX := Hid.mk (vb2_new w (.int .i64 3) (.string nm) (.string tx) (.slice io N icap) (.slice ko K kcap) (.string (⟨#[]⟩ : ByteArray)) (.string tx) (.slice io N icap) (.slice ko K kcap))
  cases hc : Pl.formed nm.data.toList with
  | false =>
    have HF : Hid (formV 3 nm tx N K A (R && O) = false) := by show _ = _; unfold formV; rw [if_neg (by omega), if_pos rfl, hc]; rfl
    rw [hc] at HNum
    go_enter Tryz.func102, Tryz.ntmps102
    go_wp2_with fail
    refine (HNum.out _ HX.out.one.below).mono ?_
    rintro e w2 ⟨rfl, hw2⟩
    have HX2 := Hid.mk (HX.out.keep hw2)
    clear hw2
    go_wp2_with fail
    go_ret
    exact ⟨by rw [HF.out]; rfl, HX2.out.one.below⟩
  | true =>
    have HF : Hid (formV 3 nm tx N K A (R && O) = bareB .empty tx N K) := by show _ = _; unfold formV; rw [if_neg (by omega), if_pos rfl, hc]; rfl
    rw [hc] at HNum
    go_enter Tryz.func102, Tryz.ntmps102
    go_wp2_with fail
    refine (HNum.out _ HX.out.one.below).mono ?_
    rintro e w2 ⟨rfl, hw2⟩
    have HX2 := Hid.mk (HX.out.keep hw2)
    clear hw2
    have q0HX2 := HX2.out.d0
    have q1HX2 := HX2.out.d1
    have q2HX2 := HX2.out.d2
    have q3HX2 := HX2.out.d3
    have q4HX2 := HX2.out.d4
    go_wp2_with fail
    refine (w_bare 3 (⟨#[]⟩ : ByteArray) tx io N icap ko K kcap _).mono ?_
    rintro e w9 ⟨rfl, hb9⟩
    have HX9 := Hid.mk (HX2.out.keep hb9)
    clear hb9
    go_wp2_with fail
    go_ret
    exact ⟨by rw [HF.out]; rfl, HX9.out.one.below⟩

set_option maxRecDepth 100000 in
set_option maxHeartbeats 3200000 in
theorem formv_4 (nm tx : ByteArray) (io : Option Addr) (N icap : Nat) (ko : Option Addr) (K kcap : Nat) (A R O : Bool) (w : World)
    (HAll : Hid (∀ u, Below w.heap.size w u → Calls Tryz.prog 137 #[.slice io N icap] u fun e w' => e = .returned (.bool A) ∧ Below u.heap.size u w'))
    (HR : Hid (∀ u, Below w.heap.size w u → Calls Tryz.prog 138 #[.slice ko K kcap] u fun e w' => e = .returned (.bool R) ∧ Below u.heap.size u w'))
    (HO : Hid (∀ u, Below w.heap.size w u → Calls Tryz.prog 139 #[.slice ko K kcap] u fun e w' => e = .returned (.bool O) ∧ Below u.heap.size u w'))
    (hn : nm.size ≤ 140737488355328) (ht : tx.size ≤ 140737488355328) (hN : N ≤ icap) (hK : K ≤ kcap) :
    Calls Tryz.prog 102 #[.agg #[.int .i64 4, .string nm, .string tx, .slice io N icap, .slice ko K kcap]] w fun e w' => e = .returned (.bool (formV 4 nm tx N K A (R && O))) ∧ Below w.heap.size w w' := by
  have HNum : Hid (∀ u, Below w.heap.size w u → Calls Tryz.prog 123 #[.string nm] u fun e w' => e = .returned (.bool (Pl.formed nm.data.toList)) ∧ Below u.heap.size u w') := fun u _ => w_Formed nm u (by unfold maxLen; omega)
  have HUtf : Hid (∀ u, Below w.heap.size w u → Calls Tryz.prog 136 #[.string tx] u fun e w' => e = .returned (.bool (okB tx.data.toList)) ∧ Below u.heap.size u w') := fun u _ => w_Valid tx u (by omega)
  have HX := Hid.mk (vb2_new w (.int .i64 4) (.string nm) (.string tx) (.slice io N icap) (.slice ko K kcap) (.string nm) (.string (⟨#[]⟩ : ByteArray)) (.slice io N icap) (.slice ko K kcap))
  cases hc : okB tx.data.toList with
  | false =>
    have HF : Hid (formV 4 nm tx N K A (R && O) = false) := by show _ = _; unfold formV; rw [if_neg (by omega), if_neg (by omega), if_pos rfl, hc]; rfl
    rw [hc] at HUtf
    go_enter Tryz.func102, Tryz.ntmps102
    go_wp2_with fail
    refine (HUtf.out _ HX.out.one.below).mono ?_
    rintro e w2 ⟨rfl, hw2⟩
    have HX2 := Hid.mk (HX.out.keep hw2)
    clear hw2
    go_wp2_with fail
    go_ret
    exact ⟨by rw [HF.out]; rfl, HX2.out.one.below⟩
  | true =>
    have HF : Hid (formV 4 nm tx N K A (R && O) = bareB nm .empty N K) := by show _ = _; unfold formV; rw [if_neg (by omega), if_neg (by omega), if_pos rfl, hc]; rfl
    rw [hc] at HUtf
    go_enter Tryz.func102, Tryz.ntmps102
    go_wp2_with fail
    refine (HUtf.out _ HX.out.one.below).mono ?_
    rintro e w2 ⟨rfl, hw2⟩
    have HX2 := Hid.mk (HX.out.keep hw2)
    clear hw2
    have q0HX2 := HX2.out.d0
    have q1HX2 := HX2.out.d1
    have q2HX2 := HX2.out.d2
    have q3HX2 := HX2.out.d3
    have q4HX2 := HX2.out.d4
    go_wp2_with fail
    refine (w_bare 4 nm (⟨#[]⟩ : ByteArray) io N icap ko K kcap _).mono ?_
    rintro e w9 ⟨rfl, hb9⟩
    have HX9 := Hid.mk (HX2.out.keep hb9)
    clear hb9
    go_wp2_with fail
    go_ret
    exact ⟨by rw [HF.out]; rfl, HX9.out.one.below⟩

end Go.Proofs.YtdmkfdaddacdhaaGreatDoor
namespace Go.Proofs.YtdmkfdaddacdhaaGreatDoor
open Go.RowKit
set_option linter.unusedVariables false
set_option linter.unusedSimpArgs false

set_option maxRecDepth 100000 in
set_option maxHeartbeats 3200000 in
theorem formv_5 (nm tx : ByteArray) (io : Option Addr) (N icap : Nat) (ko : Option Addr) (K kcap : Nat) (A R O : Bool) (w : World)
    (HAll : Hid (∀ u, Below w.heap.size w u → Calls Tryz.prog 137 #[.slice io N icap] u fun e w' => e = .returned (.bool A) ∧ Below u.heap.size u w'))
    (HR : Hid (∀ u, Below w.heap.size w u → Calls Tryz.prog 138 #[.slice ko K kcap] u fun e w' => e = .returned (.bool R) ∧ Below u.heap.size u w'))
    (HO : Hid (∀ u, Below w.heap.size w u → Calls Tryz.prog 139 #[.slice ko K kcap] u fun e w' => e = .returned (.bool O) ∧ Below u.heap.size u w'))
    (hn : nm.size ≤ 140737488355328) (ht : tx.size ≤ 140737488355328) (hN : N ≤ icap) (hK : K ≤ kcap) :
    Calls Tryz.prog 102 #[.agg #[.int .i64 5, .string nm, .string tx, .slice io N icap, .slice ko K kcap]] w fun e w' => e = .returned (.bool (formV 5 nm tx N K A (R && O))) ∧ Below w.heap.size w w' := by
  have HNum : Hid (∀ u, Below w.heap.size w u → Calls Tryz.prog 123 #[.string nm] u fun e w' => e = .returned (.bool (Pl.formed nm.data.toList)) ∧ Below u.heap.size u w') := fun u _ => w_Formed nm u (by unfold maxLen; omega)
  have HUtf : Hid (∀ u, Below w.heap.size w u → Calls Tryz.prog 136 #[.string tx] u fun e w' => e = .returned (.bool (okB tx.data.toList)) ∧ Below u.heap.size u w') := fun u _ => w_Valid tx u (by omega)
  have HX := Hid.mk (vb2_new w (.int .i64 5) (.string nm) (.string tx) (.slice io N icap) (.slice ko K kcap) (.string nm) (.string tx) (.slice none 0 0) (.slice ko K kcap))
  cases hc : A with
  | false =>
    have HF : Hid (formV 5 nm tx N K false (R && O) = false) := by show _ = _; unfold formV; rw [if_neg (by omega), if_neg (by omega), if_neg (by omega), if_pos rfl]; rfl
    rw [hc] at HAll
    go_enter Tryz.func102, Tryz.ntmps102
    go_wp2_with fail
    refine (HAll.out _ HX.out.one.below).mono ?_
    rintro e w2 ⟨rfl, hw2⟩
    have HX2 := Hid.mk (HX.out.keep hw2)
    clear hw2
    go_wp2_with fail
    go_ret
    exact ⟨by rw [HF.out]; rfl, HX2.out.one.below⟩
  | true =>
    have HF : Hid (formV 5 nm tx N K true (R && O) = bareB nm tx 0 K) := by show _ = _; unfold formV; rw [if_neg (by omega), if_neg (by omega), if_neg (by omega), if_pos rfl]; rfl
    rw [hc] at HAll
    go_enter Tryz.func102, Tryz.ntmps102
    go_wp2_with fail
    refine (HAll.out _ HX.out.one.below).mono ?_
    rintro e w2 ⟨rfl, hw2⟩
    have HX2 := Hid.mk (HX.out.keep hw2)
    clear hw2
    have q0HX2 := HX2.out.d0
    have q1HX2 := HX2.out.d1
    have q2HX2 := HX2.out.d2
    have q3HX2 := HX2.out.d3
    have q4HX2 := HX2.out.d4
    go_wp2_with fail
    refine (w_bare 5 nm tx none 0 0 ko K kcap _).mono ?_
    rintro e w9 ⟨rfl, hb9⟩
    have HX9 := Hid.mk (HX2.out.keep hb9)
    clear hb9
    go_wp2_with fail
    go_ret
    exact ⟨by rw [HF.out]; rfl, HX9.out.one.below⟩

end Go.Proofs.YtdmkfdaddacdhaaGreatDoor
namespace Go.Proofs.YtdmkfdaddacdhaaGreatDoor
open Go.RowKit
set_option linter.unusedVariables false
set_option linter.unusedSimpArgs false

set_option maxRecDepth 100000 in
set_option maxHeartbeats 3200000 in
theorem formv_6 (nm tx : ByteArray) (io : Option Addr) (N icap : Nat) (ko : Option Addr) (K kcap : Nat) (A R O : Bool) (w : World)
    (HAll : Hid (∀ u, Below w.heap.size w u → Calls Tryz.prog 137 #[.slice io N icap] u fun e w' => e = .returned (.bool A) ∧ Below u.heap.size u w'))
    (HR : Hid (∀ u, Below w.heap.size w u → Calls Tryz.prog 138 #[.slice ko K kcap] u fun e w' => e = .returned (.bool R) ∧ Below u.heap.size u w'))
    (HO : Hid (∀ u, Below w.heap.size w u → Calls Tryz.prog 139 #[.slice ko K kcap] u fun e w' => e = .returned (.bool O) ∧ Below u.heap.size u w'))
    (hn : nm.size ≤ 140737488355328) (ht : tx.size ≤ 140737488355328) (hN : N ≤ icap) (hK : K ≤ kcap) :
    Calls Tryz.prog 102 #[.agg #[.int .i64 6, .string nm, .string tx, .slice io N icap, .slice ko K kcap]] w fun e w' => e = .returned (.bool (formV 6 nm tx N K A (R && O))) ∧ Below w.heap.size w w' := by
  have HNum : Hid (∀ u, Below w.heap.size w u → Calls Tryz.prog 123 #[.string nm] u fun e w' => e = .returned (.bool (Pl.formed nm.data.toList)) ∧ Below u.heap.size u w') := fun u _ => w_Formed nm u (by unfold maxLen; omega)
  have HUtf : Hid (∀ u, Below w.heap.size w u → Calls Tryz.prog 136 #[.string tx] u fun e w' => e = .returned (.bool (okB tx.data.toList)) ∧ Below u.heap.size u w') := fun u _ => w_Valid tx u (by omega)
  have HX := Hid.mk (vb2_new w (.int .i64 6) (.string nm) (.string tx) (.slice io N icap) (.slice ko K kcap) (.string nm) (.string tx) (.slice none 0 0) (.slice none 0 0))
  by_cases hKN : K = N
  · have hKN1 : ((K : Int) == (N : Int)) = true := by rw [beq_iff_eq]; omega
    have HKN : Hid (decide (K = N) = true) := decide_eq_true hKN
    clear hKN
    cases hR : R with
    | false =>
      have HF : Hid (formV 6 nm tx N K A (false && O) = false) := by show _ = _; unfold formV; rw [if_neg (by omega), if_neg (by omega), if_neg (by omega), if_neg (by omega), if_pos rfl]; simp
      rw [hR] at HR
      go_enter Tryz.func102, Tryz.ntmps102
      go_wp2_with fail
      refine (HR.out _ HX.out.one.below).mono ?_
      rintro e w2 ⟨rfl, hw2⟩
      have HX2 := Hid.mk (HX.out.keep hw2)
      clear hw2
      have p3HX2 := HX2.out.one.c3
      have p4HX2 := HX2.out.one.c4
      go_wp2_with fail
      go_ret
      exact ⟨by rw [HF.out]; rfl, HX2.out.one.below⟩
    | true =>
      rw [hR] at HR
      cases hO : O with
      | false =>
        have HF : Hid (formV 6 nm tx N K A (true && false) = false) := by show _ = _; unfold formV; rw [if_neg (by omega), if_neg (by omega), if_neg (by omega), if_neg (by omega), if_pos rfl]; simp
        rw [hO] at HO
        go_enter Tryz.func102, Tryz.ntmps102
        go_wp2_with fail
        refine (HR.out _ HX.out.one.below).mono ?_
        rintro e w2 ⟨rfl, hw2⟩
        have HX2 := Hid.mk (HX.out.keep hw2)
        clear hw2
        have p3HX2 := HX2.out.one.c3
        have p4HX2 := HX2.out.one.c4
        go_wp2_with fail
        refine (HO.out _ HX2.out.one.below).mono ?_
        rintro e w3 ⟨rfl, hw3⟩
        have HX3 := Hid.mk (HX2.out.keep hw3)
        clear hw3
        have p3HX3 := HX3.out.one.c3
        have p4HX3 := HX3.out.one.c4
        go_wp2_with fail
        go_ret
        exact ⟨by rw [HF.out]; rfl, HX3.out.one.below⟩
      | true =>
        rw [hO] at HO
        cases hA : A with
        | false =>
          have HF : Hid (formV 6 nm tx N K false (true && true) = false) := by show _ = _; unfold formV; rw [if_neg (by omega), if_neg (by omega), if_neg (by omega), if_neg (by omega), if_pos rfl]; simp
          rw [hA] at HAll
          go_enter Tryz.func102, Tryz.ntmps102
          go_wp2_with fail
          refine (HR.out _ HX.out.one.below).mono ?_
          rintro e w2 ⟨rfl, hw2⟩
          have HX2 := Hid.mk (HX.out.keep hw2)
          clear hw2
          have p3HX2 := HX2.out.one.c3
          have p4HX2 := HX2.out.one.c4
          go_wp2_with fail
          refine (HO.out _ HX2.out.one.below).mono ?_
          rintro e w3 ⟨rfl, hw3⟩
          have HX3 := Hid.mk (HX2.out.keep hw3)
          clear hw3
          have p3HX3 := HX3.out.one.c3
          have p4HX3 := HX3.out.one.c4
          go_wp2_with fail
          refine (HAll.out _ HX3.out.one.below).mono ?_
          rintro e w4 ⟨rfl, hw4⟩
          have HX4 := Hid.mk (HX3.out.keep hw4)
          clear hw4
          have q0HX4 := HX4.out.d0
          have q1HX4 := HX4.out.d1
          have q2HX4 := HX4.out.d2
          have q3HX4 := HX4.out.d3
          have q4HX4 := HX4.out.d4
          go_wp2_with fail
          go_ret
          exact ⟨by rw [HF.out]; rfl, HX4.out.one.below⟩
        | true =>
          have HF : Hid (formV 6 nm tx N K true (true && true) = bareB nm tx 0 0) := by show _ = _; unfold formV; rw [if_neg (by omega), if_neg (by omega), if_neg (by omega), if_neg (by omega), if_pos rfl, HKN.out]; rfl
          rw [hA] at HAll
          go_enter Tryz.func102, Tryz.ntmps102
          go_wp2_with fail
          refine (HR.out _ HX.out.one.below).mono ?_
          rintro e w2 ⟨rfl, hw2⟩
          have HX2 := Hid.mk (HX.out.keep hw2)
          clear hw2
          have p3HX2 := HX2.out.one.c3
          have p4HX2 := HX2.out.one.c4
          go_wp2_with fail
          refine (HO.out _ HX2.out.one.below).mono ?_
          rintro e w3 ⟨rfl, hw3⟩
          have HX3 := Hid.mk (HX2.out.keep hw3)
          clear hw3
          have p3HX3 := HX3.out.one.c3
          have p4HX3 := HX3.out.one.c4
          go_wp2_with fail
          refine (HAll.out _ HX3.out.one.below).mono ?_
          rintro e w4 ⟨rfl, hw4⟩
          have HX4 := Hid.mk (HX3.out.keep hw4)
          clear hw4
          have q0HX4 := HX4.out.d0
          have q1HX4 := HX4.out.d1
          have q2HX4 := HX4.out.d2
          have q3HX4 := HX4.out.d3
          have q4HX4 := HX4.out.d4
          go_wp2_with fail
          refine (w_bare 6 nm tx none 0 0 none 0 0 _).mono ?_
          rintro e w9 ⟨rfl, hb9⟩
          have HX9 := Hid.mk (HX4.out.keep hb9)
          clear hb9
          go_wp2_with fail
          go_ret
          exact ⟨by rw [HF.out]; rfl, HX9.out.one.below⟩
  · have hKN1 : ((K : Int) == (N : Int)) = false := by rw [beq_eq_false_iff_ne]; omega
    have HF : Hid (formV 6 nm tx N K A (R && O) = false) := by show _ = _; unfold formV; rw [if_neg (by omega), if_neg (by omega), if_neg (by omega), if_neg (by omega), if_pos rfl, decide_eq_false hKN]; simp
    clear hKN
    go_enter Tryz.func102, Tryz.ntmps102
    go_wp2_with fail
    go_ret
    exact ⟨by rw [HF.out]; rfl, HX.out.one.below⟩

end Go.Proofs.YtdmkfdaddacdhaaGreatDoor
namespace Go.Proofs.YtdmkfdaddacdhaaGreatDoor
open Go.RowKit
set_option linter.unusedVariables false
set_option linter.unusedSimpArgs false

set_option maxRecDepth 100000 in
set_option maxHeartbeats 3200000 in
theorem formv_else (kd : Int) (k0 : kd ≠ 0) (k1 : kd ≠ 1) (k2 : kd ≠ 2) (k3 : kd ≠ 3) (k4 : kd ≠ 4) (k5 : kd ≠ 5) (k6 : kd ≠ 6) (nm tx : ByteArray) (io : Option Addr) (N icap : Nat) (ko : Option Addr) (K kcap : Nat) (A R O : Bool) (w : World)
    (HAll : Hid (∀ u, Below w.heap.size w u → Calls Tryz.prog 137 #[.slice io N icap] u fun e w' => e = .returned (.bool A) ∧ Below u.heap.size u w'))
    (HR : Hid (∀ u, Below w.heap.size w u → Calls Tryz.prog 138 #[.slice ko K kcap] u fun e w' => e = .returned (.bool R) ∧ Below u.heap.size u w'))
    (HO : Hid (∀ u, Below w.heap.size w u → Calls Tryz.prog 139 #[.slice ko K kcap] u fun e w' => e = .returned (.bool O) ∧ Below u.heap.size u w'))
    (hn : nm.size ≤ 140737488355328) (ht : tx.size ≤ 140737488355328) (hN : N ≤ icap) (hK : K ≤ kcap) :
    Calls Tryz.prog 102 #[.agg #[.int .i64 kd, .string nm, .string tx, .slice io N icap, .slice ko K kcap]] w fun e w' => e = .returned (.bool (formV kd nm tx N K A (R && O))) ∧ Below w.heap.size w w' := by
  have HNum : Hid (∀ u, Below w.heap.size w u → Calls Tryz.prog 123 #[.string nm] u fun e w' => e = .returned (.bool (Pl.formed nm.data.toList)) ∧ Below u.heap.size u w') := fun u _ => w_Formed nm u (by unfold maxLen; omega)
  have HUtf : Hid (∀ u, Below w.heap.size w u → Calls Tryz.prog 136 #[.string tx] u fun e w' => e = .returned (.bool (okB tx.data.toList)) ∧ Below u.heap.size u w') := fun u _ => w_Valid tx u (by omega)
  have HX := Hid.mk (vb2_new w (.int .i64 kd) (.string nm) (.string tx) (.slice io N icap) (.slice ko K kcap) (.string nm) (.string tx) (.slice io N icap) (.slice ko K kcap))
  have HF : Hid (formV kd nm tx N K A (R && O) = false) := by show _ = _; unfold formV; rw [if_neg (by omega), if_neg (by omega), if_neg (by omega), if_neg (by omega), if_neg (by omega)]
  have b0 : (kd == 0) = false := by rw [beq_eq_false_iff_ne]; exact k0
  have b1 : (kd == 1) = false := by rw [beq_eq_false_iff_ne]; exact k1
  have b2 : (kd == 2) = false := by rw [beq_eq_false_iff_ne]; exact k2
  have b3 : (kd == 3) = false := by rw [beq_eq_false_iff_ne]; exact k3
  have b4 : (kd == 4) = false := by rw [beq_eq_false_iff_ne]; exact k4
  have b5 : (kd == 5) = false := by rw [beq_eq_false_iff_ne]; exact k5
  have b6 : (kd == 6) = false := by rw [beq_eq_false_iff_ne]; exact k6
  clear k0 k1 k2 k3 k4 k5 k6
  go_enter Tryz.func102, Tryz.ntmps102
  go_wp2_with fail
  go_ret
  exact ⟨by rw [HF.out]; rfl, HX.out.one.below⟩

theorem formv_ok (kd : Int) (nm tx : ByteArray) (io : Option Addr) (N icap : Nat) (ko : Option Addr) (K kcap : Nat) (A R O : Bool) (w : World)
    (HAll : Hid (∀ u, Below w.heap.size w u → Calls Tryz.prog 137 #[.slice io N icap] u fun e w' => e = .returned (.bool A) ∧ Below u.heap.size u w'))
    (HR : Hid (∀ u, Below w.heap.size w u → Calls Tryz.prog 138 #[.slice ko K kcap] u fun e w' => e = .returned (.bool R) ∧ Below u.heap.size u w'))
    (HO : Hid (∀ u, Below w.heap.size w u → Calls Tryz.prog 139 #[.slice ko K kcap] u fun e w' => e = .returned (.bool O) ∧ Below u.heap.size u w'))
    (hn : nm.size ≤ 140737488355328) (ht : tx.size ≤ 140737488355328) (hN : N ≤ icap) (hK : K ≤ kcap) :
    Calls Tryz.prog 102 #[.agg #[.int .i64 kd, .string nm, .string tx, .slice io N icap, .slice ko K kcap]] w fun e w' => e = .returned (.bool (formV kd nm tx N K A (R && O))) ∧ Below w.heap.size w w' := by
  by_cases k0 : kd = 0
  · subst k0; exact formv_0 nm tx io N icap ko K kcap A R O w HAll HR HO hn ht hN hK
  by_cases k1 : kd = 1
  · subst k1; exact formv_1 nm tx io N icap ko K kcap A R O w HAll HR HO hn ht hN hK
  by_cases k2 : kd = 2
  · subst k2; exact formv_2 nm tx io N icap ko K kcap A R O w HAll HR HO hn ht hN hK
  by_cases k3 : kd = 3
  · subst k3; exact formv_3 nm tx io N icap ko K kcap A R O w HAll HR HO hn ht hN hK
  by_cases k4 : kd = 4
  · subst k4; exact formv_4 nm tx io N icap ko K kcap A R O w HAll HR HO hn ht hN hK
  by_cases k5 : kd = 5
  · subst k5; exact formv_5 nm tx io N icap ko K kcap A R O w HAll HR HO hn ht hN hK
  by_cases k6 : kd = 6
  · subst k6; exact formv_6 nm tx io N icap ko K kcap A R O w HAll HR HO hn ht hN hK
  exact formv_else kd k0 k1 k2 k3 k4 k5 k6 nm tx io N icap ko K kcap A R O w HAll HR HO hn ht hN hK

theorem w_vFormed : ∀ h, FvOk h
  | 0 => fun T v w hI => hI.elim
  | h + 1 => fun T v w hI => by
    obtain ⟨io, icap, ko, kcap, rfl, a1, a2, a3, a4, a5, a6, a7, hk, hi⟩ := hI.open
    exact formv_ok T.kind T.num T.text io T.items.length icap ko T.keys.length kcap (T.items.all (formN h)) (rK T.keys T.keys.length) (oK T.keys T.keys.length) w
      (fun u hu => w_allFormed h (w_vFormed h) io T.items.length icap T.items u (hi.keep hu) rfl a5 a3)
      (fun u hu => w_rising ko T.keys.length kcap T.keys u (hk.keep hu) rfl a6 a4)
      (fun u hu => w_allValid ko T.keys.length kcap T.keys u (hk.keep hu) rfl a6 a4 a7) a1 a2 a5 a6
end Go.Proofs.YtdmkfdaddacdhaaGreatDoor
namespace Go.Proofs.YtdmkfdaddacdhaaGreatDoor
open Go.RowKit
set_option linter.unusedVariables false
set_option linter.unusedSimpArgs false

set_option maxRecDepth 100000 in
set_option maxHeartbeats 6400000 in
theorem w_rReserved (n : ByteArray) (w : World) :
    Calls Tryz.prog 61 #[.string n] w fun e w' => e = .returned (.bool (ownB n.data.toList)) ∧ w' = w := by
  by_cases h0 : n.data.toList = [100, 101, 102]
  · have HT : ownB n.data.toList = true := by rw [h0]; decide
    rw [HT]
    have g0 : (n.toList == [100, 101, 102]) = true := by rw [Lib.toList_data, h0]; rfl
    clear HT h0
    go_enter Tryz.func61, Tryz.ntmps61
    go_wp2_with fail
    go_ret
    exact ⟨rfl, rfl⟩
  have g0 : (n.toList == [100, 101, 102]) = false := by rw [Lib.toList_data, beq_eq_false_iff_ne]; exact h0
  have b0 := beq_eq_false_iff_ne.2 h0
  clear h0
  by_cases h1 : n.data.toList = [105, 102]
  · have HT : ownB n.data.toList = true := by rw [h1]; decide
    rw [HT]
    have g1 : (n.toList == [105, 102]) = true := by rw [Lib.toList_data, h1]; rfl
    clear HT h1
    go_enter Tryz.func61, Tryz.ntmps61
    go_wp2_with fail
    go_ret
    exact ⟨rfl, rfl⟩
  have g1 : (n.toList == [105, 102]) = false := by rw [Lib.toList_data, beq_eq_false_iff_ne]; exact h1
  have b1 := beq_eq_false_iff_ne.2 h1
  clear h1
  by_cases h2 : n.data.toList = [116, 104, 101, 110]
  · have HT : ownB n.data.toList = true := by rw [h2]; decide
    rw [HT]
    have g2 : (n.toList == [116, 104, 101, 110]) = true := by rw [Lib.toList_data, h2]; rfl
    clear HT h2
    go_enter Tryz.func61, Tryz.ntmps61
    go_wp2_with fail
    go_ret
    exact ⟨rfl, rfl⟩
  have g2 : (n.toList == [116, 104, 101, 110]) = false := by rw [Lib.toList_data, beq_eq_false_iff_ne]; exact h2
  have b2 := beq_eq_false_iff_ne.2 h2
  clear h2
  by_cases h3 : n.data.toList = [101, 108, 105, 102]
  · have HT : ownB n.data.toList = true := by rw [h3]; decide
    rw [HT]
    have g3 : (n.toList == [101, 108, 105, 102]) = true := by rw [Lib.toList_data, h3]; rfl
    clear HT h3
    go_enter Tryz.func61, Tryz.ntmps61
    go_wp2_with fail
    go_ret
    exact ⟨rfl, rfl⟩
  have g3 : (n.toList == [101, 108, 105, 102]) = false := by rw [Lib.toList_data, beq_eq_false_iff_ne]; exact h3
  have b3 := beq_eq_false_iff_ne.2 h3
  clear h3
  by_cases h4 : n.data.toList = [101, 108, 115, 101]
  · have HT : ownB n.data.toList = true := by rw [h4]; decide
    rw [HT]
    have g4 : (n.toList == [101, 108, 115, 101]) = true := by rw [Lib.toList_data, h4]; rfl
    clear HT h4
    go_enter Tryz.func61, Tryz.ntmps61
    go_wp2_with fail
    go_ret
    exact ⟨rfl, rfl⟩
  have g4 : (n.toList == [101, 108, 115, 101]) = false := by rw [Lib.toList_data, beq_eq_false_iff_ne]; exact h4
  have b4 := beq_eq_false_iff_ne.2 h4
  clear h4
  by_cases h5 : n.data.toList = [101, 110, 100]
  · have HT : ownB n.data.toList = true := by rw [h5]; decide
    rw [HT]
    have g5 : (n.toList == [101, 110, 100]) = true := by rw [Lib.toList_data, h5]; rfl
    clear HT h5
    go_enter Tryz.func61, Tryz.ntmps61
    go_wp2_with fail
    go_ret
    exact ⟨rfl, rfl⟩
  have g5 : (n.toList == [101, 110, 100]) = false := by rw [Lib.toList_data, beq_eq_false_iff_ne]; exact h5
  have b5 := beq_eq_false_iff_ne.2 h5
  clear h5
  by_cases h6 : n.data.toList = [97, 115]
  · have HT : ownB n.data.toList = true := by rw [h6]; decide
    rw [HT]
    have g6 : (n.toList == [97, 115]) = true := by rw [Lib.toList_data, h6]; rfl
    clear HT h6
    go_enter Tryz.func61, Tryz.ntmps61
    go_wp2_with fail
    go_ret
    exact ⟨rfl, rfl⟩
  have g6 : (n.toList == [97, 115]) = false := by rw [Lib.toList_data, beq_eq_false_iff_ne]; exact h6
  have b6 := beq_eq_false_iff_ne.2 h6
  clear h6
  by_cases h7 : n.data.toList = [114, 101, 100, 117, 99, 101]
  · have HT : ownB n.data.toList = true := by rw [h7]; decide
    rw [HT]
    have g7 : (n.toList == [114, 101, 100, 117, 99, 101]) = true := by rw [Lib.toList_data, h7]; rfl
    clear HT h7
    go_enter Tryz.func61, Tryz.ntmps61
    go_wp2_with fail
    go_ret
    exact ⟨rfl, rfl⟩
  have g7 : (n.toList == [114, 101, 100, 117, 99, 101]) = false := by rw [Lib.toList_data, beq_eq_false_iff_ne]; exact h7
  have b7 := beq_eq_false_iff_ne.2 h7
  clear h7
  by_cases h8 : n.data.toList = [102, 111, 114, 101, 97, 99, 104]
  · have HT : ownB n.data.toList = true := by rw [h8]; decide
    rw [HT]
    have g8 : (n.toList == [102, 111, 114, 101, 97, 99, 104]) = true := by rw [Lib.toList_data, h8]; rfl
    clear HT h8
    go_enter Tryz.func61, Tryz.ntmps61
    go_wp2_with fail
    go_ret
    exact ⟨rfl, rfl⟩
  have g8 : (n.toList == [102, 111, 114, 101, 97, 99, 104]) = false := by rw [Lib.toList_data, beq_eq_false_iff_ne]; exact h8
  have b8 := beq_eq_false_iff_ne.2 h8
  clear h8
  by_cases h9 : n.data.toList = [116, 114, 121]
  · have HT : ownB n.data.toList = true := by rw [h9]; decide
    rw [HT]
    have g9 : (n.toList == [116, 114, 121]) = true := by rw [Lib.toList_data, h9]; rfl
    clear HT h9
    go_enter Tryz.func61, Tryz.ntmps61
    go_wp2_with fail
    go_ret
    exact ⟨rfl, rfl⟩
  have g9 : (n.toList == [116, 114, 121]) = false := by rw [Lib.toList_data, beq_eq_false_iff_ne]; exact h9
  have b9 := beq_eq_false_iff_ne.2 h9
  clear h9
  by_cases h10 : n.data.toList = [99, 97, 116, 99, 104]
  · have HT : ownB n.data.toList = true := by rw [h10]; decide
    rw [HT]
    have g10 : (n.toList == [99, 97, 116, 99, 104]) = true := by rw [Lib.toList_data, h10]; rfl
    clear HT h10
    go_enter Tryz.func61, Tryz.ntmps61
    go_wp2_with fail
    go_ret
    exact ⟨rfl, rfl⟩
  have g10 : (n.toList == [99, 97, 116, 99, 104]) = false := by rw [Lib.toList_data, beq_eq_false_iff_ne]; exact h10
  have b10 := beq_eq_false_iff_ne.2 h10
  clear h10
  by_cases h11 : n.data.toList = [97, 110, 100]
  · have HT : ownB n.data.toList = true := by rw [h11]; decide
    rw [HT]
    have g11 : (n.toList == [97, 110, 100]) = true := by rw [Lib.toList_data, h11]; rfl
    clear HT h11
    go_enter Tryz.func61, Tryz.ntmps61
    go_wp2_with fail
    go_ret
    exact ⟨rfl, rfl⟩
  have g11 : (n.toList == [97, 110, 100]) = false := by rw [Lib.toList_data, beq_eq_false_iff_ne]; exact h11
  have b11 := beq_eq_false_iff_ne.2 h11
  clear h11
  by_cases h12 : n.data.toList = [111, 114]
  · have HT : ownB n.data.toList = true := by rw [h12]; decide
    rw [HT]
    have g12 : (n.toList == [111, 114]) = true := by rw [Lib.toList_data, h12]; rfl
    clear HT h12
    go_enter Tryz.func61, Tryz.ntmps61
    go_wp2_with fail
    go_ret
    exact ⟨rfl, rfl⟩
  have g12 : (n.toList == [111, 114]) = false := by rw [Lib.toList_data, beq_eq_false_iff_ne]; exact h12
  have b12 := beq_eq_false_iff_ne.2 h12
  clear h12
  by_cases h13 : n.data.toList = [108, 97, 98, 101, 108]
  · have HT : ownB n.data.toList = true := by rw [h13]; decide
    rw [HT]
    have g13 : (n.toList == [108, 97, 98, 101, 108]) = true := by rw [Lib.toList_data, h13]; rfl
    clear HT h13
    go_enter Tryz.func61, Tryz.ntmps61
    go_wp2_with fail
    go_ret
    exact ⟨rfl, rfl⟩
  have g13 : (n.toList == [108, 97, 98, 101, 108]) = false := by rw [Lib.toList_data, beq_eq_false_iff_ne]; exact h13
  have b13 := beq_eq_false_iff_ne.2 h13
  clear h13
  by_cases h14 : n.data.toList = [98, 114, 101, 97, 107]
  · have HT : ownB n.data.toList = true := by rw [h14]; decide
    rw [HT]
    have g14 : (n.toList == [98, 114, 101, 97, 107]) = true := by rw [Lib.toList_data, h14]; rfl
    clear HT h14
    go_enter Tryz.func61, Tryz.ntmps61
    go_wp2_with fail
    go_ret
    exact ⟨rfl, rfl⟩
  have g14 : (n.toList == [98, 114, 101, 97, 107]) = false := by rw [Lib.toList_data, beq_eq_false_iff_ne]; exact h14
  have b14 := beq_eq_false_iff_ne.2 h14
  clear h14
  by_cases h15 : n.data.toList = [110, 117, 108, 108]
  · have HT : ownB n.data.toList = true := by rw [h15]; decide
    rw [HT]
    have g15 : (n.toList == [110, 117, 108, 108]) = true := by rw [Lib.toList_data, h15]; rfl
    clear HT h15
    go_enter Tryz.func61, Tryz.ntmps61
    go_wp2_with fail
    go_ret
    exact ⟨rfl, rfl⟩
  have g15 : (n.toList == [110, 117, 108, 108]) = false := by rw [Lib.toList_data, beq_eq_false_iff_ne]; exact h15
  have b15 := beq_eq_false_iff_ne.2 h15
  clear h15
  by_cases h16 : n.data.toList = [116, 114, 117, 101]
  · have HT : ownB n.data.toList = true := by rw [h16]; decide
    rw [HT]
    have g16 : (n.toList == [116, 114, 117, 101]) = true := by rw [Lib.toList_data, h16]; rfl
    clear HT h16
    go_enter Tryz.func61, Tryz.ntmps61
    go_wp2_with fail
    go_ret
    exact ⟨rfl, rfl⟩
  have g16 : (n.toList == [116, 114, 117, 101]) = false := by rw [Lib.toList_data, beq_eq_false_iff_ne]; exact h16
  have b16 := beq_eq_false_iff_ne.2 h16
  clear h16
  by_cases h17 : n.data.toList = [102, 97, 108, 115, 101]
  · have HT : ownB n.data.toList = true := by rw [h17]; decide
    rw [HT]
    have g17 : (n.toList == [102, 97, 108, 115, 101]) = true := by rw [Lib.toList_data, h17]; rfl
    clear HT h17
    go_enter Tryz.func61, Tryz.ntmps61
    go_wp2_with fail
    go_ret
    exact ⟨rfl, rfl⟩
  have g17 : (n.toList == [102, 97, 108, 115, 101]) = false := by rw [Lib.toList_data, beq_eq_false_iff_ne]; exact h17
  have b17 := beq_eq_false_iff_ne.2 h17
  clear h17
  have HT : ownB n.data.toList = false := by
    unfold ownB
    simp only [ownL, List.cons_append, List.nil_append, List.contains_cons, List.contains_nil, b0, b1, b2, b3, b4, b5, b6, b7, b8, b9, b10, b11, b12, b13, b14, b15, b16, b17, Bool.or_false]
  rw [HT]
  clear HT b0 b1 b2 b3 b4 b5 b6 b7 b8 b9 b10 b11 b12 b13 b14 b15 b16 b17
  go_enter Tryz.func61, Tryz.ntmps61
  go_wp2_with fail
  go_ret
  exact ⟨rfl, rfl⟩

end Go.Proofs.YtdmkfdaddacdhaaGreatDoor
namespace Go.Proofs.YtdmkfdaddacdhaaGreatDoor
open Go.RowKit
set_option linter.unusedVariables false
set_option linter.unusedSimpArgs false

set_option maxRecDepth 100000 in
set_option maxHeartbeats 1600000 in
theorem w_rDigit (c : UInt8) (w : World) :
    Calls Tryz.prog 70 #[.int .u8 ((c.toNat : Nat) : Int)] w fun e w' => e = .returned (.bool (dgB c)) ∧ w' = w := by
  have ht : ∀ b, dgB c = b → dgB c = b := fun _ h => h
  unfold dgB at ht
  have hlt := c.toNat_lt
  obtain ⟨x, hx⟩ : ∃ x : Int, ((c.toNat : Nat) : Int) = x := ⟨_, rfl⟩
  rw [hx]
  have hcs : (48 ≤ x ∧ x ≤ 57) ∨ (48 ≤ x ∧ ¬ x ≤ 57) ∨ (¬ 48 ≤ x ∧ x ≤ 57) := by omega
  rcases hcs with ⟨q0, q1⟩ | ⟨q0, q1⟩ | ⟨q0, q1⟩
  · have HT : dgB c = true := by unfold dgB; exact decide_eq_true (by omega)
    rw [HT]
    clear HT ht hx hlt
    go_enter Tryz.func70, Tryz.ntmps70
    go_wp2_with fail
    go_ret
    exact ⟨by first | rfl | simp [*], rfl⟩
  · have HT : dgB c = false := by unfold dgB; exact decide_eq_false (by omega)
    rw [HT]
    clear HT ht hx hlt
    go_enter Tryz.func70, Tryz.ntmps70
    go_wp2_with fail
    go_ret
    exact ⟨by first | rfl | simp [*], rfl⟩
  · have HT : dgB c = false := by unfold dgB; exact decide_eq_false (by omega)
    rw [HT]
    clear HT ht hx hlt
    go_enter Tryz.func70, Tryz.ntmps70
    go_wp2_with fail
    go_ret
    exact ⟨by first | rfl | simp [*], rfl⟩

set_option maxRecDepth 100000 in
set_option maxHeartbeats 1600000 in
theorem w_rLetter (c : UInt8) (w : World) :
    Calls Tryz.prog 68 #[.int .u8 ((c.toNat : Nat) : Int)] w fun e w' => e = .returned (.bool (leB c)) ∧ w' = w := by
  have ht : ∀ b, leB c = b → leB c = b := fun _ h => h
  unfold leB at ht
  have hlt := c.toNat_lt
  obtain ⟨x, hx⟩ : ∃ x : Int, ((c.toNat : Nat) : Int) = x := ⟨_, rfl⟩
  rw [hx]
  have hcs : (97 ≤ x ∧ x ≤ 122) ∨ (97 ≤ x ∧ ¬ x ≤ 122 ∧ 65 ≤ x ∧ ¬ x ≤ 90 ∧ ¬ x = 95) ∨ (¬ 97 ≤ x ∧ 65 ≤ x ∧ x ≤ 90) ∨ (¬ 97 ≤ x ∧ 65 ≤ x ∧ ¬ x ≤ 90 ∧ x = 95) ∨ (¬ 97 ≤ x ∧ 65 ≤ x ∧ ¬ x ≤ 90 ∧ ¬ x = 95) ∨ (¬ 97 ≤ x ∧ ¬ 65 ≤ x ∧ ¬ x = 95) := by omega
  rcases hcs with ⟨q0, q1⟩ | ⟨q0, q1, q2, q3, q4⟩ | ⟨q0, q1, q2⟩ | ⟨q0, q1, q2, q3⟩ | ⟨q0, q1, q2, q3⟩ | ⟨q0, q1, q2⟩
  · have HT : leB c = true := by unfold leB; exact decide_eq_true (by omega)
    rw [HT]
    clear HT ht hx hlt
    go_enter Tryz.func68, Tryz.ntmps68
    go_wp2_with fail
    go_ret
    exact ⟨by first | rfl | simp [*], rfl⟩
  · have HT : leB c = false := by unfold leB; exact decide_eq_false (by omega)
    rw [HT]
    clear HT ht hx hlt
    go_enter Tryz.func68, Tryz.ntmps68
    go_wp2_with fail
    go_ret
    exact ⟨by first | rfl | simp [*], rfl⟩
  · have HT : leB c = true := by unfold leB; exact decide_eq_true (by omega)
    rw [HT]
    clear HT ht hx hlt
    go_enter Tryz.func68, Tryz.ntmps68
    go_wp2_with fail
    go_ret
    exact ⟨by first | rfl | simp [*], rfl⟩
  · have HT : leB c = true := by unfold leB; exact decide_eq_true (by omega)
    rw [HT]
    subst q3
    clear HT ht hx hlt q0 q1 q2
    go_enter Tryz.func68, Tryz.ntmps68
    go_wp2_with fail
    go_ret
    exact ⟨by first | rfl | simp [*], rfl⟩
  · have HT : leB c = false := by unfold leB; exact decide_eq_false (by omega)
    rw [HT]
    clear HT ht hx hlt
    go_enter Tryz.func68, Tryz.ntmps68
    go_wp2_with fail
    go_ret
    exact ⟨by first | rfl | simp [*], rfl⟩
  · have HT : leB c = false := by unfold leB; exact decide_eq_false (by omega)
    rw [HT]
    clear HT ht hx hlt
    go_enter Tryz.func68, Tryz.ntmps68
    go_wp2_with fail
    go_ret
    exact ⟨by first | rfl | simp [*], rfl⟩

theorem cut_all {l : List UInt8} {k : Nat} (hk : k ≤ l.length) : (cut l 0 k = l) ↔ k = l.length := by
  unfold cut
  rw [List.drop_zero, Nat.sub_zero]
  constructor
  · intro h
    have := congrArg List.length h
    rw [List.length_take] at this
    omega
  · intro h; rw [h]; exact List.take_length
theorem namedB_of {l : List UInt8} (h0 : l ≠ []) (h1 : leB (l.getD 0 0) = true) : namedB l = decide (bhP inB l 0 = l.length) := by
  have hp : 0 < l.length := List.length_pos_iff.2 h0
  unfold namedB nameW
  rw [if_pos ⟨hp, h1⟩]
  have := cut_all (l := l) (k := bhP inB l 0) (bhP_ge inB (by omega)).2
  by_cases h : bhP inB l 0 = l.length
  · rw [decide_eq_true h, decide_eq_true ⟨h0, this.2 h⟩]
  · rw [decide_eq_false h, decide_eq_false (fun g => h (this.1 g.2))]
theorem namedB_not {l : List UInt8} (h1 : ¬ leB (l.getD 0 0) = true) : namedB l = false := by
  unfold namedB nameW
  rw [if_neg (fun g => h1 g.2)]
  exact decide_eq_false (fun g => g.1 g.2.symm)

set_option maxRecDepth 100000 in
set_option maxHeartbeats 1600000 in
theorem w_rNamed (s : ByteArray) (w : World) (hs : s.size ≤ 140737488355328) :
    Calls Tryz.prog 60 #[.string s] w fun e w' => e = .returned (.bool (namedB s.data.toList)) ∧ w' = w := by
  by_cases h0 : s.size = 0
  · have HF : Hid (namedB s.data.toList = false) := by
      have : s.data.toList = [] := List.length_eq_zero_iff.1 (by rw [size_lst]; exact h0)
      show _ = _
      rw [this]; rfl
    have hq : ((s.size : Int) == 0) = true := by rw [h0]; rfl
    have hz : (s.size : Int) = 0 := by omega
    go_enter Tryz.func60, Tryz.ntmps60
    go_wp2_with fail
    go_ret
    exact ⟨by rw [HF.out]; first | done | rfl, rfl⟩
  · have hq : ((s.size : Int) == 0) = false := by rw [beq_eq_false_iff_ne]; omega
    have hz : ¬ (s.size : Int) = 0 := by omega
    have hi : (0 : Int) < (s.size : Int) := by omega
    have hp : 0 < s.size := by omega
    have hc := fun u => w_rLetter s[0] u
    have hd := getD_byte hp
    cases h1 : leB s[0] with
    | false =>
      have HF : Hid (namedB s.data.toList = false) := namedB_not (by rw [hd, h1]; decide)
      rw [h1] at hc
      have HC := Hid.mk hc
      clear hc hd h1
      go_enter Tryz.func60, Tryz.ntmps60
      go_wp2_with fail
      refine (HC.out _).mono ?_
      rintro e w1 ⟨rfl, hw1⟩
      obtain rfl := hw1.symm
      go_wp2_with fail
      go_ret
      exact ⟨by rw [HF.out]; first | done | rfl, rfl⟩
    | true =>
      have HF : Hid (namedB s.data.toList = decide (bhP inB s.data.toList 0 = s.data.toList.length)) := namedB_of (fun e => by have := congrArg List.length e; rw [size_lst, List.length_nil] at this; omega) (by rw [hd, h1])
      rw [h1] at hc
      have HC := Hid.mk hc
      have HLe := Hid.mk (fun c u => w_rLetter c u)
      have HDi := Hid.mk (fun c u => w_rDigit c u)
      clear hc hd h1
      obtain ⟨l, hl⟩ : ∃ l, l = s.data.toList := ⟨_, rfl⟩
      have HL : Hid (l.length = s.size) := by show _ = _; rw [hl]; exact size_lst s
      have HG : Hid (∀ q (h : q < s.size), l.getD q 0 = s[q]) := fun q h => by rw [hl]; exact getD_byte h
      rw [← hl] at HF ⊢
      clear hl
      go_enter Tryz.func60, Tryz.ntmps60
      go_wp2_with fail
      refine (HC.out _).mono ?_
      rintro e w1 ⟨rfl, hw1⟩
      obtain rfl := hw1.symm
      go_wp2_with fail
      go_loopw [3] (fun a wr => ∃ q : Nat, q ≤ s.size ∧ a = .int .i64 (q : Int) ∧ Hid (bhP inB l 0 = bhP inB l q) ∧ wr = w) (fun a _ => s.size - (intOf a).toNat)
      case atStart => exact ⟨0, Nat.zero_le _, rfl, rfl, rfl⟩
      case round =>
        obtain ⟨q, hqs, rfl, HQ, rfl⟩ := hrel
        by_cases hlt : q < s.size
        · have hi1 : (q : Int) < (s.size : Int) := by omega
          have hi0 : (0 : Int) ≤ (q : Int) := by omega
          have hst := bhP_step (P := inB) (l := l) (p := q) (by rw [HL.out]; exact hlt)
          have hsp := bhP_stop (P := inB) (l := l) (p := q) (by rw [HL.out]; exact hlt)
          rw [HG.out q hlt] at hst hsp
          unfold inB at hst hsp
          have hl1 := fun u => HLe.out s[q] u
          have hl2 := fun u => HDi.out s[q] u
          cases h1 : leB s[q] with
          | true =>
            rw [h1] at hl1 hst
            have HST := Hid.mk (hst rfl)
            have HL1 := Hid.mk hl1
            clear hst hsp hl1 hl2 h1 HC
            go_wp2_with fail
            refine (HL1.out _).mono ?_
            rintro e w1 ⟨rfl, hw1⟩
            obtain rfl := hw1.symm
            go_wp2_with fail
            go_roundw
            case rel => exact ⟨q + 1, by omega, by go_num, HQ.out.trans HST.out, by first | rfl | trivial⟩
            case measure => simp [intOf]; omega
          | false =>
            cases h2 : dgB s[q] with
            | true =>
              rw [h1] at hl1
              rw [h2] at hl2
              rw [h1, h2] at hst
              have HST := Hid.mk (hst rfl)
              have HL1 := Hid.mk hl1
              have HL2 := Hid.mk hl2
              clear hst hsp hl1 hl2 h1 h2 HC
              go_wp2_with fail
              refine (HL1.out _).mono ?_
              rintro e w1 ⟨rfl, hw1⟩
              obtain rfl := hw1.symm
              go_wp2_with fail
              refine (HL2.out _).mono ?_
              rintro e w1 ⟨rfl, hw1⟩
              obtain rfl := hw1.symm
              go_wp2_with fail
              go_roundw
              case rel => exact ⟨q + 1, by omega, by go_num, HQ.out.trans HST.out, by first | rfl | trivial⟩
              case measure => simp [intOf]; omega
            | false =>
              rw [h1] at hl1
              rw [h2] at hl2
              rw [h1, h2] at hsp
              have HE : Hid (namedB l = false) := by
                show _ = _
                rw [HF.out, HQ.out, show bhP inB l q = q from hsp rfl, HL.out]
                exact decide_eq_false (by omega)
              have HL1 := Hid.mk hl1
              have HL2 := Hid.mk hl2
              clear hst hsp hl1 hl2 h1 h2 HC HF
              go_wp2_with fail
              refine (HL1.out _).mono ?_
              rintro e w1 ⟨rfl, hw1⟩
              obtain rfl := hw1.symm
              go_wp2_with fail
              refine (HL2.out _).mono ?_
              rintro e w1 ⟨rfl, hw1⟩
              obtain rfl := hw1.symm
              go_wp2_with fail
              go_ret
              exact ⟨by rw [HE.out]; first | done | rfl, rfl⟩
        · have hi1 : ¬ (q : Int) < (s.size : Int) := by omega
          have HE : Hid (namedB l = true) := by
            show _ = _
            rw [HF.out, HQ.out, show q = l.length by rw [HL.out]; omega, bhP_end]
            exact decide_eq_true rfl
          clear HF HC
          go_wp2_with fail
          go_ret
          exact ⟨by rw [HE.out]; first | done | rfl, rfl⟩

set_option maxRecDepth 100000 in
set_option maxHeartbeats 1600000 in
theorem w_rPlain (s : ByteArray) (w : World) (hs : s.size ≤ 140737488355328) :
    Calls Tryz.prog 29 #[.string s] w fun e w' => e = .returned (.bool (plainW s.data.toList)) ∧ w' = w := by
  have HN := Hid.mk (fun u => w_rNamed s u hs)
  have HO := Hid.mk (fun u => w_rReserved s u)
  unfold plainW
  cases h1 : namedB s.data.toList with
  | false =>
    rw [h1] at HN
    clear h1
    go_enter Tryz.func29, Tryz.ntmps29
    go_wp2_with fail
    refine (HN.out _).mono ?_
    rintro e w1 ⟨rfl, hw1⟩
    obtain rfl := hw1.symm
    go_wp2_with fail
    go_ret
    exact ⟨rfl, rfl⟩
  | true =>
    rw [h1] at HN
    clear h1
    generalize ownB s.data.toList = b2 at *
    go_enter Tryz.func29, Tryz.ntmps29
    go_wp2_with fail
    refine (HN.out _).mono ?_
    rintro e w1 ⟨rfl, hw1⟩
    obtain rfl := hw1.symm
    go_wp2_with fail
    refine (HO.out _).mono ?_
    rintro e w1 ⟨rfl, hw1⟩
    obtain rfl := hw1.symm
    go_wp2_with fail
    go_ret
    exact ⟨by cases b2 <;> rfl, rfl⟩
end Go.Proofs.YtdmkfdaddacdhaaGreatDoor
