import Derived.Test.YtdjleoglphgdgaaGreatDoorM19
namespace Go.Proofs.YtdjleoglphgdgaaGreatDoor
open Go.RowKit
set_option linter.unusedVariables false
set_option linter.unusedSimpArgs false

/-- value.Formed, at a height -/
def FvOk (h : Nat) : Prop := ∀ (T : VT) (v : Value) (w : World), InH w h T v → Calls Tryz.prog 134 #[v] w fun e w' => e = .returned (.bool (formN h T)) ∧ Below w.heap.size w w'

theorem InH.shape {W : World} {h : Nat} {T : VT} {v0 v1 v2 v3 v4 : Value} (hI : InH W h T (.agg #[v0, v1, v2, v3, v4])) : ∃ (k : Int) (n t : ByteArray) (io : Option Addr) (N icap : Nat) (ko : Option Addr) (K kcap : Nat), v0 = .int .i64 k ∧ v1 = .string n ∧ v2 = .string t ∧ v3 = .slice io N icap ∧ v4 = .slice ko K kcap := by
  cases h with
  | zero => exact hI.elim
  | succ h =>
    obtain ⟨io, icap, ko, kcap, e, _⟩ := hI.open
    simp only [Value.agg.injEq, Array.mk.injEq, List.cons.injEq, and_true] at e
    exact ⟨_, _, _, io, _, icap, ko, _, kcap, e.1, e.2.1, e.2.2.1, e.2.2.2.1, e.2.2.2.2⟩

set_option maxRecDepth 100000 in
set_option maxHeartbeats 3200000 in
theorem w_allFormed (h : Nat) (ih : FvOk h) (io : Option Addr) (N icap : Nat) (ts : List VT) (w : World) (hi : IIn w h io ts) (hN : ts.length = N) (hcap : N ≤ icap) (hN2 : N ≤ 140737488355328) :
    Calls Tryz.prog 178 #[.slice io N icap] w fun e w' => e = .returned (.bool (ts.all (formN h))) ∧ Below w.heap.size w w' := by
  have HI := Hid.mk hi
  have HNN := Hid.mk hN
  have HIh := Hid.mk ih
  clear hi hN ih
  go_enter Tryz.func178, Tryz.ntmps178
  go_wp2_with fail
  go_loopw [7] (fun i wr => ∃ k : Nat, k ≤ N ∧ i = .int .i64 (k : Int) ∧ Hid (Below w.heap.size w wr) ∧ Hid ((ts.take k).all (formN h) = true)) (fun i _ => N - (intOf i).toNat)
  case atStart => exact ⟨0, Nat.zero_le _, rfl, Below.refl _ _, rfl⟩
  case round =>
    obtain ⟨k, hk, rfl, HB, HQ⟩ := hrel
    by_cases hlt : k < N
    · have hl1 : (k : Int) < (N : Int) := by omega
      have hkl : k < ts.length := by rw [HNN.out]; exact hlt
      obtain ⟨b, off, hio, hbl, hrow⟩ := (HI.out.keep HB.out).row (by omega)
      subst hio
      obtain ⟨v0, v1, v2, v3, v4, ⟨c0, c1, c2, c3, c4⟩, ht⟩ := hrow k hkl
      obtain ⟨ik, inm, itx, iio, iN, iicap, iko, iK, ikcap, rfl, rfl, rfl, rfl, rfl⟩ := ht.shape
      have HBx := Hid.mk (below1 wr (.cells #[.int .i64 ik, .string inm, .string itx, .slice iio iN iicap, .slice iko iK ikcap] 25))
      have HC := Hid.mk (HIh.out _ _ (wr.alloc (.cells #[.int .i64 ik, .string inm, .string itx, .slice iio iN iicap, .slice iko iK ikcap] 25)) (ht.keep HBx.out))
      have HUp := Hid.mk (all_up (f := formN h) hkl)
      have HNo := Hid.mk (fun hh => all_no (f := formN h) hkl hh)
      clear hrow hbl ht
      cases hf : formN h ts[k] with
      | true =>
        rw [hf] at HC
        have HN : Hid ((ts.take (k + 1)).all (formN h) = true) := by show _ = _; rw [HUp.out, HQ.out, hf]; rfl
        clear hf hkl HUp HNo
        go_wp2_with fail
        refine HC.out.mono ?_
        rintro e w2 ⟨rfl, hb2⟩
        have HB2 := Hid.mk (HB.out.trans ((below_more HBx.out hb2).mono HB.out.size))
        clear hb2 c0 c1 c2 c3 c4
        go_wp2_with fail
        go_roundw
        case rel => exact ⟨k + 1, hlt, by go_num, HB2, HN⟩
        case measure => simp [intOf]; omega
      | false =>
        rw [hf] at HC
        have HF := Hid.mk (HNo.out hf)
        clear hf hkl HUp HNo
        go_wp2_with fail
        refine HC.out.mono ?_
        rintro e w2 ⟨rfl, hb2⟩
        have HB2 := Hid.mk (HB.out.trans ((below_more HBx.out hb2).mono HB.out.size))
        clear hb2 c0 c1 c2 c3 c4
        go_wp2_with fail
        go_ret
        exact ⟨by rw [HF.out]; rfl, HB2.out⟩
    · have hl1 : ¬ (k : Int) < (N : Int) := by omega
      have HF : Hid (ts.all (formN h) = true) := by
        have h1 := HQ.out
        rw [List.take_of_length_le (by rw [HNN.out]; omega)] at h1
        exact h1
      go_wp2_with fail
      go_ret
      exact ⟨by rw [HF.out]; rfl, HB.out⟩

/-- both boxes of value.Formed -/
structure VB2 (w u : World) (a b c d e b' c' d' e' : Value) : Prop where
  one : VBx w u a b c d e
  two : VBx (w.alloc (.cells #[a, b, c, d, e] 25)) u a b' c' d' e'
theorem VB2.keep {w u u' : World} {a b c d e b' c' d' e' : Value} (h : VB2 w u a b c d e b' c' d' e') (hb : Below u.heap.size u u') : VB2 w u' a b c d e b' c' d' e' := ⟨h.one.keep hb, h.two.keep hb⟩
theorem vb2_new (w : World) (a b c d e b' c' d' e' : Value) : VB2 w ((w.alloc (.cells #[a, b, c, d, e] 25)).alloc (.cells #[a, b', c', d', e'] 25)) a b c d e b' c' d' e' :=
  ⟨(vbx_new w a b c d e).keep (below1 _ _), vbx_new _ a b' c' d' e'⟩
theorem VB2.d0 {w u : World} {a b c d e b' c' d' e' : Value} (h : VB2 w u a b c d e b' c' d' e') : u.cell? ⟨w.heap.size + 1, 0, none⟩ = some a := by have := h.two.c0; rwa [World.size_alloc] at this
theorem VB2.d1 {w u : World} {a b c d e b' c' d' e' : Value} (h : VB2 w u a b c d e b' c' d' e') : u.cell? ⟨w.heap.size + 1, 1, none⟩ = some b' := by have := h.two.c1; rwa [World.size_alloc] at this
theorem VB2.d2 {w u : World} {a b c d e b' c' d' e' : Value} (h : VB2 w u a b c d e b' c' d' e') : u.cell? ⟨w.heap.size + 1, 2, none⟩ = some c' := by have := h.two.c2; rwa [World.size_alloc] at this
theorem VB2.d3 {w u : World} {a b c d e b' c' d' e' : Value} (h : VB2 w u a b c d e b' c' d' e') : u.cell? ⟨w.heap.size + 1, 3, none⟩ = some d' := by have := h.two.c3; rwa [World.size_alloc] at this
theorem VB2.d4 {w u : World} {a b c d e b' c' d' e' : Value} (h : VB2 w u a b c d e b' c' d' e') : u.cell? ⟨w.heap.size + 1, 4, none⟩ = some e' := by have := h.two.c4; rwa [World.size_alloc] at this
end Go.Proofs.YtdjleoglphgdgaaGreatDoor
namespace Go.Proofs.YtdjleoglphgdgaaGreatDoor
open Go.RowKit
set_option linter.unusedVariables false
set_option linter.unusedSimpArgs false

set_option maxRecDepth 100000 in
set_option maxHeartbeats 3200000 in
theorem formv_0 (nm tx : ByteArray) (io : Option Addr) (N icap : Nat) (ko : Option Addr) (K kcap : Nat) (A R O : Bool) (w : World)
    (HAll : Hid (∀ u, Below w.heap.size w u → Calls Tryz.prog 178 #[.slice io N icap] u fun e w' => e = .returned (.bool A) ∧ Below u.heap.size u w'))
    (HR : Hid (∀ u, Below w.heap.size w u → Calls Tryz.prog 179 #[.slice ko K kcap] u fun e w' => e = .returned (.bool R) ∧ Below u.heap.size u w'))
    (HO : Hid (∀ u, Below w.heap.size w u → Calls Tryz.prog 180 #[.slice ko K kcap] u fun e w' => e = .returned (.bool O) ∧ Below u.heap.size u w'))
    (hn : nm.size ≤ 140737488355328) (ht : tx.size ≤ 140737488355328) (hN : N ≤ icap) (hK : K ≤ kcap) :
    Calls Tryz.prog 134 #[.agg #[.int .i64 0, .string nm, .string tx, .slice io N icap, .slice ko K kcap]] w fun e w' => e = .returned (.bool (formV 0 nm tx N K A (R && O))) ∧ Below w.heap.size w w' := by
  have HNum : Hid (∀ u, Below w.heap.size w u → Calls Tryz.prog 149 #[.string nm] u fun e w' => e = .returned (.bool (Pl.formed nm.data.toList)) ∧ Below u.heap.size u w') := fun u _ => w_Formed nm u (by unfold maxLen; omega)
  have HUtf : Hid (∀ u, Below w.heap.size w u → Calls Tryz.prog 34 #[.string tx] u fun e w' => e = .returned (.bool (okB tx.data.toList)) ∧ Below u.heap.size u w') := fun u _ => w_Valid tx u (by omega)
  have HX := Hid.mk (vb2_new w (.int .i64 0) (.string nm) (.string tx) (.slice io N icap) (.slice ko K kcap) (.string nm) (.string tx) (.slice io N icap) (.slice ko K kcap))
  have HF : Hid (formV 0 nm tx N K A (R && O) = bareB nm tx N K) := by show _ = _; unfold formV; rw [if_pos (by omega)]
  go_enter Tryz.func134, Tryz.ntmps134
  go_wp2_with fail
  refine (w_bare 0 nm tx io N icap ko K kcap _).mono ?_
  rintro e w9 ⟨rfl, hb9⟩
  have HX9 := Hid.mk (HX.out.keep hb9)
  clear hb9
  go_wp2_with fail
  go_ret
  exact ⟨by rw [HF.out]; rfl, HX9.out.one.below⟩

set_option maxRecDepth 100000 in
set_option maxHeartbeats 3200000 in
theorem formv_1 (nm tx : ByteArray) (io : Option Addr) (N icap : Nat) (ko : Option Addr) (K kcap : Nat) (A R O : Bool) (w : World)
    (HAll : Hid (∀ u, Below w.heap.size w u → Calls Tryz.prog 178 #[.slice io N icap] u fun e w' => e = .returned (.bool A) ∧ Below u.heap.size u w'))
    (HR : Hid (∀ u, Below w.heap.size w u → Calls Tryz.prog 179 #[.slice ko K kcap] u fun e w' => e = .returned (.bool R) ∧ Below u.heap.size u w'))
    (HO : Hid (∀ u, Below w.heap.size w u → Calls Tryz.prog 180 #[.slice ko K kcap] u fun e w' => e = .returned (.bool O) ∧ Below u.heap.size u w'))
    (hn : nm.size ≤ 140737488355328) (ht : tx.size ≤ 140737488355328) (hN : N ≤ icap) (hK : K ≤ kcap) :
    Calls Tryz.prog 134 #[.agg #[.int .i64 1, .string nm, .string tx, .slice io N icap, .slice ko K kcap]] w fun e w' => e = .returned (.bool (formV 1 nm tx N K A (R && O))) ∧ Below w.heap.size w w' := by
  have HNum : Hid (∀ u, Below w.heap.size w u → Calls Tryz.prog 149 #[.string nm] u fun e w' => e = .returned (.bool (Pl.formed nm.data.toList)) ∧ Below u.heap.size u w') := fun u _ => w_Formed nm u (by unfold maxLen; omega)
  have HUtf : Hid (∀ u, Below w.heap.size w u → Calls Tryz.prog 34 #[.string tx] u fun e w' => e = .returned (.bool (okB tx.data.toList)) ∧ Below u.heap.size u w') := fun u _ => w_Valid tx u (by omega)
  have HX := Hid.mk (vb2_new w (.int .i64 1) (.string nm) (.string tx) (.slice io N icap) (.slice ko K kcap) (.string nm) (.string tx) (.slice io N icap) (.slice ko K kcap))
  have HF : Hid (formV 1 nm tx N K A (R && O) = bareB nm tx N K) := by show _ = _; unfold formV; rw [if_pos (by omega)]
  go_enter Tryz.func134, Tryz.ntmps134
  go_wp2_with fail
  refine (w_bare 1 nm tx io N icap ko K kcap _).mono ?_
  rintro e w9 ⟨rfl, hb9⟩
  have HX9 := Hid.mk (HX.out.keep hb9)
  clear hb9
  go_wp2_with fail
  go_ret
  exact ⟨by rw [HF.out]; rfl, HX9.out.one.below⟩

set_option maxRecDepth 100000 in
set_option maxHeartbeats 3200000 in
theorem formv_2 (nm tx : ByteArray) (io : Option Addr) (N icap : Nat) (ko : Option Addr) (K kcap : Nat) (A R O : Bool) (w : World)
    (HAll : Hid (∀ u, Below w.heap.size w u → Calls Tryz.prog 178 #[.slice io N icap] u fun e w' => e = .returned (.bool A) ∧ Below u.heap.size u w'))
    (HR : Hid (∀ u, Below w.heap.size w u → Calls Tryz.prog 179 #[.slice ko K kcap] u fun e w' => e = .returned (.bool R) ∧ Below u.heap.size u w'))
    (HO : Hid (∀ u, Below w.heap.size w u → Calls Tryz.prog 180 #[.slice ko K kcap] u fun e w' => e = .returned (.bool O) ∧ Below u.heap.size u w'))
    (hn : nm.size ≤ 140737488355328) (ht : tx.size ≤ 140737488355328) (hN : N ≤ icap) (hK : K ≤ kcap) :
    Calls Tryz.prog 134 #[.agg #[.int .i64 2, .string nm, .string tx, .slice io N icap, .slice ko K kcap]] w fun e w' => e = .returned (.bool (formV 2 nm tx N K A (R && O))) ∧ Below w.heap.size w w' := by
  have HNum : Hid (∀ u, Below w.heap.size w u → Calls Tryz.prog 149 #[.string nm] u fun e w' => e = .returned (.bool (Pl.formed nm.data.toList)) ∧ Below u.heap.size u w') := fun u _ => w_Formed nm u (by unfold maxLen; omega)
  have HUtf : Hid (∀ u, Below w.heap.size w u → Calls Tryz.prog 34 #[.string tx] u fun e w' => e = .returned (.bool (okB tx.data.toList)) ∧ Below u.heap.size u w') := fun u _ => w_Valid tx u (by omega)
  have HX := Hid.mk (vb2_new w (.int .i64 2) (.string nm) (.string tx) (.slice io N icap) (.slice ko K kcap) (.string nm) (.string tx) (.slice io N icap) (.slice ko K kcap))
  have HF : Hid (formV 2 nm tx N K A (R && O) = bareB nm tx N K) := by show _ = _; unfold formV; rw [if_pos (by omega)]
  go_enter Tryz.func134, Tryz.ntmps134
  go_wp2_with fail
  refine (w_bare 2 nm tx io N icap ko K kcap _).mono ?_
  rintro e w9 ⟨rfl, hb9⟩
  have HX9 := Hid.mk (HX.out.keep hb9)
  clear hb9
  go_wp2_with fail
  go_ret
  exact ⟨by rw [HF.out]; rfl, HX9.out.one.below⟩

end Go.Proofs.YtdjleoglphgdgaaGreatDoor
namespace Go.Proofs.YtdjleoglphgdgaaGreatDoor
open Go.RowKit
set_option linter.unusedVariables false
set_option linter.unusedSimpArgs false

set_option maxRecDepth 100000 in
set_option maxHeartbeats 3200000 in
theorem formv_3 (nm tx : ByteArray) (io : Option Addr) (N icap : Nat) (ko : Option Addr) (K kcap : Nat) (A R O : Bool) (w : World)
    (HAll : Hid (∀ u, Below w.heap.size w u → Calls Tryz.prog 178 #[.slice io N icap] u fun e w' => e = .returned (.bool A) ∧ Below u.heap.size u w'))
    (HR : Hid (∀ u, Below w.heap.size w u → Calls Tryz.prog 179 #[.slice ko K kcap] u fun e w' => e = .returned (.bool R) ∧ Below u.heap.size u w'))
    (HO : Hid (∀ u, Below w.heap.size w u → Calls Tryz.prog 180 #[.slice ko K kcap] u fun e w' => e = .returned (.bool O) ∧ Below u.heap.size u w'))
    (hn : nm.size ≤ 140737488355328) (ht : tx.size ≤ 140737488355328) (hN : N ≤ icap) (hK : K ≤ kcap) :
    Calls Tryz.prog 134 #[.agg #[.int .i64 3, .string nm, .string tx, .slice io N icap, .slice ko K kcap]] w fun e w' => e = .returned (.bool (formV 3 nm tx N K A (R && O))) ∧ Below w.heap.size w w' := by
  have HNum : Hid (∀ u, Below w.heap.size w u → Calls Tryz.prog 149 #[.string nm] u fun e w' => e = .returned (.bool (Pl.formed nm.data.toList)) ∧ Below u.heap.size u w') := fun u _ => w_Formed nm u (by unfold maxLen; omega)
  have HUtf : Hid (∀ u, Below w.heap.size w u → Calls Tryz.prog 34 #[.string tx] u fun e w' => e = .returned (.bool (okB tx.data.toList)) ∧ Below u.heap.size u w') := fun u _ => w_Valid tx u (by omega)
  have HX := Hid.mk (vb2_new w (.int .i64 3) (.string nm) (.string tx) (.slice io N icap) (.slice ko K kcap) (.string (⟨#[]⟩ : ByteArray)) (.string tx) (.slice io N icap) (.slice ko K kcap))
  cases hc : Pl.formed nm.data.toList with
  | false =>
    have HF : Hid (formV 3 nm tx N K A (R && O) = false) := by show _ = _; unfold formV; rw [if_neg (by omega), if_pos rfl, hc]; rfl
    rw [hc] at HNum
    go_enter Tryz.func134, Tryz.ntmps134
    go_wp2_with fail
    refine (HNum.out _ HX.out.one.below).mono ?_
    rintro e w2 ⟨rfl, hw2⟩
    have HX2 := Hid.mk (HX.out.keep hw2)
    clear hw2
    go_wp2_with fail
    go_ret
    exact ⟨by rw [HF.out]; rfl, HX2.out.one.below⟩
  | true =>
    have HF : Hid (formV 3 nm tx N K A (R && O) = bareB .empty tx N K) := by show _ = _; unfold formV; rw [if_neg (by omega), if_pos rfl, hc]; rfl
    rw [hc] at HNum
    go_enter Tryz.func134, Tryz.ntmps134
    go_wp2_with fail
    refine (HNum.out _ HX.out.one.below).mono ?_
    rintro e w2 ⟨rfl, hw2⟩
    have HX2 := Hid.mk (HX.out.keep hw2)
    clear hw2
    have q0HX2 := HX2.out.d0
    have q1HX2 := HX2.out.d1
    have q2HX2 := HX2.out.d2
    have q3HX2 := HX2.out.d3
    have q4HX2 := HX2.out.d4
    go_wp2_with fail
    refine (w_bare 3 (⟨#[]⟩ : ByteArray) tx io N icap ko K kcap _).mono ?_
    rintro e w9 ⟨rfl, hb9⟩
    have HX9 := Hid.mk (HX2.out.keep hb9)
    clear hb9
    go_wp2_with fail
    go_ret
    exact ⟨by rw [HF.out]; rfl, HX9.out.one.below⟩

set_option maxRecDepth 100000 in
set_option maxHeartbeats 3200000 in
theorem formv_4 (nm tx : ByteArray) (io : Option Addr) (N icap : Nat) (ko : Option Addr) (K kcap : Nat) (A R O : Bool) (w : World)
    (HAll : Hid (∀ u, Below w.heap.size w u → Calls Tryz.prog 178 #[.slice io N icap] u fun e w' => e = .returned (.bool A) ∧ Below u.heap.size u w'))
    (HR : Hid (∀ u, Below w.heap.size w u → Calls Tryz.prog 179 #[.slice ko K kcap] u fun e w' => e = .returned (.bool R) ∧ Below u.heap.size u w'))
    (HO : Hid (∀ u, Below w.heap.size w u → Calls Tryz.prog 180 #[.slice ko K kcap] u fun e w' => e = .returned (.bool O) ∧ Below u.heap.size u w'))
    (hn : nm.size ≤ 140737488355328) (ht : tx.size ≤ 140737488355328) (hN : N ≤ icap) (hK : K ≤ kcap) :
    Calls Tryz.prog 134 #[.agg #[.int .i64 4, .string nm, .string tx, .slice io N icap, .slice ko K kcap]] w fun e w' => e = .returned (.bool (formV 4 nm tx N K A (R && O))) ∧ Below w.heap.size w w' := by
  have HNum : Hid (∀ u, Below w.heap.size w u → Calls Tryz.prog 149 #[.string nm] u fun e w' => e = .returned (.bool (Pl.formed nm.data.toList)) ∧ Below u.heap.size u w') := fun u _ => w_Formed nm u (by unfold maxLen; omega)
  have HUtf : Hid (∀ u, Below w.heap.size w u → Calls Tryz.prog 34 #[.string tx] u fun e w' => e = .returned (.bool (okB tx.data.toList)) ∧ Below u.heap.size u w') := fun u _ => w_Valid tx u (by omega)
  have HX := Hid.mk (vb2_new w (.int .i64 4) (.string nm) (.string tx) (.slice io N icap) (.slice ko K kcap) (.string nm) (.string (⟨#[]⟩ : ByteArray)) (.slice io N icap) (.slice ko K kcap))
  cases hc : okB tx.data.toList with
  | false =>
    have HF : Hid (formV 4 nm tx N K A (R && O) = false) := by show _ = _; unfold formV; rw [if_neg (by omega), if_neg (by omega), if_pos rfl, hc]; rfl
    rw [hc] at HUtf
    go_enter Tryz.func134, Tryz.ntmps134
    go_wp2_with fail
    refine (HUtf.out _ HX.out.one.below).mono ?_
    rintro e w2 ⟨rfl, hw2⟩
    have HX2 := Hid.mk (HX.out.keep hw2)
    clear hw2
    go_wp2_with fail
    go_ret
    exact ⟨by rw [HF.out]; rfl, HX2.out.one.below⟩
  | true =>
    have HF : Hid (formV 4 nm tx N K A (R && O) = bareB nm .empty N K) := by show _ = _; unfold formV; rw [if_neg (by omega), if_neg (by omega), if_pos rfl, hc]; rfl
    rw [hc] at HUtf
    go_enter Tryz.func134, Tryz.ntmps134
    go_wp2_with fail
    refine (HUtf.out _ HX.out.one.below).mono ?_
    rintro e w2 ⟨rfl, hw2⟩
    have HX2 := Hid.mk (HX.out.keep hw2)
    clear hw2
    have q0HX2 := HX2.out.d0
    have q1HX2 := HX2.out.d1
    have q2HX2 := HX2.out.d2
    have q3HX2 := HX2.out.d3
    have q4HX2 := HX2.out.d4
    go_wp2_with fail
    refine (w_bare 4 nm (⟨#[]⟩ : ByteArray) io N icap ko K kcap _).mono ?_
    rintro e w9 ⟨rfl, hb9⟩
    have HX9 := Hid.mk (HX2.out.keep hb9)
    clear hb9
    go_wp2_with fail
    go_ret
    exact ⟨by rw [HF.out]; rfl, HX9.out.one.below⟩

end Go.Proofs.YtdjleoglphgdgaaGreatDoor
namespace Go.Proofs.YtdjleoglphgdgaaGreatDoor
open Go.RowKit
set_option linter.unusedVariables false
set_option linter.unusedSimpArgs false

set_option maxRecDepth 100000 in
set_option maxHeartbeats 3200000 in
theorem formv_5 (nm tx : ByteArray) (io : Option Addr) (N icap : Nat) (ko : Option Addr) (K kcap : Nat) (A R O : Bool) (w : World)
    (HAll : Hid (∀ u, Below w.heap.size w u → Calls Tryz.prog 178 #[.slice io N icap] u fun e w' => e = .returned (.bool A) ∧ Below u.heap.size u w'))
    (HR : Hid (∀ u, Below w.heap.size w u → Calls Tryz.prog 179 #[.slice ko K kcap] u fun e w' => e = .returned (.bool R) ∧ Below u.heap.size u w'))
    (HO : Hid (∀ u, Below w.heap.size w u → Calls Tryz.prog 180 #[.slice ko K kcap] u fun e w' => e = .returned (.bool O) ∧ Below u.heap.size u w'))
    (hn : nm.size ≤ 140737488355328) (ht : tx.size ≤ 140737488355328) (hN : N ≤ icap) (hK : K ≤ kcap) :
    Calls Tryz.prog 134 #[.agg #[.int .i64 5, .string nm, .string tx, .slice io N icap, .slice ko K kcap]] w fun e w' => e = .returned (.bool (formV 5 nm tx N K A (R && O))) ∧ Below w.heap.size w w' := by
  have HNum : Hid (∀ u, Below w.heap.size w u → Calls Tryz.prog 149 #[.string nm] u fun e w' => e = .returned (.bool (Pl.formed nm.data.toList)) ∧ Below u.heap.size u w') := fun u _ => w_Formed nm u (by unfold maxLen; omega)
  have HUtf : Hid (∀ u, Below w.heap.size w u → Calls Tryz.prog 34 #[.string tx] u fun e w' => e = .returned (.bool (okB tx.data.toList)) ∧ Below u.heap.size u w') := fun u _ => w_Valid tx u (by omega)
  have HX := Hid.mk (vb2_new w (.int .i64 5) (.string nm) (.string tx) (.slice io N icap) (.slice ko K kcap) (.string nm) (.string tx) (.slice none 0 0) (.slice ko K kcap))
  cases hc : A with
  | false =>
    have HF : Hid (formV 5 nm tx N K false (R && O) = false) := by show _ = _; unfold formV; rw [if_neg (by omega), if_neg (by omega), if_neg (by omega), if_pos rfl]; rfl
    rw [hc] at HAll
    go_enter Tryz.func134, Tryz.ntmps134
    go_wp2_with fail
    refine (HAll.out _ HX.out.one.below).mono ?_
    rintro e w2 ⟨rfl, hw2⟩
    have HX2 := Hid.mk (HX.out.keep hw2)
    clear hw2
    go_wp2_with fail
    go_ret
    exact ⟨by rw [HF.out]; rfl, HX2.out.one.below⟩
  | true =>
    have HF : Hid (formV 5 nm tx N K true (R && O) = bareB nm tx 0 K) := by show _ = _; unfold formV; rw [if_neg (by omega), if_neg (by omega), if_neg (by omega), if_pos rfl]; rfl
    rw [hc] at HAll
    go_enter Tryz.func134, Tryz.ntmps134
    go_wp2_with fail
    refine (HAll.out _ HX.out.one.below).mono ?_
    rintro e w2 ⟨rfl, hw2⟩
    have HX2 := Hid.mk (HX.out.keep hw2)
    clear hw2
    have q0HX2 := HX2.out.d0
    have q1HX2 := HX2.out.d1
    have q2HX2 := HX2.out.d2
    have q3HX2 := HX2.out.d3
    have q4HX2 := HX2.out.d4
    go_wp2_with fail
    refine (w_bare 5 nm tx none 0 0 ko K kcap _).mono ?_
    rintro e w9 ⟨rfl, hb9⟩
    have HX9 := Hid.mk (HX2.out.keep hb9)
    clear hb9
    go_wp2_with fail
    go_ret
    exact ⟨by rw [HF.out]; rfl, HX9.out.one.below⟩

end Go.Proofs.YtdjleoglphgdgaaGreatDoor
namespace Go.Proofs.YtdjleoglphgdgaaGreatDoor
open Go.RowKit
set_option linter.unusedVariables false
set_option linter.unusedSimpArgs false

set_option maxRecDepth 100000 in
set_option maxHeartbeats 3200000 in
theorem formv_6 (nm tx : ByteArray) (io : Option Addr) (N icap : Nat) (ko : Option Addr) (K kcap : Nat) (A R O : Bool) (w : World)
    (HAll : Hid (∀ u, Below w.heap.size w u → Calls Tryz.prog 178 #[.slice io N icap] u fun e w' => e = .returned (.bool A) ∧ Below u.heap.size u w'))
    (HR : Hid (∀ u, Below w.heap.size w u → Calls Tryz.prog 179 #[.slice ko K kcap] u fun e w' => e = .returned (.bool R) ∧ Below u.heap.size u w'))
    (HO : Hid (∀ u, Below w.heap.size w u → Calls Tryz.prog 180 #[.slice ko K kcap] u fun e w' => e = .returned (.bool O) ∧ Below u.heap.size u w'))
    (hn : nm.size ≤ 140737488355328) (ht : tx.size ≤ 140737488355328) (hN : N ≤ icap) (hK : K ≤ kcap) :
    Calls Tryz.prog 134 #[.agg #[.int .i64 6, .string nm, .string tx, .slice io N icap, .slice ko K kcap]] w fun e w' => e = .returned (.bool (formV 6 nm tx N K A (R && O))) ∧ Below w.heap.size w w' := by
  have HNum : Hid (∀ u, Below w.heap.size w u → Calls Tryz.prog 149 #[.string nm] u fun e w' => e = .returned (.bool (Pl.formed nm.data.toList)) ∧ Below u.heap.size u w') := fun u _ => w_Formed nm u (by unfold maxLen; omega)
  have HUtf : Hid (∀ u, Below w.heap.size w u → Calls Tryz.prog 34 #[.string tx] u fun e w' => e = .returned (.bool (okB tx.data.toList)) ∧ Below u.heap.size u w') := fun u _ => w_Valid tx u (by omega)
  have HX := Hid.mk (vb2_new w (.int .i64 6) (.string nm) (.string tx) (.slice io N icap) (.slice ko K kcap) (.string nm) (.string tx) (.slice none 0 0) (.slice none 0 0))
  by_cases hKN : K = N
  · have hKN1 : ((K : Int) == (N : Int)) = true := by rw [beq_iff_eq]; omega
    have HKN : Hid (decide (K = N) = true) := decide_eq_true hKN
    clear hKN
    cases hR : R with
    | false =>
      have HF : Hid (formV 6 nm tx N K A (false && O) = false) := by show _ = _; unfold formV; rw [if_neg (by omega), if_neg (by omega), if_neg (by omega), if_neg (by omega), if_pos rfl]; simp
      rw [hR] at HR
      go_enter Tryz.func134, Tryz.ntmps134
      go_wp2_with fail
      refine (HR.out _ HX.out.one.below).mono ?_
      rintro e w2 ⟨rfl, hw2⟩
      have HX2 := Hid.mk (HX.out.keep hw2)
      clear hw2
      have p3HX2 := HX2.out.one.c3
      have p4HX2 := HX2.out.one.c4
      go_wp2_with fail
      go_ret
      exact ⟨by rw [HF.out]; rfl, HX2.out.one.below⟩
    | true =>
      rw [hR] at HR
      cases hO : O with
      | false =>
        have HF : Hid (formV 6 nm tx N K A (true && false) = false) := by show _ = _; unfold formV; rw [if_neg (by omega), if_neg (by omega), if_neg (by omega), if_neg (by omega), if_pos rfl]; simp
        rw [hO] at HO
        go_enter Tryz.func134, Tryz.ntmps134
        go_wp2_with fail
        refine (HR.out _ HX.out.one.below).mono ?_
        rintro e w2 ⟨rfl, hw2⟩
        have HX2 := Hid.mk (HX.out.keep hw2)
        clear hw2
        have p3HX2 := HX2.out.one.c3
        have p4HX2 := HX2.out.one.c4
        go_wp2_with fail
        refine (HO.out _ HX2.out.one.below).mono ?_
        rintro e w3 ⟨rfl, hw3⟩
        have HX3 := Hid.mk (HX2.out.keep hw3)
        clear hw3
        have p3HX3 := HX3.out.one.c3
        have p4HX3 := HX3.out.one.c4
        go_wp2_with fail
        go_ret
        exact ⟨by rw [HF.out]; rfl, HX3.out.one.below⟩
      | true =>
        rw [hO] at HO
        cases hA : A with
        | false =>
          have HF : Hid (formV 6 nm tx N K false (true && true) = false) := by show _ = _; unfold formV; rw [if_neg (by omega), if_neg (by omega), if_neg (by omega), if_neg (by omega), if_pos rfl]; simp
          rw [hA] at HAll
          go_enter Tryz.func134, Tryz.ntmps134
          go_wp2_with fail
          refine (HR.out _ HX.out.one.below).mono ?_
          rintro e w2 ⟨rfl, hw2⟩
          have HX2 := Hid.mk (HX.out.keep hw2)
          clear hw2
          have p3HX2 := HX2.out.one.c3
          have p4HX2 := HX2.out.one.c4
          go_wp2_with fail
          refine (HO.out _ HX2.out.one.below).mono ?_
          rintro e w3 ⟨rfl, hw3⟩
          have HX3 := Hid.mk (HX2.out.keep hw3)
          clear hw3
          have p3HX3 := HX3.out.one.c3
          have p4HX3 := HX3.out.one.c4
          go_wp2_with fail
          refine (HAll.out _ HX3.out.one.below).mono ?_
          rintro e w4 ⟨rfl, hw4⟩
          have HX4 := Hid.mk (HX3.out.keep hw4)
          clear hw4
          have q0HX4 := HX4.out.d0
          have q1HX4 := HX4.out.d1
          have q2HX4 := HX4.out.d2
          have q3HX4 := HX4.out.d3
          have q4HX4 := HX4.out.d4
          go_wp2_with fail
          go_ret
          exact ⟨by rw [HF.out]; rfl, HX4.out.one.below⟩
        | true =>
          have HF : Hid (formV 6 nm tx N K true (true && true) = bareB nm tx 0 0) := by show _ = _; unfold formV; rw [if_neg (by omega), if_neg (by omega), if_neg (by omega), if_neg (by omega), if_pos rfl, HKN.out]; rfl
          rw [hA] at HAll
          go_enter Tryz.func134, Tryz.ntmps134
          go_wp2_with fail
          refine (HR.out _ HX.out.one.below).mono ?_
          rintro e w2 ⟨rfl, hw2⟩
          have HX2 := Hid.mk (HX.out.keep hw2)
          clear hw2
          have p3HX2 := HX2.out.one.c3
          have p4HX2 := HX2.out.one.c4
          go_wp2_with fail
          refine (HO.out _ HX2.out.one.below).mono ?_
          rintro e w3 ⟨rfl, hw3⟩
          have HX3 := Hid.mk (HX2.out.keep hw3)
          clear hw3
          have p3HX3 := HX3.out.one.c3
          have p4HX3 := HX3.out.one.c4
          go_wp2_with fail
          refine (HAll.out _ HX3.out.one.below).mono ?_
          rintro e w4 ⟨rfl, hw4⟩
          have HX4 := Hid.mk (HX3.out.keep hw4)
          clear hw4
          have q0HX4 := HX4.out.d0
          have q1HX4 := HX4.out.d1
          have q2HX4 := HX4.out.d2
          have q3HX4 := HX4.out.d3
          have q4HX4 := HX4.out.d4
          go_wp2_with fail
          refine (w_bare 6 nm tx none 0 0 none 0 0 _).mono ?_
          rintro e w9 ⟨rfl, hb9⟩
          have HX9 := Hid.mk (HX4.out.keep hb9)
          clear hb9
          go_wp2_with fail
          go_ret
          exact ⟨by rw [HF.out]; rfl, HX9.out.one.below⟩
  · have hKN1 : ((K : Int) == (N : Int)) = false := by rw [beq_eq_false_iff_ne]; omega
    have HF : Hid (formV 6 nm tx N K A (R && O) = false) := by show _ = _; unfold formV; rw [if_neg (by omega), if_neg (by omega), if_neg (by omega), if_neg (by omega), if_pos rfl, decide_eq_false hKN]; simp
    clear hKN
    go_enter Tryz.func134, Tryz.ntmps134
    go_wp2_with fail
    go_ret
    exact ⟨by rw [HF.out]; rfl, HX.out.one.below⟩

end Go.Proofs.YtdjleoglphgdgaaGreatDoor
namespace Go.Proofs.YtdjleoglphgdgaaGreatDoor
open Go.RowKit
set_option linter.unusedVariables false
set_option linter.unusedSimpArgs false

set_option maxRecDepth 100000 in
set_option maxHeartbeats 3200000 in
theorem formv_else (kd : Int) (k0 : kd ≠ 0) (k1 : kd ≠ 1) (k2 : kd ≠ 2) (k3 : kd ≠ 3) (k4 : kd ≠ 4) (k5 : kd ≠ 5) (k6 : kd ≠ 6) (nm tx : ByteArray) (io : Option Addr) (N icap : Nat) (ko : Option Addr) (K kcap : Nat) (A R O : Bool) (w : World)
    (HAll : Hid (∀ u, Below w.heap.size w u → Calls Tryz.prog 178 #[.slice io N icap] u fun e w' => e = .returned (.bool A) ∧ Below u.heap.size u w'))
    (HR : Hid (∀ u, Below w.heap.size w u → Calls Tryz.prog 179 #[.slice ko K kcap] u fun e w' => e = .returned (.bool R) ∧ Below u.heap.size u w'))
    (HO : Hid (∀ u, Below w.heap.size w u → Calls Tryz.prog 180 #[.slice ko K kcap] u fun e w' => e = .returned (.bool O) ∧ Below u.heap.size u w'))
    (hn : nm.size ≤ 140737488355328) (ht : tx.size ≤ 140737488355328) (hN : N ≤ icap) (hK : K ≤ kcap) :
    Calls Tryz.prog 134 #[.agg #[.int .i64 kd, .string nm, .string tx, .slice io N icap, .slice ko K kcap]] w fun e w' => e = .returned (.bool (formV kd nm tx N K A (R && O))) ∧ Below w.heap.size w w' := by
  have HNum : Hid (∀ u, Below w.heap.size w u → Calls Tryz.prog 149 #[.string nm] u fun e w' => e = .returned (.bool (Pl.formed nm.data.toList)) ∧ Below u.heap.size u w') := fun u _ => w_Formed nm u (by unfold maxLen; omega)
  have HUtf : Hid (∀ u, Below w.heap.size w u → Calls Tryz.prog 34 #[.string tx] u fun e w' => e = .returned (.bool (okB tx.data.toList)) ∧ Below u.heap.size u w') := fun u _ => w_Valid tx u (by omega)
  have HX := Hid.mk (vb2_new w (.int .i64 kd) (.string nm) (.string tx) (.slice io N icap) (.slice ko K kcap) (.string nm) (.string tx) (.slice io N icap) (.slice ko K kcap))
  have HF : Hid (formV kd nm tx N K A (R && O) = false) := by show _ = _; unfold formV; rw [if_neg (by omega), if_neg (by omega), if_neg (by omega), if_neg (by omega), if_neg (by omega)]
  have b0 : (kd == 0) = false := by rw [beq_eq_false_iff_ne]; exact k0
  have b1 : (kd == 1) = false := by rw [beq_eq_false_iff_ne]; exact k1
  have b2 : (kd == 2) = false := by rw [beq_eq_false_iff_ne]; exact k2
  have b3 : (kd == 3) = false := by rw [beq_eq_false_iff_ne]; exact k3
  have b4 : (kd == 4) = false := by rw [beq_eq_false_iff_ne]; exact k4
  have b5 : (kd == 5) = false := by rw [beq_eq_false_iff_ne]; exact k5
  have b6 : (kd == 6) = false := by rw [beq_eq_false_iff_ne]; exact k6
  clear k0 k1 k2 k3 k4 k5 k6
  go_enter Tryz.func134, Tryz.ntmps134
  go_wp2_with fail
  go_ret
  exact ⟨by rw [HF.out]; rfl, HX.out.one.below⟩

theorem formv_ok (kd : Int) (nm tx : ByteArray) (io : Option Addr) (N icap : Nat) (ko : Option Addr) (K kcap : Nat) (A R O : Bool) (w : World)
    (HAll : Hid (∀ u, Below w.heap.size w u → Calls Tryz.prog 178 #[.slice io N icap] u fun e w' => e = .returned (.bool A) ∧ Below u.heap.size u w'))
    (HR : Hid (∀ u, Below w.heap.size w u → Calls Tryz.prog 179 #[.slice ko K kcap] u fun e w' => e = .returned (.bool R) ∧ Below u.heap.size u w'))
    (HO : Hid (∀ u, Below w.heap.size w u → Calls Tryz.prog 180 #[.slice ko K kcap] u fun e w' => e = .returned (.bool O) ∧ Below u.heap.size u w'))
    (hn : nm.size ≤ 140737488355328) (ht : tx.size ≤ 140737488355328) (hN : N ≤ icap) (hK : K ≤ kcap) :
    Calls Tryz.prog 134 #[.agg #[.int .i64 kd, .string nm, .string tx, .slice io N icap, .slice ko K kcap]] w fun e w' => e = .returned (.bool (formV kd nm tx N K A (R && O))) ∧ Below w.heap.size w w' := by
  by_cases k0 : kd = 0
  · subst k0; exact formv_0 nm tx io N icap ko K kcap A R O w HAll HR HO hn ht hN hK
  by_cases k1 : kd = 1
  · subst k1; exact formv_1 nm tx io N icap ko K kcap A R O w HAll HR HO hn ht hN hK
  by_cases k2 : kd = 2
  · subst k2; exact formv_2 nm tx io N icap ko K kcap A R O w HAll HR HO hn ht hN hK
  by_cases k3 : kd = 3
  · subst k3; exact formv_3 nm tx io N icap ko K kcap A R O w HAll HR HO hn ht hN hK
  by_cases k4 : kd = 4
  · subst k4; exact formv_4 nm tx io N icap ko K kcap A R O w HAll HR HO hn ht hN hK
  by_cases k5 : kd = 5
  · subst k5; exact formv_5 nm tx io N icap ko K kcap A R O w HAll HR HO hn ht hN hK
  by_cases k6 : kd = 6
  · subst k6; exact formv_6 nm tx io N icap ko K kcap A R O w HAll HR HO hn ht hN hK
  exact formv_else kd k0 k1 k2 k3 k4 k5 k6 nm tx io N icap ko K kcap A R O w HAll HR HO hn ht hN hK

theorem w_vFormed : ∀ h, FvOk h
  | 0 => fun T v w hI => hI.elim
  | h + 1 => fun T v w hI => by
    obtain ⟨io, icap, ko, kcap, rfl, a1, a2, a3, a4, a5, a6, a7, hk, hi⟩ := hI.open
    exact formv_ok T.kind T.num T.text io T.items.length icap ko T.keys.length kcap (T.items.all (formN h)) (rK T.keys T.keys.length) (oK T.keys T.keys.length) w
      (fun u hu => w_allFormed h (w_vFormed h) io T.items.length icap T.items u (hi.keep hu) rfl a5 a3)
      (fun u hu => w_rising ko T.keys.length kcap T.keys u (hk.keep hu) rfl a6 a4)
      (fun u hu => w_allValid ko T.keys.length kcap T.keys u (hk.keep hu) rfl a6 a4 a7) a1 a2 a5 a6
end Go.Proofs.YtdjleoglphgdgaaGreatDoor
