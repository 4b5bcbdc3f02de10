import Derived.Test.YtdjoelhiahpmlaaM52
import Derived.Test.YtdjoelhiahpmlaaM39
namespace Go.Proofs.Ytdjoelhiahpmlaa
open Go.RowKit
set_option linter.unusedVariables false
set_option linter.unusedSimpArgs false
theorem mxL_le_of {b : Nat} : ∀ {l : List Nat}, (∀ x ∈ l, x ≤ b) → mxL l ≤ b
  | [], _ => Nat.zero_le _
  | x :: r, h => by
    have h1 := h x (List.mem_cons_self ..)
    have h2 := mxL_le_of (l := r) (fun y hy => h y (List.mem_cons_of_mem _ hy))
    simp only [mxL]; omega

theorem mx_take_up {α : Type} (f : α → Nat) {ts : List α} {k : Nat} (hk : k < ts.length) : mxL ((ts.take (k + 1)).map f) = max (mxL ((ts.take k).map f)) (f ts[k]) := by
  rw [List.take_add_one, List.getElem?_eq_getElem hk, List.map_append, mxL_append]
  simp [mxL]
def RdOk (h : Nat) : Prop := ∀ (T : VT) (v : Value) (w : World), InH w h T v → szN h T ≤ 100001 → formN h T = true → Calls Try.prog 7 #[v] w fun e w' => e = .returned (.int .i64 ((dpN h T : Nat) : Int)) ∧ Below w.heap.size w w'

set_option maxRecDepth 100000 in
set_option maxHeartbeats 3200000 in
theorem rdepth_loop (h : Nat) (ih : RdOk h) (kd : Int) (hkd : kd = 5 ∨ kd = 6) (nm tx : ByteArray) (io : Option Addr) (N icap : Nat) (ko : Option Addr) (K kcap : Nat) (ts : List VT) (w : World)
    (hi : IIn w h io ts) (hN : ts.length = N) (hcN : N ≤ icap) (hN2 : N ≤ 140737488355328) (hsz : ∀ i, (hi : i < ts.length) → szN h ts[i] ≤ 100001) (hfo : ∀ i, (hi : i < ts.length) → formN h ts[i] = true) :
    Calls Try.prog 7 #[.agg #[.int .i64 kd, .string nm, .string tx, .slice io N icap, .slice ko K kcap]] w fun e w' => e = .returned (.int .i64 ((1 + mxL (ts.map (dpN h)) : Nat) : Int)) ∧ Below w.heap.size w w' := by
  have HX := Hid.mk (vbx_new w (.int .i64 kd) (.string nm) (.string tx) (.slice io N icap) (.slice ko K kcap))
  have HI := Hid.mk (hi.keep HX.out.below)
  have HIh := Hid.mk ih
  have HNN := Hid.mk hN
  have HSZ := Hid.mk hsz
  have HFO := Hid.mk hfo
  clear hi ih hN hsz hfo
  have hk5 : ¬ kd < 5 := by omega
  clear hkd
  obtain ⟨W0, hW0⟩ : ∃ W0, W0 = w.alloc (.cells #[.int .i64 kd, .string nm, .string tx, .slice io N icap, .slice ko K kcap] 25) := ⟨_, rfl⟩
  go_enter Try.func7, Try.ntmps7
  go_wp2_with fail
  rw [← hW0] at HX HI ⊢
  clear hW0
  go_loopw [3, 4] (fun dd i wr => ∃ (k : Nat), k ≤ N ∧ dd = .int .i64 ((1 + mxL ((ts.take k).map (dpN h)) : Nat) : Int) ∧ i = .int .i64 (k : Int) ∧ Hid (Below W0.heap.size W0 wr)) (fun _ i _ => N - (intOf i).toNat)
  case atStart => exact ⟨0, Nat.zero_le _, rfl, rfl, Below.refl _ _⟩
  case round =>
    obtain ⟨k, hk, rfl, rfl, HB⟩ := hrel
    have HXw := Hid.mk (HX.out.keep HB.out)
    have g3 := HXw.out.c3
    have hmb : mxL ((ts.take k).map (dpN h)) ≤ 100001 := mxL_le_of (fun y hy => by
      obtain ⟨t, ht, rfl⟩ := List.mem_map.1 hy
      obtain ⟨i, hi, rfl⟩ := List.getElem_of_mem (List.mem_of_mem_take ht)
      exact Nat.le_trans (dpN_le h _) (HSZ.out i hi))
    by_cases hlt : k < N
    · have hl1 : (k : Int) < (N : Int) := by omega
      have hkt : k < ts.length := by rw [HNN.out]; exact hlt
      obtain ⟨b, off, hio, hbl, hrow⟩ := (HI.out.keep HB.out).row (by omega)
      subst hio
      obtain ⟨v0, v1, v2, v3, v4, ⟨c0, c1, c2, c3, c4⟩, ht⟩ := hrow k hkt
      have HC := Hid.mk (HIh.out _ _ wr ht (HSZ.out k hkt) (HFO.out k hkt))
      have HU := Hid.mk (mx_take_up (dpN h) hkt)
      have hdb : dpN h ts[k] ≤ 100001 := Nat.le_trans (dpN_le h _) (HSZ.out k hkt)
      generalize dpN h ts[k] = d at HC HU hdb
      generalize mxL ((ts.take k).map (dpN h)) = m at HU hmb ⊢
      clear ht hrow hbl hkt
      go_wp2_with fail
      refine HC.out.mono ?_
      rintro e w2 ⟨rfl, hb2⟩
      have HB2 := Hid.mk (below_more HB.out hb2)
      clear hb2 c0 c1 c2 c3 c4 HC g3
      by_cases hgt : m < d
      · have hgt1 : (1 + (m : Int)) < (d : Int) + 1 := by omega
        go_wp2_with fail
        go_roundw
        case rel => exact ⟨k + 1, hlt, by rw [HU.out, Nat.max_eq_right (by omega)]; go_num, by go_num, HB2⟩
        case measure => simp [intOf]; omega
      · have hgt1 : ¬ (1 + (m : Int)) < (d : Int) + 1 := by omega
        go_wp2_with fail
        go_roundw
        case rel => exact ⟨k + 1, hlt, by rw [HU.out, Nat.max_eq_left (by omega)]; go_num, by go_num, HB2⟩
        case measure => simp [intOf]; omega
    · have hl1 : ¬ (k : Int) < (N : Int) := by omega
      have HF : Hid (mxL ((ts.take k).map (dpN h)) = mxL (ts.map (dpN h))) := by
        show _ = _
        rw [List.take_of_length_le (by rw [HNN.out]; omega)]
      generalize mxL ((ts.take k).map (dpN h)) = m at HF hmb ⊢
      go_wp2_with fail
      go_ret
      exact ⟨by rw [← HF.out]; go_num, HXw.out.below⟩


set_option maxRecDepth 100000 in
set_option maxHeartbeats 3200000 in
theorem rdepth_flat (kd : Int) (hkd : kd < 5) (nm tx : ByteArray) (io : Option Addr) (N icap : Nat) (ko : Option Addr) (K kcap : Nat) (w : World) :
    Calls Try.prog 7 #[.agg #[.int .i64 kd, .string nm, .string tx, .slice io N icap, .slice ko K kcap]] w fun e w' => e = .returned (.int .i64 0) ∧ Below w.heap.size w w' := by
  have HX := Hid.mk (vbx_new w (.int .i64 kd) (.string nm) (.string tx) (.slice io N icap) (.slice ko K kcap))
  go_enter Try.func7, Try.ntmps7
  go_wp2_with fail
  go_ret
  exact ⟨rfl, HX.out.below⟩

theorem w_rDepth : ∀ h, RdOk h
  | 0 => fun T v w hI _ _ => hI.elim
  | h + 1 => by
    intro T v w hI hsz hf
    obtain ⟨io, icap, ko, kcap, rfl, a1, a2, a3, a4, a5, a6, a7, hk, hi⟩ := hI.open
    rcases form_kind hf with ⟨h0, h5⟩ | h56
    · have : dpN (h + 1) T = 0 := by unfold dpN; rw [if_neg (by omega)]
      rw [this]
      exact rdepth_flat T.kind h5 _ _ _ _ _ _ _ _ w
    · have : dpN (h + 1) T = 1 + mxL (T.items.map (dpN h)) := by unfold dpN; rw [if_pos h56]
      rw [this]
      exact rdepth_loop h (w_rDepth h) T.kind h56 _ _ io _ icap ko _ kcap T.items w hi rfl a5 a3 (fun i hi' => by have := szN_item (h := h) hi'; omega) (form_items hf h56)
end Go.Proofs.Ytdjoelhiahpmlaa
