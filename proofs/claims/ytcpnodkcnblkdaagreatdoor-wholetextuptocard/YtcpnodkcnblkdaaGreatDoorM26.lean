import Derived.Test.YtcpnodkcnblkdaaGreatDoorM25
import Derived.Test.YtcpnodkcnblkdaaGreatDoorM16
import Derived.Test.YtcpnodkcnblkdaaGreatDoorM17
import Derived.Test.YtcpnodkcnblkdaaGreatDoorM11
namespace Go.Proofs.YtcpnodkcnblkdaaGreatDoor
open Go.RowKit Go.Shelf
set_option linter.unusedVariables false
set_option linter.unusedSimpArgs false
attribute [local go_sem] Oper.semAt_some

def sumL : List Nat → Nat
  | [] => 0
  | x :: r => x + sumL r
theorem sumL_append (a b : List Nat) : sumL (a ++ b) = sumL a + sumL b := by
  induction a with
  | nil => simp [sumL]
  | cons x r ih => simp [sumL, ih, Nat.add_assoc]
theorem sumL_mem {x : Nat} : ∀ {l : List Nat}, x ∈ l → x ≤ sumL l
  | a :: r, h => by
    simp only [sumL]
    rcases List.mem_cons.1 h with rfl | h
    · omega
    · have := sumL_mem h; omega
def szN : Nat → VT → Nat
  | 0, _ => 0
  | h + 1, T => 1 + T.keys.length + sumL (T.items.map (szN h))
theorem szN_item {h : Nat} {T : VT} {i : Nat} (hi : i < T.items.length) : szN h T.items[i] + 1 ≤ szN (h + 1) T := by
  have := sumL_mem (List.mem_map.2 ⟨_, List.getElem_mem hi, rfl⟩ : szN h T.items[i] ∈ T.items.map (szN h))
  show _ ≤ 1 + T.keys.length + sumL _
  omega
def mxL : List Nat → Nat
  | [] => 0
  | x :: r => max x (mxL r)
theorem mxL_append (a b : List Nat) : mxL (a ++ b) = max (mxL a) (mxL b) := by
  induction a with
  | nil => simp [mxL]
  | cons x r ih => simp [mxL, ih, Nat.max_assoc]
def dpN : Nat → VT → Nat
  | 0, _ => 0
  | h + 1, T => if T.kind = 5 ∨ T.kind = 6 then 1 + mxL (T.items.map (dpN h)) else 0
theorem mxL_le {f g : VT → Nat} : ∀ (l : List VT), (∀ t ∈ l, f t ≤ g t) → mxL (l.map f) ≤ sumL (l.map g)
  | [], _ => Nat.le_refl _
  | t :: r, h => by
    have h1 := h t (List.mem_cons_self ..)
    have h2 := mxL_le r (fun x hx => h x (List.mem_cons_of_mem _ hx))
    simp only [List.map_cons, mxL, sumL]
    omega
theorem dpN_le : ∀ (h : Nat) (T : VT), dpN h T ≤ szN h T
  | 0, _ => Nat.le_refl _
  | h + 1, T => by
    have := mxL_le T.items (f := dpN h) (g := szN h) (fun t _ => dpN_le h t)
    show (if T.kind = 5 ∨ T.kind = 6 then 1 + mxL (T.items.map (dpN h)) else 0) ≤ 1 + T.keys.length + sumL _
    split <;> omega

structure IBox (W : World) (Bx : Nat) (c : Fin 5 → Value) : Prop where
  row : W.heap[Bx]? = some (.cells #[c 0, c 1, c 2, c 3, c 4] 25 (0, 0))
theorem IBox.cell {W : World} {Bx : Nat} {c : Fin 5 → Value} (h : IBox W Bx c) : W.cell? ⟨Bx, 0, none⟩ = some (c 0) ∧ W.cell? ⟨Bx, 1, none⟩ = some (c 1) ∧ W.cell? ⟨Bx, 2, none⟩ = some (c 2) ∧ W.cell? ⟨Bx, 3, none⟩ = some (c 3) ∧ W.cell? ⟨Bx, 4, none⟩ = some (c 4) :=
  ⟨cell_of_row _ _ 0 _ _ _ h.row, cell_of_row _ _ 1 _ _ _ h.row, cell_of_row _ _ 2 _ _ _ h.row, cell_of_row _ _ 3 _ _ _ h.row, cell_of_row _ _ 4 _ _ _ h.row⟩
end Go.Proofs.YtcpnodkcnblkdaaGreatDoor
namespace Go.Proofs.YtcpnodkcnblkdaaGreatDoor
open Go.RowKit
set_option linter.unusedVariables false
set_option linter.unusedSimpArgs false

def wQ (l : List UInt8) : List UInt8 := 34 :: (qb (runes l) ++ [34])
theorem wQ_len (l : List UInt8) : (wQ l).length ≤ 6 * l.length + 2 := by
  have h1 := qb_len (runes l)
  have h2 := runes_len_le l
  simp [wQ]; omega

def joinR (g : Nat → List UInt8) : Nat → List UInt8
  | 0 => []
  | k + 1 => joinR g k ++ g k
theorem joinR_len (g : Nat → List UInt8) (b : Nat → Nat) : ∀ k, (∀ i, i < k → (g i).length ≤ b i) → (joinR g k).length ≤ sumL ((List.range k).map b)
  | 0, _ => by simp [joinR]
  | k + 1, h => by
    have := joinR_len g b k (fun i hi => h i (by omega))
    have h2 := h k (by omega)
    rw [List.range_succ, List.map_append, sumL_append]
    simp [joinR, sumL]; omega
theorem joinR_congr {g g' : Nat → List UInt8} : ∀ {k}, (∀ i, i < k → g i = g' i) → joinR g k = joinR g' k
  | 0, _ => rfl
  | k + 1, h => by simp only [joinR]; rw [joinR_congr (fun i hi => h i (by omega)), h k (by omega)]

def lnW (st : Option Nat) (d : Nat) : List UInt8 := match st with
  | none => []
  | some s => 10 :: List.replicate (d * s) 32
def clW (st : Option Nat) : List UInt8 := match st with
  | none => [58]
  | some _ => [58, 32]
def sepW (o : UInt8) (i : Nat) : List UInt8 := if i = 0 then [o] else [44]
def pcW (o : UInt8) (ln : List UInt8) (nm it : Nat → List UInt8) (i : Nat) : List UInt8 := (sepW o i ++ ln ++ nm i) ++ it i
def rowW (o c : UInt8) (ln1 ln0 : List UInt8) (nm it : Nat → List UInt8) (N : Nat) : List UInt8 := if N = 0 then [o, c] else joinR (pcW o ln1 nm it) N ++ (ln0 ++ [c])
def nmV (T : VT) (st : Option Nat) (i : Nat) : List UInt8 := if T.kind = 6 then wQ (T.keys.getD i .empty).data.toList ++ clW st else []
def wrV (st : Option Nat) : Nat → Nat → VT → List UInt8
  | 0, _, _ => []
  | h + 1, d, T =>
    if T.kind = 0 then [110, 117, 108, 108] else if T.kind = 1 then [102, 97, 108, 115, 101] else if T.kind = 2 then [116, 114, 117, 101] else if T.kind = 3 then T.num.data.toList else if T.kind = 4 then wQ T.text.data.toList
    else rowW (if T.kind = 6 then 123 else 91) (if T.kind = 6 then 125 else 93) (lnW st (d + 1)) (lnW st d) (nmV T st) (fun i => (T.items[i]?.map (wrV st h (d + 1))).getD []) T.items.length

def ShV : Nat → VT → Prop
  | 0, _ => True
  | h + 1, T => T.num.size ≤ 1048576 ∧ T.text.size ≤ 1048576 ∧ (∀ k ∈ T.keys, k.size ≤ 1048576) ∧ ∀ t ∈ T.items, ShV h t
theorem lnW_len (st : Option Nat) (d : Nat) (hs : ∀ s, st = some s → s ≤ 8) : (lnW st d).length ≤ 1 + 8 * d := by
  unfold lnW
  split
  · simp
  · rename_i s
    have h := hs s rfl
    have : d * s ≤ d * 8 := Nat.mul_le_mul_left d h
    simp; omega
theorem clW_len (st : Option Nat) : (clW st).length ≤ 2 := by unfold clW; split <;> simp
theorem sepW_len (o : UInt8) (i : Nat) : (sepW o i).length = 1 := by unfold sepW; split <;> rfl
end Go.Proofs.YtcpnodkcnblkdaaGreatDoor
namespace Go.Proofs.YtcpnodkcnblkdaaGreatDoor
open Go.RowKit
set_option linter.unusedVariables false
set_option linter.unusedSimpArgs false

theorem sum_take_up {α : Type} (f : α → Nat) {ts : List α} {k : Nat} (hk : k < ts.length) : sumL ((ts.take (k + 1)).map f) = sumL ((ts.take k).map f) + f ts[k] := by
  rw [List.take_add_one, List.getElem?_eq_getElem hk, List.map_append, sumL_append]
  simp [sumL]

end Go.Proofs.YtcpnodkcnblkdaaGreatDoor
namespace Go.Proofs.YtcpnodkcnblkdaaGreatDoor
open Go.RowKit
set_option linter.unusedVariables false
set_option linter.unusedSimpArgs false

theorem sum_take_le {α : Type} (f : α → Nat) (ts : List α) (k : Nat) : sumL ((ts.take k).map f) ≤ sumL (ts.map f) := by
  conv => rhs; rw [← List.take_append_drop k ts, List.map_append, sumL_append]
  omega
end Go.Proofs.YtcpnodkcnblkdaaGreatDoor
namespace Go.Proofs.YtcpnodkcnblkdaaGreatDoor
open Go.RowKit
set_option linter.unusedVariables false
set_option linter.unusedSimpArgs false
theorem mxL_le_of {b : Nat} : ∀ {l : List Nat}, (∀ x ∈ l, x ≤ b) → mxL l ≤ b
  | [], _ => Nat.zero_le _
  | x :: r, h => by
    have h1 := h x (List.mem_cons_self ..)
    have h2 := mxL_le_of (l := r) (fun y hy => h y (List.mem_cons_of_mem _ hy))
    simp only [mxL]; omega

theorem mx_take_up {α : Type} (f : α → Nat) {ts : List α} {k : Nat} (hk : k < ts.length) : mxL ((ts.take (k + 1)).map f) = max (mxL ((ts.take k).map f)) (f ts[k]) := by
  rw [List.take_add_one, List.getElem?_eq_getElem hk, List.map_append, mxL_append]
  simp [mxL]
def RdOk (h : Nat) : Prop := ∀ (T : VT) (v : Value) (w : World), InH w h T v → szN h T ≤ 100001 → formN h T = true → Calls Tryz.prog 9 #[v] w fun e w' => e = .returned (.int .i64 ((dpN h T : Nat) : Int)) ∧ Below w.heap.size w w'

set_option maxRecDepth 100000 in
set_option maxHeartbeats 3200000 in
theorem rdepth_loop (h : Nat) (ih : RdOk h) (kd : Int) (hkd : kd = 5 ∨ kd = 6) (nm tx : ByteArray) (io : Option Addr) (N icap : Nat) (ko : Option Addr) (K kcap : Nat) (ts : List VT) (w : World)
    (hi : IIn w h io ts) (hN : ts.length = N) (hcN : N ≤ icap) (hN2 : N ≤ 140737488355328) (hsz : ∀ i, (hi : i < ts.length) → szN h ts[i] ≤ 100001) (hfo : ∀ i, (hi : i < ts.length) → formN h ts[i] = true) :
    Calls Tryz.prog 9 #[.agg #[.int .i64 kd, .string nm, .string tx, .slice io N icap, .slice ko K kcap]] w fun e w' => e = .returned (.int .i64 ((1 + mxL (ts.map (dpN h)) : Nat) : Int)) ∧ Below w.heap.size w w' := by
  have HX := Hid.mk (vbx_new w (.int .i64 kd) (.string nm) (.string tx) (.slice io N icap) (.slice ko K kcap))
  have HI := Hid.mk (hi.keep HX.out.below)
  have HIh := Hid.mk ih
  have HNN := Hid.mk hN
  have HSZ := Hid.mk hsz
  have HFO := Hid.mk hfo
  clear hi ih hN hsz hfo
  have hk5 : ¬ kd < 5 := by omega
  clear hkd
  obtain ⟨W0, hW0⟩ : ∃ W0, W0 = w.alloc (.cells #[.int .i64 kd, .string nm, .string tx, .slice io N icap, .slice ko K kcap] 25) := ⟨_, rfl⟩
  go_enter Tryz.func9, Tryz.ntmps9
  go_wp2_with fail
  rw [← hW0] at HX HI ⊢
  clear hW0
  go_loopw [3, 4] (fun dd i wr => ∃ (k : Nat), k ≤ N ∧ dd = .int .i64 ((1 + mxL ((ts.take k).map (dpN h)) : Nat) : Int) ∧ i = .int .i64 (k : Int) ∧ Hid (Below W0.heap.size W0 wr)) (fun _ i _ => N - (intOf i).toNat)
  case atStart => exact ⟨0, Nat.zero_le _, rfl, rfl, Below.refl _ _⟩
  case round =>
    obtain ⟨k, hk, rfl, rfl, HB⟩ := hrel
    have HXw := Hid.mk (HX.out.keep HB.out)
    have g3 := HXw.out.c3
    have hmb : mxL ((ts.take k).map (dpN h)) ≤ 100001 := mxL_le_of (fun y hy => by
      obtain ⟨t, ht, rfl⟩ := List.mem_map.1 hy
      obtain ⟨i, hi, rfl⟩ := List.getElem_of_mem (List.mem_of_mem_take ht)
      exact Nat.le_trans (dpN_le h _) (HSZ.out i hi))
    by_cases hlt : k < N
    · have hl1 : (k : Int) < (N : Int) := by omega
      have hkt : k < ts.length := by rw [HNN.out]; exact hlt
      obtain ⟨b, off, hio, hbl, hrow⟩ := (HI.out.keep HB.out).row (by omega)
      subst hio
      obtain ⟨v0, v1, v2, v3, v4, ⟨c0, c1, c2, c3, c4⟩, ht⟩ := hrow k hkt
      have HC := Hid.mk (HIh.out _ _ wr ht (HSZ.out k hkt) (HFO.out k hkt))
      have HU := Hid.mk (mx_take_up (dpN h) hkt)
      have hdb : dpN h ts[k] ≤ 100001 := Nat.le_trans (dpN_le h _) (HSZ.out k hkt)
      generalize dpN h ts[k] = d at HC HU hdb
      generalize mxL ((ts.take k).map (dpN h)) = m at HU hmb ⊢
      clear ht hrow hbl hkt
      go_wp2_with fail
      refine HC.out.mono ?_
      rintro e w2 ⟨rfl, hb2⟩
      have HB2 := Hid.mk (below_more HB.out hb2)
      clear hb2 c0 c1 c2 c3 c4 HC g3
      by_cases hgt : m < d
      · have hgt1 : (1 + (m : Int)) < (d : Int) + 1 := by omega
        go_wp2_with fail
        go_roundw
        case rel => exact ⟨k + 1, hlt, by rw [HU.out, Nat.max_eq_right (by omega)]; go_num, by go_num, HB2⟩
        case measure => simp [intOf]; omega
      · have hgt1 : ¬ (1 + (m : Int)) < (d : Int) + 1 := by omega
        go_wp2_with fail
        go_roundw
        case rel => exact ⟨k + 1, hlt, by rw [HU.out, Nat.max_eq_left (by omega)]; go_num, by go_num, HB2⟩
        case measure => simp [intOf]; omega
    · have hl1 : ¬ (k : Int) < (N : Int) := by omega
      have HF : Hid (mxL ((ts.take k).map (dpN h)) = mxL (ts.map (dpN h))) := by
        show _ = _
        rw [List.take_of_length_le (by rw [HNN.out]; omega)]
      generalize mxL ((ts.take k).map (dpN h)) = m at HF hmb ⊢
      go_wp2_with fail
      go_ret
      exact ⟨by rw [← HF.out]; go_num, HXw.out.below⟩

set_option maxRecDepth 100000 in
set_option maxHeartbeats 3200000 in
theorem rdepth_flat (kd : Int) (hkd : kd < 5) (nm tx : ByteArray) (io : Option Addr) (N icap : Nat) (ko : Option Addr) (K kcap : Nat) (w : World) :
    Calls Tryz.prog 9 #[.agg #[.int .i64 kd, .string nm, .string tx, .slice io N icap, .slice ko K kcap]] w fun e w' => e = .returned (.int .i64 0) ∧ Below w.heap.size w w' := by
  have HX := Hid.mk (vbx_new w (.int .i64 kd) (.string nm) (.string tx) (.slice io N icap) (.slice ko K kcap))
  go_enter Tryz.func9, Tryz.ntmps9
  go_wp2_with fail
  go_ret
  exact ⟨rfl, HX.out.below⟩

theorem w_rDepth : ∀ h, RdOk h
  | 0 => fun T v w hI _ _ => hI.elim
  | h + 1 => by
    intro T v w hI hsz hf
    obtain ⟨io, icap, ko, kcap, rfl, a1, a2, a3, a4, a5, a6, a7, hk, hi⟩ := hI.open
    rcases form_kind hf with ⟨h0, h5⟩ | h56
    · have : dpN (h + 1) T = 0 := by unfold dpN; rw [if_neg (by omega)]
      rw [this]
      exact rdepth_flat T.kind h5 _ _ _ _ _ _ _ _ w
    · have : dpN (h + 1) T = 1 + mxL (T.items.map (dpN h)) := by unfold dpN; rw [if_pos h56]
      rw [this]
      exact rdepth_loop h (w_rDepth h) T.kind h56 _ _ io _ icap ko _ kcap T.items w hi rfl a5 a3 (fun i hi' => by have := szN_item (h := h) hi'; omega) (form_items hf h56)
end Go.Proofs.YtcpnodkcnblkdaaGreatDoor
