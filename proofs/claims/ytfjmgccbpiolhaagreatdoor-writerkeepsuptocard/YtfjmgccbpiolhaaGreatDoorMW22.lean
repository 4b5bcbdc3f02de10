import Derived.Test.YtfjmgccbpiolhaaGreatDoorMW21
import Derived.Test.YtfjmgccbpiolhaaGreatDoorMW13
import Derived.Test.YtfjmgccbpiolhaaGreatDoorMW15
import Derived.Test.YtfjmgccbpiolhaaGreatDoorMW10
import Derived.WalkKit
namespace Go.Proofs.YtfjmgccbpiolhaaGreatDoor
open Go.RowKit Go.Shelf
set_option linter.unusedVariables false
set_option linter.unusedSimpArgs false
attribute [local go_sem] Oper.semAt_some

def sumL : List Nat → Nat
  | [] => 0
  | x :: r => x + sumL r
theorem sumL_append (a b : List Nat) : sumL (a ++ b) = sumL a + sumL b := by
  induction a with
  | nil => simp [sumL]
  | cons x r ih => simp [sumL, ih, Nat.add_assoc]
theorem sumL_mem {x : Nat} : ∀ {l : List Nat}, x ∈ l → x ≤ sumL l
  | a :: r, h => by
    simp only [sumL]
    rcases List.mem_cons.1 h with rfl | h
    · omega
    · have := sumL_mem h; omega
def szN : Nat → VT → Nat
  | 0, _ => 0
  | h + 1, T => 1 + T.keys.length + sumL (T.items.map (szN h))
theorem szN_item {h : Nat} {T : VT} {i : Nat} (hi : i < T.items.length) : szN h T.items[i] + 1 ≤ szN (h + 1) T := by
  have := sumL_mem (List.mem_map.2 ⟨_, List.getElem_mem hi, rfl⟩ : szN h T.items[i] ∈ T.items.map (szN h))
  show _ ≤ 1 + T.keys.length + sumL _
  omega
structure IBox (W : World) (Bx : Nat) (c : Fin 5 → Value) : Prop where
  row : W.heap[Bx]? = some (.cells #[c 0, c 1, c 2, c 3, c 4] 49 (0, 0))
theorem IBox.cell {W : World} {Bx : Nat} {c : Fin 5 → Value} (h : IBox W Bx c) : W.cell? ⟨Bx, 0, none⟩ = some (c 0) ∧ W.cell? ⟨Bx, 1, none⟩ = some (c 1) ∧ W.cell? ⟨Bx, 2, none⟩ = some (c 2) ∧ W.cell? ⟨Bx, 3, none⟩ = some (c 3) ∧ W.cell? ⟨Bx, 4, none⟩ = some (c 4) :=
  ⟨cell_of_row _ _ 0 _ _ _ h.row, cell_of_row _ _ 1 _ _ _ h.row, cell_of_row _ _ 2 _ _ _ h.row, cell_of_row _ _ 3 _ _ _ h.row, cell_of_row _ _ 4 _ _ _ h.row⟩
end Go.Proofs.YtfjmgccbpiolhaaGreatDoor
namespace Go.Proofs.YtfjmgccbpiolhaaGreatDoor
open Go.RowKit
set_option linter.unusedVariables false
set_option linter.unusedSimpArgs false

theorem sum_take_up {α : Type} (f : α → Nat) {ts : List α} {k : Nat} (hk : k < ts.length) : sumL ((ts.take (k + 1)).map f) = sumL ((ts.take k).map f) + f ts[k] := by
  rw [List.take_add_one, List.getElem?_eq_getElem hk, List.map_append, sumL_append]
  simp [sumL]

end Go.Proofs.YtfjmgccbpiolhaaGreatDoor
namespace Go.Proofs.YtfjmgccbpiolhaaGreatDoor
open Go.RowKit
set_option linter.unusedVariables false
set_option linter.unusedSimpArgs false

theorem sum_take_le {α : Type} (f : α → Nat) (ts : List α) (k : Nat) : sumL ((ts.take k).map f) ≤ sumL (ts.map f) := by
  conv => rhs; rw [← List.take_append_drop k ts, List.map_append, sumL_append]
  omega
end Go.Proofs.YtfjmgccbpiolhaaGreatDoor
namespace Go.Proofs.YtfjmgccbpiolhaaGreatDoor
open Go.RowKit
set_option linter.unusedVariables false
set_option linter.unusedSimpArgs false

def hxB (n : UInt8) : UInt8 := if n < 10 then 48 + n else 97 + n - 10
def bq (b : UInt8) : List UInt8 := if b = 34 ∨ b = 92 then [92, b] else if b = 8 then [92, 98] else if b = 12 then [92, 102] else if b = 10 then [92, 110] else if b = 13 then [92, 114] else if b = 9 then [92, 116] else if b < 32 ∨ b = 127 then [92, 117, 48, 48, hxB (b >>> 4), hxB (b &&& 15)] else [b]
theorem bq_low : ∀ n, n < 128 → bq (UInt8.ofNat n) = qd n := by decide +kernel
theorem bq_high {b : UInt8} (h : 128 ≤ b.toNat) : bq b = [b] := by
  have e : ∀ k : Nat, k < 128 → ¬ b = UInt8.ofNat k := by
    intro k hk hb
    have h2 : (UInt8.ofNat k).toNat = k := ofNat_small (by omega)
    rw [hb, h2] at h
    omega
  unfold bq
  rw [if_neg (by rintro (h1 | h1); exact e 34 (by omega) h1; exact e 92 (by omega) h1), if_neg (show ¬ b = 8 from e 8 (by omega)), if_neg (show ¬ b = 12 from e 12 (by omega)), if_neg (show ¬ b = 10 from e 10 (by omega)), if_neg (show ¬ b = 13 from e 13 (by omega)), if_neg (show ¬ b = 9 from e 9 (by omega)), if_neg ?_]
  rintro (h1 | h1)
  · have : b.toNat < 32 := by simpa [UInt8.lt_iff_toNat_lt] using h1
    omega
  · exact e 127 (by omega) h1
theorem enc_high {n : Nat} (hn : isR n) (h : 128 ≤ n) : ∀ b ∈ enc n, 128 ≤ b.toNat := by
  unfold isR at hn
  unfold enc
  rw [if_neg (by omega)]
  intro b hb
  split at hb
  · simp only [List.mem_cons, List.not_mem_nil, or_false] at hb
    rcases hb with rfl | rfl <;> rw [ofNat_small (by omega)] <;> omega
  · split at hb
    · simp only [List.mem_cons, List.not_mem_nil, or_false] at hb
      rcases hb with rfl | rfl | rfl <;> rw [ofNat_small (by omega)] <;> omega
    · simp only [List.mem_cons, List.not_mem_nil, or_false] at hb
      rcases hb with rfl | rfl | rfl | rfl <;> rw [ofNat_small (by omega)] <;> omega
theorem flat_id : ∀ (l : List UInt8), (∀ b ∈ l, 128 ≤ b.toNat) → l.flatMap bq = l
  | [], _ => rfl
  | b :: r, h => by rw [List.flatMap_cons, bq_high (h b (List.mem_cons_self ..)), flat_id r (fun x hx => h x (List.mem_cons_of_mem _ hx))]; rfl
theorem sgn_big {n : Nat} (h : 128 ≤ n) : sgn n = none := by
  unfold sgn
  rw [if_neg (by omega), if_neg (by omega), if_neg (by omega), if_neg (by omega), if_neg (by omega), if_neg (by omega), if_neg (by omega)]
theorem bq_enc (n : Nat) (hn : isR n) : (enc n).flatMap bq = qd n := by
  by_cases h : n < 128
  · have e : enc n = [UInt8.ofNat n] := by unfold enc; rw [if_pos h]
    rw [e, List.flatMap_cons, bq_low n h]; simp
  · rw [flat_id _ (enc_high hn (by omega))]
    unfold qd
    rw [sgn_big (by omega)]
    simp only []
    rw [if_neg (by omega)]
theorem bq_runes (l : List UInt8) (h : okB l = true) : l.flatMap bq = qb (runes l) := by
  have e : txt (runes l) = l := by unfold okB at h; simpa using h
  have key : ∀ zs : List Nat, (∀ z ∈ zs, isR z) → (txt zs).flatMap bq = qb zs := by
    intro zs
    induction zs with
    | nil => intro _; rfl
    | cons z r ih =>
      intro hz
      show ((z :: r).flatMap enc).flatMap bq = _
      rw [List.flatMap_cons, List.flatMap_append, bq_enc z (hz z (List.mem_cons_self ..)), qb_cons]
      exact congrArg _ (ih (fun x hx => hz x (List.mem_cons_of_mem _ hx)))
  have := key (runes l) (runes_isR l)
  rw [e] at this
  exact this

def wQ (l : List UInt8) : List UInt8 := 34 :: (qb (runes l) ++ [34])
theorem wQ_len (l : List UInt8) : (wQ l).length ≤ 6 * l.length + 2 := by
  have h1 := qb_len (runes l)
  have h2 := runes_len_le l
  simp [wQ]; omega

def joinR (g : Nat → List UInt8) : Nat → List UInt8
  | 0 => []
  | k + 1 => joinR g k ++ g k
theorem joinR_len (g : Nat → List UInt8) (b : Nat → Nat) : ∀ k, (∀ i, i < k → (g i).length ≤ b i) → (joinR g k).length ≤ sumL ((List.range k).map b)
  | 0, _ => by simp [joinR]
  | k + 1, h => by
    have := joinR_len g b k (fun i hi => h i (by omega))
    have h2 := h k (by omega)
    rw [List.range_succ, List.map_append, sumL_append]
    simp [joinR, sumL]; omega
theorem joinR_congr {g g' : Nat → List UInt8} : ∀ {k}, (∀ i, i < k → g i = g' i) → joinR g k = joinR g' k
  | 0, _ => rfl
  | k + 1, h => by simp only [joinR]; rw [joinR_congr (fun i hi => h i (by omega)), h k (by omega)]

def lnW (st : Option Nat) (d : Nat) : List UInt8 := match st with
  | none => []
  | some s => 10 :: List.replicate (d * s) 32
def clW (st : Option Nat) : List UInt8 := match st with
  | none => [58]
  | some _ => [58, 32]
def sepW (o : UInt8) (i : Nat) : List UInt8 := if i = 0 then [o] else [44]
def pcW (o : UInt8) (ln : List UInt8) (nm it : Nat → List UInt8) (i : Nat) : List UInt8 := (sepW o i ++ ln ++ nm i) ++ it i
def rowW (o c : UInt8) (ln1 ln0 : List UInt8) (nm it : Nat → List UInt8) (N : Nat) : List UInt8 := if N = 0 then [o, c] else joinR (pcW o ln1 nm it) N ++ (ln0 ++ [c])
def nmV (T : VT) (st : Option Nat) (i : Nat) : List UInt8 := if T.kind = 6 then wQ (T.keys.getD i .empty).data.toList ++ clW st else []
def wrV (st : Option Nat) : Nat → Nat → VT → List UInt8
  | 0, _, _ => []
  | h + 1, d, T =>
    if T.kind = 0 then [110, 117, 108, 108] else if T.kind = 1 then [102, 97, 108, 115, 101] else if T.kind = 2 then [116, 114, 117, 101] else if T.kind = 3 then T.num.data.toList else if T.kind = 4 then wQ T.text.data.toList
    else rowW (if T.kind = 6 then 123 else 91) (if T.kind = 6 then 125 else 93) (lnW st (d + 1)) (lnW st d) (nmV T st) (fun i => (T.items[i]?.map (wrV st h (d + 1))).getD []) T.items.length

def ShV : Nat → VT → Prop
  | 0, _ => True
  | h + 1, T => T.num.size ≤ 1048576 ∧ T.text.size ≤ 1048576 ∧ (∀ k ∈ T.keys, k.size ≤ 1048576) ∧ ∀ t ∈ T.items, ShV h t
theorem lnW_len (st : Option Nat) (d : Nat) (hs : ∀ s, st = some s → s ≤ 8) : (lnW st d).length ≤ 1 + 8 * d := by
  unfold lnW
  split
  · simp
  · rename_i s
    have h := hs s rfl
    have : d * s ≤ d * 8 := Nat.mul_le_mul_left d h
    simp; omega
theorem clW_len (st : Option Nat) : (clW st).length ≤ 2 := by unfold clW; split <;> simp
theorem sepW_len (o : UInt8) (i : Nat) : (sepW o i).length = 1 := by unfold sepW; split <;> rfl
end Go.Proofs.YtfjmgccbpiolhaaGreatDoor
namespace Go.Proofs.YtfjmgccbpiolhaaGreatDoor
open Go.RowKit
set_option linter.unusedVariables false
set_option linter.unusedSimpArgs false

theorem cw_zero (w : World) (p : Option Addr) (c : Nat) : (convert 72 9 (.slice p 0 c)).run Tryz.prog w = .ok (.string ByteArray.empty) w := by
  rw [run_convert_bytes_string w 72 9 5 _ 0 c Tryz.underlying72 Tryz.underlying5 Tryz.underlying9]
  cases p <;> simp [Conv.bytesToString, loadCells]
  all_goals rfl
theorem cw_own {wr : World} {base n : Nat} {l : List UInt8} {ao : Option Addr} {cap : Nat} (h1 : l.length = n) (h3 : wr.ownsRow base 5 1 (.slice ao n cap) n (Lib.byteCells l)) : (convert 72 9 (.slice ao n cap)).run Tryz.prog wr = .ok (.string ⟨l.toArray⟩) wr := by
  by_cases hn : 0 < n
  · obtain ⟨g, cap', hv⟩ := own_some h3 hn
    cases hv
    exact bytes_conv h1 h3
  · have e : n = 0 := by omega
    subst e
    have e2 : l = [] := List.eq_nil_of_length_eq_zero h1
    subst e2
    exact cw_zero wr ao cap

theorem hxB_val (n : Nat) (h : n < 16) : ((hxB (UInt8.ofNat n)).toNat : Int) = if n < 10 then 48 + (n : Int) else 97 + (n : Int) - 10 := by
  have : ∀ m, m < 16 → ((hxB (UInt8.ofNat m)).toNat : Int) = if m < 10 then 48 + (m : Int) else 97 + (m : Int) - 10 := by decide
  exact this n h
set_option maxRecDepth 100000 in
set_option maxHeartbeats 400000 in
theorem w_hex (n : Nat) (w : World) (h : n < 16) : Calls Tryz.prog 122 #[.int .u8 (n : Int)] w fun e w' => e = .returned (.int .u8 ((hxB (UInt8.ofNat n)).toNat : Int)) ∧ w' = w := by
  rw [hxB_val n h]
  by_cases hl : n < 10
  · have h1 : (n : Int) < 10 := by omega
    rw [if_pos hl]
    go_enter Tryz.func122, Tryz.ntmps122
    go_wp2_with fail
    go_ret
    exact ⟨by go_num, rfl⟩
  · have h1 : ¬ (n : Int) < 10 := by omega
    rw [if_neg hl]
    go_enter Tryz.func122, Tryz.ntmps122
    go_wp2_with fail
    go_ret
    exact ⟨by go_num, rfl⟩

structure RqSt (w wr : World) (v : Value) (n : Nat) (l : List UInt8) : Prop where
  len : l.length = n
  own : wr.ownsRow w.heap.size 5 1 v n (Lib.byteCells l)
  below : Below w.heap.size w wr
theorem RqSt.app {w wr w1 : World} {v v1 : Value} {n m : Nat} {l l2 : List UInt8} {cs : Array Value} (h : RqSt w wr v n l) (hm : l2.length = m) (hown : w1.ownsRow w.heap.size 5 1 v1 (n + m) (Lib.byteCells l ++ Lib.byteCells l2)) (hg : (wr.alloc (.cells cs 5)).grownBy w1 v.ownBlock) : RqSt w w1 v1 (n + m) (l ++ l2) :=
  ⟨by rw [List.length_append, h.len, hm], by rw [Lib.byteCells_append]; exact hown, below_app h.own h.below.size h.below hg⟩

theorem flat_snoc (s : ByteArray) (k : Nat) (h : k < s.size) : (s.data.toList.take (k + 1)).flatMap bq = (s.data.toList.take k).flatMap bq ++ bq (s[k]'h) := by
  have hl : k < s.data.toList.length := by rw [Array.length_toList]; exact h
  rw [List.take_succ_eq_append_getElem hl, List.flatMap_append]
  simp
  rfl
set_option maxRecDepth 100000 in
set_option maxHeartbeats 3200000 in
theorem w_rQuote (s : ByteArray) (w : World) (hs : s.size ≤ 68719476736) :
    Calls Tryz.prog 94 #[.string s] w fun e w' => e = .returned (.string ⟨(34 :: (s.data.toList.flatMap bq ++ [34])).toArray⟩) ∧ Below w.heap.size w w' := by
  obtain ⟨i0, hi0, hz0, hz1, hz2⟩ := info_parts Tryz.infoB
  have HS : Hid (RqSt w (w.alloc (.cells #[.int .u8 34] 5)) (.slice (some ⟨w.heap.size, 0, none⟩) 1 1) 1 [34]) := ⟨rfl, ⟨rfl, .inr ⟨w.heap.size, 1, _, rfl, Nat.le_refl _, heap_alloc_new w _, Nat.le_refl _, by decide, rfl, rfl⟩⟩, (Below.refl _ _).alloc (Nat.le_refl _) _⟩
  go_enter Tryz.func94, Tryz.ntmps94
  go_wp2_with fail
  go_loopw [3, 4] (fun b i wr => ∃ (k n : Nat) (so : Option Addr) (sc : Nat) (l : List UInt8), k ≤ s.size ∧ n ≤ 1 + 6 * k ∧ b = .slice so n sc ∧ i = .int .i64 (k : Int) ∧ Hid (l = 34 :: (s.data.toList.take k).flatMap bq) ∧ Hid (RqSt w wr (.slice so n sc) n l)) (fun _ i _ => s.size - (intOf i).toNat)
  case atStart => exact ⟨0, 1, _, 1, [34], Nat.zero_le _, by omega, rfl, rfl, by show _ = _; simp, HS⟩
  case round =>
    obtain ⟨k, n, so, sc, l, hk, hn6, rfl, rfl, HE, HQ⟩ := hrel
    by_cases hlt : k < s.size
    · have hk1 : (k : Int) < (s.size : Int) := by omega
      have HF := Hid.mk (flat_snoc s k hlt)
      obtain ⟨c, hc⟩ : ∃ c, c = s[k]'hlt := ⟨_, rfl⟩
      rw [← hc] at HF
      have hix : (0 : Int) ≤ (k : Int) ∧ (k : Int) < (s.size : Int) := by omega
      have hcl : c.toNat < 256 := c.toNat_lt
      have hci : s[k]'hlt = c := hc.symm
      clear hc
      by_cases e34 : c.toNat = 34
      · have hcc : c = 34 := UInt8.toNat_inj.1 (by rw [e34]; rfl)
        have hbq : bq c = [92, 34] := by rw [hcc]; rfl
        have q34 : ((c.toNat : Int) == 34) = true := by rw [beq_iff_eq]; omega
        clear hcc
        have hown0 := HQ.out.own
        have hBw := HQ.out.below.size
        go_wp2_with (at_builtin; refine wpList_append_own _ rfl _ _ 72 rfl w.heap.size 5 i0 (.int .u8 0) 1 1 Tryz.underlying72 hi0 hz0 hz1 hz2 rfl (by decide) _ _ _ rfl (hown0.alloc _) ⟨wr.heap.size, 0, none⟩ 2 2 [.int .u8 92, .int .u8 34] rfl rfl (by intro j u hj; match j, hj with | 0, hj => simp at hj; subst hj; simp [Addr.add] | 1, hj => simp at hj; subst hj; simp [Addr.add] <;> rfl) (by intro u hu; simp only [List.mem_cons, List.not_mem_nil, or_false] at hu; rcases hu with rfl | rfl <;> rfl) (by unfold maxLen; omega) (by omega) (by simp; omega) ?_)
        intro v1 w1 hown1 hgrow1 hnn
        obtain ⟨so1, sc1, hv1⟩ := own_shape hown1
        have HQ2 : Hid (RqSt w w1 v1 (n + 2) (l ++ [92, 34])) := HQ.out.app (m := 2) rfl hown1 hgrow1
        subst hv1
        clear hown1 hgrow1 hnn hown0 hBw
        go_wp2_with fail
        go_roundw
        case rel => exact ⟨k + 1, _, _, _, l ++ [92, 34], hlt, by omega, rfl, by go_num, by show _ = _; rw [HE.out, HF.out, hbq]; rfl, HQ2⟩
        case measure => simp [intOf]; omega
      by_cases e92 : c.toNat = 92
      · have hcc : c = 92 := UInt8.toNat_inj.1 (by rw [e92]; rfl)
        have hbq : bq c = [92, 92] := by rw [hcc]; rfl
        have q34 : ((c.toNat : Int) == 34) = false := by rw [beq_eq_false_iff_ne]; omega
        have q92 : ((c.toNat : Int) == 92) = true := by rw [beq_iff_eq]; omega
        clear hcc
        have hown0 := HQ.out.own
        have hBw := HQ.out.below.size
        go_wp2_with (at_builtin; refine wpList_append_own _ rfl _ _ 72 rfl w.heap.size 5 i0 (.int .u8 0) 1 1 Tryz.underlying72 hi0 hz0 hz1 hz2 rfl (by decide) _ _ _ rfl (hown0.alloc _) ⟨wr.heap.size, 0, none⟩ 2 2 [.int .u8 92, .int .u8 92] rfl rfl (by intro j u hj; match j, hj with | 0, hj => simp at hj; subst hj; simp [Addr.add] | 1, hj => simp at hj; subst hj; simp [Addr.add] <;> rfl) (by intro u hu; simp only [List.mem_cons, List.not_mem_nil, or_false] at hu; rcases hu with rfl | rfl <;> rfl) (by unfold maxLen; omega) (by omega) (by simp; omega) ?_)
        intro v1 w1 hown1 hgrow1 hnn
        obtain ⟨so1, sc1, hv1⟩ := own_shape hown1
        have HQ2 : Hid (RqSt w w1 v1 (n + 2) (l ++ [92, 92])) := HQ.out.app (m := 2) rfl hown1 hgrow1
        subst hv1
        clear hown1 hgrow1 hnn hown0 hBw
        go_wp2_with fail
        go_roundw
        case rel => exact ⟨k + 1, _, _, _, l ++ [92, 92], hlt, by omega, rfl, by go_num, by show _ = _; rw [HE.out, HF.out, hbq]; rfl, HQ2⟩
        case measure => simp [intOf]; omega
      by_cases e8 : c.toNat = 8
      · have hcc : c = 8 := UInt8.toNat_inj.1 (by rw [e8]; rfl)
        have hbq : bq c = [92, 98] := by rw [hcc]; rfl
        have q34 : ((c.toNat : Int) == 34) = false := by rw [beq_eq_false_iff_ne]; omega
        have q92 : ((c.toNat : Int) == 92) = false := by rw [beq_eq_false_iff_ne]; omega
        have q8 : ((c.toNat : Int) == 8) = true := by rw [beq_iff_eq]; omega
        clear hcc
        have hown0 := HQ.out.own
        have hBw := HQ.out.below.size
        go_wp2_with (at_builtin; refine wpList_append_own _ rfl _ _ 72 rfl w.heap.size 5 i0 (.int .u8 0) 1 1 Tryz.underlying72 hi0 hz0 hz1 hz2 rfl (by decide) _ _ _ rfl (hown0.alloc _) ⟨wr.heap.size, 0, none⟩ 2 2 [.int .u8 92, .int .u8 98] rfl rfl (by intro j u hj; match j, hj with | 0, hj => simp at hj; subst hj; simp [Addr.add] | 1, hj => simp at hj; subst hj; simp [Addr.add] <;> rfl) (by intro u hu; simp only [List.mem_cons, List.not_mem_nil, or_false] at hu; rcases hu with rfl | rfl <;> rfl) (by unfold maxLen; omega) (by omega) (by simp; omega) ?_)
        intro v1 w1 hown1 hgrow1 hnn
        obtain ⟨so1, sc1, hv1⟩ := own_shape hown1
        have HQ2 : Hid (RqSt w w1 v1 (n + 2) (l ++ [92, 98])) := HQ.out.app (m := 2) rfl hown1 hgrow1
        subst hv1
        clear hown1 hgrow1 hnn hown0 hBw
        go_wp2_with fail
        go_roundw
        case rel => exact ⟨k + 1, _, _, _, l ++ [92, 98], hlt, by omega, rfl, by go_num, by show _ = _; rw [HE.out, HF.out, hbq]; rfl, HQ2⟩
        case measure => simp [intOf]; omega
      by_cases e12 : c.toNat = 12
      · have hcc : c = 12 := UInt8.toNat_inj.1 (by rw [e12]; rfl)
        have hbq : bq c = [92, 102] := by rw [hcc]; rfl
        have q34 : ((c.toNat : Int) == 34) = false := by rw [beq_eq_false_iff_ne]; omega
        have q92 : ((c.toNat : Int) == 92) = false := by rw [beq_eq_false_iff_ne]; omega
        have q8 : ((c.toNat : Int) == 8) = false := by rw [beq_eq_false_iff_ne]; omega
        have q12 : ((c.toNat : Int) == 12) = true := by rw [beq_iff_eq]; omega
        clear hcc
        have hown0 := HQ.out.own
        have hBw := HQ.out.below.size
        go_wp2_with (at_builtin; refine wpList_append_own _ rfl _ _ 72 rfl w.heap.size 5 i0 (.int .u8 0) 1 1 Tryz.underlying72 hi0 hz0 hz1 hz2 rfl (by decide) _ _ _ rfl (hown0.alloc _) ⟨wr.heap.size, 0, none⟩ 2 2 [.int .u8 92, .int .u8 102] rfl rfl (by intro j u hj; match j, hj with | 0, hj => simp at hj; subst hj; simp [Addr.add] | 1, hj => simp at hj; subst hj; simp [Addr.add] <;> rfl) (by intro u hu; simp only [List.mem_cons, List.not_mem_nil, or_false] at hu; rcases hu with rfl | rfl <;> rfl) (by unfold maxLen; omega) (by omega) (by simp; omega) ?_)
        intro v1 w1 hown1 hgrow1 hnn
        obtain ⟨so1, sc1, hv1⟩ := own_shape hown1
        have HQ2 : Hid (RqSt w w1 v1 (n + 2) (l ++ [92, 102])) := HQ.out.app (m := 2) rfl hown1 hgrow1
        subst hv1
        clear hown1 hgrow1 hnn hown0 hBw
        go_wp2_with fail
        go_roundw
        case rel => exact ⟨k + 1, _, _, _, l ++ [92, 102], hlt, by omega, rfl, by go_num, by show _ = _; rw [HE.out, HF.out, hbq]; rfl, HQ2⟩
        case measure => simp [intOf]; omega
      by_cases e10 : c.toNat = 10
      · have hcc : c = 10 := UInt8.toNat_inj.1 (by rw [e10]; rfl)
        have hbq : bq c = [92, 110] := by rw [hcc]; rfl
        have q34 : ((c.toNat : Int) == 34) = false := by rw [beq_eq_false_iff_ne]; omega
        have q92 : ((c.toNat : Int) == 92) = false := by rw [beq_eq_false_iff_ne]; omega
        have q8 : ((c.toNat : Int) == 8) = false := by rw [beq_eq_false_iff_ne]; omega
        have q12 : ((c.toNat : Int) == 12) = false := by rw [beq_eq_false_iff_ne]; omega
        have q10 : ((c.toNat : Int) == 10) = true := by rw [beq_iff_eq]; omega
        clear hcc
        have hown0 := HQ.out.own
        have hBw := HQ.out.below.size
        go_wp2_with (at_builtin; refine wpList_append_own _ rfl _ _ 72 rfl w.heap.size 5 i0 (.int .u8 0) 1 1 Tryz.underlying72 hi0 hz0 hz1 hz2 rfl (by decide) _ _ _ rfl (hown0.alloc _) ⟨wr.heap.size, 0, none⟩ 2 2 [.int .u8 92, .int .u8 110] rfl rfl (by intro j u hj; match j, hj with | 0, hj => simp at hj; subst hj; simp [Addr.add] | 1, hj => simp at hj; subst hj; simp [Addr.add] <;> rfl) (by intro u hu; simp only [List.mem_cons, List.not_mem_nil, or_false] at hu; rcases hu with rfl | rfl <;> rfl) (by unfold maxLen; omega) (by omega) (by simp; omega) ?_)
        intro v1 w1 hown1 hgrow1 hnn
        obtain ⟨so1, sc1, hv1⟩ := own_shape hown1
        have HQ2 : Hid (RqSt w w1 v1 (n + 2) (l ++ [92, 110])) := HQ.out.app (m := 2) rfl hown1 hgrow1
        subst hv1
        clear hown1 hgrow1 hnn hown0 hBw
        go_wp2_with fail
        go_roundw
        case rel => exact ⟨k + 1, _, _, _, l ++ [92, 110], hlt, by omega, rfl, by go_num, by show _ = _; rw [HE.out, HF.out, hbq]; rfl, HQ2⟩
        case measure => simp [intOf]; omega
      by_cases e13 : c.toNat = 13
      · have hcc : c = 13 := UInt8.toNat_inj.1 (by rw [e13]; rfl)
        have hbq : bq c = [92, 114] := by rw [hcc]; rfl
        have q34 : ((c.toNat : Int) == 34) = false := by rw [beq_eq_false_iff_ne]; omega
        have q92 : ((c.toNat : Int) == 92) = false := by rw [beq_eq_false_iff_ne]; omega
        have q8 : ((c.toNat : Int) == 8) = false := by rw [beq_eq_false_iff_ne]; omega
        have q12 : ((c.toNat : Int) == 12) = false := by rw [beq_eq_false_iff_ne]; omega
        have q10 : ((c.toNat : Int) == 10) = false := by rw [beq_eq_false_iff_ne]; omega
        have q13 : ((c.toNat : Int) == 13) = true := by rw [beq_iff_eq]; omega
        clear hcc
        have hown0 := HQ.out.own
        have hBw := HQ.out.below.size
        go_wp2_with (at_builtin; refine wpList_append_own _ rfl _ _ 72 rfl w.heap.size 5 i0 (.int .u8 0) 1 1 Tryz.underlying72 hi0 hz0 hz1 hz2 rfl (by decide) _ _ _ rfl (hown0.alloc _) ⟨wr.heap.size, 0, none⟩ 2 2 [.int .u8 92, .int .u8 114] rfl rfl (by intro j u hj; match j, hj with | 0, hj => simp at hj; subst hj; simp [Addr.add] | 1, hj => simp at hj; subst hj; simp [Addr.add] <;> rfl) (by intro u hu; simp only [List.mem_cons, List.not_mem_nil, or_false] at hu; rcases hu with rfl | rfl <;> rfl) (by unfold maxLen; omega) (by omega) (by simp; omega) ?_)
        intro v1 w1 hown1 hgrow1 hnn
        obtain ⟨so1, sc1, hv1⟩ := own_shape hown1
        have HQ2 : Hid (RqSt w w1 v1 (n + 2) (l ++ [92, 114])) := HQ.out.app (m := 2) rfl hown1 hgrow1
        subst hv1
        clear hown1 hgrow1 hnn hown0 hBw
        go_wp2_with fail
        go_roundw
        case rel => exact ⟨k + 1, _, _, _, l ++ [92, 114], hlt, by omega, rfl, by go_num, by show _ = _; rw [HE.out, HF.out, hbq]; rfl, HQ2⟩
        case measure => simp [intOf]; omega
      by_cases e9 : c.toNat = 9
      · have hcc : c = 9 := UInt8.toNat_inj.1 (by rw [e9]; rfl)
        have hbq : bq c = [92, 116] := by rw [hcc]; rfl
        have q34 : ((c.toNat : Int) == 34) = false := by rw [beq_eq_false_iff_ne]; omega
        have q92 : ((c.toNat : Int) == 92) = false := by rw [beq_eq_false_iff_ne]; omega
        have q8 : ((c.toNat : Int) == 8) = false := by rw [beq_eq_false_iff_ne]; omega
        have q12 : ((c.toNat : Int) == 12) = false := by rw [beq_eq_false_iff_ne]; omega
        have q10 : ((c.toNat : Int) == 10) = false := by rw [beq_eq_false_iff_ne]; omega
        have q13 : ((c.toNat : Int) == 13) = false := by rw [beq_eq_false_iff_ne]; omega
        have q9 : ((c.toNat : Int) == 9) = true := by rw [beq_iff_eq]; omega
        clear hcc
        have hown0 := HQ.out.own
        have hBw := HQ.out.below.size
        go_wp2_with (at_builtin; refine wpList_append_own _ rfl _ _ 72 rfl w.heap.size 5 i0 (.int .u8 0) 1 1 Tryz.underlying72 hi0 hz0 hz1 hz2 rfl (by decide) _ _ _ rfl (hown0.alloc _) ⟨wr.heap.size, 0, none⟩ 2 2 [.int .u8 92, .int .u8 116] rfl rfl (by intro j u hj; match j, hj with | 0, hj => simp at hj; subst hj; simp [Addr.add] | 1, hj => simp at hj; subst hj; simp [Addr.add] <;> rfl) (by intro u hu; simp only [List.mem_cons, List.not_mem_nil, or_false] at hu; rcases hu with rfl | rfl <;> rfl) (by unfold maxLen; omega) (by omega) (by simp; omega) ?_)
        intro v1 w1 hown1 hgrow1 hnn
        obtain ⟨so1, sc1, hv1⟩ := own_shape hown1
        have HQ2 : Hid (RqSt w w1 v1 (n + 2) (l ++ [92, 116])) := HQ.out.app (m := 2) rfl hown1 hgrow1
        subst hv1
        clear hown1 hgrow1 hnn hown0 hBw
        go_wp2_with fail
        go_roundw
        case rel => exact ⟨k + 1, _, _, _, l ++ [92, 116], hlt, by omega, rfl, by go_num, by show _ = _; rw [HE.out, HF.out, hbq]; rfl, HQ2⟩
        case measure => simp [intOf]; omega
      by_cases ect : c.toNat < 32 ∨ c.toNat = 127
      · have hn1 : c.toNat / 16 < 16 := by omega
        have hn2 : c.toNat % 16 < 16 := by omega
        have hbq : bq c = [92, 117, 48, 48, hxB (UInt8.ofNat (c.toNat / 16)), hxB (UInt8.ofNat (c.toNat % 16))] := by
          have hall : ∀ m, m < 128 → (m = 34 ∨ m = 92 ∨ m = 8 ∨ m = 12 ∨ m = 10 ∨ m = 13 ∨ m = 9 ∨ (32 ≤ m ∧ m < 127)) ∨ bq (UInt8.ofNat m) = [92, 117, 48, 48, hxB (UInt8.ofNat (m / 16)), hxB (UInt8.ofNat (m % 16))] := by decide +kernel
          have := (hall c.toNat (by omega)).resolve_left (by omega)
          rwa [UInt8.ofNat_toNat] at this
        have HX1 : Hid (∀ u, Calls Tryz.prog 122 #[.int .u8 ((c.toNat : Int) / 16)] u fun e w' => e = .returned (.int .u8 ((hxB (UInt8.ofNat (c.toNat / 16))).toNat : Int)) ∧ w' = u) := fun u => by have h := w_hex (c.toNat / 16) u hn1; rwa [show ((c.toNat / 16 : Nat) : Int) = (c.toNat : Int) / 16 from by omega] at h
        have HX2 : Hid (∀ u, Calls Tryz.prog 122 #[.int .u8 ((c.toNat : Int) % 16)] u fun e w' => e = .returned (.int .u8 ((hxB (UInt8.ofNat (c.toNat % 16))).toNat : Int)) ∧ w' = u) := fun u => by have h := w_hex (c.toNat % 16) u hn2; rwa [show ((c.toNat % 16 : Nat) : Int) = (c.toNat : Int) % 16 from by omega] at h
        have q34 : ((c.toNat : Int) == 34) = false := by rw [beq_eq_false_iff_ne]; omega
        have q92 : ((c.toNat : Int) == 92) = false := by rw [beq_eq_false_iff_ne]; omega
        have q8 : ((c.toNat : Int) == 8) = false := by rw [beq_eq_false_iff_ne]; omega
        have q12 : ((c.toNat : Int) == 12) = false := by rw [beq_eq_false_iff_ne]; omega
        have q10 : ((c.toNat : Int) == 10) = false := by rw [beq_eq_false_iff_ne]; omega
        have q13 : ((c.toNat : Int) == 13) = false := by rw [beq_eq_false_iff_ne]; omega
        have q9 : ((c.toNat : Int) == 9) = false := by rw [beq_eq_false_iff_ne]; omega
        generalize hxB (UInt8.ofNat (c.toNat / 16)) = x1 at HX1 hbq
        generalize hxB (UInt8.ofNat (c.toNat % 16)) = x2 at HX2 hbq
        have HLT : Hid (c.toNat < 32 ∨ c.toNat = 127) := ect
        clear ect
        rcases HLT.out with hlow | h127
        · have ql : (c.toNat : Int) < 32 := by omega
          go_wp2_with fail
          refine (HX1.out _).mono ?_
          rintro e u ⟨rfl, hu⟩; obtain rfl := hu.symm
          go_wp2_with fail
          refine (HX2.out _).mono ?_
          rintro e u ⟨rfl, hu⟩; obtain rfl := hu.symm
          have hown0 := HQ.out.own
          have hBw := HQ.out.below.size
          go_wp2_with (at_builtin; refine wpList_append_own _ rfl _ _ 72 rfl w.heap.size 5 i0 (.int .u8 0) 1 1 Tryz.underlying72 hi0 hz0 hz1 hz2 rfl (by decide) _ _ _ rfl (hown0.alloc _) ⟨wr.heap.size, 0, none⟩ 6 6 [.int .u8 92, .int .u8 117, .int .u8 48, .int .u8 48, .int .u8 (x1.toNat : Int), .int .u8 (x2.toNat : Int)] rfl rfl (by intro j u hj; match j, hj with | 0, hj => simp at hj; subst hj; simp [Addr.add] | 1, hj => simp at hj; subst hj; simp [Addr.add] <;> rfl | 2, hj => simp at hj; subst hj; simp [Addr.add] <;> rfl | 3, hj => simp at hj; subst hj; simp [Addr.add] <;> rfl | 4, hj => simp at hj; subst hj; simp [Addr.add] <;> rfl | 5, hj => simp at hj; subst hj; simp [Addr.add] <;> rfl) (by intro u hu; simp only [List.mem_cons, List.not_mem_nil, or_false] at hu; rcases hu with rfl | rfl | rfl | rfl | rfl | rfl <;> rfl) (by unfold maxLen; omega) (by omega) (by simp; omega) ?_)
          intro v1 w1 hown1 hgrow1 hnn
          obtain ⟨so1, sc1, hv1⟩ := own_shape hown1
          have HQ2 : Hid (RqSt w w1 v1 (n + 6) (l ++ [92, 117, 48, 48, x1, x2])) := HQ.out.app (m := 6) rfl hown1 hgrow1
          subst hv1
          clear hown1 hgrow1 hnn hown0 hBw
          go_wp2_with fail
          go_roundw
          case rel => exact ⟨k + 1, _, _, _, l ++ [92, 117, 48, 48, x1, x2], hlt, by omega, rfl, by go_num, by show _ = _; rw [HE.out, HF.out, hbq]; rfl, HQ2⟩
          case measure => simp [intOf]; omega
        · have ql : ¬ (c.toNat : Int) < 32 := by omega
          have q127 : ((c.toNat : Int) == 127) = true := by rw [beq_iff_eq]; omega
          have HC127 := Hid.mk h127
          clear h127
          go_wp2_with fail
          refine (HX1.out _).mono ?_
          rintro e u ⟨rfl, hu⟩; obtain rfl := hu.symm
          go_wp2_with fail
          refine (HX2.out _).mono ?_
          rintro e u ⟨rfl, hu⟩; obtain rfl := hu.symm
          have hown0 := HQ.out.own
          have hBw := HQ.out.below.size
          go_wp2_with (at_builtin; refine wpList_append_own _ rfl _ _ 72 rfl w.heap.size 5 i0 (.int .u8 0) 1 1 Tryz.underlying72 hi0 hz0 hz1 hz2 rfl (by decide) _ _ _ rfl (hown0.alloc _) ⟨wr.heap.size, 0, none⟩ 6 6 [.int .u8 92, .int .u8 117, .int .u8 48, .int .u8 48, .int .u8 (x1.toNat : Int), .int .u8 (x2.toNat : Int)] rfl rfl (by intro j u hj; match j, hj with | 0, hj => simp at hj; subst hj; simp [Addr.add] | 1, hj => simp at hj; subst hj; simp [Addr.add] <;> rfl | 2, hj => simp at hj; subst hj; simp [Addr.add] <;> rfl | 3, hj => simp at hj; subst hj; simp [Addr.add] <;> rfl | 4, hj => simp at hj; subst hj; simp [Addr.add] <;> rfl | 5, hj => simp at hj; subst hj; simp [Addr.add] <;> rfl) (by intro u hu; simp only [List.mem_cons, List.not_mem_nil, or_false] at hu; rcases hu with rfl | rfl | rfl | rfl | rfl | rfl <;> rfl) (by unfold maxLen; omega) (by omega) (by simp; omega) ?_)
          intro v1 w1 hown1 hgrow1 hnn
          obtain ⟨so1, sc1, hv1⟩ := own_shape hown1
          have HQ2 : Hid (RqSt w w1 v1 (n + 6) (l ++ [92, 117, 48, 48, x1, x2])) := HQ.out.app (m := 6) rfl hown1 hgrow1
          subst hv1
          clear hown1 hgrow1 hnn hown0 hBw
          go_wp2_with fail
          go_roundw
          case rel => exact ⟨k + 1, _, _, _, l ++ [92, 117, 48, 48, x1, x2], hlt, by omega, rfl, by go_num, by show _ = _; rw [HE.out, HF.out, hbq]; rfl, HQ2⟩
          case measure => simp [intOf]; omega
      · have ql : ¬ (c.toNat : Int) < 32 := by omega
        have q127 : ((c.toNat : Int) == 127) = false := by rw [beq_eq_false_iff_ne]; omega
        have hbq : bq c = [c] := by
          have hne : ∀ K : Nat, K < 256 → c.toNat ≠ K → ¬ c = UInt8.ofNat K := fun K hK h1 h2 => h1 (by rw [h2, ofNat_small hK])
          unfold bq
          rw [if_neg (by rintro (h1 | h1); exact hne 34 (by omega) e34 h1; exact hne 92 (by omega) e92 h1), if_neg (show ¬ c = 8 from hne 8 (by omega) e8), if_neg (show ¬ c = 12 from hne 12 (by omega) e12), if_neg (show ¬ c = 10 from hne 10 (by omega) e10), if_neg (show ¬ c = 13 from hne 13 (by omega) e13), if_neg (show ¬ c = 9 from hne 9 (by omega) e9), if_neg ?_]
          rintro (h1 | h1)
          · exact ect (.inl (by simpa [UInt8.lt_iff_toNat_lt] using h1))
          · exact hne 127 (by omega) (fun e => ect (.inr e)) h1
        have q34 : ((c.toNat : Int) == 34) = false := by rw [beq_eq_false_iff_ne]; omega
        have q92 : ((c.toNat : Int) == 92) = false := by rw [beq_eq_false_iff_ne]; omega
        have q8 : ((c.toNat : Int) == 8) = false := by rw [beq_eq_false_iff_ne]; omega
        have q12 : ((c.toNat : Int) == 12) = false := by rw [beq_eq_false_iff_ne]; omega
        have q10 : ((c.toNat : Int) == 10) = false := by rw [beq_eq_false_iff_ne]; omega
        have q13 : ((c.toNat : Int) == 13) = false := by rw [beq_eq_false_iff_ne]; omega
        have q9 : ((c.toNat : Int) == 9) = false := by rw [beq_eq_false_iff_ne]; omega
        have hown0 := HQ.out.own
        have hBw := HQ.out.below.size
        go_wp2_with (at_builtin; refine wpList_append_own _ rfl _ _ 72 rfl w.heap.size 5 i0 (.int .u8 0) 1 1 Tryz.underlying72 hi0 hz0 hz1 hz2 rfl (by decide) _ _ _ rfl (hown0.alloc _) ⟨wr.heap.size, 0, none⟩ 1 1 [.int .u8 (c.toNat : Int)] rfl rfl (by intro j u hj; match j, hj with | 0, hj => simp at hj; subst hj; simp [Addr.add]) (by intro u hu; simp only [List.mem_cons, List.not_mem_nil, or_false] at hu; rcases hu with rfl <;> rfl) (by unfold maxLen; omega) (by omega) (by simp; omega) ?_)
        intro v1 w1 hown1 hgrow1 hnn
        obtain ⟨so1, sc1, hv1⟩ := own_shape hown1
        have HQ2 : Hid (RqSt w w1 v1 (n + 1) (l ++ [c])) := HQ.out.app (m := 1) rfl hown1 hgrow1
        subst hv1
        clear hown1 hgrow1 hnn hown0 hBw
        go_wp2_with fail
        go_roundw
        case rel => exact ⟨k + 1, _, _, _, l ++ [c], hlt, by omega, rfl, by go_num, by show _ = _; rw [HE.out, HF.out, hbq]; rfl, HQ2⟩
        case measure => simp [intOf]; omega
    · have hk1 : ¬ (k : Int) < (s.size : Int) := by omega
      have hks : k = s.size := by omega
      have HEE : Hid (l = 34 :: s.data.toList.flatMap bq) := by
        have e := HE.out
        rw [hks, List.take_of_length_le (by rw [Array.length_toList]; exact Nat.le_refl _)] at e
        exact e
      have HKS := Hid.mk hks
      clear hks
      have hown0 := HQ.out.own
      have hBw := HQ.out.below.size
      go_wp2_with (at_builtin; refine wpList_append_own _ rfl _ _ 72 rfl w.heap.size 5 i0 (.int .u8 0) 1 1 Tryz.underlying72 hi0 hz0 hz1 hz2 rfl (by decide) _ _ _ rfl (hown0.alloc _) ⟨wr.heap.size, 0, none⟩ 1 1 [.int .u8 34] rfl rfl (by intro j u hj; match j, hj with | 0, hj => simp at hj; subst hj; simp [Addr.add]) (by intro u hu; simp only [List.mem_cons, List.not_mem_nil, or_false] at hu; rcases hu with rfl <;> rfl) (by unfold maxLen; omega) (by omega) (by simp; omega) ?_)
      intro v1 w1 hown1 hgrow1 hnn
      obtain ⟨so1, sc1, hv1⟩ := own_shape hown1
      have HQ2 : Hid (RqSt w w1 v1 (n + 1) (l ++ [34])) := HQ.out.app (m := 1) rfl hown1 hgrow1
      subst hv1
      clear hown1 hgrow1 hnn hown0 hBw
      have hcv := cw_own HQ2.out.len HQ2.out.own
      have HFin : Hid ((ByteArray.mk (l ++ [34]).toArray) = ⟨(34 :: (s.data.toList.flatMap bq ++ [34])).toArray⟩) := by
        show _ = _
        rw [HEE.out]; rfl
      go_wp2_with fail
      go_ret
      exact ⟨by rw [HFin.out]; rfl, HQ2.out.below⟩
end Go.Proofs.YtfjmgccbpiolhaaGreatDoor
