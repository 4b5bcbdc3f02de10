import Derived.Test.YtfjmgccbpiolhaaGreatDoorM26
import Derived.Test.YtfjmgccbpiolhaaGreatDoorM16
import Derived.Test.YtfjmgccbpiolhaaGreatDoorM17
import Derived.Test.YtfjmgccbpiolhaaGreatDoorM11
namespace Go.Proofs.YtfjmgccbpiolhaaGreatDoor
open Go.RowKit Go.Shelf
set_option linter.unusedVariables false
set_option linter.unusedSimpArgs false
attribute [local go_sem] Oper.semAt_some

def sumL : List Nat → Nat
  | [] => 0
  | x :: r => x + sumL r
theorem sumL_append (a b : List Nat) : sumL (a ++ b) = sumL a + sumL b := by
  induction a with
  | nil => simp [sumL]
  | cons x r ih => simp [sumL, ih, Nat.add_assoc]
theorem sumL_mem {x : Nat} : ∀ {l : List Nat}, x ∈ l → x ≤ sumL l
  | a :: r, h => by
    simp only [sumL]
    rcases List.mem_cons.1 h with rfl | h
    · omega
    · have := sumL_mem h; omega
def szN : Nat → VT → Nat
  | 0, _ => 0
  | h + 1, T => 1 + T.keys.length + sumL (T.items.map (szN h))
theorem szN_item {h : Nat} {T : VT} {i : Nat} (hi : i < T.items.length) : szN h T.items[i] + 1 ≤ szN (h + 1) T := by
  have := sumL_mem (List.mem_map.2 ⟨_, List.getElem_mem hi, rfl⟩ : szN h T.items[i] ∈ T.items.map (szN h))
  show _ ≤ 1 + T.keys.length + sumL _
  omega
def mxL : List Nat → Nat
  | [] => 0
  | x :: r => max x (mxL r)
def dpN : Nat → VT → Nat
  | 0, _ => 0
  | h + 1, T => if T.kind = 5 ∨ T.kind = 6 then 1 + mxL (T.items.map (dpN h)) else 0
structure IBox (W : World) (Bx : Nat) (c : Fin 5 → Value) : Prop where
  row : W.heap[Bx]? = some (.cells #[c 0, c 1, c 2, c 3, c 4] 49 (0, 0))
theorem IBox.cell {W : World} {Bx : Nat} {c : Fin 5 → Value} (h : IBox W Bx c) : W.cell? ⟨Bx, 0, none⟩ = some (c 0) ∧ W.cell? ⟨Bx, 1, none⟩ = some (c 1) ∧ W.cell? ⟨Bx, 2, none⟩ = some (c 2) ∧ W.cell? ⟨Bx, 3, none⟩ = some (c 3) ∧ W.cell? ⟨Bx, 4, none⟩ = some (c 4) :=
  ⟨cell_of_row _ _ 0 _ _ _ h.row, cell_of_row _ _ 1 _ _ _ h.row, cell_of_row _ _ 2 _ _ _ h.row, cell_of_row _ _ 3 _ _ _ h.row, cell_of_row _ _ 4 _ _ _ h.row⟩
end Go.Proofs.YtfjmgccbpiolhaaGreatDoor
namespace Go.Proofs.YtfjmgccbpiolhaaGreatDoor
open Go.RowKit
set_option linter.unusedVariables false
set_option linter.unusedSimpArgs false

def wQ (l : List UInt8) : List UInt8 := 34 :: (qb (runes l) ++ [34])
theorem wQ_len (l : List UInt8) : (wQ l).length ≤ 6 * l.length + 2 := by
  have h1 := qb_len (runes l)
  have h2 := runes_len_le l
  simp [wQ]; omega

def joinR (g : Nat → List UInt8) : Nat → List UInt8
  | 0 => []
  | k + 1 => joinR g k ++ g k
theorem joinR_len (g : Nat → List UInt8) (b : Nat → Nat) : ∀ k, (∀ i, i < k → (g i).length ≤ b i) → (joinR g k).length ≤ sumL ((List.range k).map b)
  | 0, _ => by simp [joinR]
  | k + 1, h => by
    have := joinR_len g b k (fun i hi => h i (by omega))
    have h2 := h k (by omega)
    rw [List.range_succ, List.map_append, sumL_append]
    simp [joinR, sumL]; omega
theorem joinR_congr {g g' : Nat → List UInt8} : ∀ {k}, (∀ i, i < k → g i = g' i) → joinR g k = joinR g' k
  | 0, _ => rfl
  | k + 1, h => by simp only [joinR]; rw [joinR_congr (fun i hi => h i (by omega)), h k (by omega)]

def lnW (st : Option Nat) (d : Nat) : List UInt8 := match st with
  | none => []
  | some s => 10 :: List.replicate (d * s) 32
def clW (st : Option Nat) : List UInt8 := match st with
  | none => [58]
  | some _ => [58, 32]
def sepW (o : UInt8) (i : Nat) : List UInt8 := if i = 0 then [o] else [44]
def pcW (o : UInt8) (ln : List UInt8) (nm it : Nat → List UInt8) (i : Nat) : List UInt8 := (sepW o i ++ ln ++ nm i) ++ it i
def rowW (o c : UInt8) (ln1 ln0 : List UInt8) (nm it : Nat → List UInt8) (N : Nat) : List UInt8 := if N = 0 then [o, c] else joinR (pcW o ln1 nm it) N ++ (ln0 ++ [c])
def nmV (T : VT) (st : Option Nat) (i : Nat) : List UInt8 := if T.kind = 6 then wQ (T.keys.getD i .empty).data.toList ++ clW st else []
def wrV (st : Option Nat) : Nat → Nat → VT → List UInt8
  | 0, _, _ => []
  | h + 1, d, T =>
    if T.kind = 0 then [110, 117, 108, 108] else if T.kind = 1 then [102, 97, 108, 115, 101] else if T.kind = 2 then [116, 114, 117, 101] else if T.kind = 3 then T.num.data.toList else if T.kind = 4 then wQ T.text.data.toList
    else rowW (if T.kind = 6 then 123 else 91) (if T.kind = 6 then 125 else 93) (lnW st (d + 1)) (lnW st d) (nmV T st) (fun i => (T.items[i]?.map (wrV st h (d + 1))).getD []) T.items.length

def ShV : Nat → VT → Prop
  | 0, _ => True
  | h + 1, T => T.num.size ≤ 1048576 ∧ T.text.size ≤ 1048576 ∧ (∀ k ∈ T.keys, k.size ≤ 1048576) ∧ ∀ t ∈ T.items, ShV h t
theorem lnW_len (st : Option Nat) (d : Nat) (hs : ∀ s, st = some s → s ≤ 8) : (lnW st d).length ≤ 1 + 8 * d := by
  unfold lnW
  split
  · simp
  · rename_i s
    have h := hs s rfl
    have : d * s ≤ d * 8 := Nat.mul_le_mul_left d h
    simp; omega
theorem clW_len (st : Option Nat) : (clW st).length ≤ 2 := by unfold clW; split <;> simp
theorem sepW_len (o : UInt8) (i : Nat) : (sepW o i).length = 1 := by unfold sepW; split <;> rfl
end Go.Proofs.YtfjmgccbpiolhaaGreatDoor
