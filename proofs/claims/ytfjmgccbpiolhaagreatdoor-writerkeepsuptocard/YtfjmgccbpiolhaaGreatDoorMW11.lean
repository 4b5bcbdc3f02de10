import Derived.Test.YtfjmgccbpiolhaaGreatDoorMW9
import Derived.Laws.OwnMore
namespace Go.Proofs.YtfjmgccbpiolhaaGreatDoor
open Go.RowKit
set_option linter.unusedVariables false
set_option linter.unusedSimpArgs false

def InF (lo : Nat) (W : World) : Nat → VT → Value → Prop
  | 0, _, _ => False
  | h + 1, T, v => ∃ (io : Option Addr) (icap : Nat) (ko : Option Addr) (kcap : Nat),
      v = .agg #[.int .i64 T.kind, .string T.num, .string T.text, .slice io T.items.length icap, .slice ko T.keys.length kcap] ∧
      T.num.size ≤ 140737488355328 ∧ T.text.size ≤ 140737488355328 ∧ T.items.length ≤ 140737488355328 ∧ T.keys.length ≤ 140737488355328 ∧ T.items.length ≤ icap ∧ T.keys.length ≤ kcap ∧
      (∀ k ∈ T.keys, k.size ≤ 140737488355328) ∧
      (0 < T.keys.length → ∃ b off, ko = some ⟨b, off, none⟩ ∧ lo ≤ b ∧ b < W.heap.size ∧ ∀ i, i < T.keys.length → W.cell? ⟨b, off + i, none⟩ = some (.string (T.keys.getD i .empty))) ∧
      (0 < T.items.length → ∃ b off, io = some ⟨b, off, none⟩ ∧ lo ≤ b ∧ b < W.heap.size ∧ ∀ i, (hi : i < T.items.length) → ∃ v0 v1 v2 v3 v4 : Value,
        (W.cell? ⟨b, off + i * 5, none⟩ = some v0 ∧ W.cell? ⟨b, off + i * 5 + 1, none⟩ = some v1 ∧ W.cell? ⟨b, off + i * 5 + 2, none⟩ = some v2 ∧ W.cell? ⟨b, off + i * 5 + 3, none⟩ = some v3 ∧ W.cell? ⟨b, off + i * 5 + 4, none⟩ = some v4) ∧ InF lo W h T.items[i] (.agg #[v0, v1, v2, v3, v4]))
theorem InF.toH {lo : Nat} {W : World} : ∀ {h : Nat} {T : VT} {v : Value}, InF lo W h T v → InH W h T v
  | 0, _, _, h => h
  | h + 1, T, v, hI => by
    obtain ⟨io, icap, ko, kcap, e, a1, a2, a3, a4, a5, a6, a7, hk, hi⟩ := hI
    refine ⟨io, icap, ko, kcap, e, a1, a2, a3, a4, a5, a6, a7, ⟨fun h0 => ?_⟩, fun h0 => ?_⟩
    · obtain ⟨b, off, e2, _, hl, hc⟩ := hk h0
      exact ⟨b, off, e2, hl, hc⟩
    · obtain ⟨b, off, e2, _, hl, hc⟩ := hi h0
      refine ⟨b, off, e2, hl, fun i hil => ?_⟩
      obtain ⟨v0, v1, v2, v3, v4, c, ht⟩ := hc i hil
      exact ⟨v0, v1, v2, v3, v4, c, InF.toH ht⟩
theorem InF.keepB {lo lo' : Nat} {W W' : World} (hz : W.heap.size ≤ W'.heap.size) (hs : ∀ b, lo ≤ b → b < W.heap.size → W'.heap[b]? = W.heap[b]?) (hlo : lo' ≤ lo) : ∀ {h : Nat} {T : VT} {v : Value}, InF lo W h T v → InF lo' W' h T v
  | 0, _, _, h => h
  | h + 1, T, v, hI => by
    obtain ⟨io, icap, ko, kcap, e, a1, a2, a3, a4, a5, a6, a7, hk, hi⟩ := hI
    have cc : ∀ b o u, lo ≤ b → b < W.heap.size → W.cell? ⟨b, o, none⟩ = some u → W'.cell? ⟨b, o, none⟩ = some u := fun b o u h1 h2 h3 => (World.cell?_of_block (a := ⟨b, o, none⟩) (hs b h1 h2)).trans h3
    refine ⟨io, icap, ko, kcap, e, a1, a2, a3, a4, a5, a6, a7, fun h0 => ?_, fun h0 => ?_⟩
    · obtain ⟨b, off, e2, hb, hl, hc⟩ := hk h0
      exact ⟨b, off, e2, Nat.le_trans hlo hb, Nat.lt_of_lt_of_le hl hz, fun i hi => cc _ _ _ hb hl (hc i hi)⟩
    · obtain ⟨b, off, e2, hb, hl, hc⟩ := hi h0
      refine ⟨b, off, e2, Nat.le_trans hlo hb, Nat.lt_of_lt_of_le hl hz, fun i hil => ?_⟩
      obtain ⟨v0, v1, v2, v3, v4, ⟨c0, c1, c2, c3, c4⟩, ht⟩ := hc i hil
      exact ⟨v0, v1, v2, v3, v4, ⟨cc _ _ _ hb hl c0, cc _ _ _ hb hl c1, cc _ _ _ hb hl c2, cc _ _ _ hb hl c3, cc _ _ _ hb hl c4⟩, InF.keepB hz hs hlo ht⟩
theorem InF.low {lo : Nat} {W W' : World} {h : Nat} {T : VT} {v : Value} (hI : InF lo W h T v) (hb : Below W.heap.size W W') : InF lo W' h T v := InF.keepB hb.size (fun b _ hl => hb.block b hl) (Nat.le_refl _) hI

def flat (c : Nat → Fin 5 → Value) (k : Nat) : List Value := (List.range k).flatMap fun i => [c i 0, c i 1, c i 2, c i 3, c i 4]
theorem flat_up (c : Nat → Fin 5 → Value) (k : Nat) : flat c (k + 1) = flat c k ++ [c k 0, c k 1, c k 2, c k 3, c k 4] := by unfold flat; rw [List.range_succ, List.flatMap_append]; simp
theorem flat_len (c : Nat → Fin 5 → Value) (k : Nat) : (flat c k).length = k * 5 := by
  induction k with
  | zero => rfl
  | succ k ih => rw [flat_up, List.length_append, ih]; simp; omega
theorem flat_eq {c d : Nat → Fin 5 → Value} {k : Nat} (h : ∀ i, i < k → c i = d i) : flat c k = flat d k := by
  induction k with
  | zero => rfl
  | succ k ih => rw [flat_up, flat_up, ih (fun i hi => h i (by omega)), h k (by omega)]
theorem flat_get (c : Nat → Fin 5 → Value) : ∀ (k i : Nat) (j : Fin 5), i < k → (flat c k)[i * 5 + j.1]? = some (c i j)
  | 0, _, _, h => by omega
  | k + 1, i, j, h => by
    have hj := j.2
    rw [flat_up]
    by_cases hi : i < k
    · rw [List.getElem?_append_left (by rw [flat_len]; omega)]
      exact flat_get c k i j hi
    · have e : i = k := by omega
      subst e
      rw [List.getElem?_append_right (by rw [flat_len]; omega), flat_len, show i * 5 + j.1 - i * 5 = j.1 from by omega]
      match j with
      | 0 => rfl
      | 1 => rfl
      | 2 => rfl
      | 3 => rfl
      | 4 => rfl
end Go.Proofs.YtfjmgccbpiolhaaGreatDoor
namespace Go.Proofs.YtfjmgccbpiolhaaGreatDoor
open Go.RowKit
set_option linter.unusedVariables false
set_option linter.unusedSimpArgs false
attribute [local go_sem] Oper.semAt_some

def wbL (i : Nat) : ByteArray := ⟨#[35, 247, 255, 255, 46, UInt8.ofNat (i % 256), UInt8.ofNat (i / 256 % 256), UInt8.ofNat (i / 65536 % 256)]⟩
theorem u8_smallL {n : Nat} (h : n < 256) : (((UInt8.ofNat n).toNat : Nat) : Int) = (n : Int) := by
  rw [UInt8.toNat_ofNat']; omega
theorem conv8L (i : Nat) (w : World) : (convert 72 9 (.slice (some ⟨w.heap.size, 0, none⟩) 8 8)).run Tryz.prog (w.alloc (.cells #[.int .u8 35, .int .u8 247, .int .u8 255, .int .u8 255, .int .u8 46, .int .u8 ((i : Int) % 256), .int .u8 ((i : Int) / 256 % 256), .int .u8 ((i : Int) / 65536 % 256)] 5)) = .ok (.string (wbL i)) (w.alloc (.cells #[.int .u8 35, .int .u8 247, .int .u8 255, .int .u8 255, .int .u8 46, .int .u8 ((i : Int) % 256), .int .u8 ((i : Int) / 256 % 256), .int .u8 ((i : Int) / 65536 % 256)] 5)) := by
  have e4 : (i : Int) % 256 = (((UInt8.ofNat (i % 256)).toNat : Nat) : Int) := by rw [u8_smallL (by omega)]; omega
  have e5 : (i : Int) / 256 % 256 = (((UInt8.ofNat (i / 256 % 256)).toNat : Nat) : Int) := by rw [u8_smallL (by omega)]; omega
  have e6 : (i : Int) / 65536 % 256 = (((UInt8.ofNat (i / 65536 % 256)).toNat : Nat) : Int) := by rw [u8_smallL (by omega)]; omega
  rw [e4, e5, e6]
  unfold wbL
  generalize UInt8.ofNat (i % 256) = c4
  generalize UInt8.ofNat (i / 256 % 256) = c5
  generalize UInt8.ofNat (i / 65536 % 256) = c6
  have h := run_convert_bytes_back (P := Tryz.prog) (w.alloc (.cells #[.int .u8 35, .int .u8 247, .int .u8 255, .int .u8 255, .int .u8 46, .int .u8 (c4.toNat : Int), .int .u8 (c5.toNat : Int), .int .u8 (c6.toNat : Int)] 5)) 72 9 5 ⟨w.heap.size, 0, none⟩ 8 [35, 247, 255, 255, 46, c4, c5, c6] Tryz.underlying72 Tryz.underlying5 Tryz.underlying9 (by
    intro j hj
    have hj6 : j < 8 := hj
    rcases (show j = 0 ∨ j = 1 ∨ j = 2 ∨ j = 3 ∨ j = 4 ∨ j = 5 ∨ j = 6 ∨ j = 7 by omega) with rfl | rfl | rfl | rfl | rfl | rfl | rfl | rfl <;> simp [Addr.add, go_sem])
  exact h

set_option maxRecDepth 100000 in
set_option maxHeartbeats 1600000 in
theorem w_lword (i : Nat) (w : World) (hi : i ≤ 4294967296) :
    Calls Tryz.prog 57 #[.int .i64 (-9), .int .i64 (i : Int)] w fun e w' => e = .returned (.string (wbL i)) ∧ Below w.heap.size w w' := by
  have hcv := conv8L i w
  have HB := Hid.mk (below1 w (.cells #[.int .u8 35, .int .u8 247, .int .u8 255, .int .u8 255, .int .u8 46, .int .u8 ((i : Int) % 256), .int .u8 ((i : Int) / 256 % 256), .int .u8 ((i : Int) / 65536 % 256)] 5))
  have h2 : (0 : Int) ≤ (i : Int) := by omega
  have h3 : (i : Int) ≤ 4294967296 := by omega
  go_enter Tryz.func57, Tryz.ntmps57
  go_wp2_with fail
  go_ret
  exact ⟨rfl, HB.out⟩

set_option maxRecDepth 100000 in
set_option maxHeartbeats 1600000 in
theorem w_lmarkS (i : Nat) (w : World) (hi : i ≤ 4294967296) :
    Calls Tryz.prog 67 #[.int .i64 (-9), .int .i64 (i : Int)] w fun e w' => e = .returned (.string (wbL i)) ∧ Below w.heap.size w w' := by
  have HW := Hid.mk (fun u => w_lword i u hi)
  generalize wbL i = B at *
  go_enter Tryz.func67, Tryz.ntmps67
  go_wp2_with fail
  refine (HW.out _).mono ?_
  rintro e w1 ⟨rfl, hb1⟩
  have HB1 := Hid.mk hb1
  clear hb1
  go_wp2_with fail
  go_ret
  exact ⟨rfl, HB1.out⟩

theorem vboxL_cells {w : World} {B : Nat} {t : TypeId} {y0 y1 y2 y3 y4 : Value} (h : w.heap[B]? = some (.cells #[y0, y1, y2, y3, y4] t (0, 0))) :
    w.cell? ⟨B, 0, none⟩ = some y0 ∧ w.cell? ⟨B, 1, none⟩ = some y1 ∧ w.cell? ⟨B, 2, none⟩ = some y2 ∧ w.cell? ⟨B, 3, none⟩ = some y3 ∧ w.cell? ⟨B, 4, none⟩ = some y4 ∧ w.frozen? ⟨B, 0, none⟩ = false ∧ w.frozen? ⟨B, 1, none⟩ = false ∧ w.frozen? ⟨B, 2, none⟩ = false ∧ w.frozen? ⟨B, 3, none⟩ = false ∧ w.frozen? ⟨B, 4, none⟩ = false := by
  have fr : ∀ j, w.frozen? ⟨B, j, none⟩ = false := fun j => by simp [World.frozen?, h]
  refine ⟨?_, ?_, ?_, ?_, ?_, fr 0, fr 1, fr 2, fr 3, fr 4⟩ <;> rw [cell_of_row _ _ _ _ _ _ h] <;> rfl
theorem setL5 (w : World) (B : Nat) (t : TypeId) (y0 y1 y2 y3 y4 a0 a1 a2 a3 a4 : Value) (h : w.heap[B]? = some (.cells #[y0, y1, y2, y3, y4] t (0, 0))) (wz : World) (hz : wz = ((((w.setCell ⟨B, 0, none⟩ a0).setCell ⟨B, 1, none⟩ a1).setCell ⟨B, 2, none⟩ a2).setCell ⟨B, 3, none⟩ a3).setCell ⟨B, 4, none⟩ a4) :
    wz.heap[B]? = some (.cells #[a0, a1, a2, a3, a4] t (0, 0)) ∧ (∀ b, b ≠ B → wz.heap[b]? = w.heap[b]?) ∧ wz.heap.size = w.heap.size ∧ ∀ n, n ≤ B → Below n w wz := by
  subst hz
  refine ⟨?_, fun b hb => ?_, by simp, fun n hn => ?_⟩
  · have e : ∀ (u : World) (c : Array Value) (i : Nat) (v : Value), u.heap[B]? = some (.cells c t (0, 0)) → (u.setCell ⟨B, i, none⟩ v).heap[B]? = some (.cells (c.setIfInBounds i v) t (0, 0)) := fun u c i v hu => by
      show (u.heap.modify B _)[B]? = _
      rw [Array.getElem?_modify, if_pos rfl, hu]; rfl
    exact e _ _ 4 a4 (e _ _ 3 a3 (e _ _ 2 a2 (e _ _ 1 a1 (e _ _ 0 a0 h))))
  · rw [Below.heap_setCell _ _ _ _ hb, Below.heap_setCell _ _ _ _ hb, Below.heap_setCell _ _ _ _ hb, Below.heap_setCell _ _ _ _ hb, Below.heap_setCell _ _ _ _ hb]
  · exact (((((Below.refl n w).setCell (p := ⟨B, 0, none⟩) hn _).setCell (p := ⟨B, 1, none⟩) hn _).setCell (p := ⟨B, 2, none⟩) hn _).setCell (p := ⟨B, 3, none⟩) hn _).setCell (p := ⟨B, 4, none⟩) hn _

set_option maxRecDepth 100000 in
set_option maxHeartbeats 1600000 in
theorem w_lmarkV (i : Nat) (w : World) (hi : i ≤ 4294967296) :
    Calls Tryz.prog 23 #[.int .i64 (-9), .int .i64 (i : Int)] w fun e w' => e = .returned (.agg #[.int .i64 (-1), .string (wbL i), .string ⟨#[]⟩, .slice none 0 0, .slice none 0 0]) ∧ Below w.heap.size w w' := by
  have HW := Hid.mk (fun u => w_lword i u hi)
  have hn := heap_alloc_new w (.cells #[.int .i64 0, .string ⟨#[]⟩, .string ⟨#[]⟩, .slice none 0 0, .slice none 0 0] 49)
  have HN := Hid.mk hn
  have HB0 := Hid.mk (below1 w (.cells #[.int .i64 0, .string ⟨#[]⟩, .string ⟨#[]⟩, .slice none 0 0, .slice none 0 0] 49))
  clear hn
  generalize wbL i = B at *
  go_enter Tryz.func23, Tryz.ntmps23
  go_wp2_with fail
  refine (HW.out _).mono ?_
  rintro e w1 ⟨rfl, hb1⟩
  have q1 := (hb1.block w.heap.size (by simp)).trans HN.out
  have HQ := Hid.mk q1
  have HB1 := Hid.mk (HB0.out.trans (hb1.mono (by simp)))
  obtain ⟨t0, t1, t2, t3, t4, f0, f1, f2, f3, f4⟩ := vboxL_cells q1
  clear hb1 q1
  go_wp2_with fail
  (try simp only [Exit.inBlock, Exit.then])
  generalize hz : ((((w1.setCell ⟨w.heap.size, 0, none⟩ (.int .i64 (-1))).setCell ⟨w.heap.size, 1, none⟩ (.string B)).setCell ⟨w.heap.size, 2, none⟩ (.string ⟨#[]⟩)).setCell ⟨w.heap.size, 3, none⟩ (.slice none 0 0)).setCell ⟨w.heap.size, 4, none⟩ (.slice none 0 0) = wz
  obtain ⟨z1, z2, z3, z4⟩ := setL5 _ _ _ _ _ _ _ _ _ _ _ _ _ HQ.out wz hz.symm
  obtain ⟨d0, d1, d2, d3, d4, _⟩ := vboxL_cells z1
  refine bodyPost_ret (v := .agg #[.int .i64 (-1), .string B, .string ⟨#[]⟩, .slice none 0 0, .slice none 0 0]) (by simp [results, Tryz.results23, go_sem, d0, d1, d2, d3, d4]) rfl ?_
  exact ⟨rfl, HB1.out.trans (z4 _ (Nat.le_refl _))⟩
end Go.Proofs.YtfjmgccbpiolhaaGreatDoor
