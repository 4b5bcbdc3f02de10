import Derived.Test.YtjfbbdhmcljhnaaZT1
import Derived.Laws.EntriesVeiled
namespace Go.Proofs.Ytjfbbdhmcljhnaa
open Go.RowKit
set_option linter.unusedVariables false
set_option linter.unusedSimpArgs false

/-- value.Twin, at a height -/
def TwOk (h : Nat) : Prop := ∀ (T : VT) (v : Value) (w : World), InH w h T v → szN h T ≤ 10001 → Calls Try.prog 49 #[v] w fun e w' => ∃ v', e = .returned v' ∧ InF w.heap.size w' h T v' ∧ Below w.heap.size w w'

/-- what Twin holds in its loop -/
structure TwSt (w wr : World) (h : Nat) (ts : List VT) (a0 a1 a2 a3 a4 : Value) (N : Nat) (v : Value) (k : Nat) : Prop where
  below : Below w.heap.size w wr
  box : wr.heap[w.heap.size]? = some (.cells #[a0, a1, a2, a3, a4] 25 (0, 0))
  res : wr.heap[w.heap.size + 1]? = some (.cells #[.int .i64 0, .string ⟨#[]⟩, .string ⟨#[]⟩, .slice none 0 0, .slice none 0 0] 25 (0, 0))
  out : wr.heap[w.heap.size + 1 + 1]? = some (.cells #[a0, a1, a2, v, a4] 25 (0, 0))
  its : ∃ c : Nat → Fin 5 → Value, wr.ownsRow (w.heap.size + 3) 25 5 v k (flat c k) ∧ ∀ i, (hi : i < ts.length) → i < k → InF (w.heap.size + 4) wr h ts[i] (.agg #[c i 0, c i 1, c i 2, c i 3, c i 4])
  shape : (N = 0 ∧ k = 0 ∧ v = .slice none 0 0) ∨ ∃ cap, N ≤ cap ∧ v = .slice (some ⟨w.heap.size + 3, 0, none⟩) k cap

theorem heap_low {w w' : World} {n : Nat} (hb : Below n w w') {b : Nat} {o : Obj} (hlt : b < n) (h : w.heap[b]? = some o) : w'.heap[b]? = some o := (hb.block b hlt).trans h
theorem own_low {w w' : World} {base : Nat} {e : TypeId} {size : Nat} {v : Value} {n : Nat} {xs : List Value} (h : w.ownsRow base e size v n xs) (hb : Below w.heap.size w w') : w'.ownsRow base e size v n xs := by
  refine ⟨h.1, h.2.imp id ?_⟩
  rintro ⟨g, cap, cur, e1, e2, e3, rest⟩
  exact ⟨g, cap, cur, e1, e2, (hb.block g (Array.getElem?_eq_some_iff.1 e3).1).trans e3, rest⟩
theorem TwSt.low {w wr u : World} {h : Nat} {ts : List VT} {a0 a1 a2 a3 a4 : Value} {N : Nat} {v : Value} {k : Nat} (H : TwSt w wr h ts a0 a1 a2 a3 a4 N v k) (hb : Below wr.heap.size wr u) : TwSt w u h ts a0 a1 a2 a3 a4 N v k := by
  have lt : ∀ {b : Nat} {o : Obj}, wr.heap[b]? = some o → u.heap[b]? = some o := fun {b o} e => heap_low hb (Array.getElem?_eq_some_iff.1 e).1 e
  obtain ⟨c, h1, h2⟩ := H.its
  exact ⟨H.below.trans (hb.mono H.below.size), lt H.box, lt H.res, lt H.out, ⟨c, own_low h1 hb, fun i hi hk => (h2 i hi hk).low hb⟩, H.shape⟩

theorem setCell_box (w : World) (B : Nat) (a0 a1 a2 a3 a4 v : Value) (t : TypeId) (h : w.heap[B]? = some (.cells #[a0, a1, a2, a3, a4] t (0, 0))) : (w.setCell ⟨B, 3, none⟩ v).heap[B]? = some (.cells #[a0, a1, a2, v, a4] t (0, 0)) := by
  show (w.heap.modify B _)[B]? = _
  rw [Array.getElem?_modify, if_pos rfl, h]; rfl

theorem InF.shape {lo : Nat} {W : World} {h : Nat} {T : VT} {v : Value} (hI : InF lo W h T v) : ∃ (k : Int) (n t : ByteArray) (io : Option Addr) (N icap : Nat) (ko : Option Addr) (K kcap : Nat), v = .agg #[.int .i64 k, .string n, .string t, .slice io N icap, .slice ko K kcap] := by
  cases h with
  | zero => exact hI.elim
  | succ h =>
    obtain ⟨io, icap, ko, kcap, e, _⟩ := hI
    exact ⟨_, _, _, io, _, icap, ko, _, kcap, e⟩

theorem new5 {w : World} {B : Nat} {a b c d e : Value} (h : w.heap[B]? = some (.cells #[a, b, c, d, e] 25 (0, 0))) : ∀ (j : Nat) (u : Value), ([a, b, c, d, e] : List Value)[j]? = some u → w.cell? ((⟨B, 0, none⟩ : Addr).add j) = some u := World.news_of_block (cs := #[a, b, c, d, e]) h
theorem frozen_row {w : World} {B j : Nat} {cs : Array Value} {t : TypeId} (h : w.heap[B]? = some (.cells cs t (0, 0))) : w.frozen? ⟨B, j, none⟩ = false := by simp [World.frozen?, h]

/-- one item more -/
theorem TwSt.more {w w4 w5 : World} {h : Nat} {ts : List VT} {a0 a1 a2 a3 a4 : Value} {N k cap : Nat} {o : Obj} (hkl : k < ts.length) (hw3 : w.heap.size + 3 < w4.heap.size) (H : TwSt w w4 h ts a0 a1 a2 a3 a4 N (.slice (some ⟨w.heap.size + 3, 0, none⟩) k cap) k)
    (c : Nat → Fin 5 → Value) (y0 y1 y2 y3 y4 : Value) (hc : ∀ i, (hi : i < ts.length) → i < k → InF (w.heap.size + 4) w4 h ts[i] (.agg #[c i 0, c i 1, c i 2, c i 3, c i 4]))
    (hy : InF (w.heap.size + 4) w4 h ts[k] (.agg #[y0, y1, y2, y3, y4])) (hN : N ≤ cap)
    (hg : (w4.alloc o).grownBy w5 (some (w.heap.size + 3))) (hown : w5.ownsRow (w.heap.size + 3) 25 5 (.slice (some ⟨w.heap.size + 3, 0, none⟩) (k + 1) cap) (k + 1) (flat c k ++ [y0, y1, y2, y3, y4])) :
    TwSt w (w5.setCell ⟨w.heap.size + 1 + 1, 3, none⟩ (.slice (some ⟨w.heap.size + 3, 0, none⟩) (k + 1) cap)) h ts a0 a1 a2 a3 a4 N (.slice (some ⟨w.heap.size + 3, 0, none⟩) (k + 1) cap) (k + 1) := by
  have hgs := hg.size
  simp at hgs
  have old : ∀ b, b ≠ w.heap.size + 3 → b < w4.heap.size → w5.heap[b]? = w4.heap[b]? := fun b hb hl => (hg.block b (by simp; omega) (fun e => hb (Option.some.inj e))).trans (Below.heap_alloc _ _ b hl)
  have oth : ∀ b, b ≠ w.heap.size + 1 + 1 → (w5.setCell ⟨w.heap.size + 1 + 1, 3, none⟩ (.slice (some ⟨w.heap.size + 3, 0, none⟩) (k + 1) cap)).heap[b]? = w5.heap[b]? := fun b hb => Below.heap_setCell _ _ _ _ hb
  have sz : (w5.setCell ⟨w.heap.size + 1 + 1, 3, none⟩ (.slice (some ⟨w.heap.size + 3, 0, none⟩) (k + 1) cap)).heap.size = w5.heap.size := by simp
  obtain ⟨d, hd⟩ : ∃ d : Nat → Fin 5 → Value, (∀ i, i < k → d i = c i) ∧ d k = (fun j => match j with | 0 => y0 | 1 => y1 | 2 => y2 | 3 => y3 | 4 => y4) := ⟨fun i => if i < k then c i else (fun j => match j with | 0 => y0 | 1 => y1 | 2 => y2 | 3 => y3 | 4 => y4), fun i hi => by simp [hi], by simp⟩
  have keep : ∀ {T : VT} {v : Value}, InF (w.heap.size + 4) w4 h T v → InF (w.heap.size + 4) (w5.setCell ⟨w.heap.size + 1 + 1, 3, none⟩ (.slice (some ⟨w.heap.size + 3, 0, none⟩) (k + 1) cap)) h T v := fun {T v} hI =>
    InF.keepB (by rw [sz]; omega) (fun b hb hl => (oth b (by omega)).trans (old b (by omega) hl)) (Nat.le_refl _) hI
  refine ⟨?_, ?_, ?_, ?_, ⟨d, ?_, fun i hi hk => ?_⟩, .inr ⟨cap, hN, rfl⟩⟩
  · refine ((H.below.alloc H.below.size o).grown hg (by simp; have := H.below.size; omega) (fun j e => by cases e; omega)).setCell (p := ⟨w.heap.size + 1 + 1, 3, none⟩) (by show _ ≤ w.heap.size + 1 + 1; omega) _
  · rw [oth _ (by omega), old _ (by omega) (by omega)]; exact H.box
  · rw [oth _ (by omega), old _ (by omega) (by omega)]; exact H.res
  · have h1 := H.out
    rw [← old _ (by omega) (by omega)] at h1
    exact setCell_box _ _ _ _ _ _ _ _ _ h1
  · rw [flat_up, flat_eq hd.1, hd.2]
    refine ⟨hown.1, hown.2.imp id ?_⟩
    rintro ⟨g, cap', cur, e1, e2, e3, rest⟩
    refine ⟨g, cap', cur, e1, e2, ?_, rest⟩
    have : g = w.heap.size + 3 := by simp only [Value.slice.injEq, Option.some.injEq, Addr.mk.injEq] at e1; exact e1.1.1.symm
    rw [oth g (by omega)]; exact e3
  · by_cases hik : i < k
    · rw [hd.1 i hik]; exact keep (hc i hi hik)
    · obtain rfl : i = k := by omega
      rw [hd.2]; exact keep hy
end Go.Proofs.Ytjfbbdhmcljhnaa
