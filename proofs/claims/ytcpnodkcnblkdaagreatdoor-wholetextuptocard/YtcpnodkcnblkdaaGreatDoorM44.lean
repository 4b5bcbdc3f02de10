import Derived.Test.YtcpnodkcnblkdaaGreatDoorM43
import Derived.Test.YtcpnodkcnblkdaaGreatDoorM28
namespace Go.Proofs.YtcpnodkcnblkdaaGreatDoor
open Go.RowKit Go.Shelf
set_option linter.unusedVariables false
set_option linter.unusedSimpArgs false

theorem tlW_len (c : UInt8) (ln1 ln0 : List UInt8) : ∀ es : List (List UInt8), (tlW c ln1 ln0 es).length = ln0.length + 1 + sumL (es.map fun e => 1 + ln1.length + e.length)
  | [] => by simp [tlW, sumL]
  | e :: es => by
    have := tlW_len c ln1 ln0 es
    simp only [tlW, List.length_cons, List.length_append, List.map_cons, sumL, this]
    omega
theorem rwT_len (o c : UInt8) (ln1 ln0 : List UInt8) (es : List (List UInt8)) : (rwT o c ln1 ln0 es).length ≤ ln0.length + 2 + sumL (es.map fun e => 1 + ln1.length + e.length) := by
  cases es with
  | nil => simp [rwT, sumL]
  | cons e es =>
    have := tlW_len c ln1 ln0 es
    simp only [rwT, List.length_cons, List.length_append, List.map_cons, sumL, this]
    omega
theorem sumL_le {α : Type} {f g : α → Nat} : ∀ (l : List α), (∀ t ∈ l, f t ≤ g t) → sumL (l.map f) ≤ sumL (l.map g)
  | [], _ => Nat.le_refl _
  | t :: r, h => by
    have h1 := h t (List.mem_cons_self ..)
    have h2 := sumL_le r (fun x hx => h x (List.mem_cons_of_mem _ hx))
    simp only [List.map_cons, sumL]; omega
theorem sumL_add {α : Type} (f g : α → Nat) : ∀ (l : List α), sumL (l.map fun x => f x + g x) = sumL (l.map f) + sumL (l.map g)
  | [] => rfl
  | t :: r => by have := sumL_add f g r; simp only [List.map_cons, sumL]; omega
theorem sumL_mul {α : Type} (c : Nat) (f : α → Nat) : ∀ (l : List α), sumL (l.map fun x => c * f x) = c * sumL (l.map f)
  | [] => rfl
  | t :: r => by have := sumL_mul c f r; simp only [List.map_cons, sumL, Nat.mul_add]; omega
theorem sum_zip : ∀ (ks : List ByteArray) (ts : List VT) (f : ByteArray → Nat) (g : VT → Nat), ks.length = ts.length → sumL ((ks.zip ts).map fun p => f p.1 + g p.2) = sumL (ks.map f) + sumL (ts.map g)
  | [], [], f, g, _ => rfl
  | [], _ :: _, f, g, h => by cases h
  | _ :: _, [], f, g, h => by cases h
  | k :: ks, t :: ts, f, g, h => by
    have := sum_zip ks ts f g (by simpa using h)
    simp only [List.zip_cons_cons, List.map_cons, sumL]; omega
theorem lnW_len2 {st : Option Nat} (hst : ∀ s, st = some s → s ≤ 8) {d : Nat} (hd : d ≤ 65) : (lnW st d).length ≤ 521 := by
  have := lnW_len st d hst
  omega
theorem wr_len (st : Option Nat) (hst : ∀ s, st = some s → s ≤ 8) : ∀ (H : Nat) (T : VT) (d : Nat), formN H T = true → d + dpN H T ≤ 65 → (wrV st H d T).length + 540 ≤ 6 * blN H T + 1100 * szN H T
  | 0, T, d, hf, _ => by cases hf
  | H + 1, T, d, hf, hd => by
    rcases form_open hf with (rfl | rfl | rfl) | ⟨n, rfl, hn⟩ | ⟨t, rfl, ht⟩ | ⟨i, rfl, hi⟩ | ⟨i, ks, rfl, hl, hr, ho, hi⟩
    · show 4 + 540 ≤ 6 * _ + 1100 * (1 + 0 + 0); omega
    · show 5 + 540 ≤ 6 * _ + 1100 * (1 + 0 + 0); omega
    · show 4 + 540 ≤ 6 * _ + 1100 * (1 + 0 + 0); omega
    · show n.data.toList.length + 540 ≤ 6 * (n.size + 0 + 0 + 0) + 1100 * (1 + 0 + 0)
      rw [size_lst n]; omega
    · have h2 := wQ_len t.data.toList
      rw [size_lst t] at h2
      show (wQ t.data.toList).length + 540 ≤ 6 * (0 + t.size + 0 + 0) + 1100 * (1 + 0 + 0)
      omega
    · have hd1 : d + (1 + mxL (i.map (dpN H))) ≤ 65 := hd
      have hw := wr_arr st H d i
      have h1 := rwT_len 91 93 (lnW st (d + 1)) (lnW st d) (i.map (wrV st H (d + 1)))
      have l1 := lnW_len2 hst (show d + 1 ≤ 65 by omega)
      have l0 := lnW_len2 hst (show d ≤ 65 by omega)
      rw [List.map_map] at h1
      have h2 : sumL (i.map ((fun e => 1 + (lnW st (d + 1)).length + e.length) ∘ wrV st H (d + 1))) ≤ sumL (i.map fun t => 6 * blN H t + 1100 * szN H t) := sumL_le i (fun t ht => by
        have := wr_len st hst H t (d + 1) (hi t ht) (by have := mx_mem (dpN H) i t ht; omega)
        show 1 + (lnW st (d + 1)).length + (wrV st H (d + 1) t).length ≤ _
        omega)
      rw [sumL_add, sumL_mul, sumL_mul] at h2
      rw [hw]
      show _ + 540 ≤ 6 * (0 + 0 + 0 + sumL (i.map (blN H))) + 1100 * (1 + 0 + sumL (i.map (szN H)))
      omega
    · have hd1 : d + (1 + mxL (i.map (dpN H))) ≤ 65 := hd
      have hw : wrV st (H + 1) d (.mk 6 .empty .empty i ks) = rwT 123 125 (lnW st (d + 1)) (lnW st d) ((ks.zip i).map fun p => (wQ p.1.data.toList ++ clW st) ++ wrV st H (d + 1) p.2) := by
        rw [wr_obj st H d i ks hl]
        unfold fldsT
        rw [List.map_map]
        congr 1
        apply List.map_congr_left
        intro p _
        show wL p.1.data.toList ++ (58 :: clB st ++ wrV st H (d + 1) p.2) = _
        rw [clW_eq, wL_wQ]
        simp
      have h1 := rwT_len 123 125 (lnW st (d + 1)) (lnW st d) ((ks.zip i).map fun p => (wQ p.1.data.toList ++ clW st) ++ wrV st H (d + 1) p.2)
      have l1 := lnW_len2 hst (show d + 1 ≤ 65 by omega)
      have l0 := lnW_len2 hst (show d ≤ 65 by omega)
      rw [List.map_map] at h1
      have h2 : sumL ((ks.zip i).map ((fun e => 1 + (lnW st (d + 1)).length + e.length) ∘ fun p => (wQ p.1.data.toList ++ clW st) ++ wrV st H (d + 1) p.2)) ≤ sumL ((ks.zip i).map fun p => 6 * p.1.size + (6 * blN H p.2 + 1100 * szN H p.2)) := sumL_le _ (fun p hp => by
        have hz := List.of_mem_zip (a := p.1) (b := p.2) hp
        have h3 := wr_len st hst H p.2 (d + 1) (hi p.2 hz.2) (by have := mx_mem (dpN H) i p.2 hz.2; omega)
        have h4 := wQ_len p.1.data.toList
        have h5 := clW_len st
        rw [size_lst p.1] at h4
        show 1 + (lnW st (d + 1)).length + ((wQ p.1.data.toList ++ clW st) ++ wrV st H (d + 1) p.2).length ≤ _
        rw [List.length_append, List.length_append]
        omega)
      rw [sum_zip ks i (fun k => 6 * k.size) (fun t => 6 * blN H t + 1100 * szN H t) hl, sumL_mul, sumL_add, sumL_mul, sumL_mul] at h2
      have ek : sumL (ks.map ByteArray.size) = sumL (ks.map fun k => k.size) := rfl
      rw [hw]
      show _ + 540 ≤ 6 * (0 + 0 + sumL (ks.map fun k => k.size) + sumL (i.map (blN H))) + 1100 * (1 + ks.length + sumL (i.map (szN H)))
      omega
end Go.Proofs.YtcpnodkcnblkdaaGreatDoor
