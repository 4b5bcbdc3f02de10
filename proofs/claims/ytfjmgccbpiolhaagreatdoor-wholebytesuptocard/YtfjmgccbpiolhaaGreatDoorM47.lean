import Derived.Test.YtfjmgccbpiolhaaGreatDoorM46
import Derived.Test.YtfjmgccbpiolhaaGreatDoorM32
import Derived.Test.YtfjmgccbpiolhaaGreatDoorM17
import Derived.Test.YtfjmgccbpiolhaaGreatDoorM44
import Derived.Test.YtfjmgccbpiolhaaGreatDoorM22
import Derived.Test.YtfjmgccbpiolhaaGreatDoorM45
namespace Go.Proofs.YtfjmgccbpiolhaaGreatDoor
open Go.RowKit Go.Shelf
set_option linter.unusedVariables false
set_option linter.unusedSimpArgs false

theorem inH_shapeW {W : World} {h : Nat} {T : VT} {v : Value} (hI : InH W h T v) : ∃ (k : Int) (n t : ByteArray) (io : Option Addr) (a ic : Nat) (ko : Option Addr) (b kc : Nat), v = .agg #[.int .i64 k, .string n, .string t, .slice io a ic, .slice ko b kc] := by
  cases h with
  | zero => exact hI.elim
  | succ h =>
    obtain ⟨io, icap, ko, kcap, e, _⟩ := hI
    exact ⟨_, _, _, _, _, _, _, _, _, e⟩
end Go.Proofs.YtfjmgccbpiolhaaGreatDoor
namespace Go.Proofs.YtfjmgccbpiolhaaGreatDoor
open Go.RowKit Go.Shelf
set_option linter.unusedVariables false
set_option linter.unusedSimpArgs false

theorem wr_len0 : ∀ (H : Nat) (T : VT) (d : Nat), formN H T = true → (wrV none H d T).length + 10 ≤ 6 * blN H T + 20 * szN H T
  | 0, T, d, hf => by cases hf
  | H + 1, T, d, hf => by
    rcases form_open hf with (rfl | rfl | rfl) | ⟨n, rfl, hn⟩ | ⟨t, rfl, ht⟩ | ⟨i, rfl, hi⟩ | ⟨i, ks, rfl, hl, hr, ho, hi⟩
    · show 4 + 10 ≤ 6 * _ + 20 * (1 + 0 + 0); omega
    · show 5 + 10 ≤ 6 * _ + 20 * (1 + 0 + 0); omega
    · show 4 + 10 ≤ 6 * _ + 20 * (1 + 0 + 0); omega
    · show n.data.toList.length + 10 ≤ 6 * (n.size + 0 + 0 + 0) + 20 * (1 + 0 + 0)
      rw [size_lst n]; omega
    · have h2 := wQ_len t.data.toList
      rw [size_lst t] at h2
      show (wQ t.data.toList).length + 10 ≤ 6 * (0 + t.size + 0 + 0) + 20 * (1 + 0 + 0)
      omega
    · have hw := wr_arr none H d i
      have h1 := rwT_len 91 93 (lnW none (d + 1)) (lnW none d) (i.map (wrV none H (d + 1)))
      have l1 : (lnW none (d + 1)).length = 0 := rfl
      have l0 : (lnW none d).length = 0 := rfl
      rw [List.map_map] at h1
      have h2 : sumL (i.map ((fun e => 1 + (lnW none (d + 1)).length + e.length) ∘ wrV none H (d + 1))) ≤ sumL (i.map fun t => 6 * blN H t + 20 * szN H t) := sumL_le i (fun t ht => by
        have := wr_len0 H t (d + 1) (hi t ht)
        show 1 + (lnW none (d + 1)).length + (wrV none H (d + 1) t).length ≤ _
        omega)
      rw [sumL_add, sumL_mul, sumL_mul] at h2
      rw [hw]
      show _ + 10 ≤ 6 * (0 + 0 + 0 + sumL (i.map (blN H))) + 20 * (1 + 0 + sumL (i.map (szN H)))
      omega
    · have hw : wrV none (H + 1) d (.mk 6 .empty .empty i ks) = rwT 123 125 (lnW none (d + 1)) (lnW none d) ((ks.zip i).map fun p => (wQ p.1.data.toList ++ clW none) ++ wrV none H (d + 1) p.2) := by
        rw [wr_obj none H d i ks hl]
        unfold fldsT
        rw [List.map_map]
        congr 1
        apply List.map_congr_left
        intro p _
        show wL p.1.data.toList ++ (58 :: clB none ++ wrV none H (d + 1) p.2) = _
        rw [clW_eq, wL_wQ]
        simp
      have h1 := rwT_len 123 125 (lnW none (d + 1)) (lnW none d) ((ks.zip i).map fun p => (wQ p.1.data.toList ++ clW none) ++ wrV none H (d + 1) p.2)
      have l1 : (lnW none (d + 1)).length = 0 := rfl
      have l0 : (lnW none d).length = 0 := rfl
      rw [List.map_map] at h1
      have h2 : sumL ((ks.zip i).map ((fun e => 1 + (lnW none (d + 1)).length + e.length) ∘ fun p => (wQ p.1.data.toList ++ clW none) ++ wrV none H (d + 1) p.2)) ≤ sumL ((ks.zip i).map fun p => 6 * p.1.size + (6 * blN H p.2 + 20 * szN H p.2)) := sumL_le _ (fun p hp => by
        have hz := List.of_mem_zip (a := p.1) (b := p.2) hp
        have h3 := wr_len0 H p.2 (d + 1) (hi p.2 hz.2)
        have h4 := wQ_len p.1.data.toList
        have h5 := clW_len none
        rw [size_lst p.1] at h4
        show 1 + (lnW none (d + 1)).length + ((wQ p.1.data.toList ++ clW none) ++ wrV none H (d + 1) p.2).length ≤ _
        rw [List.length_append, List.length_append]
        omega)
      rw [sum_zip ks i (fun k => 6 * k.size) (fun t => 6 * blN H t + 20 * szN H t) hl, sumL_mul, sumL_add, sumL_mul, sumL_mul] at h2
      have ek : sumL (ks.map ByteArray.size) = sumL (ks.map fun k => k.size) := rfl
      rw [hw]
      show _ + 10 ≤ 6 * (0 + 0 + sumL (ks.map fun k => k.size) + sumL (i.map (blN H))) + 20 * (1 + ks.length + sumL (i.map (szN H)))
      omega

set_option maxRecDepth 100000 in
set_option maxHeartbeats 800000 in
theorem w_rSame (h : Nat) (A : VT) (va vb : Value) (w : World) (ha : InH w h A va) (hb : InH w h A vb) (hf : formN h A = true) : Calls Tryz.prog 19 #[va, vb] w fun e w' => e = .returned (.bool true) ∧ Below w.heap.size w w' := by
  have hc : cmpH h A A = 0 := (cmpH_ord h).rf hf
  obtain ⟨ak, an, at_, aio, aa, aic, ako, ab, akc, rfl⟩ := inH_shapeW ha
  obtain ⟨bk, bn, bt, bio, ba, bic, bko, bb, bkc, rfl⟩ := inH_shapeW hb
  have HC := Hid.mk (fun u (hu : Below w.heap.size w u) => w_rCmp h A A _ _ u (ha.keep hu) (hb.keep hu) hf hf)
  rw [hc] at HC
  clear ha hb hf hc
  obtain ⟨W1, hW1⟩ : ∃ W1, (w.alloc (.cells #[.int .i64 ak, .string an, .string at_, .slice aio aa aic, .slice ako ab akc] 49)).alloc (.cells #[.int .i64 bk, .string bn, .string bt, .slice bio ba bic, .slice bko bb bkc] 49) = W1 := ⟨_, rfl⟩
  have hb1 : Below w.heap.size w W1 := by rw [← hW1]; exact (below1 w _).alloc (by simp) _
  have HB1 := Hid.mk hb1
  have hx0 : W1.heap[w.heap.size]? = some (.cells #[.int .i64 ak, .string an, .string at_, .slice aio aa aic, .slice ako ab akc] 49 (0, 0)) := by rw [← hW1]; exact (Below.heap_alloc _ _ _ (by simp)).trans (heap_alloc_new w _)
  have hx1 : W1.heap[w.heap.size + 1]? = some (.cells #[.int .i64 bk, .string bn, .string bt, .slice bio ba bic, .slice bko bb bkc] 49 (0, 0)) := by
    rw [← hW1]
    have := heap_alloc_new (w.alloc (.cells #[.int .i64 ak, .string an, .string at_, .slice aio aa aic, .slice ako ab akc] 49)) (.cells #[.int .i64 bk, .string bn, .string bt, .slice bio ba bic, .slice bko bb bkc] 49)
    rwa [World.size_alloc] at this
  obtain ⟨x0, x1, x2, x3, x4, _⟩ := vbox_cells hx0
  obtain ⟨y0, y1, y2, y3, y4, _⟩ := vbox_cells hx1
  clear hb1 hx0 hx1
  go_enter Tryz.func19, Tryz.ntmps19
  go_wp2_with fail
  refine (HC.out _ HB1.out).mono ?_
  rintro e w2 ⟨rfl, hb2⟩
  have HB2 : Hid (Below w.heap.size w w2) := HB1.out.trans (hb2.mono HB1.out.size)
  clear hb2 x0 x1 x2 x3 x4 y0 y1 y2 y3 y4 hW1
  go_wp2_with fail
  refine bodyPost_ret (v := .bool true) (by simp [results, Tryz.results19, go_sem]) rfl ?_
  exact ⟨rfl, HB2.out⟩

end Go.Proofs.YtfjmgccbpiolhaaGreatDoor
namespace Go.Proofs.YtfjmgccbpiolhaaGreatDoor
open Go.RowKit Go.Shelf
set_option linter.unusedVariables false
set_option linter.unusedSimpArgs false

theorem enc_small {n : Nat} (h : n < 128) : (enc n).length = 1 := by unfold enc; rw [if_pos h]; rfl
theorem escL_len {l : List UInt8} {k : Nat} (h : (escL l k).2.2 = 0) : k + (enc (escL l k).1).length ≤ (escL l k).2.1 := by
  have h4 := enc_len (escL l k).1
  unfold escL at h h4 ⊢
  cases hs : shortL (l.drop k) with
  | some r =>
    have hr : r < 128 := by
      unfold shortL at hs
      split at hs
      · exact (shN_ok hs).2.1
      · cases hs
    show k + (enc r).length ≤ k + 2
    rw [enc_small hr]
    omega
  | none =>
    rw [hs] at h h4
    dsimp only at h h4 ⊢
    cases hn : numL (l.drop k) with
    | none => rw [hn] at h; cases h
    | some n =>
      rw [hn] at h h4
      dsimp only at h h4 ⊢
      split
      · next hc =>
        rw [if_pos hc] at h4
        show k + (enc n).length ≤ k + 6
        have h5 : (enc n).length ≤ 4 := h4.2
        omega
      · next hc =>
        rw [if_neg hc] at h h4
        cases hm : numL (l.drop (k + 6)) with
        | none => rw [hm] at h; cases h
        | some m =>
          rw [hm] at h h4
          dsimp only at h h4 ⊢
          split
          · next hd =>
            rw [if_pos hd] at h4
            have h5 := h4.2
            show k + (enc _).length ≤ k + 12
            dsimp only at h5
            omega
          · next hd =>
            rw [if_neg hd] at h
            cases h
theorem txt_one (acc : List Nat) (z : Nat) : (txt (acc ++ [z])).length = (txt acc).length + (enc z).length := by
  unfold txt
  rw [List.flatMap_append, List.length_append]
  simp
theorem unq_bytes {l : List UInt8} : ∀ (n p : Nat) (acc : List Nat), l.length - p ≤ n → (unqL l p acc).2.2 = 0 → (txt (unqL l p acc).1).length + p + 1 ≤ (txt acc).length + (unqL l p acc).2.1 := by
  intro n
  induction n with
  | zero =>
    intro p acc hn h
    rw [unqL, dif_neg (by omega)] at h
    cases h
  | succ n ih =>
    intro p acc hn h
    by_cases hp : p < l.length
    · have hne : l.drop p ≠ [] := fun e => by have := congrArg List.length e; rw [List.length_drop] at this; simp at this; omega
      rw [unqL_step acc hp] at h ⊢
      split
      · show (txt acc).length + p + 1 ≤ (txt acc).length + (p + 1); omega
      · next h34 =>
        rw [if_neg h34] at h
        split
        · next h32 => rw [if_pos h32] at h; cases h
        · next h32 =>
          rw [if_neg h32] at h
          split
          · next hs => rw [if_pos hs] at h; cases h
          · next hs =>
            rw [if_neg hs] at h
            split
            · next h92 =>
              rw [if_pos h92] at h
              split
              · next he =>
                rw [if_pos he] at h
                obtain ⟨g1, g2, g3, _⟩ := escL_ok he
                have g5 := escL_len he
                rw [if_pos g1] at h ⊢
                have h6 := ih _ _ (by omega) h
                rw [txt_one] at h6
                omega
              · next he =>
                rw [if_neg he] at h
                exact absurd h he
            · next h92 =>
              rw [if_neg h92] at h
              split
              · next h0 =>
                rw [if_pos h0] at h
                have h6 := ih _ _ (by omega) h
                rw [txt_one] at h6
                rcases stray_or (l.drop p) hne with ⟨z, post, hz, e, _⟩ | ⟨_, h7⟩
                · have hd : decL (l.drop p) = (z, (enc z).length) := by rw [e]; exact dec_enc z hz post
                  rw [hd] at h6
                  rw [hd]
                  dsimp only at h6 ⊢
                  omega
                · exact absurd h7 hs
              · next h0 => exact absurd (decL_pos (l.drop p)) (by omega)
    · rw [unqL, dif_neg hp] at h
      cases h
theorem cut_len2 (l : List UInt8) (a b : Nat) : (cut l a b).length ≤ b - a := by
  unfold cut
  rw [List.length_take]
  omega
theorem numT_len (n : List UInt8) : (numT n).length ≤ n.length := by
  unfold numT
  split
  · next h => rw [h]; decide
  · exact Nat.le_refl _
theorem word_text (l : List UInt8) (p : Nat) : (wordT l p).text = [] := by
  unfold wordT
  repeat' split
  all_goals rfl
theorem nextT_bytes {l : List UInt8} {p : Nat} (hp : p < l.length) (he : (nextT l p).err = 0) : (nextT l p).text.length + p ≤ (nextT l p).fin := by
  have hup := nextT_up hp he
  by_cases c1 : cMk.contains (l.getD p 0) = true
  · have e : (nextT l p).text = [] := by unfold nextT; rw [if_pos c1]
    rw [e]
    show 0 + p ≤ _
    omega
  · by_cases c2 : l.getD p 0 = 34
    · have e : nextT l p = litT l p := by unfold nextT; rw [if_neg c1, if_pos c2]
      rw [e] at he ⊢
      unfold litT at he ⊢
      by_cases h0 : (unqL l (p + 1) []).2.2 = 0
      · rw [if_pos h0]
        have h1 := unq_bytes _ (p + 1) [] (Nat.le_refl _) h0
        have e0 : (txt []).length = 0 := rfl
        show (txt (unqL l (p + 1) []).1).length + p ≤ (unqL l (p + 1) []).2.1
        omega
      · rw [if_neg h0] at he
        exact absurd he h0
    · by_cases c3 : cLe.contains (l.getD p 0) = true
      · have e : nextT l p = wordT l p := by unfold nextT; rw [if_neg c1, if_neg c2, if_pos c3]
        rw [e] at hup ⊢
        rw [word_text]
        show 0 + p ≤ _
        omega
      · by_cases c4 : cDm.contains (l.getD p 0) = true
        · have e : nextT l p = numeralT l p := by unfold nextT; rw [if_neg c1, if_neg c2, if_neg c3, if_pos c4]
          rw [e] at he ⊢
          unfold numeralT at he ⊢
          split
          · have h1 := numT_len (cut l p (behL l p cNm))
            have h2 := cut_len2 l p (behL l p cNm)
            have h3 := (behL_ge cNm (Nat.le_of_lt hp)).1
            show (numT (cut l p (behL l p cNm))).length + p ≤ behL l p cNm
            omega
          · next h0 => rw [if_neg h0] at he; cases he
        · have e : nextT l p = ⟨0, p, 0, [], 40⟩ := by unfold nextT; rw [if_neg c1, if_neg c2, if_neg c3, if_neg c4]
          rw [e] at he
          cases he
theorem must_bytes {l : List UInt8} {p q : Nat} {t : Tok} (hp : p ≤ l.length) (h : mustL l p = .ok t q) : t.text.length + p ≤ q ∧ p < q ∧ q ≤ l.length := by
  have hup := mustL_up hp h
  unfold mustL at h
  split at h
  · next h1 =>
    split at h
    · next h2 =>
      injection h with e1 e2
      have h3 := nextT_bytes h1 h2
      have h4 := behL_ge cBl hp
      rw [e2, e1] at h3
      omega
    · cases h
  · cases h
theorem loop_wt {σ : Type} {l : List UInt8} {cl : Nat} {pt : σ → Tok → Nat → Rd σ} {μ : σ → Nat} (P : ∀ x t p y q p0, p ≤ l.length → p0 < p → t.text.length + p0 ≤ p → pt x t p = .ok y q → p ≤ q ∧ q ≤ l.length ∧ μ y + p0 ≤ μ x + q) : ∀ (n : Nat) (x y : σ) (p q : Nat), p ≤ l.length → loopL l cl pt n x p = .ok y q → p ≤ q ∧ q ≤ l.length ∧ μ y + p ≤ μ x + q := by
  intro n
  induction n with
  | zero => intro x y p q _ h; cases h
  | succ n ih =>
    intro x y p q hp h
    rw [loopL] at h
    cases e1 : mustL l p with
    | bad e2 z => rw [e1] at h; cases h
    | ok t q1 =>
      rw [e1] at h
      dsimp only at h
      obtain ⟨a1, a2, a3⟩ := must_bytes hp e1
      split at h
      · injection h with h1 h2; rw [← h1]; omega
      · split at h
        · cases e2 : mustL l q1 with
          | bad e3 z => rw [e2] at h; cases h
          | ok t2 q2 =>
            rw [e2] at h
            dsimp only at h
            obtain ⟨b1, b2, b3⟩ := must_bytes a3 e2
            cases e3 : pt x t2 q2 with
            | bad e4 z => rw [e3] at h; cases h
            | ok y2 q3 =>
              rw [e3] at h
              obtain ⟨c1, c2, c3⟩ := P x t2 q2 y2 q3 q1 b3 b2 b1 e3
              obtain ⟨d1, d2, d3⟩ := ih y2 y q3 q c2 h
              omega
        · cases h
theorem row_wt {σ : Type} {l : List UInt8} {cl : Nat} {pt : σ → Tok → Nat → Rd σ} {μ : σ → Nat} (P : ∀ x t p y q p0, p ≤ l.length → p0 < p → t.text.length + p0 ≤ p → pt x t p = .ok y q → p ≤ q ∧ q ≤ l.length ∧ μ y + p0 ≤ μ x + q) {x y : σ} {p q : Nat} (hp : p ≤ l.length) (h : rowL l cl pt x p = .ok y q) : p ≤ q ∧ q ≤ l.length ∧ μ y + p ≤ μ x + q := by
  unfold rowL at h
  cases e1 : mustL l p with
  | bad e2 z => rw [e1] at h; cases h
  | ok t q1 =>
    rw [e1] at h
    dsimp only at h
    obtain ⟨a1, a2, a3⟩ := must_bytes hp e1
    split at h
    · injection h with h1 h2; rw [← h1]; omega
    · cases e3 : pt x t q1 with
      | bad e4 z => rw [e3] at h; cases h
      | ok y2 q3 =>
        rw [e3] at h
        obtain ⟨c1, c2, c3⟩ := P x t q1 y2 q3 p a3 a2 a1 e3
        obtain ⟨d1, d2, d3⟩ := loop_wt P _ y2 y q3 q c2 h
        omega
theorem sumL_perm {a b : List Nat} (h : a.Perm b) : sumL a = sumL b := by
  induction h with
  | nil => rfl
  | cons x _ ih => simp only [sumL, ih]
  | swap x y l => simp only [sumL]; omega
  | trans _ _ ih1 ih2 => exact ih1.trans ih2
theorem sumL_ones {α : Type} : ∀ l : List α, sumL (l.map fun _ => 1) = l.length
  | [] => rfl
  | _ :: r => by have := sumL_ones r; simp only [List.map_cons, sumL, List.length_cons]; omega
theorem bT_size (x : List UInt8) : (bT x).size = x.length := by show x.toArray.size = _; simp
theorem val_wt {l : List UInt8} : ∀ (f d : Nat) (t : Tok) (p : Nat) (T : VT) (q p0 : Nat), p ≤ l.length → p0 < p → t.text.length + p0 ≤ p → valL l (obL l) f d t p = .ok T q → p ≤ q ∧ q ≤ l.length ∧ blN (f + 1) T + p0 ≤ q ∧ szN (f + 1) T + p0 ≤ q := by
  have leaf : ∀ (f : Nat) (t : Tok) (p : Nat) (T : VT) (q p0 : Nat), p ≤ l.length → p0 < p → t.text.length + p0 ≤ p → leafL t p = .ok T q → p ≤ q ∧ q ≤ l.length ∧ blN (f + 1) T + p0 ≤ q ∧ szN (f + 1) T + p0 ≤ q := by
    intro f t p T q p0 h1 h2 h3 h
    unfold leafL at h
    have hz : (ByteArray.empty).size = 0 := rfl
    split at h
    · injection h with e1 e2; subst e1 e2; exact ⟨Nat.le_refl _, h1, (by show 0 + 0 + 0 + 0 + p0 ≤ p; omega), (by show 1 + 0 + 0 + p0 ≤ p; omega)⟩
    split at h
    · injection h with e1 e2; subst e1 e2; exact ⟨Nat.le_refl _, h1, (by show 0 + 0 + 0 + 0 + p0 ≤ p; omega), (by show 1 + 0 + 0 + p0 ≤ p; omega)⟩
    split at h
    · injection h with e1 e2; subst e1 e2; exact ⟨Nat.le_refl _, h1, (by show 0 + 0 + 0 + 0 + p0 ≤ p; omega), (by show 1 + 0 + 0 + p0 ≤ p; omega)⟩
    split at h
    · injection h with e1 e2; subst e1 e2; exact ⟨Nat.le_refl _, h1, (by show (bT t.text).size + 0 + 0 + 0 + p0 ≤ p; rw [bT_size]; omega), (by show 1 + 0 + 0 + p0 ≤ p; omega)⟩
    split at h
    · injection h with e1 e2; subst e1 e2; exact ⟨Nat.le_refl _, h1, (by show 0 + (bT t.text).size + 0 + 0 + p0 ≤ p; rw [bT_size]; omega), (by show 1 + 0 + 0 + p0 ≤ p; omega)⟩
    · cases h
  intro f
  induction f with
  | zero =>
    intro d t p T q p0 h1 h2 h3 h
    unfold valL valAt at h
    split at h
    · split at h <;> cases h
    · split at h
      · split at h <;> cases h
      · exact leaf 0 t p T q p0 h1 h2 h3 h
  | succ f ih =>
    intro d t p T q p0 h1 h2 h3 h
    have ihv := ih (d + 1)
    unfold valL valAt at h
    generalize hvl : valL l (obL l) f (d + 1) = vl at ihv h
    split at h
    · split at h
      · unfold arrL at h
        cases hr : rowL l 4 (aPt vl) [] p with
        | bad e2 z => rw [hr] at h; cases h
        | ok xs q3 =>
          rw [hr] at h
          injection h with e1 e2
          subst e1 e2
          have hB := row_wt (μ := fun xs : List VT => sumL (xs.map (blN (f + 1)))) (fun x t p y q p0 g1 g2 g3 hp => by
            unfold aPt at hp
            split at hp
            · next v q2 hv =>
              injection hp with e1 e2
              subst e1 e2
              obtain ⟨k1, k2, k3, k4⟩ := ihv _ _ _ _ p0 g1 g2 g3 hv
              refine ⟨k1, k2, ?_⟩
              show sumL ((x ++ [v]).map _) + p0 ≤ sumL (x.map _) + _
              rw [List.map_append, sumL_append]
              show _ + (blN (f + 1) v + 0) + p0 ≤ _
              omega
            · cases hp) h1 hr
          have hS := row_wt (μ := fun xs : List VT => sumL (xs.map (szN (f + 1)))) (fun x t p y q p0 g1 g2 g3 hp => by
            unfold aPt at hp
            split at hp
            · next v q2 hv =>
              injection hp with e1 e2
              subst e1 e2
              obtain ⟨k1, k2, k3, k4⟩ := ihv _ _ _ _ p0 g1 g2 g3 hv
              refine ⟨k1, k2, ?_⟩
              show sumL ((x ++ [v]).map _) + p0 ≤ sumL (x.map _) + _
              rw [List.map_append, sumL_append]
              show _ + (szN (f + 1) v + 0) + p0 ≤ _
              omega
            · cases hp) h1 hr
          obtain ⟨b1, b2, b3⟩ := hB
          obtain ⟨_, _, s3⟩ := hS
          have b3' : sumL (xs.map (blN (f + 1))) + p ≤ 0 + q3 := b3
          have s3' : sumL (xs.map (szN (f + 1))) + p ≤ 0 + q3 := s3
          exact ⟨b1, b2, (by show 0 + 0 + 0 + sumL (xs.map (blN (f + 1))) + p0 ≤ q3; omega), (by show 1 + 0 + sumL (xs.map (szN (f + 1))) + p0 ≤ q3; omega)⟩
      · cases h
    · split at h
      · split at h
        · unfold obL at h
          cases hr : rowL l 2 (oPt l vl) [] p with
          | bad e2 z => rw [hr] at h; cases h
          | ok fs q3 =>
            rw [hr] at h
            injection h with e1 e2
            subst e1 e2
            have hB := row_wt (μ := fun fs : List (List UInt8 × VT) => sumL (fs.map fun g => (bT g.1).size + blN (f + 1) g.2)) (fun fs t p y q p0 g1 g2 g3 hp => by
              unfold oPt at hp
              split at hp
              · split at hp
                · cases hp
                · split at hp
                  · cases hp
                  · next c p1 hm1 =>
                    obtain ⟨a1, a2, a3⟩ := must_bytes g1 hm1
                    split at hp
                    · split at hp
                      · cases hp
                      · next t2 p2 hm2 =>
                        obtain ⟨b1, b2, b3⟩ := must_bytes a3 hm2
                        split at hp
                        · cases hp
                        · next v p3 hv =>
                          injection hp with e1 e2
                          subst e1 e2
                          obtain ⟨k1, k2, k3, k4⟩ := ihv _ _ _ _ p1 b3 b2 b1 hv
                          refine ⟨by omega, k2, ?_⟩
                          show sumL ((fs ++ [(t.text, v)]).map _) + p0 ≤ sumL (fs.map _) + _
                          rw [List.map_append, sumL_append]
                          show _ + ((bT t.text).size + blN (f + 1) v + 0) + p0 ≤ _
                          rw [bT_size]
                          omega
                    · cases hp
              · cases hp) h1 hr
            have hS := row_wt (μ := fun fs : List (List UInt8 × VT) => sumL (fs.map fun g => 1 + szN (f + 1) g.2)) (fun fs t p y q p0 g1 g2 g3 hp => by
              unfold oPt at hp
              split at hp
              · split at hp
                · cases hp
                · split at hp
                  · cases hp
                  · next c p1 hm1 =>
                    obtain ⟨a1, a2, a3⟩ := must_bytes g1 hm1
                    split at hp
                    · split at hp
                      · cases hp
                      · next t2 p2 hm2 =>
                        obtain ⟨b1, b2, b3⟩ := must_bytes a3 hm2
                        split at hp
                        · cases hp
                        · next v p3 hv =>
                          injection hp with e1 e2
                          subst e1 e2
                          obtain ⟨k1, k2, k3, k4⟩ := ihv _ _ _ _ p1 b3 b2 b1 hv
                          refine ⟨by omega, k2, ?_⟩
                          show sumL ((fs ++ [(t.text, v)]).map _) + p0 ≤ sumL (fs.map _) + _
                          rw [List.map_append, sumL_append]
                          show _ + (1 + szN (f + 1) v + 0) + p0 ≤ _
                          omega
                    · cases hp
              · cases hp) h1 hr
            obtain ⟨b1, b2, b3⟩ := hB
            obtain ⟨_, _, s3⟩ := hS
            have b3' : sumL (fs.map fun g => (bT g.1).size + blN (f + 1) g.2) + p ≤ 0 + q3 := b3
            have s3' : sumL (fs.map fun g => 1 + szN (f + 1) g.2) + p ≤ 0 + q3 := s3
            rw [← sumL_perm ((objS_perm fs).map _)] at b3' s3'
            rw [sumL_add] at b3' s3'
            rw [sumL_ones] at s3'
            have eB : blN (f + 1 + 1) (objT fs) = 0 + 0 + sumL ((objS fs).map fun g => (bT g.1).size) + sumL ((objS fs).map fun g => blN (f + 1) g.2) := by
              show 0 + 0 + sumL (((objS fs).map fun f => bT f.1).map fun k => k.size) + sumL (((objS fs).map (·.2)).map (blN (f + 1))) = _
              rw [List.map_map, List.map_map]
              rfl
            have eS : szN (f + 1 + 1) (objT fs) = 1 + (objS fs).length + sumL ((objS fs).map fun g => szN (f + 1) g.2) := by
              show 1 + ((objS fs).map fun f => bT f.1).length + sumL (((objS fs).map (·.2)).map (szN (f + 1))) = _
              rw [List.map_map, List.length_map]
              rfl
            refine ⟨b1, b2, ?_, ?_⟩
            · rw [eB]; omega
            · rw [eS]; omega
        · cases h
      · exact leaf (f + 1) t p T q p0 h1 h2 h3 h
theorem onl_wt {s : ByteArray} {T : VT} {q : Nat} (h : onlL s.data.toList (vL s) 0 = .ok T q) : blN 65 T ≤ s.size ∧ szN 65 T ≤ s.size ∧ Rt (4 * s.size) 64 T := by
  have hl : s.data.toList.length = s.size := size_lst s
  unfold onlL at h
  split at h
  · cases h
  · next t p1 hm =>
    obtain ⟨a1, a2, a3⟩ := must_bytes (Nat.zero_le _) hm
    split at h
    · cases h
    · next T2 q2 hv =>
      have e : T2 = T := by
        unfold endL at h
        split at h
        · split at h <;> cases h
        · injection h
      subst e
      obtain ⟨_, b2, b3, b4⟩ := val_wt 64 1 t p1 T2 q2 0 a3 a2 a1 hv
      have h5 := val_rt 64 1 t p1 T2 q2 (must_tokOk hm) hv
      rw [hl] at h5
      have b3' : blN 65 T2 + 0 ≤ q2 := b3
      have b4' : szN 65 T2 + 0 ≤ q2 := b4
      exact ⟨by omega, by omega, h5⟩
theorem numR_form {l : List UInt8} (h : NumR l) : Pl.formed l = true := by
  have h1 := h.tok
  unfold numeralT at h1
  split at h1
  · next hf =>
    injection h1 with a1 a2 a3 a4 a5
    rw [a4] at hf
    exact hf
  · injection h1 with a1
    cases a1
theorem risK_get : ∀ (ks : List ByteArray), RisK ks → ∀ (i : Nat) (hi : i + 1 < ks.length), ks[i].data.toList < ks[i + 1].data.toList
  | [], _, i, hi => absurd hi (by simp)
  | [_], _, i, hi => absurd hi (by simp)
  | a :: b :: r, h, 0, hi => h.1
  | a :: b :: r, h, i + 1, hi => risK_get (b :: r) h.2 i (by simpa using hi)
theorem rK_risK {ks : List ByteArray} (h : RisK ks) : rK ks ks.length = true := by
  unfold rK
  rw [List.all_eq_true]
  intro i hi
  have hi' := List.mem_range.1 hi
  cases i with
  | zero => rfl
  | succ i =>
    have h1 := risK_get ks h i hi'
    have h2 : rA ks (i + 1) = true := by
      unfold rA
      rw [bytesLess_is, decide_eq_true_eq, Lib.toList_data, Lib.toList_data, Nat.add_sub_cancel]
      rw [List.getD_eq_getElem?_getD, List.getD_eq_getElem?_getD, List.getElem?_eq_getElem hi', List.getElem?_eq_getElem (by omega)]
      exact h1
    rw [h2]
    simp
theorem bare00 : bareB .empty .empty 0 0 = true := by unfold bareB; rw [emp_e]; rfl
theorem mx_all (f : VT → Nat) (m : Nat) : ∀ l : List VT, (∀ x ∈ l, f x ≤ m) → mxL (l.map f) ≤ m
  | [], _ => Nat.zero_le _
  | a :: r, h => by
    have h1 := h a List.mem_cons_self
    have h2 := mx_all f m r (fun x hx => h x (List.mem_cons_of_mem _ hx))
    simp only [List.map_cons, mxL]
    omega
theorem rt_form {M : Nat} : ∀ (k : Nat) (T : VT), Rt M k T → formN (k + 1) T = true ∧ dpN (k + 1) T ≤ k := by
  have leaf : ∀ (k : Nat) (T : VT), LeafR M T → formN (k + 1) T = true ∧ dpN (k + 1) T ≤ k := by
    intro k T h
    obtain ⟨kd, n, t, i, ks⟩ := T
    obtain ⟨h1, h2, h3⟩ := h
    have e1 : i = [] := h1
    have e2 : ks = [] := h2
    subst e1 e2
    rcases h3 with ⟨a1, a2, a3, a4⟩ | ⟨a1, a2, a3, a4⟩ | ⟨a1, a2, a3, a4⟩
    · have b1 : 0 ≤ kd := a1
      have b2 : kd ≤ 2 := a2
      have b3 : n = .empty := a3
      have b4 : t = .empty := a4
      subst b3 b4
      have hc : kd = 0 ∨ kd = 1 ∨ kd = 2 := by omega
      refine ⟨?_, ?_⟩
      · show formV kd .empty .empty 0 0 _ _ = true
        unfold formV
        rw [if_pos hc]
        exact bare00
      · show (if kd = 5 ∨ kd = 6 then _ else 0) ≤ k
        rw [if_neg (by omega)]
        omega
    · have b1 : kd = 3 := a1
      have b4 : t = .empty := a4
      subst b1 b4
      refine ⟨?_, ?_⟩
      · show (Pl.formed n.data.toList && bareB .empty .empty 0 0) = true
        rw [show Pl.formed n.data.toList = true from numR_form a2, bare00]
        rfl
      · show (if (3 : Int) = 5 ∨ (3 : Int) = 6 then _ else 0) ≤ k
        rw [if_neg (by omega)]
        omega
    · have b1 : kd = 4 := a1
      have b2 : n = .empty := a2
      subst b1 b2
      refine ⟨?_, ?_⟩
      · show (okB t.data.toList && bareB .empty .empty 0 0) = true
        rw [show okB t.data.toList = true from a3, bare00]
        rfl
      · show (if (4 : Int) = 5 ∨ (4 : Int) = 6 then _ else 0) ≤ k
        rw [if_neg (by omega)]
        omega
  intro k
  induction k with
  | zero => intro T h; exact leaf 0 T h
  | succ k ih =>
    intro T h
    rcases h with h | ⟨h1, h2, h3, h4⟩
    · exact leaf (k + 1) T h
    · obtain ⟨kd, n, t, i, ks⟩ := T
      have b1 : n = .empty := h1
      have b2 : t = .empty := h2
      have b3 : ∀ x ∈ i, Rt M k x := h3
      subst b1 b2
      have hA : i.all (formN (k + 1)) = true := List.all_eq_true.2 fun x hx => (ih x (b3 x hx)).1
      have hD := mx_all (dpN (k + 1)) k i (fun x hx => (ih x (b3 x hx)).2)
      rcases h4 with ⟨c1, c2⟩ | ⟨c1, c2, c3, c4⟩
      · have d1 : kd = 5 := c1
        have d2 : ks = [] := c2
        subst d1 d2
        refine ⟨?_, ?_⟩
        · show (i.all (formN (k + 1)) && bareB .empty .empty 0 0) = true
          rw [hA, bare00]
          rfl
        · show 1 + mxL (i.map (dpN (k + 1))) ≤ k + 1
          omega
      · have d1 : kd = 6 := c1
        have d2 : ks.length = i.length := c2
        have d3 : ∀ x ∈ ks, okB x.data.toList = true ∧ x.size ≤ M := c3
        subst d1
        refine ⟨?_, ?_⟩
        · have ho : oK ks ks.length = true := by
            unfold oK
            rw [List.all_eq_true]
            intro j hj
            have hj' := List.mem_range.1 hj
            rw [List.getD_eq_getElem?_getD, List.getElem?_eq_getElem hj']
            exact (d3 _ (List.getElem_mem hj')).1
          show (decide (ks.length = i.length) && (rK ks ks.length && oK ks ks.length) && i.all (formN (k + 1)) && bareB .empty .empty 0 0) = true
          rw [decide_eq_true d2, show rK ks ks.length = true from rK_risK c4, ho, hA, bare00]
          rfl
        · show 1 + mxL (i.map (dpN (k + 1))) ≤ k + 1
          omega
theorem bl_sh : ∀ (h : Nat) (T : VT), blN h T ≤ 1048576 → ShV h T
  | 0, _, _ => trivial
  | h + 1, T, hb => by
    have hb' : T.num.size + T.text.size + sumL (T.keys.map fun k => k.size) + sumL (T.items.map (blN h)) ≤ 1048576 := hb
    refine ⟨by omega, by omega, fun k hk => ?_, fun t ht => bl_sh h t ?_⟩
    · have := sumL_mem (List.mem_map.2 ⟨k, hk, rfl⟩ : k.size ∈ T.keys.map fun k => k.size)
      omega
    · have := sumL_mem (List.mem_map.2 ⟨t, ht, rfl⟩ : blN h t ∈ T.items.map (blN h))
      omega
theorem each_one {s : ByteArray} (zs : s.size ≤ 1073741824) {T : VT} {q : Nat} (h : onlL s.data.toList (vL s) 0 = .ok T q) : eachL s.data.toList (vL s) (s.size + 1) [] 0 = ([T], 0, 0) := by
  have hl : s.data.toList.length = s.size := size_lst s
  have hon : onlL s.data.toList (vL s) 0 = match rdL s.data.toList (vL s) 0 with
      | .bad e q => .bad e q
      | .ok T q => endL s.data.toList T q := by
    unfold onlL rdL
    cases mustL s.data.toList 0 with
    | bad e q => rfl
    | ok t p => rfl
  rw [hon] at h
  cases e1 : rdL s.data.toList (vL s) 0 with
  | bad e w => rw [e1] at h; cases h
  | ok T2 q2 =>
    rw [e1] at h
    dsimp only at h
    have hu := rd_up2 zs (Nat.zero_le _) e1
    have h1 : behL s.data.toList 0 cBl < s.data.toList.length := by
      refine Decidable.byContradiction fun hc => ?_
      unfold rdL mustL at e1
      rw [if_neg hc] at e1
      cases e1
    obtain ⟨n, hn⟩ : ∃ n, s.size = n + 1 := ⟨s.size - 1, by omega⟩
    unfold endL at h
    split at h
    · split at h <;> cases h
    · next h2 =>
      injection h with e2 e3
      subst e2
      unfold eachL
      rw [fol_rd, if_pos h1, e1]
      dsimp only
      rw [hn]
      unfold eachL
      rw [fol_rd, if_neg h2]
      rfl
theorem each_wr {h : Nat} {T : VT} (hf : formN h T = true) (hs : ShV h T) (hd : dpN h T ≤ 64) {b : ByteArray} (zb : b.size ≤ 1073741824) (e : b.data.toList = wrV none h 0 T ++ [10]) : eachL b.data.toList (vL b) (b.size + 1) [] 0 = ([T], 0, 0) := by
  have hl : b.data.toList.length = b.size := size_lst b
  have hr := wr_read none 1048576 64 T (form_rt h T 64 hf hs hd) h 0 64 1 b.data.toList hf (Nat.le_refl _) rfl
  obtain ⟨t, p1, m, _, _, hv⟩ := hr [] [10] (by rw [List.nil_append]; exact e) (fun c r h => by injection h with h1 h2; subst h1; exact ⟨by decide, by decide⟩)
  have m' : mustL b.data.toList 0 = .ok t p1 := m
  have hv' : vL b t p1 = .ok T (wrV none h 0 T).length := by
    have h6 : vL b t p1 = .ok T (([] : List UInt8).length + (wrV none h 0 T).length) := hv
    rw [h6]
    simp
  have e1 : rdL b.data.toList (vL b) 0 = .ok T (wrV none h 0 T).length := by
    unfold rdL
    rw [m']
    exact hv'
  have h1 : behL b.data.toList 0 cBl < b.data.toList.length := by
    refine Decidable.byContradiction fun hc => ?_
    unfold mustL at m'
    rw [if_neg hc] at m'
    cases m'
  have h2 : ¬ behL b.data.toList (wrV none h 0 T).length cBl < b.data.toList.length := by
    unfold behL
    rw [e, List.drop_left]
    have : ([10] : List UInt8).dropWhile (cBl.contains ·) = [] := by decide
    rw [this]
    simp
  have h3 : b.size = (wrV none h 0 T).length + 1 := by rw [← hl, e, List.length_append]; rfl
  unfold eachL
  rw [fol_rd, if_pos h1, e1]
  dsimp only
  rw [h3]
  unfold eachL
  rw [fol_rd, if_neg h2]
  rfl
end Go.Proofs.YtfjmgccbpiolhaaGreatDoor
