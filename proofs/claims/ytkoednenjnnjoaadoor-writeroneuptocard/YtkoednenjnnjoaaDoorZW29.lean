import Derived.Test.YtkoednenjnnjoaaDoorZW28
import Derived.Test.YtkoednenjnnjoaaDoorZO6
namespace Go.Proofs.YtkoednenjnnjoaaDoor
open Go.RowKit
set_option linter.unusedVariables false
set_option linter.unusedSimpArgs false

/-- the first byte of a value's text -/
def headK (k : Int) (b : UInt8) : Prop := (k = 0 ∧ b = 110) ∨ (k = 1 ∧ b = 102) ∨ (k = 2 ∧ b = 116) ∨ (k = 3 ∧ (b.toNat = 45 ∨ (48 ≤ b.toNat ∧ b.toNat ≤ 57))) ∨ (k = 4 ∧ b = 34) ∨ (k = 5 ∧ b = 91) ∨ (k = 6 ∧ b = 123)
theorem headK_inj {k k' : Int} {b : UInt8} (h : headK k b) (h' : headK k' b) : k = k' := by
  unfold headK at h h'
  rcases h with ⟨rfl, rfl⟩ | ⟨rfl, rfl⟩ | ⟨rfl, rfl⟩ | ⟨rfl, hb⟩ | ⟨rfl, rfl⟩ | ⟨rfl, rfl⟩ | ⟨rfl, rfl⟩ <;>
    rcases h' with ⟨rfl, e⟩ | ⟨rfl, e⟩ | ⟨rfl, e⟩ | ⟨rfl, e⟩ | ⟨rfl, e⟩ | ⟨rfl, e⟩ | ⟨rfl, e⟩ <;> first | rfl | (exfalso; revert e; decide) | (exfalso; subst e; revert hb; decide)
theorem wrV_head (st : Option Nat) (h d : Nat) (T : VT) (hf : formN (h + 1) T = true) : ∃ b t, wrV st (h + 1) d T = b :: t ∧ headK T.kind b := by
  unfold headK
  by_cases k0 : T.kind = 0
  · exact ⟨110, [117, 108, 108], by unfold wrV; rw [if_pos k0], by simp [k0]⟩
  by_cases k1 : T.kind = 1
  · exact ⟨102, [97, 108, 115, 101], by unfold wrV; rw [if_neg k0, if_pos k1], by simp [k1]⟩
  by_cases k2 : T.kind = 2
  · exact ⟨116, [114, 117, 101], by unfold wrV; rw [if_neg k0, if_neg k1, if_pos k2], by simp [k2]⟩
  by_cases k3 : T.kind = 3
  · obtain ⟨c, t, e, hc, _⟩ := num_shape (form_num hf k3)
    exact ⟨c, t, by unfold wrV; rw [if_neg k0, if_neg k1, if_neg k2, if_pos k3, e], .inr (.inr (.inr (.inl ⟨k3, hc⟩)))⟩
  by_cases k4 : T.kind = 4
  · exact ⟨34, _, by unfold wrV; rw [if_neg k0, if_neg k1, if_neg k2, if_neg k3, if_pos k4]; rfl, by simp [k4]⟩
  have hk56 : T.kind = 5 ∨ T.kind = 6 := by rcases form_kind hf with h1 | h1 <;> omega
  have hr : ∀ (o c : UInt8) (ln1 ln0 : List UInt8) (nm it : Nat → List UInt8) (N : Nat), ∃ t, rowW o c ln1 ln0 nm it N = o :: t := by
    intro o c ln1 ln0 nm it N
    unfold rowW
    split
    · exact ⟨_, rfl⟩
    · obtain ⟨t, e⟩ := joinR_front (pcW o ln1 nm it) N (by omega)
      rw [e]
      exact ⟨_, by simp only [pcW, sepW, if_true, List.cons_append, List.append_assoc, List.nil_append]; rfl⟩
  rcases hk56 with k5 | k6
  · obtain ⟨t, e⟩ := hr 91 93 (lnW st (d + 1)) (lnW st d) (nmV T st) (fun i => (T.items[i]?.map (wrV st h (d + 1))).getD []) T.items.length
    exact ⟨91, t, by unfold wrV; rw [if_neg k0, if_neg k1, if_neg k2, if_neg k3, if_neg k4, if_neg (by omega), if_neg (by omega)]; exact e, by simp [k5]⟩
  · obtain ⟨t, e⟩ := hr 123 125 (lnW st (d + 1)) (lnW st d) (nmV T st) (fun i => (T.items[i]?.map (wrV st h (d + 1))).getD []) T.items.length
    exact ⟨123, t, by unfold wrV; rw [if_neg k0, if_neg k1, if_neg k2, if_neg k3, if_neg k4, if_pos k6, if_pos k6]; exact e, by simp [k6]⟩
theorem size0 {a b : ByteArray} (ha : a.size = 0) (hb : b.size = 0) : a = b := by
  obtain ⟨x⟩ := a
  obtain ⟨y⟩ := b
  have hx : x = #[] := Array.eq_empty_of_size_eq_zero ha
  have hy : y = #[] := Array.eq_empty_of_size_eq_zero hb
  rw [hx, hy]
theorem byte_ext {a b : ByteArray} (h : a.data.toList = b.data.toList) : a = b := by
  obtain ⟨⟨x⟩⟩ := a
  obtain ⟨⟨y⟩⟩ := b
  simp at h
  rw [h]
theorem keys_ext {a b : List ByteArray} (hl : a.length = b.length) (h : ∀ i, i < a.length → a.getD i .empty = b.getD i .empty) : a = b := by
  refine List.ext_getElem hl (fun i h1 h2 => ?_)
  have := h i h1
  simpa [List.getD, h1, h2] using this
theorem lnW_shape (st : Option Nat) (d : Nat) : lnW st d = [] ∨ ∃ t, lnW st d = 10 :: t := by
  unfold lnW
  split
  · exact .inl rfl
  · exact .inr ⟨_, rfl⟩
/-- one text for one value -/
theorem inj_wrV (st : Option Nat) : ∀ (h d : Nat) (A B : VT) (r1 r2 : List UInt8), formN h A = true → formN h B = true → delim r1 → delim r2 → wrV st h d A ++ r1 = wrV st h d B ++ r2 → A = B ∧ r1 = r2
  | 0, _, _, _, _, _, hf, _, _, _, _ => by cases hf
  | h + 1, d, A, B, r1, r2, hA, hB, hr1, hr2, he => by
    obtain ⟨b, t, e1, hk1⟩ := wrV_head st h d A hA
    obtain ⟨b', t', e2, hk2⟩ := wrV_head st h d B hB
    have hbb : b = b' := by
      rw [e1, e2] at he
      simp only [List.cons_append, List.cons.injEq] at he
      exact he.1
    subst hbb
    have hkk := headK_inj hk1 hk2
    clear e1 e2 hk1 hk2
    obtain ⟨ea1, ea2, ea3, ea4⟩ := form_empty hA
    obtain ⟨eb1, eb2, eb3, eb4⟩ := form_empty hB
    have flat : A.kind ≠ 5 → A.kind ≠ 6 → A.items = B.items ∧ A.keys = B.keys := by
      intro h5 h6
      have fa := form_flat hA h5 h6
      have fb := form_flat hB (by rw [← hkk]; exact h5) (by rw [← hkk]; exact h6)
      exact ⟨by rw [List.eq_nil_of_length_eq_zero fa.1, List.eq_nil_of_length_eq_zero fb.1], by rw [List.eq_nil_of_length_eq_zero fa.2, List.eq_nil_of_length_eq_zero fb.2]⟩
    unfold wrV at he
    rw [← hkk] at he
    by_cases k0 : A.kind = 0
    · rw [if_pos k0, if_pos k0] at he
      have f := flat (by omega) (by omega)
      exact ⟨VT.ext' hkk (size0 (ea1 (by omega)) (eb1 (by omega))) (size0 (ea2 (by omega)) (eb2 (by omega))) f.1 f.2, List.append_cancel_left he⟩
    by_cases k1 : A.kind = 1
    · rw [if_neg k0, if_neg k0, if_pos k1, if_pos k1] at he
      have f := flat (by omega) (by omega)
      exact ⟨VT.ext' hkk (size0 (ea1 (by omega)) (eb1 (by omega))) (size0 (ea2 (by omega)) (eb2 (by omega))) f.1 f.2, List.append_cancel_left he⟩
    by_cases k2 : A.kind = 2
    · rw [if_neg k0, if_neg k0, if_neg k1, if_neg k1, if_pos k2, if_pos k2] at he
      have f := flat (by omega) (by omega)
      exact ⟨VT.ext' hkk (size0 (ea1 (by omega)) (eb1 (by omega))) (size0 (ea2 (by omega)) (eb2 (by omega))) f.1 f.2, List.append_cancel_left he⟩
    by_cases k3 : A.kind = 3
    · rw [if_neg k0, if_neg k0, if_neg k1, if_neg k1, if_neg k2, if_neg k2, if_pos k3, if_pos k3] at he
      have f := flat (by omega) (by omega)
      obtain ⟨e1, e2⟩ := num_inj (form_num hA k3) (form_num hB (by omega)) hr1 hr2 he
      exact ⟨VT.ext' hkk (byte_ext e1) (size0 (ea2 (by omega)) (eb2 (by omega))) f.1 f.2, e2⟩
    by_cases k4 : A.kind = 4
    · rw [if_neg k0, if_neg k0, if_neg k1, if_neg k1, if_neg k2, if_neg k2, if_neg k3, if_neg k3, if_pos k4, if_pos k4] at he
      have f := flat (by omega) (by omega)
      obtain ⟨e1, e2⟩ := wQ_inj (form_textB hA k4) (form_textB hB (by omega)) he
      exact ⟨VT.ext' hkk (size0 (ea1 (by omega)) (eb1 (by omega))) (byte_ext e1) f.1 f.2, e2⟩
    rw [if_neg k0, if_neg k0, if_neg k1, if_neg k1, if_neg k2, if_neg k2, if_neg k3, if_neg k3, if_neg k4, if_neg k4] at he
    have hk56 : A.kind = 5 ∨ A.kind = 6 := by rcases form_kind hA with h1 | h1 <;> omega
    have hk56' : B.kind = 5 ∨ B.kind = 6 := by omega
    have hitA : ∀ i, (hi : i < A.items.length) → (A.items[i]?.map (wrV st h (d + 1))).getD [] = wrV st h (d + 1) A.items[i] := fun i hi => by rw [List.getElem?_eq_getElem hi]; rfl
    have hitB : ∀ i, (hi : i < B.items.length) → (B.items[i]?.map (wrV st h (d + 1))).getD [] = wrV st h (d + 1) B.items[i] := fun i hi => by rw [List.getElem?_eq_getElem hi]; rfl
    have hb1 : ∀ b : UInt8, headK 5 b ∨ headK 6 b ∨ headK 0 b ∨ headK 1 b ∨ headK 2 b ∨ headK 3 b ∨ headK 4 b → b ≠ 93 := by
      rintro b hb rfl
      unfold headK at hb
      simp at hb
    have hne : ∀ (T : VT) (hf : formN (h + 1) T = true) (hk : T.kind = 5 ∨ T.kind = 6) (x : List UInt8), 0 < T.items.length → ∃ b t, lnW st (d + 1) ++ (nmV T st 0 ++ ((T.items[0]?.map (wrV st h (d + 1))).getD [] ++ x)) = b :: t ∧ b ≠ (if T.kind = 6 then 125 else 93) := by
      intro T hf hk x hN
      rcases lnW_shape st (d + 1) with e | ⟨tl, e⟩
      · rw [e, List.nil_append]
        rcases hk with h5 | h6
        · have hn : nmV T st 0 = [] := by unfold nmV; rw [if_neg (by omega)]
          rw [hn, List.nil_append, List.getElem?_eq_getElem hN, if_neg (by omega)]
          cases h with
          | zero => have := form_items hf (.inl h5) 0 hN; cases this
          | succ h' =>
            obtain ⟨b, t, e2, hk2⟩ := wrV_head st h' (d + 1) T.items[0] (form_items hf (.inl h5) 0 hN)
            refine ⟨b, t ++ x, by show wrV st (h' + 1) (d + 1) T.items[0] ++ x = _; rw [e2]; rfl, ?_⟩
            rintro rfl
            unfold headK at hk2
            simp at hk2
        · have hn : nmV T st 0 = wQ (T.keys.getD 0 .empty).data.toList ++ clW st := by unfold nmV; rw [if_pos h6]
          rw [hn, if_pos h6]
          exact ⟨34, _, by unfold wQ; simp only [List.cons_append]; rfl, by decide⟩
      · rw [e]
        refine ⟨10, _, rfl, ?_⟩
        split <;> decide
    have hcd : ∀ c : UInt8, c = (if A.kind = 6 then 125 else 93) → ¬ (48 ≤ c.toNat ∧ c.toNat ≤ 57) ∧ c ≠ 44 := by
      intro c e
      subst e
      split <;> decide
    have hB6 : (if A.kind = 6 then (125 : UInt8) else 93) = (if B.kind = 6 then 125 else 93) := by rw [hkk]
    obtain ⟨eN, eQ, er⟩ := row_inj _ _ (lnW st (d + 1)) (lnW st d) (nmV A st) _ (nmV B st) _ A.items.length B.items.length r1 r2 (fun i => A.items[i]? = B.items[i]? ∧ (A.kind = 6 → A.keys.getD i .empty = B.keys.getD i .empty)) (hcd _ rfl).1 (hcd _ rfl).2 (lnW_shape st d) (by
      intro i x y hi hi' hx hy e
      rw [hitA i hi, hitB i hi'] at e
      rw [hitA i hi, hitB i hi', List.getElem?_eq_getElem hi, List.getElem?_eq_getElem hi']
      rcases hk56 with h5 | h6
      · have n1 : nmV A st i = [] := by unfold nmV; rw [if_neg (by omega)]
        have n2 : nmV B st i = [] := by unfold nmV; rw [if_neg (by omega)]
        rw [n1, n2, List.nil_append, List.nil_append] at e
        obtain ⟨e1, e2⟩ := inj_wrV st h (d + 1) A.items[i] B.items[i] x y (form_items hA (.inl h5) i hi) (form_items hB (.inl (by omega)) i hi') hx hy e
        exact ⟨by rw [n1, n2], by rw [e1], ⟨by rw [e1], fun e6 => by omega⟩, e2⟩
      · have n1 : nmV A st i = wQ (A.keys.getD i .empty).data.toList ++ clW st := by unfold nmV; rw [if_pos h6]
        have n2 : nmV B st i = wQ (B.keys.getD i .empty).data.toList ++ clW st := by unfold nmV; rw [if_pos (by omega)]
        rw [n1, n2, List.append_assoc, List.append_assoc] at e
        have hkA := ea4 h6
        have hkB := eb4 (by omega)
        obtain ⟨q1, q2⟩ := wQ_inj (form_keysB hA h6 i (by omega)) (form_keysB hB (by omega) i (by omega)) e
        have q3 := List.append_cancel_left q2
        obtain ⟨e1, e2⟩ := inj_wrV st h (d + 1) A.items[i] B.items[i] x y (form_items hA (.inr h6) i hi) (form_items hB (.inr (by omega)) i hi') hx hy q3
        exact ⟨by rw [n1, n2, q1], by rw [e1], ⟨by rw [e1], fun _ => byte_ext q1⟩, e2⟩) (hne A hA hk56) (by rw [hB6]; exact hne B hB hk56') he
    have hit : A.items = B.items := by
      refine List.ext_getElem? (fun i => ?_)
      by_cases hi : i < A.items.length
      · exact (eQ i hi).1
      · rw [List.getElem?_eq_none (by omega), List.getElem?_eq_none (by omega)]
    have hkeys : A.keys = B.keys := by
      by_cases h6 : A.kind = 6
      · have hkA := ea4 h6
        have hkB := eb4 (by omega)
        exact keys_ext (by omega) (fun i hi => (eQ i (by omega)).2 h6)
      · have hkA := ea3 h6
        have hkB := eb3 (by omega)
        rw [List.eq_nil_of_length_eq_zero hkA, List.eq_nil_of_length_eq_zero hkB]
    exact ⟨VT.ext' hkk (size0 (ea1 (by omega)) (eb1 (by omega))) (size0 (ea2 (by omega)) (eb2 (by omega))) hit hkeys, er⟩
theorem text_iff (st : Option Nat) (h : Nat) (A B : VT) (hA : formN h A = true) (hB : formN h B = true) (X Y : ByteArray) (hX : X = ⟨(wrV st h 0 A).toArray⟩) (hY : Y = ⟨(wrV st h 0 B).toArray⟩) : (X.toList == Y.toList) = likeD A B := by
  by_cases e : A = B
  · subst e
    rw [hX, hY, likeD_iff.2 rfl]; simp
  · rw [likeD_no e, beq_eq_false_iff_ne]
    intro he
    rw [Lib.toList_data, Lib.toList_data, hX, hY] at he
    have he2 : wrV st h 0 A ++ [] = wrV st h 0 B ++ [] := by simpa using he
    exact e (inj_wrV st h 0 A B [] [] hA hB delim_nil delim_nil he2).1
end Go.Proofs.YtkoednenjnnjoaaDoor
