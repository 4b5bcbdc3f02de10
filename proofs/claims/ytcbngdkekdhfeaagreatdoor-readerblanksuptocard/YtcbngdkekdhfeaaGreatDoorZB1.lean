import Derived.Test.YtcbngdkekdhfeaaGreatDoorZJ2
import Derived.Test.YtcbngdkekdhfeaaGreatDoorZD18
namespace Go.Proofs.YtcbngdkekdhfeaaGreatDoor
open Go.RowKit Go.Shelf
set_option linter.unusedVariables false
set_option linter.unusedSimpArgs false

inductive Wd : List UInt8 → List UInt8 → Prop
  | fin {l1 l2 : List UInt8} : ¬ behL l1 0 cBl < l1.length → ¬ behL l2 0 cBl < l2.length → Wd l1 l2
  | tok {l1 l2 : List UInt8} : behL l1 0 cBl < l1.length → behL l2 0 cBl < l2.length → (nextT l1 (behL l1 0 cBl)).err = 0 → (nextT l2 (behL l2 0 cBl)).err = 0 → (nextT l2 (behL l2 0 cBl)).kind = (nextT l1 (behL l1 0 cBl)).kind → (nextT l2 (behL l2 0 cBl)).text = (nextT l1 (behL l1 0 cBl)).text → Wd (l1.drop (nextT l1 (behL l1 0 cBl)).fin) (l2.drop (nextT l2 (behL l2 0 cBl)).fin) → Wd l1 l2
theorem behL_at {l : List UInt8} {p : Nat} {cs : List UInt8} (hp : p ≤ l.length) : behL l p cs = p + behL (l.drop p) 0 cs := by
  have e := behL_pre (x := l.take p) (b := l.drop p) (p := 0) (cs := cs) (Nat.zero_le _)
  rw [List.take_append_drop, List.length_take, Nat.min_eq_left hp, Nat.add_zero] at e
  exact e
theorem nextT_shift {l : List UInt8} {p q : Nat} (hp : p ≤ l.length) (hq : q < (l.drop p).length) : nextT l (p + q) = shiftT p (nextT (l.drop p) q) := by
  have e := nextT_pre (x := l.take p) (b := l.drop p) (p := q) hq
  rw [List.take_append_drop, List.length_take, Nat.min_eq_left hp] at e
  exact e
def WdQ (l1 l2 : List UInt8) (p1 p2 : Nat) : Prop := p1 ≤ l1.length ∧ p2 ≤ l2.length ∧ Wd (l1.drop p1) (l2.drop p2)
theorem WdQ.end_ {l1 l2 : List UInt8} {p1 p2 : Nat} (h : WdQ l1 l2 p1 p2) : (behL l2 p2 cBl < l2.length) ↔ behL l1 p1 cBl < l1.length := by
  obtain ⟨h1, h2, hW⟩ := h
  have a1 := behL_at (cs := cBl) h1
  have a2 := behL_at (cs := cBl) h2
  have d1 : (l1.drop p1).length = l1.length - p1 := List.length_drop
  have d2 : (l2.drop p2).length = l2.length - p2 := List.length_drop
  cases hW with
  | fin g1 g2 => omega
  | tok g1 g2 k1 k2 hk ht hr => omega
theorem wd_next {l1 l2 : List UInt8} {p1 p2 : Nat} (h : WdQ l1 l2 p1 p2) (hl : behL l1 p1 cBl < l1.length) : (nextT l1 (behL l1 p1 cBl)).err = 0 ∧ (nextT l2 (behL l2 p2 cBl)).err = 0 ∧ (nextT l2 (behL l2 p2 cBl)).kind = (nextT l1 (behL l1 p1 cBl)).kind ∧ (nextT l2 (behL l2 p2 cBl)).text = (nextT l1 (behL l1 p1 cBl)).text ∧ WdQ l1 l2 (nextT l1 (behL l1 p1 cBl)).fin (nextT l2 (behL l2 p2 cBl)).fin := by
  obtain ⟨h1, h2, hW⟩ := h
  have a1 := behL_at (cs := cBl) h1
  have a2 := behL_at (cs := cBl) h2
  have d1 : (l1.drop p1).length = l1.length - p1 := List.length_drop
  have d2 : (l2.drop p2).length = l2.length - p2 := List.length_drop
  cases hW with
  | fin g1 g2 => omega
  | tok g1 g2 k1 k2 hk ht hr =>
    have n1 := nextT_shift h1 g1
    have n2 := nextT_shift h2 g2
    rw [← a1] at n1
    rw [← a2] at n2
    have u1 := nextT_up g1 k1
    have u2 := nextT_up g2 k2
    rw [n1, n2]
    unfold shiftT
    rw [if_pos k1, if_pos k2]
    refine ⟨rfl, rfl, hk, ht, ?_, ?_, ?_⟩
    · show p1 + _ ≤ _; omega
    · show p2 + _ ≤ _; omega
    · show Wd (l1.drop (p1 + _)) (l2.drop (p2 + _))
      rw [← List.drop_drop, ← List.drop_drop]; exact hr
theorem sim_wd (l1 l2 : List UInt8) : Sim True l1 l2 (WdQ l1 l2) (fun _ _ => True) := by
  refine ⟨fun p1 p2 h => ⟨h.1, h.2.1⟩, ?_⟩
  intro p1 p2 h
  by_cases hl : behL l1 p1 cBl < l1.length
  · obtain ⟨x1, x2, hk, ht, hq⟩ := wd_next h hl
    have e1 : mustL l1 p1 = .ok (nextT l1 (behL l1 p1 cBl)) (nextT l1 (behL l1 p1 cBl)).fin := by unfold mustL; rw [if_pos hl, if_pos x1]
    have e2 : mustL l2 p2 = .ok (nextT l2 (behL l2 p2 cBl)) (nextT l2 (behL l2 p2 cBl)).fin := by unfold mustL; rw [if_pos (h.end_.2 hl), if_pos x2]
    rw [e1, e2]
    exact ⟨_, _, rfl, ⟨hk, ht, fun _ => trivial⟩, hq⟩
  · have e1 : mustL l1 p1 = .bad 50 l1.length := by unfold mustL; rw [if_neg hl]
    have e2 : mustL l2 p2 = .bad 50 l2.length := by unfold mustL; rw [if_neg (fun g => hl (h.end_.1 g))]
    rw [e1, e2]
    exact fun _ => ⟨_, rfl, trivial⟩
theorem behL_blanks {b l : List UInt8} (hb : ∀ c ∈ b, cBl.contains c = true) : behL (b ++ l) 0 cBl = b.length + behL l 0 cBl := by
  have h := dropWhile_le (cBl.contains ·) l
  unfold behL
  rw [List.drop_zero, List.drop_zero, dropw_all (cBl.contains ·) b l hb, List.length_append]
  omega
theorem Wd.ahead {b1 b2 l1 l2 : List UInt8} (h1 : ∀ c ∈ b1, cBl.contains c = true) (h2 : ∀ c ∈ b2, cBl.contains c = true) (h : Wd l1 l2) : Wd (b1 ++ l1) (b2 ++ l2) := by
  have a1 := behL_blanks (l := l1) h1
  have a2 := behL_blanks (l := l2) h2
  cases h with
  | fin g1 g2 => exact .fin (by rw [a1, List.length_append]; omega) (by rw [a2, List.length_append]; omega)
  | tok g1 g2 k1 k2 hk ht hr =>
    have n1 := nextT_pre (x := b1) g1
    have n2 := nextT_pre (x := b2) g2
    rw [← a1] at n1
    rw [← a2] at n2
    unfold shiftT at n1 n2
    rw [if_pos k1] at n1
    rw [if_pos k2] at n2
    refine .tok (by rw [a1, List.length_append]; omega) (by rw [a2, List.length_append]; omega) (by rw [n1]) (by rw [n2]) (by rw [n1, n2]; exact hk) (by rw [n1, n2]; exact ht) ?_
    rw [n1, n2]
    show Wd ((b1 ++ l1).drop (b1.length + _)) ((b2 ++ l2).drop (b2.length + _))
    rw [← List.drop_drop, ← List.drop_drop, List.drop_left, List.drop_left]
    exact hr
theorem bl_four {c : UInt8} (hc : cBl.contains c = true) : c = 32 ∨ c = 9 ∨ c = 10 ∨ c = 13 := by
  simp [cBl] at hc
  exact hc
theorem bl_not {c : UInt8} (hc : cBl.contains c = true) : cWd.contains c = false ∧ cNm.contains c = false := by
  rcases bl_four hc with rfl | rfl | rfl | rfl <;> exact ⟨by decide +kernel, by decide +kernel⟩
theorem nextT_appc {a b : List UInt8} {c : UInt8} {p : Nat} (hc : cBl.contains c = true) (hp : p < a.length) (h : (nextT a p).err = 0) : nextT (a ++ c :: b) p = nextT a p := by
  have w1 : wordT (a ++ c :: b) p = wordT a p := by
    have hb := behL_app (a := a) (b := b) (c := c) (p := p) (cs := cWd) (by omega) (bl_not hc).1
    have hl := (behL_ge (l := a) (p := p) cWd (by omega)).2
    unfold wordT
    rw [hb, cut_app hl]
  have w2 : numeralT (a ++ c :: b) p = numeralT a p := by
    have hb := behL_app (a := a) (b := b) (c := c) (p := p) (cs := cNm) (by omega) (bl_not hc).2
    have hl := (behL_ge (l := a) (p := p) cNm (by omega)).2
    unfold numeralT
    rw [hb, cut_app hl]
  unfold nextT at h ⊢
  rw [getD_app hp, w1, w2]
  split
  · rfl
  · next h1 =>
    rw [if_neg h1] at h
    split
    · next h2 =>
      rw [if_pos h2] at h
      exact litT_app _ h
    · rfl
theorem behL_appc {a b : List UInt8} (h : behL a 0 cBl < a.length) : behL (a ++ b) 0 cBl = behL a 0 cBl := by
  unfold behL at h ⊢
  rw [List.drop_zero] at h ⊢
  have hne : a.dropWhile (cBl.contains ·) ≠ [] := by intro e; rw [e] at h; simp at h
  rw [List.drop_zero, List.dropWhile_append, if_neg (by simpa using hne)]
  have h2 := dropWhile_le (cBl.contains ·) a
  rw [List.length_append, List.length_append]
  omega
theorem all_blank {a : List UInt8} (h : ¬ behL a 0 cBl < a.length) : ∀ c ∈ a, cBl.contains c = true := by
  unfold behL at h
  rw [List.drop_zero] at h
  have h0 : (a.dropWhile (cBl.contains ·)).length = 0 := by
    have := dropWhile_le (cBl.contains ·) a
    cases a with
    | nil => rfl
    | cons x a => simp only [List.length_cons] at h this ⊢; omega
  have h1 := List.eq_nil_of_length_eq_zero h0
  have gen : ∀ a : List UInt8, a.dropWhile (cBl.contains ·) = [] → ∀ c ∈ a, cBl.contains c = true := by
    intro a
    induction a with
    | nil => intro _ c hc; cases hc
    | cons x a ih =>
      intro h c hc
      rw [List.dropWhile_cons] at h
      by_cases hx : cBl.contains x = true
      · rw [if_pos hx] at h
        rcases List.mem_cons.1 hc with rfl | hc
        · exact hx
        · exact ih h c hc
      · rw [if_neg hx] at h; cases h
  exact gen a h1
inductive Wh (x : List UInt8) : Nat → Prop
  | fin {k : Nat} : k ≤ x.length → ¬ behL x k cBl < x.length → Wh x k
  | tok {k : Nat} : k ≤ x.length → behL x k cBl < x.length → (nextT x (behL x k cBl)).err = 0 → Wh x (nextT x (behL x k cBl)).fin → Wh x k
theorem Wh.wd {x : List UInt8} {k : Nat} (h : Wh x k) {b : List UInt8} (hb : ∀ c ∈ b, cBl.contains c = true) {R1 R2 : List UInt8} (hR : Wd R1 R2) : Wd (x.drop k ++ 32 :: R1) (x.drop k ++ (b ++ 10 :: R2)) := by
  obtain ⟨c, r, hc, hcr⟩ : ∃ c r, cBl.contains c = true ∧ b ++ 10 :: R2 = c :: r := by
    cases b with
    | nil => exact ⟨10, R2, by decide, rfl⟩
    | cons c b => exact ⟨c, b ++ 10 :: R2, hb c (by simp), rfl⟩
  induction h with
  | fin hk hf =>
    rename_i k
    have a1 := behL_at (cs := cBl) hk
    have d1 : (x.drop k).length = x.length - k := List.length_drop
    have all := all_blank (a := x.drop k) (by omega)
    have := hR.ahead (b1 := x.drop k ++ [32]) (b2 := x.drop k ++ (b ++ [10])) (by
      intro c hc
      rcases List.mem_append.1 hc with h | h
      · exact all c h
      · rw [List.mem_singleton.1 h]; decide) (by
      intro c hc
      rcases List.mem_append.1 hc with h | h
      · exact all c h
      · rcases List.mem_append.1 h with h | h
        · exact hb c h
        · rw [List.mem_singleton.1 h]; decide)
    simpa using this
  | tok hk hlt he hr ih =>
    rename_i k
    have a1 := behL_at (cs := cBl) hk
    have d1 : (x.drop k).length = x.length - k := List.length_drop
    have g1 : behL (x.drop k) 0 cBl < (x.drop k).length := by omega
    have n1 := nextT_shift hk g1
    rw [← a1] at n1
    have k1 : (nextT (x.drop k) (behL (x.drop k) 0 cBl)).err = 0 := by rw [n1, shiftT_err] at he; exact he
    have u1 := nextT_up g1 k1
    have f1 : (nextT x (behL x k cBl)).fin = k + (nextT (x.drop k) (behL (x.drop k) 0 cBl)).fin := by rw [n1]; unfold shiftT; rw [if_pos k1]
    rw [f1, ← List.drop_drop] at ih
    rw [hcr] at ih ⊢
    generalize x.drop k = a at *
    have e1 := behL_appc (b := 32 :: R1) g1
    have e2 := behL_appc (b := c :: r) g1
    have m1 := nextT_appc (b := R1) (c := 32) (by decide) g1 k1
    have m2 := nextT_appc (b := r) hc g1 k1
    have t1 : nextT (a ++ 32 :: R1) (behL (a ++ 32 :: R1) 0 cBl) = nextT a (behL a 0 cBl) := by rw [e1, m1]
    have t2 : nextT (a ++ c :: r) (behL (a ++ c :: r) 0 cBl) = nextT a (behL a 0 cBl) := by rw [e2, m2]
    refine .tok (by rw [e1, List.length_append]; omega) (by rw [e2, List.length_append]; omega) (by rw [t1]; exact k1) (by rw [t2]; exact k1) (by rw [t1, t2]) (by rw [t1, t2]) ?_
    rw [t1, t2, List.drop_append_of_le_length u1.2, List.drop_append_of_le_length u1.2]
    exact ih
def plainT : List (List UInt8 × List UInt8) → List UInt8
  | [] => []
  | p :: ps => p.1 ++ 32 :: plainT ps
def wideT : List (List UInt8 × List UInt8) → List UInt8
  | [] => []
  | p :: ps => 32 :: (p.2 ++ (p.1 ++ (p.2 ++ 10 :: wideT ps)))
theorem wd_texts : ∀ ps : List (List UInt8 × List UInt8), (∀ p ∈ ps, Wh p.1 0 ∧ ∀ c ∈ p.2, cBl.contains c = true) → Wd (plainT ps) (wideT ps)
  | [], _ => .fin (by show ¬ _ < 0; omega) (by show ¬ _ < 0; omega)
  | p :: ps, h => by
    have ih := wd_texts ps (fun q hq => h q (List.mem_cons_of_mem _ hq))
    obtain ⟨h1, h2⟩ := h p (by simp)
    have hw := h1.wd h2 ih
    rw [List.drop_zero] at hw
    have := hw.ahead (b1 := []) (b2 := 32 :: p.2) (fun c hc => by cases hc) (by
      intro c hc
      rcases List.mem_cons.1 hc with rfl | h
      · decide
      · exact h2 c h)
    simpa [plainT, wideT] using this
theorem only_rd (l : List UInt8) (vl : Tok → Nat → Rd VT) (p : Nat) : onlL l vl p = (match rdL l vl p with
    | .bad e q => .bad e q
    | .ok T q => endL l T q) := by
  unfold onlL rdL
  cases mustL l p with
  | bad e q => rfl
  | ok t q => rfl
theorem only_wd {s1 s2 : ByteArray} (z1 : s1.size ≤ 16777216) (z2 : s2.size ≤ 16777216) (h : Wd s1.data.toList s2.data.toList) : RR True (fun _ _ => True) (fun _ _ => True) (onlL s1.data.toList (vL s1) 0) (onlL s2.data.toList (vL s2) 0) := by
  have hq : WdQ s1.data.toList s2.data.toList 0 0 := ⟨Nat.zero_le _, Nat.zero_le _, by rw [List.drop_zero, List.drop_zero]; exact h⟩
  have hr := rd_sim z1 z2 (sim_wd s1.data.toList s2.data.toList) 0 0 hq
  rw [only_rd, only_rd]
  cases e1 : rdL s1.data.toList (vL s1) 0 with
  | bad e x =>
    rw [e1] at hr
    obtain ⟨y, h4, _⟩ := hr trivial
    rw [h4]
    exact fun _ => ⟨_, rfl, trivial⟩
  | ok T q =>
    rw [e1] at hr
    obtain ⟨q2, h4, hQ⟩ := hr
    rw [h4]
    dsimp only
    unfold endL
    by_cases hl : behL s1.data.toList q cBl < s1.data.toList.length
    · obtain ⟨x1, x2, _⟩ := wd_next hQ hl
      rw [if_pos hl, if_pos x1, if_pos (hQ.end_.2 hl), if_pos x2]
      exact fun _ => ⟨_, rfl, trivial⟩
    · rw [if_neg hl, if_neg (fun g => hl (hQ.end_.1 g))]
      exact ⟨_, rfl, trivial⟩
theorem each_wd {s1 s2 : ByteArray} (z1 : s1.size ≤ 16777216) (z2 : s2.size ≤ 16777216) : ∀ (n m : Nat) (xs : List VT) (p1 p2 : Nat), WdQ s1.data.toList s2.data.toList p1 p2 → s1.size - p1 < n → s2.size - p2 < m → (eachL s2.data.toList (vL s2) m xs p2).1 = (eachL s1.data.toList (vL s1) n xs p1).1 ∧ (eachL s2.data.toList (vL s2) m xs p2).2.1 = (eachL s1.data.toList (vL s1) n xs p1).2.1 := by
  have l1 : s1.data.toList.length = s1.size := size_lst s1
  have l2 : s2.data.toList.length = s2.size := size_lst s2
  intro n
  induction n with
  | zero => intro m xs p1 p2 _ h; omega
  | succ n ih =>
    intro m xs p1 p2 hq h1 h2
    obtain ⟨m, rfl⟩ : ∃ k, m = k + 1 := ⟨m - 1, by omega⟩
    unfold eachL
    rw [fol_rd, fol_rd]
    have hr := rd_sim z1 z2 (sim_wd s1.data.toList s2.data.toList) p1 p2 hq
    by_cases h3 : behL s1.data.toList p1 cBl < s1.data.toList.length
    · rw [if_pos h3, if_pos (hq.end_.2 h3)]
      cases e1 : rdL s1.data.toList (vL s1) p1 with
      | bad e z =>
        rw [e1] at hr
        obtain ⟨y, h4, h5⟩ := hr trivial
        rw [h4]
        exact ⟨rfl, rfl⟩
      | ok T q =>
        rw [e1] at hr
        obtain ⟨q2, h4, hQ⟩ := hr
        rw [h4]
        dsimp only
        have hu := rd_up2 z1 (by have := hq.1; omega) e1
        have hu2 := rd_up2 z2 (by have := hq.2.1; omega) h4
        exact ih m (xs ++ [T]) q q2 hQ (by omega) (by omega)
    · rw [if_neg h3, if_neg (fun h => h3 (hq.end_.1 h))]
      exact ⟨rfl, rfl⟩
theorem many_wd {s1 s2 : ByteArray} (z1 : s1.size ≤ 16777216) (z2 : s2.size ≤ 16777216) (h : Wd s1.data.toList s2.data.toList) : (eachL s2.data.toList (vL s2) (s2.size + 1) [] 0).1 = (eachL s1.data.toList (vL s1) (s1.size + 1) [] 0).1 ∧ (eachL s2.data.toList (vL s2) (s2.size + 1) [] 0).2.1 = (eachL s1.data.toList (vL s1) (s1.size + 1) [] 0).2.1 :=
  each_wd z1 z2 _ _ [] 0 0 ⟨Nat.zero_le _, Nat.zero_le _, by rw [List.drop_zero, List.drop_zero]; exact h⟩ (by omega) (by omega)
end Go.Proofs.YtcbngdkekdhfeaaGreatDoor
