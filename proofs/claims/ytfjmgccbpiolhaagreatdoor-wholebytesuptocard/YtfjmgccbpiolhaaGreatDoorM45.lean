import Derived.Test.YtfjmgccbpiolhaaGreatDoorM44
import Derived.Test.YtfjmgccbpiolhaaGreatDoorM17
import Derived.Test.YtfjmgccbpiolhaaGreatDoorM35
namespace Go.Proofs.YtfjmgccbpiolhaaGreatDoor
open Go.RowKit Go.Shelf
set_option linter.unusedVariables false
set_option linter.unusedSimpArgs false

theorem bytesLess_is : ∀ a b : List UInt8, Op.bytesLess a b = decide (a < b)
  | [], [] => by simp [Op.bytesLess]
  | [], _ :: _ => by simp [Op.bytesLess]
  | _ :: _, [] => by simp [Op.bytesLess]
  | c :: r, d :: t => by
    have hbl : Op.bytesLess (c :: r) (d :: t) = (decide (c < d) || (c == d && Op.bytesLess r t)) := rfl
    rw [hbl, bytesLess_is r t]
    by_cases h1 : c < d
    · simp [List.cons_lt_cons_iff, h1]
    · by_cases h2 : c = d
      · subst h2
        simp [List.cons_lt_cons_iff, h1]
      · simp [List.cons_lt_cons_iff, h1, h2]
theorem risK_adj : ∀ ks : List ByteArray, (∀ i, (hi : i + 1 < ks.length) → ks[i].data.toList < ks[i + 1].data.toList) → RisK ks
  | [], _ => trivial
  | [_], _ => trivial
  | a :: b :: r, h => ⟨h 0 (by simp), risK_adj (b :: r) (fun i hi => h (i + 1) (by simpa using hi))⟩
theorem risK_rK {ks : List ByteArray} (h : rK ks ks.length = true) : RisK ks := by
  refine risK_adj ks (fun i hi => ?_)
  unfold rK at h
  rw [List.all_eq_true] at h
  have h1 := h (i + 1) (List.mem_range.2 hi)
  have h2 : rA ks (i + 1) = true := by simpa using h1
  unfold rA at h2
  rw [bytesLess_is, decide_eq_true_eq, Lib.toList_data, Lib.toList_data, Nat.add_sub_cancel] at h2
  rw [List.getD_eq_getElem?_getD, List.getD_eq_getElem?_getD, List.getElem?_eq_getElem hi, List.getElem?_eq_getElem (by omega)] at h2
  exact h2
theorem mx_mem (f : VT → Nat) : ∀ (l : List VT) (x : VT), x ∈ l → f x ≤ mxL (l.map f)
  | a :: r, x, hx => by
    rw [List.map_cons]
    unfold mxL
    rcases List.mem_cons.1 hx with rfl | hx
    · omega
    · have := mx_mem f r x hx; omega
theorem Rt.leaf {M : Nat} {T : VT} (h : LeafR M T) : ∀ k, Rt M k T
  | 0 => h
  | k + 1 => .inl h
theorem form_rt : ∀ (h : Nat) (T : VT) (k : Nat), formN h T = true → ShV h T → dpN h T ≤ k → Rt 1048576 k T
  | 0, T, k, hf, _, _ => by cases hf
  | h + 1, T, k, hf, hs, hd => by
    rcases form_open hf with (rfl | rfl | rfl) | ⟨n, rfl, hn⟩ | ⟨t, rfl, ht⟩ | ⟨i, rfl, hi⟩ | ⟨i, ks, rfl, hl, hr, ho, hi⟩
    · exact Rt.leaf ⟨rfl, rfl, .inl ⟨by show (0 : Int) ≤ 0; omega, by show (0 : Int) ≤ 2; omega, rfl, rfl⟩⟩ k
    · exact Rt.leaf ⟨rfl, rfl, .inl ⟨by show (0 : Int) ≤ 1; omega, by show (1 : Int) ≤ 2; omega, rfl, rfl⟩⟩ k
    · exact Rt.leaf ⟨rfl, rfl, .inl ⟨by show (0 : Int) ≤ 2; omega, by show (2 : Int) ≤ 2; omega, rfl, rfl⟩⟩ k
    · exact Rt.leaf (T := .mk 3 n .empty [] []) ⟨rfl, rfl, .inr (.inl ⟨rfl, numR_of hn, hs.1, rfl⟩)⟩ k
    · exact Rt.leaf (T := .mk 4 .empty t [] []) ⟨rfl, rfl, .inr (.inr ⟨rfl, rfl, ht, hs.2.1⟩)⟩ k
    · have hd' : 1 + mxL (i.map (dpN h)) ≤ k := by
        have : dpN (h + 1) (.mk 5 .empty .empty i []) = 1 + mxL (i.map (dpN h)) := rfl
        omega
      obtain ⟨k, rfl⟩ : ∃ m, k = m + 1 := ⟨k - 1, by omega⟩
      refine .inr ⟨rfl, rfl, fun x hx => ?_, .inl ⟨rfl, rfl⟩⟩
      have := mx_mem (dpN h) i x hx
      exact form_rt h x k (hi x hx) (hs.2.2.2 x hx) (by omega)
    · have hd' : 1 + mxL (i.map (dpN h)) ≤ k := by
        have : dpN (h + 1) (.mk 6 .empty .empty i ks) = 1 + mxL (i.map (dpN h)) := rfl
        omega
      obtain ⟨k, rfl⟩ : ∃ m, k = m + 1 := ⟨k - 1, by omega⟩
      refine .inr ⟨rfl, rfl, fun x hx => ?_, .inr ⟨rfl, hl, fun y hy => ⟨?_, hs.2.2.1 y hy⟩, risK_rK hr⟩⟩
      · have := mx_mem (dpN h) i x hx
        exact form_rt h x k (hi x hx) (hs.2.2.2 x hx) (by omega)
      · unfold oK at ho
        rw [List.all_eq_true] at ho
        have hy' : y ∈ ks := hy
        obtain ⟨j, hj, rfl⟩ := List.getElem_of_mem hy'
        have := ho j (List.mem_range.2 hj)
        rw [List.getD_eq_getElem?_getD, List.getElem?_eq_getElem hj] at this
        exact this
theorem one_wr {st : Option Nat} {h : Nat} {T : VT} (hf : formN h T = true) (hs : ShV h T) (hd : dpN h T ≤ 64) {s : ByteArray} (e : s.data.toList = wrV st h 0 T) : ∃ q, onlL s.data.toList (vL s) 0 = .ok T q := by
  have hr := wr_read st 1048576 64 T (form_rt h T 64 hf hs hd) h 0 64 1 s.data.toList hf (Nat.le_refl _) rfl
  obtain ⟨t, p1, m, _, _, hv⟩ := hr [] [] (by rw [List.nil_append, List.append_nil]; exact e) (fun c r h => by cases h)
  have m' : mustL s.data.toList 0 = .ok t p1 := m
  have hv' : vL s t p1 = .ok T (([] : List UInt8).length + (wrV st h 0 T).length) := hv
  unfold onlL
  rw [m']
  dsimp only
  rw [hv']
  dsimp only
  unfold endL
  have hb : ¬ behL s.data.toList (([] : List UInt8).length + (wrV st h 0 T).length) cBl < s.data.toList.length := by
    have hl : s.data.toList.length = (wrV st h 0 T).length := by rw [e]
    have h := (behL_ge (l := s.data.toList) (p := ([] : List UInt8).length + (wrV st h 0 T).length) cBl (by rw [hl]; simp)).1
    rw [hl]
    simp at h ⊢
    omega
  rw [if_neg hb]
  exact ⟨_, rfl⟩
end Go.Proofs.YtfjmgccbpiolhaaGreatDoor
namespace Go.Proofs.YtfjmgccbpiolhaaGreatDoor
open Go.RowKit Go.Shelf
set_option linter.unusedVariables false
set_option linter.unusedSimpArgs false

def rdL (l : List UInt8) (vl : Tok → Nat → Rd VT) (p : Nat) : Rd VT := match mustL l p with
  | .bad e q => .bad e q
  | .ok t p1 => vl t p1
end Go.Proofs.YtfjmgccbpiolhaaGreatDoor
namespace Go.Proofs.YtfjmgccbpiolhaaGreatDoor
open Go.RowKit Go.Shelf
set_option linter.unusedVariables false
set_option linter.unusedSimpArgs false

def RR {α : Type} (st : Prop) (Q E : Nat → Nat → Prop) (r1 r2 : Rd α) : Prop := match r1 with
  | .ok a q1 => ∃ q2, r2 = .ok a q2 ∧ Q q1 q2
  | .bad e x => st → ∃ y, r2 = .bad e y ∧ E x y
structure TK (st : Prop) (E : Nat → Nat → Prop) (t1 t2 : Tok) : Prop where
  kind : t2.kind = t1.kind
  text : t2.text = t1.text
  at_ : st → E t1.at_ t2.at_
def TR (st : Prop) (Q E : Nat → Nat → Prop) (r1 r2 : Rd Tok) : Prop := match r1 with
  | .ok t q1 => ∃ t2 q2, r2 = .ok t2 q2 ∧ TK st E t t2 ∧ Q q1 q2
  | .bad e x => st → ∃ y, r2 = .bad e y ∧ E x y
structure Sim (st : Prop) (l1 l2 : List UInt8) (Q E : Nat → Nat → Prop) : Prop where
  le : ∀ p1 p2, Q p1 p2 → p1 ≤ l1.length ∧ p2 ≤ l2.length
  mu : ∀ p1 p2, Q p1 p2 → TR st Q E (mustL l1 p1) (mustL l2 p2)
def PtRJ {σ : Type} (st : Prop) (Q E : Nat → Nat → Prop) (f1 f2 : σ → Tok → Nat → Rd σ) : Prop := ∀ x t1 t2 p1 p2, TK st E t1 t2 → Q p1 p2 → RR st Q E (f1 x t1 p1) (f2 x t2 p2)
def VlS (st : Prop) (Q E : Nat → Nat → Prop) (f1 f2 : Tok → Nat → Rd VT) : Prop := ∀ t1 t2 p1 p2, TK st E t1 t2 → Q p1 p2 → RR st Q E (f1 t1 p1) (f2 t2 p2)
theorem loop_sim {σ : Type} {st : Prop} {l1 l2 : List UInt8} {Q E : Nat → Nat → Prop} {cl : Nat} {f1 f2 : σ → Tok → Nat → Rd σ} (S : Sim st l1 l2 Q E) (up1 : ∀ x t p y q, p ≤ l1.length → f1 x t p = .ok y q → p ≤ q ∧ q ≤ l1.length) (up2 : ∀ x t p y q, p ≤ l2.length → f2 x t p = .ok y q → p ≤ q ∧ q ≤ l2.length) (P : PtRJ st Q E f1 f2) :
    ∀ (n m : Nat) (x : σ) (p1 p2 : Nat), Q p1 p2 → l1.length - p1 < n → l2.length - p2 < m → RR st Q E (loopL l1 cl f1 n x p1) (loopL l2 cl f2 m x p2) := by
  intro n
  induction n with
  | zero => intro m x p1 p2 _ h; omega
  | succ n ih =>
    intro m x p1 p2 hQ h1 h2
    obtain ⟨m, rfl⟩ : ∃ k, m = k + 1 := ⟨m - 1, by omega⟩
    obtain ⟨b1, b2⟩ := S.le _ _ hQ
    have hm := S.mu _ _ hQ
    rw [loopL, loopL]
    cases e1 : mustL l1 p1 with
    | bad e x =>
      rw [e1] at hm
      intro hs
      obtain ⟨y, h3, h4⟩ := hm hs
      rw [h3]
      exact ⟨y, rfl, h4⟩
    | ok t q1 =>
      rw [e1] at hm
      obtain ⟨t2, q2, h3, hT, hQ2⟩ := hm
      obtain ⟨u1, u2⟩ := mustL_up b1 e1
      obtain ⟨v1, v2⟩ := mustL_up b2 h3
      rw [h3]
      dsimp only
      rw [hT.kind]
      by_cases hc : t.kind = cl
      · rw [if_pos hc, if_pos hc]
        exact ⟨q2, rfl, hQ2⟩
      · rw [if_neg hc, if_neg hc]
        by_cases h6 : t.kind = 6
        · rw [if_pos h6, if_pos h6]
          have hm2 := S.mu _ _ hQ2
          cases e2 : mustL l1 q1 with
          | bad e x =>
            rw [e2] at hm2
            intro hs
            obtain ⟨y, h5, h6⟩ := hm2 hs
            rw [h5]
            exact ⟨y, rfl, h6⟩
          | ok t' q3 =>
            rw [e2] at hm2
            obtain ⟨t4, q4, h5, hT2, hQ4⟩ := hm2
            obtain ⟨u3, u4⟩ := mustL_up u2 e2
            obtain ⟨v3, v4⟩ := mustL_up v2 h5
            rw [h5]
            dsimp only
            have hp := P x t' t4 q3 q4 hT2 hQ4
            cases e3 : f1 x t' q3 with
            | bad e z =>
              rw [e3] at hp
              intro hs
              obtain ⟨y, h7, h8⟩ := hp hs
              rw [h7]
              exact ⟨y, rfl, h8⟩
            | ok y q5 =>
              rw [e3] at hp
              obtain ⟨q6, h7, hQ6⟩ := hp
              rw [h7]
              dsimp only
              obtain ⟨u5, u6⟩ := up1 _ _ _ _ _ u4 e3
              obtain ⟨v5, v6⟩ := up2 _ _ _ _ _ v4 h7
              exact ih m y q5 q6 hQ6 (by omega) (by omega)
        · rw [if_neg h6, if_neg h6]
          exact fun hs => ⟨_, rfl, hT.at_ hs⟩
theorem row_sim {σ : Type} {st : Prop} {l1 l2 : List UInt8} {Q E : Nat → Nat → Prop} {cl : Nat} {f1 f2 : σ → Tok → Nat → Rd σ} (S : Sim st l1 l2 Q E) (up1 : ∀ x t p y q, p ≤ l1.length → f1 x t p = .ok y q → p ≤ q ∧ q ≤ l1.length) (up2 : ∀ x t p y q, p ≤ l2.length → f2 x t p = .ok y q → p ≤ q ∧ q ≤ l2.length) (P : PtRJ st Q E f1 f2) (x : σ) (p1 p2 : Nat) (hQ : Q p1 p2) : RR st Q E (rowL l1 cl f1 x p1) (rowL l2 cl f2 x p2) := by
  have hm := S.mu _ _ hQ
  obtain ⟨b1, b2⟩ := S.le _ _ hQ
  unfold rowL
  cases e1 : mustL l1 p1 with
  | bad e x =>
    rw [e1] at hm
    intro hs
    obtain ⟨y, h3, h4⟩ := hm hs
    rw [h3]
    exact ⟨y, rfl, h4⟩
  | ok t q1 =>
    rw [e1] at hm
    obtain ⟨t2, q2, h3, hT, hQ2⟩ := hm
    obtain ⟨u1, u2⟩ := mustL_up b1 e1
    obtain ⟨v1, v2⟩ := mustL_up b2 h3
    rw [h3]
    dsimp only
    rw [hT.kind]
    by_cases hc : t.kind = cl
    · rw [if_pos hc, if_pos hc]
      exact ⟨q2, rfl, hQ2⟩
    · rw [if_neg hc, if_neg hc]
      have hp := P x t t2 q1 q2 hT hQ2
      cases e3 : f1 x t q1 with
      | bad e z =>
        rw [e3] at hp
        intro hs
        obtain ⟨y, h7, h8⟩ := hp hs
        rw [h7]
        exact ⟨y, rfl, h8⟩
      | ok y q5 =>
        rw [e3] at hp
        obtain ⟨q6, h7, hQ6⟩ := hp
        rw [h7]
        dsimp only
        exact loop_sim S up1 up2 P _ _ y q5 q6 hQ6 (by omega) (by omega)
theorem aPt_sim {st : Prop} {Q E : Nat → Nat → Prop} {v1 v2 : Tok → Nat → Rd VT} (V : VlS st Q E v1 v2) : PtRJ st Q E (aPt v1) (aPt v2) := by
  intro x t1 t2 p1 p2 hT hQ
  have h := V t1 t2 p1 p2 hT hQ
  unfold aPt
  cases e : v1 t1 p1 with
  | bad er z =>
    rw [e] at h
    intro hs
    obtain ⟨y, h7, h8⟩ := h hs
    rw [h7]
    exact ⟨y, rfl, h8⟩
  | ok T q =>
    rw [e] at h
    obtain ⟨q6, h7, hQ6⟩ := h
    rw [h7]
    exact ⟨q6, rfl, hQ6⟩
theorem oPt_sim {st : Prop} {l1 l2 : List UInt8} {Q E : Nat → Nat → Prop} {v1 v2 : Tok → Nat → Rd VT} (S : Sim st l1 l2 Q E) (V : VlS st Q E v1 v2) : PtRJ st Q E (oPt l1 v1) (oPt l2 v2) := by
  intro fs t1 t2 p1 p2 hT hQ
  unfold oPt
  rw [hT.kind, hT.text]
  by_cases hk : t1.kind = 11
  · rw [if_pos hk, if_pos hk]
    by_cases ha : (fs.any fun f => f.1 == t1.text) = true
    · rw [if_pos ha, if_pos ha]
      exact fun hs => ⟨_, rfl, hT.at_ hs⟩
    · rw [if_neg ha, if_neg ha]
      have hm := S.mu _ _ hQ
      cases e1 : mustL l1 p1 with
      | bad e x =>
        rw [e1] at hm
        intro hs
        obtain ⟨y, h3, h4⟩ := hm hs
        rw [h3]
        exact ⟨y, rfl, h4⟩
      | ok c q1 =>
        rw [e1] at hm
        obtain ⟨c2, q2, h3, hT2, hQ2⟩ := hm
        rw [h3]
        dsimp only
        rw [hT2.kind]
        by_cases h5 : c.kind = 5
        · rw [if_pos h5, if_pos h5]
          have hm2 := S.mu _ _ hQ2
          cases e2 : mustL l1 q1 with
          | bad e x =>
            rw [e2] at hm2
            intro hs
            obtain ⟨y, h3, h4⟩ := hm2 hs
            rw [h3]
            exact ⟨y, rfl, h4⟩
          | ok t' q3 =>
            rw [e2] at hm2
            obtain ⟨t4, q4, h6, hT4, hQ4⟩ := hm2
            rw [h6]
            dsimp only
            have hv := V t' t4 q3 q4 hT4 hQ4
            cases e3 : v1 t' q3 with
            | bad er z =>
              rw [e3] at hv
              intro hs
              obtain ⟨y, h7, h8⟩ := hv hs
              rw [h7]
              exact ⟨y, rfl, h8⟩
            | ok T q =>
              rw [e3] at hv
              obtain ⟨q6, h7, hQ6⟩ := hv
              rw [h7]
              exact ⟨q6, rfl, hQ6⟩
        · rw [if_neg h5, if_neg h5]
          exact fun hs => ⟨_, rfl, hT2.at_ hs⟩
  · rw [if_neg hk, if_neg hk]
    exact fun hs => ⟨_, rfl, hT.at_ hs⟩
theorem arr_sim {st : Prop} {s1 s2 : ByteArray} {Q E : Nat → Nat → Prop} {v1 v2 : Tok → Nat → Rd VT} (S : Sim st s1.data.toList s2.data.toList Q E) (U1 : ValUp s1 v1) (U2 : ValUp s2 v2) (V : VlS st Q E v1 v2) (p1 p2 : Nat) (hQ : Q p1 p2) : RR st Q E (arrL s1.data.toList v1 p1) (arrL s2.data.toList v2 p2) := by
  have a1 : ∀ x t p y q, p ≤ s1.data.toList.length → aPt v1 x t p = .ok y q → p ≤ q ∧ q ≤ s1.data.toList.length := fun x t p y q h1 h2 => by
    unfold aPt at h2
    split at h2
    · next h3 => injection h2 with e1 e2; subst e2; exact U1 _ _ _ _ h1 h3
    · cases h2
  have a2 : ∀ x t p y q, p ≤ s2.data.toList.length → aPt v2 x t p = .ok y q → p ≤ q ∧ q ≤ s2.data.toList.length := fun x t p y q h1 h2 => by
    unfold aPt at h2
    split at h2
    · next h3 => injection h2 with e1 e2; subst e2; exact U2 _ _ _ _ h1 h3
    · cases h2
  have h := row_sim (cl := 4) S a1 a2 (aPt_sim V) [] p1 p2 hQ
  unfold arrL
  cases e : rowL s1.data.toList 4 (aPt v1) [] p1 with
  | bad er z =>
    rw [e] at h
    intro hs
    obtain ⟨y, h7, h8⟩ := h hs
    rw [h7]
    exact ⟨y, rfl, h8⟩
  | ok T q =>
    rw [e] at h
    obtain ⟨q6, h7, hQ6⟩ := h
    rw [h7]
    exact ⟨q6, rfl, hQ6⟩
theorem ob_sim {st : Prop} {s1 s2 : ByteArray} {Q E : Nat → Nat → Prop} {v1 v2 : Tok → Nat → Rd VT} (S : Sim st s1.data.toList s2.data.toList Q E) (U1 : ValUp s1 v1) (U2 : ValUp s2 v2) (V : VlS st Q E v1 v2) (p1 p2 : Nat) (hQ : Q p1 p2) : RR st Q E (obL s1.data.toList v1 p1) (obL s2.data.toList v2 p2) := by
  have h := row_sim (cl := 2) S (fun x t p y q h1 h2 => oPt_up U1 h1 h2) (fun x t p y q h1 h2 => oPt_up U2 h1 h2) (oPt_sim S V) [] p1 p2 hQ
  unfold obL
  cases e : rowL s1.data.toList 2 (oPt s1.data.toList v1) [] p1 with
  | bad er z =>
    rw [e] at h
    intro hs
    obtain ⟨y, h7, h8⟩ := h hs
    rw [h7]
    exact ⟨y, rfl, h8⟩
  | ok T q =>
    rw [e] at h
    obtain ⟨q6, h7, hQ6⟩ := h
    rw [h7]
    exact ⟨q6, rfl, hQ6⟩
theorem leaf_sim {st : Prop} {Q E : Nat → Nat → Prop} (t1 t2 : Tok) (p1 p2 : Nat) (hT : TK st E t1 t2) (hQ : Q p1 p2) : RR st Q E (leafL t1 p1) (leafL t2 p2) := by
  unfold leafL
  rw [hT.kind, hT.text]
  by_cases h7 : t1.kind = 7
  · rw [if_pos h7, if_pos h7]; exact ⟨_, rfl, hQ⟩
  rw [if_neg h7, if_neg h7]
  by_cases h8 : t1.kind = 8
  · rw [if_pos h8, if_pos h8]; exact ⟨_, rfl, hQ⟩
  rw [if_neg h8, if_neg h8]
  by_cases h9 : t1.kind = 9
  · rw [if_pos h9, if_pos h9]; exact ⟨_, rfl, hQ⟩
  rw [if_neg h9, if_neg h9]
  by_cases h10 : t1.kind = 10
  · rw [if_pos h10, if_pos h10]; exact ⟨_, rfl, hQ⟩
  rw [if_neg h10, if_neg h10]
  by_cases h11 : t1.kind = 11
  · rw [if_pos h11, if_pos h11]; exact ⟨_, rfl, hQ⟩
  rw [if_neg h11, if_neg h11]
  exact fun hs => ⟨_, rfl, hT.at_ hs⟩
theorem valAt_sim {st : Prop} {Q E : Nat → Nat → Prop} {d : Nat} {a1 a2 o1 o2 : Rd VT} (t1 t2 : Tok) (p1 p2 : Nat) (hT : TK st E t1 t2) (hQ : Q p1 p2) (hA : d ≤ 64 → RR st Q E a1 a2) (hO : d ≤ 64 → RR st Q E o1 o2) : RR st Q E (valAt d a1 o1 t1 p1) (valAt d a2 o2 t2 p2) := by
  unfold valAt
  rw [hT.kind]
  by_cases h3 : t1.kind = 3
  · rw [if_pos h3, if_pos h3]
    by_cases hd : d ≤ 64
    · rw [if_pos hd, if_pos hd]; exact hA hd
    · rw [if_neg hd, if_neg hd]; exact fun hs => ⟨_, rfl, hT.at_ hs⟩
  rw [if_neg h3, if_neg h3]
  by_cases h1 : t1.kind = 1
  · rw [if_pos h1, if_pos h1]
    by_cases hd : d ≤ 64
    · rw [if_pos hd, if_pos hd]; exact hO hd
    · rw [if_neg hd, if_neg hd]; exact fun hs => ⟨_, rfl, hT.at_ hs⟩
  rw [if_neg h1, if_neg h1]
  exact leaf_sim t1 t2 p1 p2 hT hQ
theorem val_sim {st : Prop} {s1 s2 : ByteArray} (z1 : s1.size ≤ 1073741824) (z2 : s2.size ≤ 1073741824) {Q E : Nat → Nat → Prop} (S : Sim st s1.data.toList s2.data.toList Q E) : ∀ (f d : Nat), f + d = 65 → VlS st Q E (valL s1.data.toList (obL s1.data.toList) f d) (valL s2.data.toList (obL s2.data.toList) f d)
  | 0, d, hd => fun t1 t2 p1 p2 hT hQ => by
    unfold valL
    exact valAt_sim t1 t2 p1 p2 hT hQ (fun h => absurd h (by omega)) (fun h => absurd h (by omega))
  | f + 1, d, hd => fun t1 t2 p1 p2 hT hQ => by
    have V := val_sim z1 z2 S f (d + 1) (by omega)
    have U1 := valL_up (objOk z1 (4 + 1) (by omega)) f (d + 1)
    have U2 := valL_up (objOk z2 (4 + 1) (by omega)) f (d + 1)
    unfold valL
    exact valAt_sim t1 t2 p1 p2 hT hQ (fun _ => arr_sim S U1 U2 V p1 p2 hQ) (fun _ => ob_sim S U1 U2 V p1 p2 hQ)
theorem vL_sim {st : Prop} {s1 s2 : ByteArray} (z1 : s1.size ≤ 1073741824) (z2 : s2.size ≤ 1073741824) {Q E : Nat → Nat → Prop} (S : Sim st s1.data.toList s2.data.toList Q E) : VlS st Q E (vL s1) (vL s2) := val_sim z1 z2 S 64 1 rfl
theorem rd_sim {st : Prop} {s1 s2 : ByteArray} (z1 : s1.size ≤ 1073741824) (z2 : s2.size ≤ 1073741824) {Q E : Nat → Nat → Prop} (S : Sim st s1.data.toList s2.data.toList Q E) (p1 p2 : Nat) (hQ : Q p1 p2) : RR st Q E (rdL s1.data.toList (vL s1) p1) (rdL s2.data.toList (vL s2) p2) := by
  have hm := S.mu _ _ hQ
  unfold rdL
  cases e1 : mustL s1.data.toList p1 with
  | bad e x =>
    rw [e1] at hm
    intro hs
    obtain ⟨y, h3, h4⟩ := hm hs
    rw [h3]
    exact ⟨y, rfl, h4⟩
  | ok t q1 =>
    rw [e1] at hm
    obtain ⟨t2, q2, h3, hT, hQ2⟩ := hm
    rw [h3]
    exact vL_sim z1 z2 S t t2 q1 q2 hT hQ2
end Go.Proofs.YtfjmgccbpiolhaaGreatDoor
namespace Go.Proofs.YtfjmgccbpiolhaaGreatDoor
open Go.RowKit Go.Shelf
set_option linter.unusedVariables false
set_option linter.unusedSimpArgs false

def NZ {α : Type} (r : Rd α) : Prop := ∀ e q, r = .bad e q → e ≠ 0
theorem must_nz (l : List UInt8) (p : Nat) : NZ (mustL l p) := by
  intro e q h
  unfold mustL at h
  split at h
  · split at h
    · cases h
    · next h1 => injection h with e1 e2; rw [← e1]; exact h1
  · injection h with e1 e2; omega
theorem loop_nz {σ : Type} {l : List UInt8} {cl : Nat} {pt : σ → Tok → Nat → Rd σ} (up : ∀ x t p y q, p ≤ l.length → pt x t p = .ok y q → p ≤ q ∧ q ≤ l.length) (P : ∀ x t p, p ≤ l.length → NZ (pt x t p)) : ∀ (n : Nat) (x : σ) (p : Nat), p ≤ l.length → l.length - p < n → NZ (loopL l cl pt n x p) := by
  intro n
  induction n with
  | zero => intro x p _ h; omega
  | succ n ih =>
    intro x p hp hn e q h
    rw [loopL] at h
    cases e1 : mustL l p with
    | bad e2 z => rw [e1] at h; injection h with h1 h2; rw [← h1]; exact must_nz l p _ _ e1
    | ok t q1 =>
      rw [e1] at h
      dsimp only at h
      obtain ⟨u1, u2⟩ := mustL_up hp e1
      split at h
      · cases h
      · split at h
        · cases e2 : mustL l q1 with
          | bad e3 z => rw [e2] at h; injection h with h1 h2; rw [← h1]; exact must_nz l q1 _ _ e2
          | ok t2 q2 =>
            rw [e2] at h
            dsimp only at h
            obtain ⟨u3, u4⟩ := mustL_up u2 e2
            cases e3 : pt x t2 q2 with
            | bad e4 z => rw [e3] at h; injection h with h1 h2; rw [← h1]; exact P x t2 q2 u4 _ _ e3
            | ok y q3 =>
              rw [e3] at h
              dsimp only at h
              obtain ⟨u5, u6⟩ := up _ _ _ _ _ u4 e3
              exact ih y q3 u6 (by omega) e q h
        · injection h with h1 h2; omega
theorem row_nz {σ : Type} {l : List UInt8} {cl : Nat} {pt : σ → Tok → Nat → Rd σ} (up : ∀ x t p y q, p ≤ l.length → pt x t p = .ok y q → p ≤ q ∧ q ≤ l.length) (P : ∀ x t p, p ≤ l.length → NZ (pt x t p)) (x : σ) (p : Nat) (hp : p ≤ l.length) : NZ (rowL l cl pt x p) := by
  intro e q h
  unfold rowL at h
  cases e1 : mustL l p with
  | bad e2 z => rw [e1] at h; injection h with h1 h2; rw [← h1]; exact must_nz l p _ _ e1
  | ok t q1 =>
    rw [e1] at h
    dsimp only at h
    obtain ⟨u1, u2⟩ := mustL_up hp e1
    split at h
    · cases h
    · cases e3 : pt x t q1 with
      | bad e4 z => rw [e3] at h; injection h with h1 h2; rw [← h1]; exact P x t q1 u2 _ _ e3
      | ok y q3 =>
        rw [e3] at h
        dsimp only at h
        obtain ⟨u5, u6⟩ := up _ _ _ _ _ u2 e3
        exact loop_nz up P _ y q3 u6 (by omega) e q h
theorem val_nz {s : ByteArray} (ss : s.size ≤ 1073741824) : ∀ (f d : Nat), f + d = 65 → ∀ t p, p ≤ s.size → NZ (valL s.data.toList (obL s.data.toList) f d t p)
  | 0, d, hd => fun t p hp e q h => by
    unfold valL valAt leafL at h
    repeat' split at h
    all_goals first | (cases h; done) | (injection h with h1 h2; omega)
  | f + 1, d, hd => fun t p hp e q h => by
    have ih := val_nz ss f (d + 1) (by omega)
    have U := valL_up (objOk ss (4 + 1) (by omega)) f (d + 1)
    unfold valL valAt at h
    generalize hvl : valL s.data.toList (obL s.data.toList) f (d + 1) = vl at ih U h
    split at h
    · split at h
      · unfold arrL at h
        cases hr : rowL s.data.toList 4 (aPt vl) [] p with
        | ok y q3 => rw [hr] at h; cases h
        | bad e2 z =>
          rw [hr] at h
          injection h with h1 h2
          rw [← h1]
          refine row_nz (l := s.data.toList) ?_ ?_ [] p hp _ _ hr
          · intro x t p y q h1 h2
            unfold aPt at h2
            split at h2
            · next h3 => injection h2 with e1 e2; subst e2; exact U _ _ _ _ h1 h3
            · cases h2
          · intro x t p hp2 e3 q3 h3
            unfold aPt at h3
            split at h3
            · cases h3
            · next h4 => injection h3 with e1 e2; rw [← e1]; exact ih _ _ hp2 _ _ h4
      · injection h with h1 h2; omega
    · split at h
      · split at h
        · unfold obL at h
          cases hr : rowL s.data.toList 2 (oPt s.data.toList vl) [] p with
          | ok y q3 => rw [hr] at h; cases h
          | bad e2 z =>
            rw [hr] at h
            injection h with h1 h2
            rw [← h1]
            refine row_nz (l := s.data.toList) (fun x t p y q h1 h2 => oPt_up U h1 h2) ?_ [] p hp _ _ hr
            intro x t p hp2 e3 q3 h3
            unfold oPt at h3
            split at h3
            · split at h3
              · injection h3 with e1 e2; omega
              · split at h3
                · next h4 => injection h3 with e1 e2; rw [← e1]; exact must_nz _ _ _ _ h4
                · next c q4 h4 =>
                  obtain ⟨u1, u2⟩ := mustL_up (l := s.data.toList) hp2 h4
                  split at h3
                  · split at h3
                    · next h5 => injection h3 with e1 e2; rw [← e1]; exact must_nz _ _ _ _ h5
                    · next t2 q5 h5 =>
                      obtain ⟨u3, u4⟩ := mustL_up (l := s.data.toList) u2 h5
                      split at h3
                      · next h6 => injection h3 with e1 e2; rw [← e1]; exact ih _ _ u4 _ _ h6
                      · cases h3
                  · injection h3 with e1 e2; omega
            · injection h3 with e1 e2; omega
        · injection h with h1 h2; omega
      · unfold leafL at h
        repeat' split at h
        all_goals first | (cases h; done) | (injection h with h1 h2; omega)
theorem rd_nz {s : ByteArray} (ss : s.size ≤ 1073741824) {p : Nat} (hp : p ≤ s.size) : NZ (rdL s.data.toList (vL s) p) := by
  intro e q h
  unfold rdL at h
  split at h
  · next h1 => injection h with e1 e2; rw [← e1]; exact must_nz _ _ _ _ h1
  · next t p1 h1 =>
    obtain ⟨u1, u2⟩ := mustL_up (l := s.data.toList) hp h1
    exact val_nz ss 64 1 rfl t p1 u2 e q h

theorem rd_up2 {s : ByteArray} (ss : s.size ≤ 1073741824) {p q : Nat} {T : VT} (hp : p ≤ s.size) (h : rdL s.data.toList (vL s) p = .ok T q) : p < q ∧ q ≤ s.size := by
  unfold rdL at h
  split at h
  · cases h
  · next t p1 hm =>
    obtain ⟨a1, a2⟩ := mustL_up (l := s.data.toList) hp hm
    obtain ⟨b1, b2⟩ := vL_up ss _ _ _ _ a2 h
    omega

theorem blank_app2 {a b : List UInt8} {q : Nat} (hq : q ≤ a.length) : behL (a ++ 32 :: b) q cBl = if behL a q cBl < a.length then behL a q cBl else a.length + 1 + behL b 0 cBl := by
  have h1 := dropWhile_le (cBl.contains ·) (a.drop q)
  have h2 := dropWhile_le (cBl.contains ·) b
  rw [List.length_drop] at h1
  unfold behL
  rw [List.drop_append_of_le_length hq, List.dropWhile_append, List.drop_zero]
  cases hd : (a.drop q).dropWhile (cBl.contains ·) with
  | nil =>
    rw [hd] at h1
    rw [if_pos (show ([] : List UInt8).isEmpty = true from rfl), List.dropWhile_cons, if_pos (by decide), if_neg (by simp), List.length_append, List.length_cons]
    omega
  | cons c r =>
    rw [hd, List.length_cons] at h1
    rw [if_neg (show ¬ (c :: r).isEmpty = true by simp), if_pos (by rw [List.length_cons]; omega)]
    simp
    omega
theorem sim_left (a b : List UInt8) : Sim False a (a ++ 32 :: b) (fun p1 p2 => p2 = p1 ∧ p1 ≤ a.length) (fun _ _ => True) := by
  refine ⟨?_, ?_⟩
  · rintro p q ⟨rfl, h⟩
    exact ⟨h, by rw [List.length_append]; omega⟩
  · rintro p q ⟨rfl, hp⟩
    by_cases h1 : behL a q cBl < a.length
    · by_cases h2 : (nextT a (behL a q cBl)).err = 0
      · have e1 : mustL a q = .ok (nextT a (behL a q cBl)) (nextT a (behL a q cBl)).fin := by unfold mustL; rw [if_pos h1, if_pos h2]
        have hb := blank_app2 (b := b) hp
        rw [if_pos h1] at hb
        have hn := nextT_app2 (b := b) h1 h2
        have e2 : mustL (a ++ 32 :: b) q = .ok (nextT a (behL a q cBl)) (nextT a (behL a q cBl)).fin := by
          unfold mustL
          rw [hb, hn, if_pos (by rw [List.length_append]; omega), if_pos h2]
        obtain ⟨u1, u2⟩ := mustL_up hp e1
        rw [e1, e2]
        exact ⟨_, _, rfl, ⟨rfl, rfl, fun h => h.elim⟩, rfl, u2⟩
      · have e1 : mustL a q = .bad (nextT a (behL a q cBl)).err (nextT a (behL a q cBl)).at_ := by unfold mustL; rw [if_pos h1, if_neg h2]
        rw [e1]
        exact fun h => h.elim
    · have e1 : mustL a q = .bad 50 a.length := by unfold mustL; rw [if_neg h1]
      rw [e1]
      exact fun h => h.elim
theorem sim_right (x b : List UInt8) : Sim True b (x ++ b) (fun p1 p2 => p2 = x.length + p1 ∧ p1 ≤ b.length) (fun e1 e2 => e2 = x.length + e1) := by
  refine ⟨?_, ?_⟩
  · rintro p q ⟨rfl, h⟩
    exact ⟨h, by rw [List.length_append]; omega⟩
  · rintro p q ⟨rfl, hp⟩
    have hb := behL_pre (x := x) (b := b) (p := p) (cs := cBl) hp
    by_cases h1 : behL b p cBl < b.length
    · have hn := nextT_pre (x := x) h1
      by_cases h2 : (nextT b (behL b p cBl)).err = 0
      · have e1 : mustL b p = .ok (nextT b (behL b p cBl)) (nextT b (behL b p cBl)).fin := by unfold mustL; rw [if_pos h1, if_pos h2]
        obtain ⟨u1, u2⟩ := mustL_up hp e1
        have e2 : mustL (x ++ b) (x.length + p) = .ok (shiftT x.length (nextT b (behL b p cBl))) (x.length + (nextT b (behL b p cBl)).fin) := by
          unfold mustL
          rw [hb, hn, if_pos (by rw [List.length_append]; omega), shiftT_err, if_pos h2]
          unfold shiftT
          rw [if_pos h2]
        rw [e1, e2]
        refine ⟨_, _, rfl, ?_, rfl, u2⟩
        unfold shiftT
        rw [if_pos h2]
        exact ⟨rfl, rfl, fun _ => rfl⟩
      · have e1 : mustL b p = .bad (nextT b (behL b p cBl)).err (nextT b (behL b p cBl)).at_ := by unfold mustL; rw [if_pos h1, if_neg h2]
        have e2 : mustL (x ++ b) (x.length + p) = .bad (nextT b (behL b p cBl)).err (x.length + (nextT b (behL b p cBl)).at_) := by
          unfold mustL
          rw [hb, hn, if_pos (by rw [List.length_append]; omega), shiftT_err, if_neg h2]
          unfold shiftT
          rw [if_neg h2]
        rw [e1, e2]
        exact fun _ => ⟨_, rfl, rfl⟩
    · have e1 : mustL b p = .bad 50 b.length := by unfold mustL; rw [if_neg h1]
      have e2 : mustL (x ++ b) (x.length + p) = .bad 50 (x.length + b.length) := by
        unfold mustL
        rw [hb, if_neg (by rw [List.length_append]; omega), List.length_append]
      rw [e1, e2]
      exact fun _ => ⟨_, rfl, rfl⟩
theorem fol_rd (l : List UInt8) (vl : Tok → Nat → Rd VT) (p : Nat) : folL l vl p = if behL l p cBl < l.length then (match rdL l vl p with
    | .ok T q => .ok (some T) q
    | .bad e q => .bad e q) else .ok none p := by
  unfold folL rdL mustL
  by_cases h1 : behL l p cBl < l.length
  · rw [if_pos h1, if_pos h1, if_pos h1]
    by_cases h2 : (nextT l (behL l p cBl)).err = 0
    · rw [if_pos h2, if_pos h2]; (try rfl)
    · rw [if_neg h2, if_neg h2]; (try rfl)
  · rw [if_neg h1, if_neg h1]; (try rfl)
theorem rd_same {l : List UInt8} {vl : Tok → Nat → Rd VT} {p p' : Nat} (h : behL l p cBl = behL l p' cBl) : rdL l vl p = rdL l vl p' := by unfold rdL mustL; rw [h]
theorem each_same {l : List UInt8} {vl : Tok → Nat → Rd VT} {p p' : Nat} (h : behL l p cBl = behL l p' cBl) (m : Nat) (xs : List VT) : eachL l vl (m + 1) xs p = eachL l vl (m + 1) xs p' := by
  unfold eachL
  rw [fol_rd, fol_rd, h, rd_same h]
  by_cases h1 : behL l p' cBl < l.length
  · rw [if_pos h1, if_pos h1]
  · rw [if_neg h1, if_neg h1]
theorem each_acc (l : List UInt8) (vl : Tok → Nat → Rd VT) : ∀ (f : Nat) (xs : List VT) (p : Nat), eachL l vl f xs p = (xs ++ (eachL l vl f [] p).1, (eachL l vl f [] p).2)
  | 0, xs, p => by unfold eachL; rw [List.append_nil]
  | f + 1, xs, p => by
    unfold eachL
    cases h : folL l vl p with
    | bad e q => dsimp only; rw [List.append_nil]
    | ok o q =>
      cases o with
      | none => dsimp only; rw [List.append_nil]
      | some T =>
        dsimp only
        rw [each_acc l vl f (xs ++ [T]) q, each_acc l vl f ([] ++ [T]) q]
        simp
theorem each_right (x : List UInt8) (b t : ByteArray) (ht : t.data.toList = x ++ b.data.toList) (zb : b.size ≤ 1073741824) (zt : t.size ≤ 1073741824) : ∀ (n m : Nat) (xs : List VT) (p : Nat), p ≤ b.size → b.size - p < n → b.size - p < m → (eachL t.data.toList (vL t) m xs (x.length + p)).1 = (eachL b.data.toList (vL b) n xs p).1 ∧ (eachL t.data.toList (vL t) m xs (x.length + p)).2.1 = (eachL b.data.toList (vL b) n xs p).2.1 := by
  have lb : b.data.toList.length = b.size := size_lst b
  have S : Sim True b.data.toList t.data.toList (fun p1 p2 => p2 = x.length + p1 ∧ p1 ≤ b.data.toList.length) (fun e1 e2 => e2 = x.length + e1) := by rw [ht]; exact sim_right x b.data.toList
  intro n
  induction n with
  | zero => intro m xs p _ h; omega
  | succ n ih =>
    intro m xs p hp h1 h2
    obtain ⟨m, rfl⟩ : ∃ k, m = k + 1 := ⟨m - 1, by omega⟩
    unfold eachL
    rw [fol_rd, fol_rd]
    have hb : behL t.data.toList (x.length + p) cBl = x.length + behL b.data.toList p cBl := by rw [ht]; exact behL_pre (by omega)
    have hr := rd_sim zb zt S p (x.length + p) ⟨rfl, by omega⟩
    have hlt : (behL t.data.toList (x.length + p) cBl < t.data.toList.length) ↔ behL b.data.toList p cBl < b.data.toList.length := by rw [hb, ht, List.length_append]; omega
    by_cases h3 : behL b.data.toList p cBl < b.data.toList.length
    · rw [if_pos h3, if_pos (hlt.2 h3)]
      cases e1 : rdL b.data.toList (vL b) p with
      | bad e z =>
        rw [e1] at hr
        obtain ⟨y, h4, h5⟩ := hr trivial
        rw [h4]
        exact ⟨rfl, rfl⟩
      | ok T q =>
        rw [e1] at hr
        obtain ⟨q2, h4, rfl, h6⟩ := hr
        rw [h4]
        dsimp only
        have hu := rd_up2 zb hp e1
        exact ih m (xs ++ [T]) q (by omega) (by omega) (by omega)
    · rw [if_neg h3, if_neg (fun h => h3 (hlt.1 h))]
      exact ⟨rfl, rfl⟩
theorem each_left (a t : ByteArray) (b : List UInt8) (ht : t.data.toList = a.data.toList ++ 32 :: b) (za : a.size ≤ 1073741824) (zt : t.size ≤ 1073741824) : ∀ (n m : Nat) (xs ys : List VT) (p z : Nat), p ≤ a.size → a.size - p < n → t.size - p < m → eachL a.data.toList (vL a) n xs p = (ys, 0, z) → ∃ m', b.length < m' ∧ eachL t.data.toList (vL t) m xs p = eachL t.data.toList (vL t) m' ys (a.size + 1) := by
  have la : a.data.toList.length = a.size := size_lst a
  have lt : t.data.toList.length = t.size := size_lst t
  have lab : t.size = a.size + 1 + b.length := by rw [← lt, ht, List.length_append, List.length_cons, la]; omega
  have S : Sim False a.data.toList t.data.toList (fun p1 p2 => p2 = p1 ∧ p1 ≤ a.data.toList.length) (fun _ _ => True) := by rw [ht]; exact sim_left a.data.toList b
  intro n
  induction n with
  | zero => intro m xs ys p z _ h; omega
  | succ n ih =>
    intro m xs ys p z hp h1 h2 he
    obtain ⟨m, rfl⟩ : ∃ k, m = k + 1 := ⟨m - 1, by omega⟩
    have hb : behL t.data.toList p cBl = if behL a.data.toList p cBl < a.data.toList.length then behL a.data.toList p cBl else a.data.toList.length + 1 + behL b 0 cBl := by rw [ht]; exact blank_app2 (by omega)
    have hr := rd_sim za zt S p p ⟨rfl, by omega⟩
    unfold eachL at he
    rw [fol_rd] at he
    by_cases h3 : behL a.data.toList p cBl < a.data.toList.length
    · rw [if_pos h3] at he hb
      cases e1 : rdL a.data.toList (vL a) p with
      | bad e w =>
        rw [e1] at he
        dsimp only at he
        injection he with h4 h5
        injection h5 with h6 h7
        exact absurd h6 (rd_nz za hp e w e1)
      | ok T q =>
        rw [e1] at hr he
        obtain ⟨q2, h4, rfl, h6⟩ := hr
        dsimp only at he
        have hu := rd_up2 za hp e1
        obtain ⟨m', h7, h8⟩ := ih m (xs ++ [T]) ys q2 z hu.2 (by omega) (by omega) he
        refine ⟨m', h7, ?_⟩
        rw [← h8]
        conv => lhs; unfold eachL
        rw [fol_rd, if_pos (by rw [hb, lt, lab]; omega), h4]
        (try rfl)
    · rw [if_neg h3] at he hb
      dsimp only at he
      injection he with h4 h5
      subst h4
      refine ⟨m + 1, by omega, each_same ?_ m xs⟩
      rw [hb, ht]
      have := behL_pre (x := a.data.toList ++ [32]) (b := b) (p := 0) (cs := cBl) (Nat.zero_le _)
      rw [List.length_append, List.append_assoc, Nat.add_zero, la] at this
      rw [show a.data.toList ++ 32 :: b = a.data.toList ++ ([32] ++ b) from rfl, la]
      exact this.symm
theorem each_join (a b t : ByteArray) (ht : t.data.toList = a.data.toList ++ 32 :: b.data.toList) (za : a.size ≤ 1073741824) (zb : b.size ≤ 1073741824) (zt : t.size ≤ 1073741824) {xa xb : List VT} {qa qb : Nat} (ha : eachL a.data.toList (vL a) (a.size + 1) [] 0 = (xa, 0, qa)) (hb : eachL b.data.toList (vL b) (b.size + 1) [] 0 = (xb, 0, qb)) : (eachL t.data.toList (vL t) (t.size + 1) [] 0).1 = xa ++ xb ∧ (eachL t.data.toList (vL t) (t.size + 1) [] 0).2.1 = 0 := by
  have lb : b.data.toList.length = b.size := size_lst b
  have la : a.data.toList.length = a.size := size_lst a
  obtain ⟨m', h1, h2⟩ := each_left a t b.data.toList ht za zt (a.size + 1) (t.size + 1) [] xa 0 qa (Nat.zero_le _) (by omega) (by omega) ha
  have hr := each_right (a.data.toList ++ [32]) b t (by rw [ht, List.append_assoc]; rfl) zb zt (b.size + 1) m' xa 0 (Nat.zero_le _) (by omega) (by omega)
  have e : (a.data.toList ++ [32]).length + 0 = a.size + 1 := by rw [List.length_append, la]; rfl
  rw [e, ← h2, each_acc b.data.toList (vL b) (b.size + 1) xa 0, hb] at hr
  exact hr
end Go.Proofs.YtfjmgccbpiolhaaGreatDoor
namespace Go.Proofs.YtfjmgccbpiolhaaGreatDoor
open Go.RowKit Go.Shelf
set_option linter.unusedVariables false
set_option linter.unusedSimpArgs false

def PlB {α : Type} (n : Nat) (r : Rd α) : Prop := ∀ e q, r = .bad e q → q ≤ n
theorem must_pb (l : List UInt8) (p : Nat) : PlB l.length (mustL l p) := by
  intro e q h
  unfold mustL at h
  split at h
  · next h1 =>
    split at h
    · cases h
    · injection h with e1 e2; rw [← e2]; exact (nextT_le h1).1
  · injection h with e1 e2; omega
theorem must_at {l : List UInt8} {p q : Nat} {t : Tok} (h : mustL l p = .ok t q) : t.at_ ≤ l.length := by
  unfold mustL at h
  split at h
  · next h1 =>
    split at h
    · injection h with e1 e2; rw [← e1]; exact (nextT_le h1).1
    · cases h
  · cases h
theorem loop_pb {σ : Type} {l : List UInt8} {cl : Nat} {pt : σ → Tok → Nat → Rd σ} (P : ∀ x t p, t.at_ ≤ l.length → PlB l.length (pt x t p)) : ∀ (n : Nat) (x : σ) (p : Nat), PlB l.length (loopL l cl pt n x p) := by
  intro n
  induction n with
  | zero => intro x p e q h; injection h with h1 h2; omega
  | succ n ih =>
    intro x p e q h
    rw [loopL] at h
    cases e1 : mustL l p with
    | bad e2 z => rw [e1] at h; injection h with h1 h2; rw [← h2]; exact must_pb l p _ _ e1
    | ok t q1 =>
      rw [e1] at h
      dsimp only at h
      split at h
      · cases h
      · split at h
        · cases e2 : mustL l q1 with
          | bad e3 z => rw [e2] at h; injection h with h1 h2; rw [← h2]; exact must_pb l q1 _ _ e2
          | ok t2 q2 =>
            rw [e2] at h
            dsimp only at h
            cases e3 : pt x t2 q2 with
            | bad e4 z => rw [e3] at h; injection h with h1 h2; rw [← h2]; exact P x t2 q2 (must_at e2) _ _ e3
            | ok y q3 => rw [e3] at h; exact ih y q3 e q h
        · injection h with h1 h2; rw [← h2]; exact must_at e1
theorem row_pb {σ : Type} {l : List UInt8} {cl : Nat} {pt : σ → Tok → Nat → Rd σ} (P : ∀ x t p, t.at_ ≤ l.length → PlB l.length (pt x t p)) (x : σ) (p : Nat) : PlB l.length (rowL l cl pt x p) := by
  intro e q h
  unfold rowL at h
  cases e1 : mustL l p with
  | bad e2 z => rw [e1] at h; injection h with h1 h2; rw [← h2]; exact must_pb l p _ _ e1
  | ok t q1 =>
    rw [e1] at h
    dsimp only at h
    split at h
    · cases h
    · cases e3 : pt x t q1 with
      | bad e4 z => rw [e3] at h; injection h with h1 h2; rw [← h2]; exact P x t q1 (must_at e1) _ _ e3
      | ok y q3 => rw [e3] at h; exact loop_pb P _ y q3 e q h
theorem val_pb {l : List UInt8} : ∀ (f d : Nat) (t : Tok) (p : Nat), t.at_ ≤ l.length → PlB l.length (valL l (obL l) f d t p) := by
  have leaf : ∀ (t : Tok) (p : Nat), t.at_ ≤ l.length → PlB l.length (leafL t p) := by
    intro t p ht e q h
    unfold leafL at h
    repeat' split at h
    all_goals first | (cases h; done) | (injection h with h1 h2; omega)
  intro f
  induction f with
  | zero =>
    intro d t p ht e q h
    unfold valL valAt at h
    split at h
    · split at h <;> (injection h with h1 h2; omega)
    · split at h
      · split at h <;> (injection h with h1 h2; omega)
      · exact leaf t p ht e q h
  | succ f ih =>
    intro d t p ht e q h
    have ihv := ih (d + 1)
    unfold valL valAt at h
    generalize hvl : valL l (obL l) f (d + 1) = vl at ihv h
    split at h
    · split at h
      · unfold arrL at h
        cases hr : rowL l 4 (aPt vl) [] p with
        | ok xs q3 => rw [hr] at h; cases h
        | bad e2 z =>
          rw [hr] at h
          injection h with h1 h2
          rw [← h2]
          refine row_pb ?_ [] p _ _ hr
          intro x t p ht2 e3 q3 h3
          unfold aPt at h3
          split at h3
          · cases h3
          · next h4 => injection h3 with e1 e2; rw [← e2]; exact ihv _ _ ht2 _ _ h4
      · injection h with h1 h2; omega
    · split at h
      · split at h
        · unfold obL at h
          cases hr : rowL l 2 (oPt l vl) [] p with
          | ok xs q3 => rw [hr] at h; cases h
          | bad e2 z =>
            rw [hr] at h
            injection h with h1 h2
            rw [← h2]
            refine row_pb ?_ [] p _ _ hr
            intro x t p ht2 e3 q3 h3
            unfold oPt at h3
            split at h3
            · split at h3
              · injection h3 with e1 e2; omega
              · split at h3
                · next h4 => injection h3 with e1 e2; rw [← e2]; exact must_pb _ _ _ _ h4
                · next c q4 h4 =>
                  have hc := must_at h4
                  split at h3
                  · split at h3
                    · next h5 => injection h3 with e1 e2; rw [← e2]; exact must_pb _ _ _ _ h5
                    · next t2 q5 h5 =>
                      split at h3
                      · next h6 => injection h3 with e1 e2; rw [← e2]; exact ihv _ _ (must_at h5) _ _ h6
                      · cases h3
                  · injection h3 with e1 e2; omega
            · injection h3 with e1 e2; omega
        · injection h with h1 h2; omega
      · exact leaf t p ht e q h
end Go.Proofs.YtfjmgccbpiolhaaGreatDoor
