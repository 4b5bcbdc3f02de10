import Derived.Test.YtcbngdkekdhfeaaGreatDoorM37
import Derived.Test.YtcbngdkekdhfeaaGreatDoorM34
namespace Go.Proofs.YtcbngdkekdhfeaaGreatDoor
open Go.RowKit Go.Shelf
set_option linter.unusedVariables false
set_option linter.unusedSimpArgs false

def RR {α : Type} (st : Prop) (Q E : Nat → Nat → Prop) (r1 r2 : Rd α) : Prop := match r1 with
  | .ok a q1 => ∃ q2, r2 = .ok a q2 ∧ Q q1 q2
  | .bad e x => st → ∃ y, r2 = .bad e y ∧ E x y
structure TK (st : Prop) (E : Nat → Nat → Prop) (t1 t2 : Tok) : Prop where
  kind : t2.kind = t1.kind
  text : t2.text = t1.text
  at_ : st → E t1.at_ t2.at_
def TR (st : Prop) (Q E : Nat → Nat → Prop) (r1 r2 : Rd Tok) : Prop := match r1 with
  | .ok t q1 => ∃ t2 q2, r2 = .ok t2 q2 ∧ TK st E t t2 ∧ Q q1 q2
  | .bad e x => st → ∃ y, r2 = .bad e y ∧ E x y
structure Sim (st : Prop) (l1 l2 : List UInt8) (Q E : Nat → Nat → Prop) : Prop where
  le : ∀ p1 p2, Q p1 p2 → p1 ≤ l1.length ∧ p2 ≤ l2.length
  mu : ∀ p1 p2, Q p1 p2 → TR st Q E (mustL l1 p1) (mustL l2 p2)
def PtR {σ : Type} (st : Prop) (Q E : Nat → Nat → Prop) (f1 f2 : σ → Tok → Nat → Rd σ) : Prop := ∀ x t1 t2 p1 p2, TK st E t1 t2 → Q p1 p2 → RR st Q E (f1 x t1 p1) (f2 x t2 p2)
def VlS (st : Prop) (Q E : Nat → Nat → Prop) (f1 f2 : Tok → Nat → Rd VT) : Prop := ∀ t1 t2 p1 p2, TK st E t1 t2 → Q p1 p2 → RR st Q E (f1 t1 p1) (f2 t2 p2)
theorem loop_sim {σ : Type} {st : Prop} {l1 l2 : List UInt8} {Q E : Nat → Nat → Prop} {cl : Nat} {f1 f2 : σ → Tok → Nat → Rd σ} (S : Sim st l1 l2 Q E) (up1 : ∀ x t p y q, p ≤ l1.length → f1 x t p = .ok y q → p ≤ q ∧ q ≤ l1.length) (up2 : ∀ x t p y q, p ≤ l2.length → f2 x t p = .ok y q → p ≤ q ∧ q ≤ l2.length) (P : PtR st Q E f1 f2) :
    ∀ (n m : Nat) (x : σ) (p1 p2 : Nat), Q p1 p2 → l1.length - p1 < n → l2.length - p2 < m → RR st Q E (loopL l1 cl f1 n x p1) (loopL l2 cl f2 m x p2) := by
  intro n
  induction n with
  | zero => intro m x p1 p2 _ h; omega
  | succ n ih =>
    intro m x p1 p2 hQ h1 h2
    obtain ⟨m, rfl⟩ : ∃ k, m = k + 1 := ⟨m - 1, by omega⟩
    obtain ⟨b1, b2⟩ := S.le _ _ hQ
    have hm := S.mu _ _ hQ
    rw [loopL, loopL]
    cases e1 : mustL l1 p1 with
    | bad e x =>
      rw [e1] at hm
      intro hs
      obtain ⟨y, h3, h4⟩ := hm hs
      rw [h3]
      exact ⟨y, rfl, h4⟩
    | ok t q1 =>
      rw [e1] at hm
      obtain ⟨t2, q2, h3, hT, hQ2⟩ := hm
      obtain ⟨u1, u2⟩ := mustL_up b1 e1
      obtain ⟨v1, v2⟩ := mustL_up b2 h3
      rw [h3]
      dsimp only
      rw [hT.kind]
      by_cases hc : t.kind = cl
      · rw [if_pos hc, if_pos hc]
        exact ⟨q2, rfl, hQ2⟩
      · rw [if_neg hc, if_neg hc]
        by_cases h6 : t.kind = 6
        · rw [if_pos h6, if_pos h6]
          have hm2 := S.mu _ _ hQ2
          cases e2 : mustL l1 q1 with
          | bad e x =>
            rw [e2] at hm2
            intro hs
            obtain ⟨y, h5, h6⟩ := hm2 hs
            rw [h5]
            exact ⟨y, rfl, h6⟩
          | ok t' q3 =>
            rw [e2] at hm2
            obtain ⟨t4, q4, h5, hT2, hQ4⟩ := hm2
            obtain ⟨u3, u4⟩ := mustL_up u2 e2
            obtain ⟨v3, v4⟩ := mustL_up v2 h5
            rw [h5]
            dsimp only
            have hp := P x t' t4 q3 q4 hT2 hQ4
            cases e3 : f1 x t' q3 with
            | bad e z =>
              rw [e3] at hp
              intro hs
              obtain ⟨y, h7, h8⟩ := hp hs
              rw [h7]
              exact ⟨y, rfl, h8⟩
            | ok y q5 =>
              rw [e3] at hp
              obtain ⟨q6, h7, hQ6⟩ := hp
              rw [h7]
              dsimp only
              obtain ⟨u5, u6⟩ := up1 _ _ _ _ _ u4 e3
              obtain ⟨v5, v6⟩ := up2 _ _ _ _ _ v4 h7
              exact ih m y q5 q6 hQ6 (by omega) (by omega)
        · rw [if_neg h6, if_neg h6]
          exact fun hs => ⟨_, rfl, hT.at_ hs⟩
theorem row_sim {σ : Type} {st : Prop} {l1 l2 : List UInt8} {Q E : Nat → Nat → Prop} {cl : Nat} {f1 f2 : σ → Tok → Nat → Rd σ} (S : Sim st l1 l2 Q E) (up1 : ∀ x t p y q, p ≤ l1.length → f1 x t p = .ok y q → p ≤ q ∧ q ≤ l1.length) (up2 : ∀ x t p y q, p ≤ l2.length → f2 x t p = .ok y q → p ≤ q ∧ q ≤ l2.length) (P : PtR st Q E f1 f2) (x : σ) (p1 p2 : Nat) (hQ : Q p1 p2) : RR st Q E (rowL l1 cl f1 x p1) (rowL l2 cl f2 x p2) := by
  have hm := S.mu _ _ hQ
  obtain ⟨b1, b2⟩ := S.le _ _ hQ
  unfold rowL
  cases e1 : mustL l1 p1 with
  | bad e x =>
    rw [e1] at hm
    intro hs
    obtain ⟨y, h3, h4⟩ := hm hs
    rw [h3]
    exact ⟨y, rfl, h4⟩
  | ok t q1 =>
    rw [e1] at hm
    obtain ⟨t2, q2, h3, hT, hQ2⟩ := hm
    obtain ⟨u1, u2⟩ := mustL_up b1 e1
    obtain ⟨v1, v2⟩ := mustL_up b2 h3
    rw [h3]
    dsimp only
    rw [hT.kind]
    by_cases hc : t.kind = cl
    · rw [if_pos hc, if_pos hc]
      exact ⟨q2, rfl, hQ2⟩
    · rw [if_neg hc, if_neg hc]
      have hp := P x t t2 q1 q2 hT hQ2
      cases e3 : f1 x t q1 with
      | bad e z =>
        rw [e3] at hp
        intro hs
        obtain ⟨y, h7, h8⟩ := hp hs
        rw [h7]
        exact ⟨y, rfl, h8⟩
      | ok y q5 =>
        rw [e3] at hp
        obtain ⟨q6, h7, hQ6⟩ := hp
        rw [h7]
        dsimp only
        exact loop_sim S up1 up2 P _ _ y q5 q6 hQ6 (by omega) (by omega)
theorem aPt_sim {st : Prop} {Q E : Nat → Nat → Prop} {v1 v2 : Tok → Nat → Rd VT} (V : VlS st Q E v1 v2) : PtR st Q E (aPt v1) (aPt v2) := by
  intro x t1 t2 p1 p2 hT hQ
  have h := V t1 t2 p1 p2 hT hQ
  unfold aPt
  cases e : v1 t1 p1 with
  | bad er z =>
    rw [e] at h
    intro hs
    obtain ⟨y, h7, h8⟩ := h hs
    rw [h7]
    exact ⟨y, rfl, h8⟩
  | ok T q =>
    rw [e] at h
    obtain ⟨q6, h7, hQ6⟩ := h
    rw [h7]
    exact ⟨q6, rfl, hQ6⟩
theorem oPt_sim {st : Prop} {l1 l2 : List UInt8} {Q E : Nat → Nat → Prop} {v1 v2 : Tok → Nat → Rd VT} (S : Sim st l1 l2 Q E) (V : VlS st Q E v1 v2) : PtR st Q E (oPt l1 v1) (oPt l2 v2) := by
  intro fs t1 t2 p1 p2 hT hQ
  unfold oPt
  rw [hT.kind, hT.text]
  by_cases hk : t1.kind = 11
  · rw [if_pos hk, if_pos hk]
    by_cases ha : (fs.any fun f => f.1 == t1.text) = true
    · rw [if_pos ha, if_pos ha]
      exact fun hs => ⟨_, rfl, hT.at_ hs⟩
    · rw [if_neg ha, if_neg ha]
      have hm := S.mu _ _ hQ
      cases e1 : mustL l1 p1 with
      | bad e x =>
        rw [e1] at hm
        intro hs
        obtain ⟨y, h3, h4⟩ := hm hs
        rw [h3]
        exact ⟨y, rfl, h4⟩
      | ok c q1 =>
        rw [e1] at hm
        obtain ⟨c2, q2, h3, hT2, hQ2⟩ := hm
        rw [h3]
        dsimp only
        rw [hT2.kind]
        by_cases h5 : c.kind = 5
        · rw [if_pos h5, if_pos h5]
          have hm2 := S.mu _ _ hQ2
          cases e2 : mustL l1 q1 with
          | bad e x =>
            rw [e2] at hm2
            intro hs
            obtain ⟨y, h3, h4⟩ := hm2 hs
            rw [h3]
            exact ⟨y, rfl, h4⟩
          | ok t' q3 =>
            rw [e2] at hm2
            obtain ⟨t4, q4, h6, hT4, hQ4⟩ := hm2
            rw [h6]
            dsimp only
            have hv := V t' t4 q3 q4 hT4 hQ4
            cases e3 : v1 t' q3 with
            | bad er z =>
              rw [e3] at hv
              intro hs
              obtain ⟨y, h7, h8⟩ := hv hs
              rw [h7]
              exact ⟨y, rfl, h8⟩
            | ok T q =>
              rw [e3] at hv
              obtain ⟨q6, h7, hQ6⟩ := hv
              rw [h7]
              exact ⟨q6, rfl, hQ6⟩
        · rw [if_neg h5, if_neg h5]
          exact fun hs => ⟨_, rfl, hT2.at_ hs⟩
  · rw [if_neg hk, if_neg hk]
    exact fun hs => ⟨_, rfl, hT.at_ hs⟩
theorem arr_sim {st : Prop} {s1 s2 : ByteArray} {Q E : Nat → Nat → Prop} {v1 v2 : Tok → Nat → Rd VT} (S : Sim st s1.data.toList s2.data.toList Q E) (U1 : ValUp s1 v1) (U2 : ValUp s2 v2) (V : VlS st Q E v1 v2) (p1 p2 : Nat) (hQ : Q p1 p2) : RR st Q E (arrL s1.data.toList v1 p1) (arrL s2.data.toList v2 p2) := by
  have a1 : ∀ x t p y q, p ≤ s1.data.toList.length → aPt v1 x t p = .ok y q → p ≤ q ∧ q ≤ s1.data.toList.length := fun x t p y q h1 h2 => by
    unfold aPt at h2
    split at h2
    · next h3 => injection h2 with e1 e2; subst e2; exact U1 _ _ _ _ h1 h3
    · cases h2
  have a2 : ∀ x t p y q, p ≤ s2.data.toList.length → aPt v2 x t p = .ok y q → p ≤ q ∧ q ≤ s2.data.toList.length := fun x t p y q h1 h2 => by
    unfold aPt at h2
    split at h2
    · next h3 => injection h2 with e1 e2; subst e2; exact U2 _ _ _ _ h1 h3
    · cases h2
  have h := row_sim (cl := 4) S a1 a2 (aPt_sim V) [] p1 p2 hQ
  unfold arrL
  cases e : rowL s1.data.toList 4 (aPt v1) [] p1 with
  | bad er z =>
    rw [e] at h
    intro hs
    obtain ⟨y, h7, h8⟩ := h hs
    rw [h7]
    exact ⟨y, rfl, h8⟩
  | ok T q =>
    rw [e] at h
    obtain ⟨q6, h7, hQ6⟩ := h
    rw [h7]
    exact ⟨q6, rfl, hQ6⟩
theorem ob_sim {st : Prop} {s1 s2 : ByteArray} {Q E : Nat → Nat → Prop} {v1 v2 : Tok → Nat → Rd VT} (S : Sim st s1.data.toList s2.data.toList Q E) (U1 : ValUp s1 v1) (U2 : ValUp s2 v2) (V : VlS st Q E v1 v2) (p1 p2 : Nat) (hQ : Q p1 p2) : RR st Q E (obL s1.data.toList v1 p1) (obL s2.data.toList v2 p2) := by
  have h := row_sim (cl := 2) S (fun x t p y q h1 h2 => oPt_up U1 h1 h2) (fun x t p y q h1 h2 => oPt_up U2 h1 h2) (oPt_sim S V) [] p1 p2 hQ
  unfold obL
  cases e : rowL s1.data.toList 2 (oPt s1.data.toList v1) [] p1 with
  | bad er z =>
    rw [e] at h
    intro hs
    obtain ⟨y, h7, h8⟩ := h hs
    rw [h7]
    exact ⟨y, rfl, h8⟩
  | ok T q =>
    rw [e] at h
    obtain ⟨q6, h7, hQ6⟩ := h
    rw [h7]
    exact ⟨q6, rfl, hQ6⟩
theorem leaf_sim {st : Prop} {Q E : Nat → Nat → Prop} (t1 t2 : Tok) (p1 p2 : Nat) (hT : TK st E t1 t2) (hQ : Q p1 p2) : RR st Q E (leafL t1 p1) (leafL t2 p2) := by
  unfold leafL
  rw [hT.kind, hT.text]
  by_cases h7 : t1.kind = 7
  · rw [if_pos h7, if_pos h7]; exact ⟨_, rfl, hQ⟩
  rw [if_neg h7, if_neg h7]
  by_cases h8 : t1.kind = 8
  · rw [if_pos h8, if_pos h8]; exact ⟨_, rfl, hQ⟩
  rw [if_neg h8, if_neg h8]
  by_cases h9 : t1.kind = 9
  · rw [if_pos h9, if_pos h9]; exact ⟨_, rfl, hQ⟩
  rw [if_neg h9, if_neg h9]
  by_cases h10 : t1.kind = 10
  · rw [if_pos h10, if_pos h10]; exact ⟨_, rfl, hQ⟩
  rw [if_neg h10, if_neg h10]
  by_cases h11 : t1.kind = 11
  · rw [if_pos h11, if_pos h11]; exact ⟨_, rfl, hQ⟩
  rw [if_neg h11, if_neg h11]
  exact fun hs => ⟨_, rfl, hT.at_ hs⟩
theorem valAt_sim {st : Prop} {Q E : Nat → Nat → Prop} {d : Nat} {a1 a2 o1 o2 : Rd VT} (t1 t2 : Tok) (p1 p2 : Nat) (hT : TK st E t1 t2) (hQ : Q p1 p2) (hA : d ≤ 64 → RR st Q E a1 a2) (hO : d ≤ 64 → RR st Q E o1 o2) : RR st Q E (valAt d a1 o1 t1 p1) (valAt d a2 o2 t2 p2) := by
  unfold valAt
  rw [hT.kind]
  by_cases h3 : t1.kind = 3
  · rw [if_pos h3, if_pos h3]
    by_cases hd : d ≤ 64
    · rw [if_pos hd, if_pos hd]; exact hA hd
    · rw [if_neg hd, if_neg hd]; exact fun hs => ⟨_, rfl, hT.at_ hs⟩
  rw [if_neg h3, if_neg h3]
  by_cases h1 : t1.kind = 1
  · rw [if_pos h1, if_pos h1]
    by_cases hd : d ≤ 64
    · rw [if_pos hd, if_pos hd]; exact hO hd
    · rw [if_neg hd, if_neg hd]; exact fun hs => ⟨_, rfl, hT.at_ hs⟩
  rw [if_neg h1, if_neg h1]
  exact leaf_sim t1 t2 p1 p2 hT hQ
theorem val_sim {st : Prop} {s1 s2 : ByteArray} (z1 : s1.size ≤ 16777216) (z2 : s2.size ≤ 16777216) {Q E : Nat → Nat → Prop} (S : Sim st s1.data.toList s2.data.toList Q E) : ∀ (f d : Nat), f + d = 65 → VlS st Q E (valL s1.data.toList (obL s1.data.toList) f d) (valL s2.data.toList (obL s2.data.toList) f d)
  | 0, d, hd => fun t1 t2 p1 p2 hT hQ => by
    unfold valL
    exact valAt_sim t1 t2 p1 p2 hT hQ (fun h => absurd h (by omega)) (fun h => absurd h (by omega))
  | f + 1, d, hd => fun t1 t2 p1 p2 hT hQ => by
    have V := val_sim z1 z2 S f (d + 1) (by omega)
    have U1 := valL_up (objOk z1 (3 + 1) (by omega)) f (d + 1)
    have U2 := valL_up (objOk z2 (3 + 1) (by omega)) f (d + 1)
    unfold valL
    exact valAt_sim t1 t2 p1 p2 hT hQ (fun _ => arr_sim S U1 U2 V p1 p2 hQ) (fun _ => ob_sim S U1 U2 V p1 p2 hQ)
theorem vL_sim {st : Prop} {s1 s2 : ByteArray} (z1 : s1.size ≤ 16777216) (z2 : s2.size ≤ 16777216) {Q E : Nat → Nat → Prop} (S : Sim st s1.data.toList s2.data.toList Q E) : VlS st Q E (vL s1) (vL s2) := val_sim z1 z2 S 64 1 rfl
theorem rd_sim {st : Prop} {s1 s2 : ByteArray} (z1 : s1.size ≤ 16777216) (z2 : s2.size ≤ 16777216) {Q E : Nat → Nat → Prop} (S : Sim st s1.data.toList s2.data.toList Q E) (p1 p2 : Nat) (hQ : Q p1 p2) : RR st Q E (rdL s1.data.toList (vL s1) p1) (rdL s2.data.toList (vL s2) p2) := by
  have hm := S.mu _ _ hQ
  unfold rdL
  cases e1 : mustL s1.data.toList p1 with
  | bad e x =>
    rw [e1] at hm
    intro hs
    obtain ⟨y, h3, h4⟩ := hm hs
    rw [h3]
    exact ⟨y, rfl, h4⟩
  | ok t q1 =>
    rw [e1] at hm
    obtain ⟨t2, q2, h3, hT, hQ2⟩ := hm
    rw [h3]
    exact vL_sim z1 z2 S t t2 q1 q2 hT hQ2
end Go.Proofs.YtcbngdkekdhfeaaGreatDoor
