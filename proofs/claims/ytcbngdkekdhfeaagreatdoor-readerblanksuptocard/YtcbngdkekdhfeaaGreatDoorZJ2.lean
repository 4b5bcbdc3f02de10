import Derived.Test.YtcbngdkekdhfeaaGreatDoorZJ1
import Derived.Test.YtcbngdkekdhfeaaGreatDoorZD18
namespace Go.Proofs.YtcbngdkekdhfeaaGreatDoor
open Go.RowKit Go.Shelf
set_option linter.unusedVariables false
set_option linter.unusedSimpArgs false

def NZ {α : Type} (r : Rd α) : Prop := ∀ e q, r = .bad e q → e ≠ 0
theorem must_nz (l : List UInt8) (p : Nat) : NZ (mustL l p) := by
  intro e q h
  unfold mustL at h
  split at h
  · split at h
    · cases h
    · next h1 => injection h with e1 e2; rw [← e1]; exact h1
  · injection h with e1 e2; omega
theorem loop_nz {σ : Type} {l : List UInt8} {cl : Nat} {pt : σ → Tok → Nat → Rd σ} (up : ∀ x t p y q, p ≤ l.length → pt x t p = .ok y q → p ≤ q ∧ q ≤ l.length) (P : ∀ x t p, p ≤ l.length → NZ (pt x t p)) : ∀ (n : Nat) (x : σ) (p : Nat), p ≤ l.length → l.length - p < n → NZ (loopL l cl pt n x p) := by
  intro n
  induction n with
  | zero => intro x p _ h; omega
  | succ n ih =>
    intro x p hp hn e q h
    rw [loopL] at h
    cases e1 : mustL l p with
    | bad e2 z => rw [e1] at h; injection h with h1 h2; rw [← h1]; exact must_nz l p _ _ e1
    | ok t q1 =>
      rw [e1] at h
      dsimp only at h
      obtain ⟨u1, u2⟩ := mustL_up hp e1
      split at h
      · cases h
      · split at h
        · cases e2 : mustL l q1 with
          | bad e3 z => rw [e2] at h; injection h with h1 h2; rw [← h1]; exact must_nz l q1 _ _ e2
          | ok t2 q2 =>
            rw [e2] at h
            dsimp only at h
            obtain ⟨u3, u4⟩ := mustL_up u2 e2
            cases e3 : pt x t2 q2 with
            | bad e4 z => rw [e3] at h; injection h with h1 h2; rw [← h1]; exact P x t2 q2 u4 _ _ e3
            | ok y q3 =>
              rw [e3] at h
              dsimp only at h
              obtain ⟨u5, u6⟩ := up _ _ _ _ _ u4 e3
              exact ih y q3 u6 (by omega) e q h
        · injection h with h1 h2; omega
theorem row_nz {σ : Type} {l : List UInt8} {cl : Nat} {pt : σ → Tok → Nat → Rd σ} (up : ∀ x t p y q, p ≤ l.length → pt x t p = .ok y q → p ≤ q ∧ q ≤ l.length) (P : ∀ x t p, p ≤ l.length → NZ (pt x t p)) (x : σ) (p : Nat) (hp : p ≤ l.length) : NZ (rowL l cl pt x p) := by
  intro e q h
  unfold rowL at h
  cases e1 : mustL l p with
  | bad e2 z => rw [e1] at h; injection h with h1 h2; rw [← h1]; exact must_nz l p _ _ e1
  | ok t q1 =>
    rw [e1] at h
    dsimp only at h
    obtain ⟨u1, u2⟩ := mustL_up hp e1
    split at h
    · cases h
    · cases e3 : pt x t q1 with
      | bad e4 z => rw [e3] at h; injection h with h1 h2; rw [← h1]; exact P x t q1 u2 _ _ e3
      | ok y q3 =>
        rw [e3] at h
        dsimp only at h
        obtain ⟨u5, u6⟩ := up _ _ _ _ _ u2 e3
        exact loop_nz up P _ y q3 u6 (by omega) e q h
theorem val_nz {s : ByteArray} (ss : s.size ≤ 16777216) : ∀ (f d : Nat), f + d = 65 → ∀ t p, p ≤ s.size → NZ (valL s.data.toList (obL s.data.toList) f d t p)
  | 0, d, hd => fun t p hp e q h => by
    unfold valL valAt leafL at h
    repeat' split at h
    all_goals first | (cases h; done) | (injection h with h1 h2; omega)
  | f + 1, d, hd => fun t p hp e q h => by
    have ih := val_nz ss f (d + 1) (by omega)
    have U := valL_up (objOk ss (3 + 1) (by omega)) f (d + 1)
    unfold valL valAt at h
    generalize hvl : valL s.data.toList (obL s.data.toList) f (d + 1) = vl at ih U h
    split at h
    · split at h
      · unfold arrL at h
        cases hr : rowL s.data.toList 4 (aPt vl) [] p with
        | ok y q3 => rw [hr] at h; cases h
        | bad e2 z =>
          rw [hr] at h
          injection h with h1 h2
          rw [← h1]
          refine row_nz (l := s.data.toList) ?_ ?_ [] p hp _ _ hr
          · intro x t p y q h1 h2
            unfold aPt at h2
            split at h2
            · next h3 => injection h2 with e1 e2; subst e2; exact U _ _ _ _ h1 h3
            · cases h2
          · intro x t p hp2 e3 q3 h3
            unfold aPt at h3
            split at h3
            · cases h3
            · next h4 => injection h3 with e1 e2; rw [← e1]; exact ih _ _ hp2 _ _ h4
      · injection h with h1 h2; omega
    · split at h
      · split at h
        · unfold obL at h
          cases hr : rowL s.data.toList 2 (oPt s.data.toList vl) [] p with
          | ok y q3 => rw [hr] at h; cases h
          | bad e2 z =>
            rw [hr] at h
            injection h with h1 h2
            rw [← h1]
            refine row_nz (l := s.data.toList) (fun x t p y q h1 h2 => oPt_up U h1 h2) ?_ [] p hp _ _ hr
            intro x t p hp2 e3 q3 h3
            unfold oPt at h3
            split at h3
            · split at h3
              · injection h3 with e1 e2; omega
              · split at h3
                · next h4 => injection h3 with e1 e2; rw [← e1]; exact must_nz _ _ _ _ h4
                · next c q4 h4 =>
                  obtain ⟨u1, u2⟩ := mustL_up (l := s.data.toList) hp2 h4
                  split at h3
                  · split at h3
                    · next h5 => injection h3 with e1 e2; rw [← e1]; exact must_nz _ _ _ _ h5
                    · next t2 q5 h5 =>
                      obtain ⟨u3, u4⟩ := mustL_up (l := s.data.toList) u2 h5
                      split at h3
                      · next h6 => injection h3 with e1 e2; rw [← e1]; exact ih _ _ u4 _ _ h6
                      · cases h3
                  · injection h3 with e1 e2; omega
            · injection h3 with e1 e2; omega
        · injection h with h1 h2; omega
      · unfold leafL at h
        repeat' split at h
        all_goals first | (cases h; done) | (injection h with h1 h2; omega)
theorem rd_nz {s : ByteArray} (ss : s.size ≤ 16777216) {p : Nat} (hp : p ≤ s.size) : NZ (rdL s.data.toList (vL s) p) := by
  intro e q h
  unfold rdL at h
  split at h
  · next h1 => injection h with e1 e2; rw [← e1]; exact must_nz _ _ _ _ h1
  · next t p1 h1 =>
    obtain ⟨u1, u2⟩ := mustL_up (l := s.data.toList) hp h1
    exact val_nz ss 64 1 rfl t p1 u2 e q h

theorem rd_up2 {s : ByteArray} (ss : s.size ≤ 16777216) {p q : Nat} {T : VT} (hp : p ≤ s.size) (h : rdL s.data.toList (vL s) p = .ok T q) : p < q ∧ q ≤ s.size := by
  unfold rdL at h
  split at h
  · cases h
  · next t p1 hm =>
    obtain ⟨a1, a2⟩ := mustL_up (l := s.data.toList) hp hm
    obtain ⟨b1, b2⟩ := vL_up ss _ _ _ _ a2 h
    omega

theorem blank_app2 {a b : List UInt8} {q : Nat} (hq : q ≤ a.length) : behL (a ++ 32 :: b) q cBl = if behL a q cBl < a.length then behL a q cBl else a.length + 1 + behL b 0 cBl := by
  have h1 := dropWhile_le (cBl.contains ·) (a.drop q)
  have h2 := dropWhile_le (cBl.contains ·) b
  rw [List.length_drop] at h1
  unfold behL
  rw [List.drop_append_of_le_length hq, List.dropWhile_append, List.drop_zero]
  cases hd : (a.drop q).dropWhile (cBl.contains ·) with
  | nil =>
    rw [hd] at h1
    rw [if_pos (show ([] : List UInt8).isEmpty = true from rfl), List.dropWhile_cons, if_pos (by decide), if_neg (by simp), List.length_append, List.length_cons]
    omega
  | cons c r =>
    rw [hd, List.length_cons] at h1
    rw [if_neg (show ¬ (c :: r).isEmpty = true by simp), if_pos (by rw [List.length_cons]; omega)]
    simp
    omega
theorem sim_left (a b : List UInt8) : Sim False a (a ++ 32 :: b) (fun p1 p2 => p2 = p1 ∧ p1 ≤ a.length) (fun _ _ => True) := by
  refine ⟨?_, ?_⟩
  · rintro p q ⟨rfl, h⟩
    exact ⟨h, by rw [List.length_append]; omega⟩
  · rintro p q ⟨rfl, hp⟩
    by_cases h1 : behL a q cBl < a.length
    · by_cases h2 : (nextT a (behL a q cBl)).err = 0
      · have e1 : mustL a q = .ok (nextT a (behL a q cBl)) (nextT a (behL a q cBl)).fin := by unfold mustL; rw [if_pos h1, if_pos h2]
        have hb := blank_app2 (b := b) hp
        rw [if_pos h1] at hb
        have hn := nextT_app2 (b := b) h1 h2
        have e2 : mustL (a ++ 32 :: b) q = .ok (nextT a (behL a q cBl)) (nextT a (behL a q cBl)).fin := by
          unfold mustL
          rw [hb, hn, if_pos (by rw [List.length_append]; omega), if_pos h2]
        obtain ⟨u1, u2⟩ := mustL_up hp e1
        rw [e1, e2]
        exact ⟨_, _, rfl, ⟨rfl, rfl, fun h => h.elim⟩, rfl, u2⟩
      · have e1 : mustL a q = .bad (nextT a (behL a q cBl)).err (nextT a (behL a q cBl)).at_ := by unfold mustL; rw [if_pos h1, if_neg h2]
        rw [e1]
        exact fun h => h.elim
    · have e1 : mustL a q = .bad 50 a.length := by unfold mustL; rw [if_neg h1]
      rw [e1]
      exact fun h => h.elim
theorem sim_right (x b : List UInt8) : Sim True b (x ++ b) (fun p1 p2 => p2 = x.length + p1 ∧ p1 ≤ b.length) (fun e1 e2 => e2 = x.length + e1) := by
  refine ⟨?_, ?_⟩
  · rintro p q ⟨rfl, h⟩
    exact ⟨h, by rw [List.length_append]; omega⟩
  · rintro p q ⟨rfl, hp⟩
    have hb := behL_pre (x := x) (b := b) (p := p) (cs := cBl) hp
    by_cases h1 : behL b p cBl < b.length
    · have hn := nextT_pre (x := x) h1
      by_cases h2 : (nextT b (behL b p cBl)).err = 0
      · have e1 : mustL b p = .ok (nextT b (behL b p cBl)) (nextT b (behL b p cBl)).fin := by unfold mustL; rw [if_pos h1, if_pos h2]
        obtain ⟨u1, u2⟩ := mustL_up hp e1
        have e2 : mustL (x ++ b) (x.length + p) = .ok (shiftT x.length (nextT b (behL b p cBl))) (x.length + (nextT b (behL b p cBl)).fin) := by
          unfold mustL
          rw [hb, hn, if_pos (by rw [List.length_append]; omega), shiftT_err, if_pos h2]
          unfold shiftT
          rw [if_pos h2]
        rw [e1, e2]
        refine ⟨_, _, rfl, ?_, rfl, u2⟩
        unfold shiftT
        rw [if_pos h2]
        exact ⟨rfl, rfl, fun _ => rfl⟩
      · have e1 : mustL b p = .bad (nextT b (behL b p cBl)).err (nextT b (behL b p cBl)).at_ := by unfold mustL; rw [if_pos h1, if_neg h2]
        have e2 : mustL (x ++ b) (x.length + p) = .bad (nextT b (behL b p cBl)).err (x.length + (nextT b (behL b p cBl)).at_) := by
          unfold mustL
          rw [hb, hn, if_pos (by rw [List.length_append]; omega), shiftT_err, if_neg h2]
          unfold shiftT
          rw [if_neg h2]
        rw [e1, e2]
        exact fun _ => ⟨_, rfl, rfl⟩
    · have e1 : mustL b p = .bad 50 b.length := by unfold mustL; rw [if_neg h1]
      have e2 : mustL (x ++ b) (x.length + p) = .bad 50 (x.length + b.length) := by
        unfold mustL
        rw [hb, if_neg (by rw [List.length_append]; omega), List.length_append]
      rw [e1, e2]
      exact fun _ => ⟨_, rfl, rfl⟩
theorem fol_rd (l : List UInt8) (vl : Tok → Nat → Rd VT) (p : Nat) : folL l vl p = if behL l p cBl < l.length then (match rdL l vl p with
    | .ok T q => .ok (some T) q
    | .bad e q => .bad e q) else .ok none p := by
  unfold folL rdL mustL
  by_cases h1 : behL l p cBl < l.length
  · rw [if_pos h1, if_pos h1, if_pos h1]
    by_cases h2 : (nextT l (behL l p cBl)).err = 0
    · rw [if_pos h2, if_pos h2]; (try rfl)
    · rw [if_neg h2, if_neg h2]; (try rfl)
  · rw [if_neg h1, if_neg h1]; (try rfl)
theorem rd_same {l : List UInt8} {vl : Tok → Nat → Rd VT} {p p' : Nat} (h : behL l p cBl = behL l p' cBl) : rdL l vl p = rdL l vl p' := by unfold rdL mustL; rw [h]
theorem each_same {l : List UInt8} {vl : Tok → Nat → Rd VT} {p p' : Nat} (h : behL l p cBl = behL l p' cBl) (m : Nat) (xs : List VT) : eachL l vl (m + 1) xs p = eachL l vl (m + 1) xs p' := by
  unfold eachL
  rw [fol_rd, fol_rd, h, rd_same h]
  by_cases h1 : behL l p' cBl < l.length
  · rw [if_pos h1, if_pos h1]
  · rw [if_neg h1, if_neg h1]
theorem each_acc (l : List UInt8) (vl : Tok → Nat → Rd VT) : ∀ (f : Nat) (xs : List VT) (p : Nat), eachL l vl f xs p = (xs ++ (eachL l vl f [] p).1, (eachL l vl f [] p).2)
  | 0, xs, p => by unfold eachL; rw [List.append_nil]
  | f + 1, xs, p => by
    unfold eachL
    cases h : folL l vl p with
    | bad e q => dsimp only; rw [List.append_nil]
    | ok o q =>
      cases o with
      | none => dsimp only; rw [List.append_nil]
      | some T =>
        dsimp only
        rw [each_acc l vl f (xs ++ [T]) q, each_acc l vl f ([] ++ [T]) q]
        simp
theorem each_right (x : List UInt8) (b t : ByteArray) (ht : t.data.toList = x ++ b.data.toList) (zb : b.size ≤ 16777216) (zt : t.size ≤ 16777216) : ∀ (n m : Nat) (xs : List VT) (p : Nat), p ≤ b.size → b.size - p < n → b.size - p < m → (eachL t.data.toList (vL t) m xs (x.length + p)).1 = (eachL b.data.toList (vL b) n xs p).1 ∧ (eachL t.data.toList (vL t) m xs (x.length + p)).2.1 = (eachL b.data.toList (vL b) n xs p).2.1 := by
  have lb : b.data.toList.length = b.size := size_lst b
  have S : Sim True b.data.toList t.data.toList (fun p1 p2 => p2 = x.length + p1 ∧ p1 ≤ b.data.toList.length) (fun e1 e2 => e2 = x.length + e1) := by rw [ht]; exact sim_right x b.data.toList
  intro n
  induction n with
  | zero => intro m xs p _ h; omega
  | succ n ih =>
    intro m xs p hp h1 h2
    obtain ⟨m, rfl⟩ : ∃ k, m = k + 1 := ⟨m - 1, by omega⟩
    unfold eachL
    rw [fol_rd, fol_rd]
    have hb : behL t.data.toList (x.length + p) cBl = x.length + behL b.data.toList p cBl := by rw [ht]; exact behL_pre (by omega)
    have hr := rd_sim zb zt S p (x.length + p) ⟨rfl, by omega⟩
    have hlt : (behL t.data.toList (x.length + p) cBl < t.data.toList.length) ↔ behL b.data.toList p cBl < b.data.toList.length := by rw [hb, ht, List.length_append]; omega
    by_cases h3 : behL b.data.toList p cBl < b.data.toList.length
    · rw [if_pos h3, if_pos (hlt.2 h3)]
      cases e1 : rdL b.data.toList (vL b) p with
      | bad e z =>
        rw [e1] at hr
        obtain ⟨y, h4, h5⟩ := hr trivial
        rw [h4]
        exact ⟨rfl, rfl⟩
      | ok T q =>
        rw [e1] at hr
        obtain ⟨q2, h4, rfl, h6⟩ := hr
        rw [h4]
        dsimp only
        have hu := rd_up2 zb hp e1
        exact ih m (xs ++ [T]) q (by omega) (by omega) (by omega)
    · rw [if_neg h3, if_neg (fun h => h3 (hlt.1 h))]
      exact ⟨rfl, rfl⟩
theorem each_left (a t : ByteArray) (b : List UInt8) (ht : t.data.toList = a.data.toList ++ 32 :: b) (za : a.size ≤ 16777216) (zt : t.size ≤ 16777216) : ∀ (n m : Nat) (xs ys : List VT) (p z : Nat), p ≤ a.size → a.size - p < n → t.size - p < m → eachL a.data.toList (vL a) n xs p = (ys, 0, z) → ∃ m', b.length < m' ∧ eachL t.data.toList (vL t) m xs p = eachL t.data.toList (vL t) m' ys (a.size + 1) := by
  have la : a.data.toList.length = a.size := size_lst a
  have lt : t.data.toList.length = t.size := size_lst t
  have lab : t.size = a.size + 1 + b.length := by rw [← lt, ht, List.length_append, List.length_cons, la]; omega
  have S : Sim False a.data.toList t.data.toList (fun p1 p2 => p2 = p1 ∧ p1 ≤ a.data.toList.length) (fun _ _ => True) := by rw [ht]; exact sim_left a.data.toList b
  intro n
  induction n with
  | zero => intro m xs ys p z _ h; omega
  | succ n ih =>
    intro m xs ys p z hp h1 h2 he
    obtain ⟨m, rfl⟩ : ∃ k, m = k + 1 := ⟨m - 1, by omega⟩
    have hb : behL t.data.toList p cBl = if behL a.data.toList p cBl < a.data.toList.length then behL a.data.toList p cBl else a.data.toList.length + 1 + behL b 0 cBl := by rw [ht]; exact blank_app2 (by omega)
    have hr := rd_sim za zt S p p ⟨rfl, by omega⟩
    unfold eachL at he
    rw [fol_rd] at he
    by_cases h3 : behL a.data.toList p cBl < a.data.toList.length
    · rw [if_pos h3] at he hb
      cases e1 : rdL a.data.toList (vL a) p with
      | bad e w =>
        rw [e1] at he
        dsimp only at he
        injection he with h4 h5
        injection h5 with h6 h7
        exact absurd h6 (rd_nz za hp e w e1)
      | ok T q =>
        rw [e1] at hr he
        obtain ⟨q2, h4, rfl, h6⟩ := hr
        dsimp only at he
        have hu := rd_up2 za hp e1
        obtain ⟨m', h7, h8⟩ := ih m (xs ++ [T]) ys q2 z hu.2 (by omega) (by omega) he
        refine ⟨m', h7, ?_⟩
        rw [← h8]
        conv => lhs; unfold eachL
        rw [fol_rd, if_pos (by rw [hb, lt, lab]; omega), h4]
        (try rfl)
    · rw [if_neg h3] at he hb
      dsimp only at he
      injection he with h4 h5
      subst h4
      refine ⟨m + 1, by omega, each_same ?_ m xs⟩
      rw [hb, ht]
      have := behL_pre (x := a.data.toList ++ [32]) (b := b) (p := 0) (cs := cBl) (Nat.zero_le _)
      rw [List.length_append, List.append_assoc, Nat.add_zero, la] at this
      rw [show a.data.toList ++ 32 :: b = a.data.toList ++ ([32] ++ b) from rfl, la]
      exact this.symm
theorem each_join (a b t : ByteArray) (ht : t.data.toList = a.data.toList ++ 32 :: b.data.toList) (za : a.size ≤ 16777216) (zb : b.size ≤ 16777216) (zt : t.size ≤ 16777216) {xa xb : List VT} {qa qb : Nat} (ha : eachL a.data.toList (vL a) (a.size + 1) [] 0 = (xa, 0, qa)) (hb : eachL b.data.toList (vL b) (b.size + 1) [] 0 = (xb, 0, qb)) : (eachL t.data.toList (vL t) (t.size + 1) [] 0).1 = xa ++ xb ∧ (eachL t.data.toList (vL t) (t.size + 1) [] 0).2.1 = 0 := by
  have lb : b.data.toList.length = b.size := size_lst b
  have la : a.data.toList.length = a.size := size_lst a
  obtain ⟨m', h1, h2⟩ := each_left a t b.data.toList ht za zt (a.size + 1) (t.size + 1) [] xa 0 qa (Nat.zero_le _) (by omega) (by omega) ha
  have hr := each_right (a.data.toList ++ [32]) b t (by rw [ht, List.append_assoc]; rfl) zb zt (b.size + 1) m' xa 0 (Nat.zero_le _) (by omega) (by omega)
  have e : (a.data.toList ++ [32]).length + 0 = a.size + 1 := by rw [List.length_append, la]; rfl
  rw [e, ← h2, each_acc b.data.toList (vL b) (b.size + 1) xa 0, hb] at hr
  exact hr
theorem only_each (a : ByteArray) (za : a.size ≤ 16777216) {xa : List VT} {qa : Nat} (ha : eachL a.data.toList (vL a) (a.size + 1) [] 0 = (xa, 0, qa)) : (∃ T q, xa = [T] ∧ onlL a.data.toList (vL a) 0 = .ok T q) ∨ (xa.length ≠ 1 ∧ ∃ e q, e ≠ 0 ∧ onlL a.data.toList (vL a) 0 = .bad e q) := by
  have la : a.data.toList.length = a.size := size_lst a
  have hon : onlL a.data.toList (vL a) 0 = match rdL a.data.toList (vL a) 0 with
      | .bad e q => .bad e q
      | .ok T q => endL a.data.toList T q := by
    unfold onlL rdL
    cases mustL a.data.toList 0 with
    | bad e q => rfl
    | ok t p => rfl
  unfold eachL at ha
  rw [fol_rd] at ha
  rw [hon]
  by_cases h1 : behL a.data.toList 0 cBl < a.data.toList.length
  · rw [if_pos h1] at ha
    cases e1 : rdL a.data.toList (vL a) 0 with
    | bad e w =>
      rw [e1] at ha
      dsimp only at ha
      injection ha with h4 h5
      injection h5 with h6 h7
      exact absurd h6 (rd_nz za (Nat.zero_le _) e w e1)
    | ok T q =>
      rw [e1] at ha
      dsimp only at ha ⊢
      have hu := rd_up2 za (Nat.zero_le _) e1
      obtain ⟨n, hn⟩ : ∃ n, a.size = n + 1 := ⟨a.size - 1, by omega⟩
      rw [hn] at ha
      unfold eachL at ha
      rw [fol_rd] at ha
      unfold endL
      by_cases h2 : behL a.data.toList q cBl < a.data.toList.length
      · rw [if_pos h2] at ha ⊢
        cases e2 : rdL a.data.toList (vL a) q with
        | bad e w =>
          rw [e2] at ha
          dsimp only at ha
          injection ha with h4 h5
          injection h5 with h6 h7
          exact absurd h6 (rd_nz za hu.2 e w e2)
        | ok T2 q2 =>
          rw [e2] at ha
          dsimp only at ha
          rw [each_acc] at ha
          injection ha with h4 h5
          have herr : (nextT a.data.toList (behL a.data.toList q cBl)).err = 0 := by
            refine Decidable.byContradiction fun h => ?_
            unfold rdL mustL at e2
            rw [if_pos h2, if_neg h] at e2
            cases e2
          rw [if_pos herr]
          refine .inr ⟨?_, 54, _, by omega, rfl⟩
          rw [← h4]
          simp
      · rw [if_neg h2] at ha ⊢
        dsimp only at ha
        injection ha with h4 h5
        exact .inl ⟨T, q, h4.symm, rfl⟩
  · rw [if_neg h1] at ha
    dsimp only at ha
    injection ha with h4 h5
    have e1 : rdL a.data.toList (vL a) 0 = .bad 50 a.data.toList.length := by unfold rdL mustL; rw [if_neg h1]
    rw [e1]
    exact .inr ⟨by rw [← h4]; decide, 50, _, by omega, rfl⟩
end Go.Proofs.YtcbngdkekdhfeaaGreatDoor
