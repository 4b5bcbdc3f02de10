import Derived.Test.YtfgfgcecbodjeaaGreatDoorM43
import Derived.Test.YtfgfgcecbodjeaaGreatDoorM27
import Derived.Test.YtfgfgcecbodjeaaGreatDoorM26
import Derived.Test.YtfgfgcecbodjeaaGreatDoorX0
namespace Go.Proofs.YtfgfgcecbodjeaaGreatDoor
open Go.RowKit Go.Shelf
set_option linter.unusedVariables false
set_option linter.unusedSimpArgs false

theorem unq_isR {l : List UInt8} : ∀ (n p : Nat) (acc : List Nat), l.length - p ≤ n → (∀ z ∈ acc, isR z) → (unqL l p acc).2.2 = 0 → ∀ z ∈ (unqL l p acc).1, isR z := by
  intro n
  induction n with
  | zero =>
    intro p acc hn ha h
    rw [unqL, dif_neg (by omega)] at h
    cases h
  | succ n ih =>
    intro p acc hn ha h
    by_cases hp : p < l.length
    · have hne : l.drop p ≠ [] := fun e => by have := congrArg List.length e; rw [List.length_drop] at this; simp at this; omega
      rw [unqL_step acc hp] at h ⊢
      split
      · exact ha
      · next h34 =>
        rw [if_neg h34] at h
        split
        · next h32 => rw [if_pos h32] at h; cases h
        · next h32 =>
          rw [if_neg h32] at h
          split
          · next hs => rw [if_pos hs] at h; cases h
          · next hs =>
            rw [if_neg hs] at h
            split
            · next h92 =>
              rw [if_pos h92] at h
              split
              · next he =>
                rw [if_pos he] at h
                obtain ⟨g1, g2, g3, _⟩ := escL_ok he
                rw [if_pos g1] at h ⊢
                refine ih _ _ (by omega) (fun z hz => ?_) h
                rcases List.mem_append.1 hz with hz | hz
                · exact ha z hz
                · rcases List.mem_singleton.1 hz with rfl; exact g3
              · next he =>
                rw [if_neg he] at h
                exact absurd h he
            · next h92 =>
              rw [if_neg h92] at h
              split
              · next h0 =>
                rw [if_pos h0] at h
                refine ih _ _ (by omega) (fun z hz => ?_) h
                rcases List.mem_append.1 hz with hz | hz
                · exact ha z hz
                · rcases List.mem_singleton.1 hz with rfl; exact decL_isR _ hne
              · next h0 =>
                intro z hz
                cases hz
    · rw [unqL, dif_neg hp] at h
      cases h
theorem dig_nm {c : UInt8} (h : Pl.isDig c = true) : cNm.contains c = true := by
  have h1 := all_dig [c]
  simp only [List.all_cons, List.all_nil, Bool.and_true] at h1
  rw [h] at h1
  have h2 : c ∈ cDg := by simpa using h1.symm
  have h3 : ∀ x ∈ cDg, cNm.contains x = true := by decide
  exact h3 c h2
theorem dig_dm {c : UInt8} (h : Pl.isDig c = true) : cDm.contains c = true := by
  have h1 := all_dig [c]
  simp only [List.all_cons, List.all_nil, Bool.and_true] at h1
  rw [h] at h1
  have h2 : c ∈ cDg := by simpa using h1.symm
  have h3 : ∀ x ∈ cDg, cDm.contains x = true := by decide
  exact h3 c h2
theorem toNat45 {c : UInt8} (h : c.toNat = 45) : c = 45 := UInt8.toNat_inj.1 h
/-- a numeral, as it is told -/
structure NumR (l : List UInt8) : Prop where
  ne : ∃ c r, l = c :: r ∧ cDm.contains c = true
  tok : numeralT l 0 = ⟨10, 0, l.length, l, 0⟩
theorem dropWhile_all {p : UInt8 → Bool} : ∀ l : List UInt8, (∀ c ∈ l, p c = true) → l.dropWhile p = []
  | [], _ => rfl
  | c :: r, h => by rw [List.dropWhile_cons, if_pos (h c List.mem_cons_self)]; exact dropWhile_all r (fun x hx => h x (List.mem_cons_of_mem _ hx))
theorem numR_of {l : List UInt8} (h : Pl.formed l = true) : NumR l := by
  have hh : l = [48] ∨ Pl.plainB (Pl.body l) = true := by
    unfold Pl.formed at h
    rcases Bool.or_eq_true _ _ ▸ h with h | h
    · exact .inl (by simpa using h)
    · exact .inr h
  have hfacts : (∃ c r, l = c :: r ∧ cDm.contains c = true) ∧ (∀ c ∈ l, cNm.contains c = true) ∧ l ≠ [45, 48] := by
    rcases hh with rfl | hp
    · exact ⟨⟨48, [], rfl, by decide⟩, by decide, by decide⟩
    · cases l with
      | nil => exact absurd hp (by decide)
      | cons c r =>
        unfold Pl.body at hp
        rw [Pl.neg_cons] at hp
        by_cases hc : c.toNat = 45
        · rw [if_pos (by simpa using hc)] at hp
          have e45 := toNat45 hc
          subst e45
          simp only [List.tail_cons] at hp
          cases r with
          | nil => exact absurd hp (by decide)
          | cons d r =>
            unfold Pl.plainB at hp
            rw [Bool.and_eq_true] at hp
            obtain ⟨h1, h2⟩ := hp
            rw [List.all_eq_true] at h2
            refine ⟨⟨45, d :: r, rfl, by decide⟩, ?_, ?_⟩
            · intro x hx
              rcases List.mem_cons.1 hx with rfl | hx
              · decide
              · exact dig_nm (h2 x hx)
            · intro e
              injection e with _ e
              injection e with e _
              subst e
              exact absurd h1 (by decide)
        · rw [if_neg (by simpa using hc)] at hp
          unfold Pl.plainB at hp
          rw [Bool.and_eq_true] at hp
          obtain ⟨h1, h2⟩ := hp
          rw [List.all_eq_true] at h2
          refine ⟨⟨c, r, rfl, dig_dm (h2 c List.mem_cons_self)⟩, fun x hx => dig_nm (h2 x hx), fun e => ?_⟩
          injection e with e _
          subst e
          exact hc (by decide)
  obtain ⟨hne, hall, h45⟩ := hfacts
  have hb : behL l 0 cNm = l.length := by
    unfold behL
    rw [List.drop_zero, dropWhile_all l hall]
    rfl
  have hc : cut l 0 l.length = l := by unfold cut; simp
  have hn : numT l = l := by unfold numT; rw [if_neg h45]
  refine ⟨hne, ?_⟩
  unfold numeralT
  rw [hb, hc, hn, if_pos h]
/-- what a token that is no fault says can be told again -/
structure TokOk (M : Nat) (t : Tok) : Prop where
  num : t.kind = 10 → NumR t.text
  txt_ : t.kind = 11 → okB t.text = true
  len : t.text.length ≤ M
theorem must_tokOk {l : List UInt8} {p q : Nat} {t : Tok} (h : mustL l p = .ok t q) : TokOk (4 * l.length) t := by
  have hlen := mustL_text h
  refine ⟨?_, ?_, hlen⟩
  all_goals
    intro hk
    unfold mustL at h
    split at h
    · split at h
      · next h1 h2 =>
        injection h with e1 e2
        subst e1
        unfold nextT at h2 hk ⊢
        split
        · next hc =>
          rw [if_pos hc] at hk
          exfalso
          have e : (1 + Lib.indexByte cMk (l.getD (behL l p cBl) 0)).toNat = mkN (l.getD (behL l p cBl) 0) := by unfold mkN; rw [if_pos hc]
          have h3 : mkN (l.getD (behL l p cBl) 0) ≤ 6 := by
            rw [mk_tab]
            repeat' split
            all_goals omega
          have hk' : (1 + Lib.indexByte cMk (l.getD (behL l p cBl) 0)).toNat = _ := hk
          omega
        · next hc =>
          rw [if_neg hc] at h2 hk
          split
          · next h34 =>
            rw [if_pos h34] at h2 hk
            unfold litT at h2 hk ⊢
            split
            · next h0 =>
              first
              | (rw [if_pos h0] at hk; exact absurd hk (by show ¬ 11 = 10; omega))
              | exact ok_txt _ (unq_isR _ _ [] (Nat.le_refl _) (fun z hz => by cases hz) h0)
            · next h0 => rw [if_neg h0] at h2; exact absurd h2 h0
          · next h34 =>
            rw [if_neg h34] at h2 hk
            split
            · next hl =>
              rw [if_pos hl] at h2 hk
              unfold wordT at hk
              exfalso
              repeat' split at hk
              all_goals (have hk' := hk; simp at hk')
            · next hl =>
              rw [if_neg hl] at h2 hk
              split
              · next hd =>
                rw [if_pos hd] at h2 hk
                unfold numeralT at h2 hk ⊢
                split
                · next h0 =>
                  first
                  | exact numR_of h0
                  | (rw [if_pos h0] at hk; exact absurd hk (by show ¬ 10 = 11; omega))
                · next h0 => rw [if_neg h0] at h2; cases h2
              · next hd => rw [if_neg hd] at h2; cases h2
      · cases h
    · cases h
def LeafR (M : Nat) (T : VT) : Prop := T.items = [] ∧ T.keys = [] ∧ ((0 ≤ T.kind ∧ T.kind ≤ 2 ∧ T.num = .empty ∧ T.text = .empty) ∨ (T.kind = 3 ∧ NumR T.num.data.toList ∧ T.num.size ≤ M ∧ T.text = .empty) ∨ (T.kind = 4 ∧ T.num = .empty ∧ okB T.text.data.toList = true ∧ T.text.size ≤ M))
def RisK : List ByteArray → Prop
  | [] => True
  | [_] => True
  | a :: b :: r => a.data.toList < b.data.toList ∧ RisK (b :: r)
def NodeR (M : Nat) (P : VT → Prop) (T : VT) : Prop := T.num = .empty ∧ T.text = .empty ∧ (∀ x ∈ T.items, P x) ∧ ((T.kind = 5 ∧ T.keys = []) ∨ (T.kind = 6 ∧ T.keys.length = T.items.length ∧ (∀ k ∈ T.keys, okB k.data.toList = true ∧ k.size ≤ M) ∧ RisK T.keys))
/-- well shaped, and no deeper than that -/
def Rt (M : Nat) : Nat → VT → Prop
  | 0, T => LeafR M T
  | d + 1, T => LeafR M T ∨ NodeR M (Rt M d) T
theorem loop_inv {σ : Type} {l : List UInt8} {cl : Nat} {pt : σ → Tok → Nat → Rd σ} {I : σ → Prop} (P : ∀ x t p y q, I x → TokOk (4 * l.length) t → pt x t p = .ok y q → I y) : ∀ (n : Nat) (x y : σ) (p q : Nat), I x → loopL l cl pt n x p = .ok y q → I y := by
  intro n
  induction n with
  | zero => intro x y p q _ h; cases h
  | succ n ih =>
    intro x y p q hI h
    rw [loopL] at h
    cases e1 : mustL l p with
    | bad e2 z => rw [e1] at h; cases h
    | ok t q1 =>
      rw [e1] at h
      dsimp only at h
      split at h
      · injection h with h1 h2; rw [← h1]; exact hI
      · split at h
        · cases e2 : mustL l q1 with
          | bad e3 z => rw [e2] at h; cases h
          | ok t2 q2 =>
            rw [e2] at h
            dsimp only at h
            cases e3 : pt x t2 q2 with
            | bad e4 z => rw [e3] at h; cases h
            | ok y2 q3 =>
              rw [e3] at h
              exact ih y2 y q3 q (P _ _ _ _ _ hI (must_tokOk e2) e3) h
        · cases h
theorem row_inv {σ : Type} {l : List UInt8} {cl : Nat} {pt : σ → Tok → Nat → Rd σ} {I : σ → Prop} (P : ∀ x t p y q, I x → TokOk (4 * l.length) t → pt x t p = .ok y q → I y) {x y : σ} {p q : Nat} (hI : I x) (h : rowL l cl pt x p = .ok y q) : I y := by
  unfold rowL at h
  cases e1 : mustL l p with
  | bad e2 z => rw [e1] at h; cases h
  | ok t q1 =>
    rw [e1] at h
    dsimp only at h
    split at h
    · injection h with h1 h2; rw [← h1]; exact hI
    · cases e3 : pt x t q1 with
      | bad e4 z => rw [e3] at h; cases h
      | ok y2 q3 =>
        rw [e3] at h
        exact loop_inv P _ y2 y q3 q (P _ _ _ _ _ hI (must_tokOk e1) e3) h
theorem risK_of : ∀ l : List (List UInt8 × VT), RisF l → RisK (l.map fun f => bT f.1)
  | [], _ => trivial
  | [_], _ => trivial
  | a :: b :: r, h => by
    obtain ⟨h1, h2⟩ := List.pairwise_cons.1 h
    exact ⟨by show (bT a.1).data.toList < (bT b.1).data.toList; simpa [bT] using h1 b List.mem_cons_self, risK_of (b :: r) h2⟩
theorem val_rt {l : List UInt8} : ∀ (f d : Nat) (t : Tok) (p : Nat) (T : VT) (q : Nat), TokOk (4 * l.length) t → valL l (obL l) f d t p = .ok T q → Rt (4 * l.length) f T := by
  have leaf : ∀ (t : Tok) (p : Nat) (T : VT) (q : Nat), TokOk (4 * l.length) t → leafL t p = .ok T q → LeafR (4 * l.length) T := by
    intro t p T q ht h
    unfold leafL at h
    split at h
    · injection h with h1 h2; subst h1; exact ⟨rfl, rfl, .inl ⟨by show (0 : Int) ≤ 0; omega, by show (0 : Int) ≤ 2; omega, rfl, rfl⟩⟩
    split at h
    · injection h with h1 h2; subst h1; exact ⟨rfl, rfl, .inl ⟨by show (0 : Int) ≤ 1; omega, by show (1 : Int) ≤ 2; omega, rfl, rfl⟩⟩
    split at h
    · injection h with h1 h2; subst h1; exact ⟨rfl, rfl, .inl ⟨by show (0 : Int) ≤ 2; omega, by show (2 : Int) ≤ 2; omega, rfl, rfl⟩⟩
    split at h
    · next hk =>
      injection h with h1 h2; subst h1
      have hn := ht.num hk
      have hl := ht.len
      exact ⟨rfl, rfl, .inr (.inl ⟨rfl, by show NumR (bT t.text).data.toList; simpa [bT] using hn, by show t.text.toArray.size ≤ _; simpa using hl, rfl⟩)⟩
    split at h
    · next hk =>
      injection h with h1 h2; subst h1
      have hn := ht.txt_ hk
      have hl := ht.len
      exact ⟨rfl, rfl, .inr (.inr ⟨rfl, rfl, by show okB (bT t.text).data.toList = true; simpa [bT] using hn, by show t.text.toArray.size ≤ _; simpa using hl⟩)⟩
    · cases h
  intro f
  induction f with
  | zero =>
    intro d t p T q ht h
    unfold valL valAt at h
    split at h
    · split at h <;> cases h
    · split at h
      · split at h <;> cases h
      · exact leaf t p T q ht h
  | succ f ih =>
    intro d t p T q ht h
    have ihv := ih (d + 1)
    unfold valL valAt at h
    generalize hvl : valL l (obL l) f (d + 1) = vl at ihv h
    split at h
    · split at h
      · unfold arrL at h
        cases hr : rowL l 4 (aPt vl) [] p with
        | bad e2 z => rw [hr] at h; cases h
        | ok xs q3 =>
          rw [hr] at h
          injection h with h1 h2
          subst h1
          have hI := row_inv (I := fun xs => ∀ x ∈ xs, Rt (4 * l.length) f x) (fun x t p y q hx ht hp => by
            unfold aPt at hp
            split at hp
            · next v q2 hv =>
              injection hp with e1 e2
              subst e1
              intro z hz
              rcases List.mem_append.1 hz with hz | hz
              · exact hx z hz
              · rcases List.mem_singleton.1 hz with rfl; exact ihv _ _ _ _ ht hv
            · cases hp) (fun x hx => by cases hx) hr
          exact .inr ⟨rfl, rfl, hI, .inl ⟨rfl, rfl⟩⟩
      · cases h
    · split at h
      · split at h
        · unfold obL at h
          cases hr : rowL l 2 (oPt l vl) [] p with
          | bad e2 z => rw [hr] at h; cases h
          | ok fs q3 =>
            rw [hr] at h
            injection h with h1 h2
            subst h1
            have hI := row_inv (I := fun fs => DisF fs ∧ ∀ g ∈ fs, okB g.1 = true ∧ g.1.length ≤ 4 * l.length ∧ Rt (4 * l.length) f g.2) (fun fs t p y q hx ht hp => by
              unfold oPt at hp
              split at hp
              · next hk =>
                split at hp
                · cases hp
                · next hany =>
                  split at hp
                  · cases hp
                  · split at hp
                    · split at hp
                      · cases hp
                      · next t2 p2 hm2 =>
                        split at hp
                        · cases hp
                        · next v p3 hv =>
                          injection hp with e1 e2
                          subst e1
                          refine ⟨List.pairwise_append.2 ⟨hx.1, List.pairwise_singleton _ _, fun a ha b hb => ?_⟩, fun g hg => ?_⟩
                          · rcases List.mem_singleton.1 hb with rfl
                            intro e
                            exact hany (List.any_eq_true.2 ⟨a, ha, by rw [e]; exact beq_self_eq_true _⟩)
                          · rcases List.mem_append.1 hg with hg | hg
                            · exact hx.2 g hg
                            · rcases List.mem_singleton.1 hg with rfl
                              exact ⟨ht.txt_ hk, ht.len, ihv _ _ _ _ (must_tokOk hm2) hv⟩
                    · cases hp
              · cases hp) ⟨List.Pairwise.nil, fun g hg => by cases hg⟩ hr
            refine .inr ⟨rfl, rfl, fun x hx => ?_, .inr ⟨rfl, ?_, fun k hk => ?_, risK_of _ (ris_objS hI.1)⟩⟩
            · obtain ⟨g, hg, rfl⟩ := List.mem_map.1 (show x ∈ (objS fs).map (·.2) from hx)
              exact (hI.2 g ((objS_perm fs).mem_iff.1 hg)).2.2
            · show ((objS fs).map fun f => bT f.1).length = ((objS fs).map (·.2)).length
              rw [List.length_map, List.length_map]
            · obtain ⟨g, hg, rfl⟩ := List.mem_map.1 (show k ∈ (objS fs).map (fun f => bT f.1) from hk)
              obtain ⟨a1, a2, _⟩ := hI.2 g ((objS_perm fs).mem_iff.1 hg)
              exact ⟨by show okB (bT g.1).data.toList = true; simpa [bT] using a1, by show g.1.toArray.size ≤ _; simpa using a2⟩
        · cases h
      · exact .inl (leaf t p T q ht h)
theorem each_rt {s : ByteArray} : ∀ (n : Nat) (xs : List VT) (p : Nat), (∀ x ∈ xs, Rt (4 * s.size) 64 x) → ∀ x ∈ (eachL s.data.toList (vL s) n xs p).1, Rt (4 * s.size) 64 x := by
  have hl : s.data.toList.length = s.size := size_lst s
  intro n
  induction n with
  | zero => intro xs p h; exact h
  | succ n ih =>
    intro xs p h
    unfold eachL
    cases hr : folL s.data.toList (vL s) p with
    | bad e q => exact h
    | ok o q =>
      cases o with
      | none => exact h
      | some T =>
        refine ih (xs ++ [T]) q (fun x hx => ?_)
        rcases List.mem_append.1 hx with hx | hx
        · exact h x hx
        · rcases List.mem_singleton.1 hx with rfl
          unfold folL at hr
          split at hr
          · next h1 =>
            split at hr
            · next h2 =>
              split at hr
              · next T2 q2 hv =>
                injection hr with e1 e2
                injection e1 with e1
                subst e1
                have hm : mustL s.data.toList p = .ok (nextT s.data.toList (behL s.data.toList p cBl)) (nextT s.data.toList (behL s.data.toList p cBl)).fin := by unfold mustL; rw [if_pos h1, if_pos h2]
                have := val_rt 64 1 _ _ _ _ (must_tokOk hm) hv
                rw [hl] at this
                exact this
              · cases hr
            · cases hr
          · injection hr with e1 e2
            cases e1
end Go.Proofs.YtfgfgcecbodjeaaGreatDoor
