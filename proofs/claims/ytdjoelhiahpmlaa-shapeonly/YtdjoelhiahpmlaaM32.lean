import Derived.Test.YtdjoelhiahpmlaaM20
import Derived.Test.YtdjoelhiahpmlaaM29
import Derived.Test.YtdjoelhiahpmlaaM24
namespace Go.Proofs.Ytdjoelhiahpmlaa
open Go.RowKit
set_option linter.unusedVariables false
set_option linter.unusedSimpArgs false

/-- two bools in order -/
def setC (a b : Bool) : Int := if a = b then 0 else if b then -1 else 1
/-- a number without sign -/
def uiN (a : Int) : Int := a % 18446744073709551616
def maxC (a b : Int) : Int := Pl.cmpI (uiN a) (uiN b)
/-- two bounds of one end -/
def bdC (a b : ByteArray) (en : Int) : Int := if eqS a b then 0 else if a.toList.isEmpty then en else if b.toList.isEmpty then -en else Pl.cmpN a.data.toList b.data.toList
def spC (p q : ByteArray × ByteArray) : Int := Pl.orI (bdC p.1 q.1 (-1)) (bdC p.2 q.2 1)
def arC (f : TT → TT → Int) (a b : AR) : Int := Pl.orI (Pl.orI (Pl.cmpI a.min b.min) (maxC a.max b.max)) (f a.item b.item)
def obC (f : TT → TT → Int) (a b : OB) : Int := Pl.orI (Pl.orI (listC keyC a.names b.names) (listC setC a.must b.must)) (Pl.orI (listC f a.fields b.fields) (f a.rest b.rest))
def flC (A B : TT) : Int := Pl.orI (setC A.all B.all) (Pl.orI (setC A.nul B.nul) (Pl.orI (setC A.fls B.fls) (setC A.tru B.tru)))
/-- two types in order -/
def cmpTy : Nat → TT → TT → Int
  | 0, _, _ => 0
  | h + 1, A, B => Pl.orI (flC A B) (Pl.orI (listC spC A.nums B.nums) (Pl.orI (setC A.any B.any) (Pl.orI (listC keyC A.texts B.texts) (Pl.orI (listC (arC (cmpTy h)) A.arrs B.arrs) (listC (obC (cmpTy h)) A.objs B.objs)))))

/-- a bound as it must be -/
def bdk (s : ByteArray) : Prop := s.size = 0 ∨ Pl.formed s.data.toList = true
/-- the numbers of items are an int's -/
def rgT : Nat → TT → Prop
  | 0, _ => True
  | h + 1, T => (∀ a ∈ T.arrs, (-9223372036854775808 ≤ a.min ∧ a.min < 9223372036854775808) ∧ (-9223372036854775808 ≤ a.max ∧ a.max < 9223372036854775808) ∧ rgT h a.item) ∧ ∀ o ∈ T.objs, (∀ f ∈ o.fields, rgT h f) ∧ rgT h o.rest
/-- what of a type its order asks -/
def goodT : Nat → TT → Prop
  | 0, _ => False
  | h + 1, T => (∀ p ∈ T.nums, bdk p.1 ∧ bdk p.2) ∧ (∀ a ∈ T.arrs, (-1 ≤ a.max ∧ a.max < 9223372036854775808) ∧ goodT h a.item) ∧ ∀ o ∈ T.objs, (o.names.length = o.fields.length ∧ o.names.length = o.must.length) ∧ (∀ f ∈ o.fields, goodT h f) ∧ goodT h o.rest

theorem bdk_of {s : ByteArray} (h : bndB s = true) : bdk s := by
  unfold bndB at h
  rw [Bool.or_eq_true, beq_iff_eq] at h
  exact h
theorem good_of : ∀ {h : Nat} {T : TT}, fmN h T = true → rgT h T → goodT h T
  | 0, _, h, _ => by cases h
  | h + 1, T, hf, hr => by
    unfold fmN at hf
    simp only [Bool.and_eq_true] at hf
    obtain ⟨_, _, _, hn, ha, ho⟩ := hf
    refine ⟨fun p hp => ?_, fun a hm => ?_, fun o hm => ?_⟩
    · match hT : T.nums, hn, hp with
      | [q], hn, hp =>
        obtain rfl := List.mem_singleton.1 hp
        have hq : spOk p = true := hn
        unfold spOk at hq
        simp only [Bool.and_eq_true] at hq
        exact ⟨bdk_of hq.1, bdk_of hq.2.1⟩
    · have hra := hr.1 a hm
      match hT : T.arrs, ha, hm with
      | [q], ha, hm =>
        obtain rfl := List.mem_singleton.1 hm
        have hq : arOk (fmN h) a = true := ha
        unfold arOk at hq
        simp only [Bool.and_eq_true, Bool.not_eq_true', Bool.or_eq_false_iff, decide_eq_false_iff_not] at hq
        exact ⟨⟨by omega, hra.2.1.2⟩, good_of hq.2.1 hra.2.2⟩
    · have hro := hr.2 o hm
      have hq := List.all_eq_true.1 ho o hm
      unfold obOk at hq
      simp only [Bool.and_eq_true, decide_eq_true_eq] at hq
      obtain ⟨h1, h2, _, h3, h4⟩ := hq
      refine ⟨⟨h1, h2⟩, fun f hfm => ?_, good_of h3 hro.2⟩
      obtain ⟨i, hi, rfl⟩ := List.getElem_of_mem hfm
      have hi2 : i < o.must.length := by omega
      have hz : i < (o.fields.zip o.must).length := by rw [List.length_zip]; omega
      have := List.all_eq_true.1 h4 _ (List.getElem_mem hz)
      rw [List.getElem_zip] at this
      unfold fdOk at this
      rw [Bool.and_eq_true] at this
      exact good_of this.1 (hro.1 _ hfm)

theorem setC_ord : Ord (fun _ : Bool => True) setC :=
  ⟨fun x y _ _ => by cases x <;> cases y <;> decide, fun x y _ _ => by cases x <;> cases y <;> decide, fun x y _ _ => by cases x <;> cases y <;> decide, fun x y z _ _ _ => by cases x <;> cases y <;> cases z <;> decide⟩
theorem cmpI_ord : Ord (fun _ : Int => True) Pl.cmpI := by
  refine ⟨fun x y _ _ => ?_, fun x y _ _ => ?_, fun x y _ _ h => ?_, fun x y z _ _ _ h1 h2 => ?_⟩
  all_goals unfold Pl.cmpI at *
  · repeat' split
    all_goals omega
  · repeat' split
    all_goals omega
  · repeat' split at h
    all_goals omega
  · repeat' split at h1
    all_goals repeat' split at h2
    all_goals repeat' split
    all_goals omega
theorem maxC_ord : Ord (fun a : Int => -1 ≤ a ∧ a < 9223372036854775808) maxC := by
  have inj : ∀ a b : Int, -1 ≤ a ∧ a < 9223372036854775808 → -1 ≤ b ∧ b < 9223372036854775808 → uiN a = uiN b → a = b := fun a b ha hb h => by unfold uiN at h; omega
  refine ⟨fun x y _ _ => cmpI_ord.bd _ _ trivial trivial, fun x y _ _ => cmpI_ord.sw _ _ trivial trivial, fun x y hx hy h => inj x y hx hy (cmpI_ord.zr _ _ trivial trivial h), fun x y z _ _ _ h1 h2 => cmpI_ord.tr _ _ _ trivial trivial trivial h1 h2⟩
theorem emp_size (s : ByteArray) : s.toList.isEmpty = decide (s.size = 0) := by
  rw [Lib.toList_data, Bool.eq_iff_iff, List.isEmpty_iff, decide_eq_true_eq]
  constructor
  · intro h; show s.data.size = 0; rw [← Array.length_toList, h]; rfl
  · intro h; exact List.eq_nil_of_length_eq_zero (by rw [Array.length_toList]; exact h)
theorem eqS_iff (a b : ByteArray) : eqS a b = true ↔ a = b := by
  unfold eqS
  rw [beq_iff_eq, Lib.toList_data, Lib.toList_data]
  exact ⟨fun h => Pl.eq_of_toList h, fun h => by rw [h]⟩
theorem size0_eq {a b : ByteArray} (ha : a.size = 0) (hb : b.size = 0) : a = b := by
  have h : ∀ s : ByteArray, s.size = 0 → s.data.toList = [] := fun s h => List.eq_nil_of_length_eq_zero (by rw [Array.length_toList]; exact h)
  exact Pl.eq_of_toList (by rw [h a ha, h b hb])
theorem bdC_is {a b : ByteArray} (en : Int) (ha : bdk a) (hb : bdk b) : bdC a b en = if a.size = 0 then (if b.size = 0 then 0 else en) else if b.size = 0 then -en else numC a b := by
  unfold bdC
  rw [emp_size, emp_size]
  by_cases h : eqS a b = true
  · rw [if_pos h]
    obtain rfl := (eqS_iff a b).1 h
    by_cases h0 : a.size = 0
    · rw [if_pos h0, if_pos h0]
    · rw [if_neg h0, if_neg h0]
      exact (numC_ord.rf (ha.resolve_left h0)).symm
  · rw [if_neg h]
    by_cases h0 : a.size = 0
    · by_cases h1 : b.size = 0
      · exact absurd ((eqS_iff a b).2 (size0_eq h0 h1)) h
      · simp [h0, h1]
    · by_cases h1 : b.size = 0
      · simp [h0, h1]
      · simp [h0, h1]; rfl
theorem bdC_ord (en : Int) (he : en = -1 ∨ en = 1) : Ord bdk (fun a b => bdC a b en) := by
  refine ⟨fun x y hx hy => ?_, fun x y hx hy => ?_, fun x y hx hy h => ?_, fun x y z hx hy hz h1 h2 => ?_⟩
  · show -1 ≤ bdC x y en ∧ bdC x y en ≤ 1
    rw [bdC_is en hx hy]
    have := Pl.cmpN_bd x.data.toList y.data.toList
    unfold numC
    repeat' split
    all_goals omega
  · show bdC y x en = - bdC x y en
    rw [bdC_is en hx hy, bdC_is en hy hx]
    by_cases h0 : x.size = 0 <;> by_cases h1 : y.size = 0
    · simp [h0, h1]
    · simp [h0, h1]
    · simp [h0, h1]
    · simp only [h0, h1, if_false]
      exact numC_ord.sw _ _ (hx.resolve_left h0) (hy.resolve_left h1)
  · have h' : bdC x y en = 0 := h
    rw [bdC_is en hx hy] at h'
    by_cases h0 : x.size = 0 <;> by_cases h1 : y.size = 0
    · exact size0_eq h0 h1
    · simp only [h0, h1, if_true, if_false] at h'; omega
    · simp only [h0, h1, if_true, if_false] at h'; omega
    · simp only [h0, h1, if_false] at h'
      exact numC_ord.zr _ _ (hx.resolve_left h0) (hy.resolve_left h1) h'
  · have h1' : bdC x y en ≤ 0 := h1
    have h2' : bdC y z en ≤ 0 := h2
    show bdC x z en ≤ 0
    rw [bdC_is en hx hy] at h1'
    rw [bdC_is en hy hz] at h2'
    rw [bdC_is en hx hz]
    by_cases a : x.size = 0 <;> by_cases b : y.size = 0 <;> by_cases c : z.size = 0 <;> simp only [a, b, c, if_true, if_false] at h1' h2' ⊢
    all_goals first | omega | exact numC_ord.tr _ _ _ (hx.resolve_left a) (hy.resolve_left b) (hz.resolve_left c) h1' h2'
theorem spC_ord : Ord (fun p : ByteArray × ByteArray => bdk p.1 ∧ bdk p.2) spC := (bdC_ord (-1) (.inl rfl)).pair (bdC_ord 1 (.inr rfl))
theorem arC_ord {P : TT → Prop} {f : TT → TT → Int} (o : Ord P f) : Ord (fun a : AR => (-1 ≤ a.max ∧ a.max < 9223372036854775808) ∧ P a.item) (arC f) :=
  Ord.map ((cmpI_ord.pair maxC_ord).pair o) (fun n => .mk n.2 n.1.1 n.1.2) (fun x hx => by cases x with | mk i m n => exact ⟨((m, n), i), rfl, ⟨trivial, hx.1⟩, hx.2⟩) (fun n m _ _ => rfl)
theorem obC_ord {P : TT → Prop} {f : TT → TT → Int} (o : Ord P f) : Ord (fun x : OB => (x.names.length = x.fields.length ∧ x.names.length = x.must.length) ∧ (∀ f ∈ x.fields, P f) ∧ P x.rest) (obC f) :=
  Ord.map (((listC_ord keyC_ord).pair (listC_ord setC_ord)).pair ((listC_ord o).pair o)) (fun n => .mk n.1.1 n.2.1 n.1.2 n.2.2) (fun x hx => by cases x with | mk ns fs ms r => exact ⟨((ns, ms), (fs, r)), rfl, ⟨fun _ _ => trivial, fun _ _ => trivial⟩, hx.2⟩) (fun n m _ _ => rfl)
theorem cmpTy_ord : ∀ h, Ord (goodT h) (cmpTy h)
  | 0 => ⟨fun _ _ h => h.elim, fun _ _ h => h.elim, fun _ _ h => h.elim, fun _ _ _ h => h.elim⟩
  | h + 1 =>
    have o := cmpTy_ord h
    Ord.map ((setC_ord.pair (setC_ord.pair (setC_ord.pair setC_ord))).pair ((listC_ord spC_ord).pair (setC_ord.pair ((listC_ord keyC_ord).pair ((listC_ord (arC_ord o)).pair (listC_ord (obC_ord o)))))))
      (fun x => TT.mk x.1.1 x.1.2.1 x.1.2.2.1 x.1.2.2.2 x.2.2.1 x.2.1 x.2.2.2.1 x.2.2.2.2.1 x.2.2.2.2.2)
      (fun x hx => by
        cases x with
        | mk a b c d e ns ts rs os => exact ⟨((a, b, c, d), ns, e, ts, rs, os), rfl, ⟨trivial, trivial, trivial, trivial⟩, hx.1, trivial, fun _ _ => trivial, hx.2.1, hx.2.2⟩)
      (fun n m _ _ => rfl)

theorem sameL_eq {α : Type} {f : α → α → Bool} : ∀ (xs ys : List α), (∀ x ∈ xs, ∀ y, f x y = true → x = y) → sameL f xs ys = true → xs = ys
  | [], [], _, _ => rfl
  | [], _ :: _, _, h => by simp [sameL] at h
  | _ :: _, [], _, h => by simp [sameL] at h
  | x :: xs, y :: ys, hf, h => by
    have ih := sameL_eq xs ys (fun z hz => hf z (List.mem_cons_of_mem _ hz))
    unfold sameL at h ih
    simp only [List.length_cons, List.zip_cons_cons, List.all_cons, Bool.and_eq_true, decide_eq_true_eq] at h ih
    rw [hf x (List.mem_cons_self ..) y h.2.1, ih ⟨by omega, h.2.2⟩]
theorem sameL_refl {α : Type} {f : α → α → Bool} : ∀ (xs : List α), (∀ x ∈ xs, f x x = true) → sameL f xs xs = true
  | [], _ => rfl
  | x :: xs, hf => by
    have ih := sameL_refl xs (fun z hz => hf z (List.mem_cons_of_mem _ hz))
    unfold sameL at ih ⊢
    simp only [List.length_cons, List.zip_cons_cons, List.all_cons, Bool.and_eq_true, decide_eq_true_eq] at ih ⊢
    exact ⟨trivial, hf x (List.mem_cons_self ..), ih.2⟩
theorem eqB_iff (a b : Bool) : eqB a b = true ↔ a = b := by cases a <;> cases b <;> decide
theorem sameT_eq : ∀ (h : Nat) (A B : TT), sameT h A B = true → A = B
  | 0, _, _, h => by cases h
  | h + 1, A, B, hs => by
    have ih := sameT_eq h
    unfold sameT at hs
    simp only [Bool.and_eq_true, eqB_iff] at hs
    obtain ⟨e1, e2, e3, e4, e5, e6, e7, e8, e9⟩ := hs
    have e6' := sameL_eq _ _ (fun x _ y hxy => by unfold sSp at hxy; rw [Bool.and_eq_true, eqS_iff, eqS_iff] at hxy; exact Prod.ext hxy.1 hxy.2) e6
    have e7' := sameL_eq _ _ (fun x _ y hxy => (eqS_iff x y).1 hxy) e7
    have e8' := sameL_eq _ _ (fun x _ y hxy => by
      unfold sAr at hxy
      simp only [Bool.and_eq_true, decide_eq_true_eq] at hxy
      cases x; cases y
      have := ih _ _ hxy.2.2
      simp only [AR.min, AR.max, AR.item] at hxy this
      rw [hxy.1, hxy.2.1, this]) e8
    have e9' := sameL_eq _ _ (fun x _ y hxy => by
      unfold sOb at hxy
      simp only [Bool.and_eq_true] at hxy
      obtain ⟨f1, f2, f3, f4⟩ := hxy
      have g1 := sameL_eq _ _ (fun x _ y hxy => (eqS_iff x y).1 hxy) f1
      have g2 := sameL_eq _ _ (fun x _ y hxy => ih x y hxy) f2
      have g3 := sameL_eq _ _ (fun x _ y hxy => (eqB_iff x y).1 hxy) f3
      have g4 := ih _ _ f4
      cases x; cases y
      simp only [OB.names, OB.fields, OB.must, OB.rest] at g1 g2 g3 g4
      rw [g1, g2, g3, g4]) e9
    cases A; cases B
    simp only [TT.all, TT.nul, TT.fls, TT.tru, TT.any, TT.nums, TT.texts, TT.arrs, TT.objs] at e1 e2 e3 e4 e5 e6' e7' e8' e9'
    rw [e1, e2, e3, e4, e5, e6', e7', e8', e9']
theorem sameT_refl : ∀ (h : Nat) (A : TT), goodT h A → sameT h A A = true
  | 0, _, h => h.elim
  | h + 1, A, hg => by
    have ih := sameT_refl h
    unfold sameT
    simp only [Bool.and_eq_true, eqB_iff]
    refine ⟨trivial, trivial, trivial, trivial, trivial, sameL_refl _ (fun x _ => ?_), sameL_refl _ (fun x _ => (eqS_iff x x).2 rfl), sameL_refl _ (fun x hx => ?_), sameL_refl _ (fun x hx => ?_)⟩
    · unfold sSp; rw [Bool.and_eq_true, eqS_iff, eqS_iff]; exact ⟨rfl, rfl⟩
    · unfold sAr
      simp only [Bool.and_eq_true, decide_eq_true_eq]
      exact ⟨trivial, trivial, ih _ (hg.2.1 x hx).2⟩
    · unfold sOb
      simp only [Bool.and_eq_true]
      exact ⟨sameL_refl _ (fun x _ => (eqS_iff x x).2 rfl), sameL_refl _ (fun f hf => ih f ((hg.2.2 x hx).2.1 f hf)), sameL_refl _ (fun x _ => (eqB_iff x x).2 rfl), ih _ (hg.2.2 x hx).2.2⟩
theorem sameT_cmp {h : Nat} {A B : TT} (ha : goodT h A) (hb : goodT h B) : sameT h A B = decide (cmpTy h A B = 0) := by
  rw [Bool.eq_iff_iff, decide_eq_true_eq]
  constructor
  · intro e
    obtain rfl := sameT_eq h A B e
    exact (cmpTy_ord h).rf ha
  · intro e
    obtain rfl := (cmpTy_ord h).zr A B ha hb e
    exact sameT_refl h A ha
end Go.Proofs.Ytdjoelhiahpmlaa
