import Derived.Test.YtmknelkgfnklfaaM11
import Derived.Test.YtmknelkgfnklfaaM12
namespace Go.Proofs.Ytmknelkgfnklfaa
open Go.RowKit
set_option linter.unusedVariables false
set_option linter.unusedSimpArgs false

/-- what an order keeps, among those that P lets by -/
structure Ord {α : Type} (P : α → Prop) (c : α → α → Int) : Prop where
  bd : ∀ x y, P x → P y → -1 ≤ c x y ∧ c x y ≤ 1
  sw : ∀ x y, P x → P y → c y x = - c x y
  zr : ∀ x y, P x → P y → c x y = 0 → x = y
  tr : ∀ x y z, P x → P y → P z → c x y ≤ 0 → c y z ≤ 0 → c x z ≤ 0
theorem Ord.rf {α : Type} {P : α → Prop} {c : α → α → Int} (h : Ord P c) {x : α} (hx : P x) : c x x = 0 := by
  have := h.sw x x hx hx; omega

/-- two lists in order -/
def listC {α : Type} (c : α → α → Int) : List α → List α → Int
  | [], [] => 0
  | [], _ :: _ => -1
  | _ :: _, [] => 1
  | x :: xs, y :: ys => if c x y = 0 then listC c xs ys else c x y

theorem listC_ord {α : Type} {P : α → Prop} {c : α → α → Int} (h : Ord P c) : Ord (fun l : List α => ∀ x ∈ l, P x) (listC c) where
  bd := by
    intro xs
    induction xs with
    | nil => intro ys _ _; cases ys <;> simp [listC]
    | cons x xs ih =>
      intro ys hx hy
      cases ys with
      | nil => simp [listC]
      | cons y ys =>
        simp only [listC]
        split
        · exact ih ys (fun z hz => hx z (List.mem_cons_of_mem _ hz)) (fun z hz => hy z (List.mem_cons_of_mem _ hz))
        · exact h.bd x y (hx x (List.mem_cons_self ..)) (hy y (List.mem_cons_self ..))
  sw := by
    intro xs
    induction xs with
    | nil => intro ys _ _; cases ys <;> simp [listC]
    | cons x xs ih =>
      intro ys hx hy
      cases ys with
      | nil => simp [listC]
      | cons y ys =>
        have e := h.sw x y (hx x (List.mem_cons_self ..)) (hy y (List.mem_cons_self ..))
        simp only [listC]
        by_cases h0 : c x y = 0
        · rw [if_pos h0, if_pos (by omega)]
          exact ih ys (fun z hz => hx z (List.mem_cons_of_mem _ hz)) (fun z hz => hy z (List.mem_cons_of_mem _ hz))
        · rw [if_neg h0, if_neg (by omega)]; exact e
  zr := by
    intro xs
    induction xs with
    | nil => intro ys _ _ h0; cases ys with
      | nil => rfl
      | cons y ys => simp [listC] at h0
    | cons x xs ih =>
      intro ys hx hy h0
      cases ys with
      | nil => simp [listC] at h0
      | cons y ys =>
        simp only [listC] at h0
        by_cases h1 : c x y = 0
        · rw [if_pos h1] at h0
          rw [h.zr x y (hx x (List.mem_cons_self ..)) (hy y (List.mem_cons_self ..)) h1, ih ys (fun z hz => hx z (List.mem_cons_of_mem _ hz)) (fun z hz => hy z (List.mem_cons_of_mem _ hz)) h0]
        · rw [if_neg h1] at h0; exact absurd h0 h1
  tr := by
    intro xs
    induction xs with
    | nil => intro ys zs _ _ _ _ _; cases zs <;> simp [listC]
    | cons x xs ih =>
      intro ys zs hx hy hz h1 h2
      cases ys with
      | nil => simp [listC] at h1
      | cons y ys =>
        cases zs with
        | nil => simp [listC] at h2
        | cons z zs =>
          have px := hx x (List.mem_cons_self ..)
          have py := hy y (List.mem_cons_self ..)
          have pz := hz z (List.mem_cons_self ..)
          have tx := fun z hz => hx z (List.mem_cons_of_mem _ hz)
          have ty := fun z hz => hy z (List.mem_cons_of_mem _ hz)
          have tz := fun w hw => hz w (List.mem_cons_of_mem _ hw)
          simp only [listC] at h1 h2 ⊢
          by_cases a : c x y = 0
          · rw [if_pos a] at h1
            obtain rfl := h.zr x y px py a
            by_cases b : c x z = 0
            · rw [if_pos b] at h2 ⊢; exact ih ys zs tx ty tz h1 h2
            · rw [if_neg b] at h2 ⊢; exact h2
          · rw [if_neg a] at h1
            by_cases b : c y z = 0
            · obtain rfl := h.zr y z py pz b
              rw [if_neg a]; exact h1
            · rw [if_neg b] at h2
              have t := h.tr x y z px py pz h1 h2
              by_cases d : c x z = 0
              · obtain rfl := h.zr x z px pz d
                have := h.sw x y px py
                omega
              · rw [if_neg d]; exact t

/-- two bytes in order -/
def byteC (x y : UInt8) : Int := if x < y then -1 else if x = y then 0 else 1
theorem byteC_ord : Ord (fun _ : UInt8 => True) byteC := by
  have hl : ∀ x y : UInt8, x < y ↔ x.toNat < y.toNat := fun x y => UInt8.lt_iff_toNat_lt
  have he : ∀ x y : UInt8, x = y ↔ x.toNat = y.toNat := fun x y => UInt8.toNat_inj.symm
  refine ⟨?_, ?_, ?_, ?_⟩
  · intro x y _ _; unfold byteC; split <;> (try split) <;> omega
  · intro x y _ _; unfold byteC; simp only [hl, he]; repeat' split
    all_goals omega
  · intro x y _ _ h0; unfold byteC at h0; simp only [hl, he] at h0 ⊢; split at h0 <;> (try split at h0) <;> omega
  · intro x y z _ _ _ h1 h2; unfold byteC at *; simp only [hl, he] at *; repeat' split at h1
    all_goals repeat' split at h2
    all_goals repeat' split
    all_goals omega

theorem cmpS_list : ∀ a b : List UInt8, Pl.cmpS a b = listC byteC a b
  | [], [] => by simp [Pl.cmpS, Op.bytesLess, listC]
  | [], _ :: _ => by simp [Pl.cmpS, Op.bytesLess, listC]
  | _ :: _, [] => by simp [Pl.cmpS, Op.bytesLess, listC]
  | x :: xs, y :: ys => by
    have ih := cmpS_list xs ys
    simp only [listC]
    rw [← ih]
    by_cases h : x < y
    · have e : byteC x y = -1 := by unfold byteC; rw [if_pos h]
      rw [e, if_neg (by omega)]
      unfold Pl.cmpS
      rw [if_pos (by simp [Op.bytesLess, h])]
    · by_cases h2 : x = y
      · subst h2
        have e : byteC x x = 0 := by unfold byteC; rw [if_neg h, if_pos rfl]
        rw [e, if_pos rfl]
        unfold Pl.cmpS
        simp [Op.bytesLess, h]
      · have e : byteC x y = 1 := by unfold byteC; rw [if_neg h, if_neg h2]
        rw [e, if_neg (by omega)]
        unfold Pl.cmpS
        rw [if_neg (by simp [Op.bytesLess, h, h2]), if_neg (by simp [h2])]

/-- two texts in order -/
def keyC (a b : ByteArray) : Int := Pl.cmpS a.toList b.toList
theorem keyC_ord : Ord (fun _ : ByteArray => True) keyC := by
  have o := listC_ord byteC_ord
  have t : ∀ l : List UInt8, ∀ x ∈ l, True := fun _ _ _ => trivial
  refine ⟨fun x y _ _ => ?_, fun x y _ _ => ?_, fun x y _ _ => ?_, fun x y z _ _ _ => ?_⟩ <;> unfold keyC <;> simp only [cmpS_list]
  · exact o.bd _ _ (t _) (t _)
  · exact o.sw _ _ (t _) (t _)
  · intro h
    have := o.zr _ _ (t _) (t _) h
    rw [Lib.toList_data, Lib.toList_data] at this
    exact Pl.eq_of_toList this
  · exact o.tr _ _ _ (t _) (t _) (t _)

/-- two numbers in order -/
def numC (a b : ByteArray) : Int := Pl.cmpN a.data.toList b.data.toList
theorem formed_inj {a b : List UInt8} (ha : Pl.formed a = true) (hb : Pl.formed b = true) (h : Pl.cmpN a b = 0) : a = b := by
  have hs : ∀ p q : List UInt8, Pl.cmpS p q = 0 → p = q := fun p q h0 => by
    rw [cmpS_list] at h0
    exact (listC_ord byteC_ord).zr p q (fun _ _ => trivial) (fun _ _ => trivial) h0
  have ht : ∀ p q : List UInt8, Pl.cmpT p q = 0 → p = q := fun p q h0 => by
    unfold Pl.cmpT at h0
    split at h0
    · omega
    · split at h0
      · omega
      · exact hs p q h0
  have hbn : ∀ l : List UInt8, Pl.neg l = true → l = 45 :: Pl.body l := fun l h => by
    cases l with
    | nil => simp [Pl.neg] at h
    | cons c r =>
      have h2 : c.toNat = 45 := by simpa [Pl.neg] using h
      have h3 : c = 45 := UInt8.toNat_inj.1 h2
      unfold Pl.body; rw [if_pos h, h3]; rfl
  have hbp : ∀ l : List UInt8, Pl.neg l = false → l = Pl.body l := fun l h => by
    unfold Pl.body; rw [h]; rfl
  unfold Pl.cmpN at h
  rw [ha, hb] at h
  simp only [Bool.and_self, if_true] at h
  cases na : Pl.neg a with
  | true =>
    cases nb : Pl.neg b with
    | true =>
      rw [na, nb] at h
      simp only [if_true] at h
      rw [hbn a na, hbn b nb, ht _ _ h]
    | false => rw [na, nb] at h; simp at h
  | false =>
    cases nb : Pl.neg b with
    | true => rw [na, nb] at h; simp at h
    | false =>
      rw [na, nb] at h
      simp only [Bool.false_eq_true, if_false] at h
      rw [hbp a na, hbp b nb, ht _ _ h]

theorem numC_ord : Ord (fun a : ByteArray => Pl.formed a.data.toList = true) numC := by
  have e : ∀ a b : ByteArray, Pl.formed a.data.toList = true → Pl.formed b.data.toList = true → numC a b = Pl.cmpI (Pl.ival a.data.toList) (Pl.ival b.data.toList) := fun a b ha hb => Pl.cmpN_val ha hb
  refine ⟨fun x y hx hy => ?_, fun x y hx hy => ?_, fun x y hx hy h => ?_, fun x y z hx hy hz h1 h2 => ?_⟩
  · exact Pl.cmpN_bd _ _
  · rw [e _ _ hx hy, e _ _ hy hx]; exact Pl.cmpI_swap _ _
  · exact Pl.eq_of_toList (formed_inj hx hy h)
  · rw [e _ _ hx hy] at h1; rw [e _ _ hy hz] at h2; rw [e _ _ hx hz]
    unfold Pl.cmpI at *
    repeat' split at h1
    all_goals repeat' split at h2
    all_goals repeat' split
    all_goals omega

/-- two values in order, off what their parts come to -/
def cmpV (ka kb : Int) (nc tc kc ic : Int) : Int :=
  if ka < kb then -1 else if kb < ka then 1 else if ka = 3 then nc else if ka = 4 then tc else if ka = 5 then ic else if ka = 6 then (if kc = 0 then ic else kc) else 0
def cmpH : Nat → VT → VT → Int
  | 0, _, _ => 0
  | h + 1, A, B => cmpV A.kind B.kind (numC A.num B.num) (keyC A.text B.text) (listC keyC A.keys B.keys) (listC (cmpH h) A.items B.items)

theorem bare_open {nm tx : ByteArray} {N K : Nat} (h : bareB nm tx N K = true) : nm = .empty ∧ tx = .empty ∧ N = 0 ∧ K = 0 := by
  have em : ∀ s : ByteArray, s.toList.isEmpty = true → s = .empty := fun s hs => by
    rw [Lib.toList_data] at hs
    exact Pl.eq_of_toList (by simpa using hs)
  unfold bareB at h
  simp only [Bool.and_eq_true, decide_eq_true_eq] at h
  exact ⟨em _ h.1.1.1, em _ h.1.1.2, h.1.2, h.2⟩

/-- what a well shaped value is, kind by kind -/
theorem form_open {h : Nat} {T : VT} (hf : formN (h + 1) T = true) :
    (T = .mk 0 .empty .empty [] [] ∨ T = .mk 1 .empty .empty [] [] ∨ T = .mk 2 .empty .empty [] []) ∨
    (∃ n, T = .mk 3 n .empty [] [] ∧ Pl.formed n.data.toList = true) ∨ (∃ t, T = .mk 4 .empty t [] [] ∧ okB t.data.toList = true) ∨
    (∃ i, T = .mk 5 .empty .empty i [] ∧ ∀ x ∈ i, formN h x = true) ∨ (∃ i k, T = .mk 6 .empty .empty i k ∧ k.length = i.length ∧ rK k k.length = true ∧ oK k k.length = true ∧ ∀ x ∈ i, formN h x = true) := by
  obtain ⟨kd, nm, tx, it, ks⟩ := T
  unfold formN at hf
  simp only [VT.kind, VT.num, VT.text, VT.items, VT.keys] at hf
  unfold formV at hf
  by_cases h0 : kd = 0 ∨ kd = 1 ∨ kd = 2
  · rw [if_pos h0] at hf
    obtain ⟨rfl, rfl, a, b⟩ := bare_open hf
    rw [List.eq_nil_of_length_eq_zero a, List.eq_nil_of_length_eq_zero b]
    rcases h0 with rfl | rfl | rfl <;> simp
  · rw [if_neg h0] at hf
    by_cases h3 : kd = 3
    · rw [if_pos h3] at hf
      subst h3
      simp only [Bool.and_eq_true] at hf
      obtain ⟨_, rfl, a, b⟩ := bare_open hf.2
      rw [List.eq_nil_of_length_eq_zero a, List.eq_nil_of_length_eq_zero b]
      exact .inr (.inl ⟨nm, rfl, hf.1⟩)
    · rw [if_neg h3] at hf
      by_cases h4 : kd = 4
      · rw [if_pos h4] at hf
        subst h4
        simp only [Bool.and_eq_true] at hf
        obtain ⟨rfl, _, a, b⟩ := bare_open hf.2
        rw [List.eq_nil_of_length_eq_zero a, List.eq_nil_of_length_eq_zero b]
        exact .inr (.inr (.inl ⟨tx, rfl, hf.1⟩))
      · rw [if_neg h4] at hf
        by_cases h5 : kd = 5
        · rw [if_pos h5] at hf
          subst h5
          simp only [Bool.and_eq_true, List.all_eq_true] at hf
          obtain ⟨rfl, rfl, _, b⟩ := bare_open hf.2
          rw [List.eq_nil_of_length_eq_zero b]
          exact .inr (.inr (.inr (.inl ⟨it, rfl, hf.1⟩)))
        · rw [if_neg h5] at hf
          by_cases h6 : kd = 6
          · rw [if_pos h6] at hf
            subst h6
            simp only [Bool.and_eq_true, List.all_eq_true, decide_eq_true_eq] at hf
            obtain ⟨rfl, rfl, _, _⟩ := bare_open hf.2
            exact .inr (.inr (.inr (.inr ⟨it, ks, rfl, hf.1.1.1, hf.1.1.2.1, hf.1.1.2.2, hf.1.2⟩)))
          · rw [if_neg h6] at hf; cases hf
end Go.Proofs.Ytmknelkgfnklfaa
namespace Go.Proofs.Ytmknelkgfnklfaa
open Go.RowKit
set_option linter.unusedVariables false
set_option linter.unusedSimpArgs false

theorem Ord.map {α β : Type} {Q : β → Prop} {c : β → β → Int} (o : Ord Q c) {P : α → Prop} {d : α → α → Int} (g : β → α) (hg : ∀ x, P x → ∃ n, x = g n ∧ Q n) (hd : ∀ n m, Q n → Q m → d (g n) (g m) = c n m) : Ord P d where
  bd := fun x y hx hy => by
    obtain ⟨n, rfl, hn⟩ := hg x hx
    obtain ⟨m, rfl, hm⟩ := hg y hy
    rw [hd n m hn hm]; exact o.bd n m hn hm
  sw := fun x y hx hy => by
    obtain ⟨n, rfl, hn⟩ := hg x hx
    obtain ⟨m, rfl, hm⟩ := hg y hy
    rw [hd n m hn hm, hd m n hm hn]; exact o.sw n m hn hm
  zr := fun x y hx hy h => by
    obtain ⟨n, rfl, hn⟩ := hg x hx
    obtain ⟨m, rfl, hm⟩ := hg y hy
    rw [hd n m hn hm] at h; rw [o.zr n m hn hm h]
  tr := fun x y z hx hy hz h1 h2 => by
    obtain ⟨n, rfl, hn⟩ := hg x hx
    obtain ⟨m, rfl, hm⟩ := hg y hy
    obtain ⟨k, rfl, hk⟩ := hg z hz
    rw [hd n m hn hm] at h1; rw [hd m k hm hk] at h2; rw [hd n k hn hk]; exact o.tr n m k hn hm hk h1 h2

theorem Ord.pair {α β : Type} {P : α → Prop} {c : α → α → Int} (o : Ord P c) {Q : β → Prop} {d : β → β → Int} (p : Ord Q d) :
    Ord (fun x : α × β => P x.1 ∧ Q x.2) (fun x y => if c x.1 y.1 = 0 then d x.2 y.2 else c x.1 y.1) where
  bd := fun x y hx hy => by
    show -1 ≤ (if c x.1 y.1 = 0 then d x.2 y.2 else c x.1 y.1) ∧ (if c x.1 y.1 = 0 then d x.2 y.2 else c x.1 y.1) ≤ 1
    split
    · exact p.bd _ _ hx.2 hy.2
    · exact o.bd _ _ hx.1 hy.1
  sw := fun x y hx hy => by
    show (if c y.1 x.1 = 0 then d y.2 x.2 else c y.1 x.1) = -(if c x.1 y.1 = 0 then d x.2 y.2 else c x.1 y.1)
    have e := o.sw _ _ hx.1 hy.1
    by_cases h0 : c x.1 y.1 = 0
    · rw [if_pos h0, if_pos (by omega)]; exact p.sw _ _ hx.2 hy.2
    · rw [if_neg h0, if_neg (by omega)]; exact e
  zr := fun x y hx hy h => by
    have h' : (if c x.1 y.1 = 0 then d x.2 y.2 else c x.1 y.1) = 0 := h
    by_cases h0 : c x.1 y.1 = 0
    · rw [if_pos h0] at h'
      exact Prod.ext (o.zr _ _ hx.1 hy.1 h0) (p.zr _ _ hx.2 hy.2 h')
    · rw [if_neg h0] at h'; exact absurd h' h0
  tr := fun x y z hx hy hz h1 h2 => by
    have h1' : (if c x.1 y.1 = 0 then d x.2 y.2 else c x.1 y.1) ≤ 0 := h1
    have h2' : (if c y.1 z.1 = 0 then d y.2 z.2 else c y.1 z.1) ≤ 0 := h2
    show (if c x.1 z.1 = 0 then d x.2 z.2 else c x.1 z.1) ≤ 0
    by_cases a : c x.1 y.1 = 0
    · rw [if_pos a] at h1'
      have e := o.zr _ _ hx.1 hy.1 a
      rw [e]
      by_cases b : c y.1 z.1 = 0
      · rw [if_pos b] at h2' ⊢; exact p.tr _ _ _ hx.2 hy.2 hz.2 h1' h2'
      · rw [if_neg b] at h2' ⊢; exact h2'
    · rw [if_neg a] at h1'
      by_cases b : c y.1 z.1 = 0
      · have e := o.zr _ _ hy.1 hz.1 b
        rw [← e, if_neg a]; exact h1'
      · rw [if_neg b] at h2'
        have t := o.tr _ _ _ hx.1 hy.1 hz.1 h1' h2'
        by_cases e : c x.1 z.1 = 0
        · have e2 := o.zr _ _ hx.1 hz.1 e
          have := o.sw _ _ hx.1 hy.1
          rw [e2] at this
          rw [e2] at h1' a
          omega
        · rw [if_neg e]; exact t

theorem ord_one : Ord (fun _ : Unit => True) (fun _ _ => 0) := ⟨fun _ _ _ _ => by omega, fun _ _ _ _ => by omega, fun _ _ _ _ _ => rfl, fun _ _ _ _ _ _ _ _ => by omega⟩

theorem ord_kind {α : Type} {P : α → Prop} {f : α → Int} {c d : α → α → Int} (hc : ∀ x y, c x y = if f x < f y then -1 else if f y < f x then 1 else d x y)
    (o : ∀ k, Ord (fun x => P x ∧ f x = k) d) : Ord P c where
  bd := fun x y hx hy => by
    rw [hc]
    split
    · omega
    · split
      · omega
      · exact (o (f x)).bd x y ⟨hx, rfl⟩ ⟨hy, by omega⟩
  sw := fun x y hx hy => by
    rw [hc, hc]
    by_cases a : f x < f y
    · rw [if_neg (by omega), if_pos a, if_pos a]; rfl
    · by_cases b : f y < f x
      · rw [if_pos b, if_neg a, if_pos b]
      · rw [if_neg b, if_neg a, if_neg a, if_neg b]; exact (o (f x)).sw x y ⟨hx, rfl⟩ ⟨hy, by omega⟩
  zr := fun x y hx hy h => by
    rw [hc] at h
    by_cases a : f x < f y
    · rw [if_pos a] at h; omega
    · by_cases b : f y < f x
      · rw [if_neg a, if_pos b] at h; omega
      · rw [if_neg a, if_neg b] at h; exact (o (f x)).zr x y ⟨hx, rfl⟩ ⟨hy, by omega⟩ h
  tr := fun x y z hx hy hz h1 h2 => by
    rw [hc] at h1 h2 ⊢
    by_cases a : f y < f x
    · rw [if_neg (by omega), if_pos a] at h1; omega
    · by_cases b : f z < f y
      · rw [if_neg (by omega), if_pos b] at h2; omega
      · by_cases e : f x < f z
        · rw [if_pos e]; omega
        · rw [if_neg (by omega), if_neg a] at h1
          rw [if_neg (by omega), if_neg b] at h2
          rw [if_neg e, if_neg (by omega)]
          exact (o (f x)).tr x y z ⟨hx, rfl⟩ ⟨hy, by omega⟩ ⟨hz, by omega⟩ h1 h2

/-- values of one kind -/
def cmpI' (h : Nat) (A B : VT) : Int := if A.kind = 3 then numC A.num B.num else if A.kind = 4 then keyC A.text B.text else if A.kind = 5 then listC (cmpH h) A.items B.items else if A.kind = 6 then (if listC keyC A.keys B.keys = 0 then listC (cmpH h) A.items B.items else listC keyC A.keys B.keys) else 0

theorem cmpH_kind (h : Nat) (o : Ord (fun T => formN h T = true) (cmpH h)) (k : Int) : Ord (fun T : VT => formN (h + 1) T = true ∧ T.kind = k) (cmpI' h) := by
  by_cases k3 : k = 3
  · subst k3
    refine numC_ord.map (fun n => .mk 3 n .empty [] []) (fun x hx => ?_) (fun n m _ _ => rfl)
    rcases form_open hx.1 with (rfl | rfl | rfl) | ⟨n, rfl, hn⟩ | ⟨n, rfl, _⟩ | ⟨i, rfl, _⟩ | ⟨i, ks, rfl, _⟩
    · exact absurd hx.2 (by simp [VT.kind])
    · exact absurd hx.2 (by simp [VT.kind])
    · exact absurd hx.2 (by simp [VT.kind])
    · exact ⟨n, rfl, hn⟩
    · exact absurd hx.2 (by simp [VT.kind])
    · exact absurd hx.2 (by simp [VT.kind])
    · exact absurd hx.2 (by simp [VT.kind])
  by_cases k4 : k = 4
  · subst k4
    refine keyC_ord.map (fun n => .mk 4 .empty n [] []) (fun x hx => ?_) (fun n m _ _ => rfl)
    rcases form_open hx.1 with (rfl | rfl | rfl) | ⟨n, rfl, hn⟩ | ⟨n, rfl, _⟩ | ⟨i, rfl, _⟩ | ⟨i, ks, rfl, _⟩
    · exact absurd hx.2 (by simp [VT.kind])
    · exact absurd hx.2 (by simp [VT.kind])
    · exact absurd hx.2 (by simp [VT.kind])
    · exact absurd hx.2 (by simp [VT.kind])
    · exact ⟨n, rfl, trivial⟩
    · exact absurd hx.2 (by simp [VT.kind])
    · exact absurd hx.2 (by simp [VT.kind])
  by_cases k5 : k = 5
  · subst k5
    refine (listC_ord o).map (fun n => .mk 5 .empty .empty n []) (fun x hx => ?_) (fun n m _ _ => rfl)
    rcases form_open hx.1 with (rfl | rfl | rfl) | ⟨n, rfl, hn⟩ | ⟨n, rfl, _⟩ | ⟨i, rfl, hi⟩ | ⟨i, ks, rfl, _⟩
    · exact absurd hx.2 (by simp [VT.kind])
    · exact absurd hx.2 (by simp [VT.kind])
    · exact absurd hx.2 (by simp [VT.kind])
    · exact absurd hx.2 (by simp [VT.kind])
    · exact absurd hx.2 (by simp [VT.kind])
    · exact ⟨i, rfl, hi⟩
    · exact absurd hx.2 (by simp [VT.kind])
  by_cases k6 : k = 6
  · subst k6
    refine ((listC_ord keyC_ord).pair (listC_ord o)).map (fun n => .mk 6 .empty .empty n.2 n.1) (fun x hx => ?_) (fun n m _ _ => rfl)
    rcases form_open hx.1 with (rfl | rfl | rfl) | ⟨n, rfl, hn⟩ | ⟨n, rfl, _⟩ | ⟨i, rfl, hi⟩ | ⟨i, ks, rfl, _, _, _, hi⟩
    · exact absurd hx.2 (by simp [VT.kind])
    · exact absurd hx.2 (by simp [VT.kind])
    · exact absurd hx.2 (by simp [VT.kind])
    · exact absurd hx.2 (by simp [VT.kind])
    · exact absurd hx.2 (by simp [VT.kind])
    · exact absurd hx.2 (by simp [VT.kind])
    · exact ⟨(ks, i), rfl, fun _ _ => trivial, hi⟩
  · refine ord_one.map (fun _ => .mk k .empty .empty [] []) (fun x hx => ?_) (fun n m _ _ => ?_)
    · rcases form_open hx.1 with (rfl | rfl | rfl) | ⟨n, rfl, hn⟩ | ⟨n, rfl, _⟩ | ⟨i, rfl, hi⟩ | ⟨i, ks, rfl, _, _, _, hi⟩
      · exact ⟨(), by rw [← hx.2]; rfl, trivial⟩
      · exact ⟨(), by rw [← hx.2]; rfl, trivial⟩
      · exact ⟨(), by rw [← hx.2]; rfl, trivial⟩
      · exact absurd hx.2.symm k3
      · exact absurd hx.2.symm k4
      · exact absurd hx.2.symm k5
      · exact absurd hx.2.symm k6
    · have kk : (VT.mk k .empty .empty [] []).kind = k := rfl
      unfold cmpI'
      rw [if_neg (by rw [kk]; exact k3), if_neg (by rw [kk]; exact k4), if_neg (by rw [kk]; exact k5), if_neg (by rw [kk]; exact k6)]

theorem cmpH_ord : ∀ h, Ord (fun T => formN h T = true) (cmpH h)
  | 0 => by
    have no : ∀ x : VT, ¬ formN 0 x = true := fun x hx => by cases hx
    exact { bd := fun x y hx => absurd hx (no x), sw := fun x y hx => absurd hx (no x), zr := fun x y hx => absurd hx (no x), tr := fun x y z hx => absurd hx (no x) }
  | h + 1 => ord_kind (f := VT.kind) (d := cmpI' h) (fun x y => by
      show cmpV _ _ _ _ _ _ = _
      unfold cmpV cmpI'; rfl) (cmpH_kind h (cmpH_ord h))
end Go.Proofs.Ytmknelkgfnklfaa
namespace Go.Proofs.Ytmknelkgfnklfaa
open Go.RowKit
set_option linter.unusedVariables false
set_option linter.unusedSimpArgs false

/-- two rows put together -/
def mgL (c : Nat → Nat → Int) : Nat → List Nat → List Nat → List Nat
  | 0, xs, ys => xs ++ ys
  | _ + 1, [], ys => ys
  | _ + 1, x :: xs, [] => x :: xs
  | f + 1, x :: xs, y :: ys => if c x y ≤ 0 then x :: mgL c f xs (y :: ys) else y :: mgL c f (x :: xs) ys

def mg (c : Nat → Nat → Int) (xs ys : List Nat) : List Nat := mgL c (xs.length + ys.length) xs ys

theorem mgL_nil (c : Nat → Nat → Int) (f : Nat) (ys : List Nat) : mgL c f [] ys = ys := by cases f <;> rfl
theorem mgL_nil' (c : Nat → Nat → Int) (f : Nat) (xs : List Nat) : mgL c f xs [] = xs := by
  cases f with
  | zero => simp [mgL]
  | succ f => cases xs <;> rfl
theorem mg_nil (c : Nat → Nat → Int) (ys : List Nat) : mg c [] ys = ys := mgL_nil ..
theorem mg_nil' (c : Nat → Nat → Int) (xs : List Nat) : mg c xs [] = xs := mgL_nil' ..
theorem mg_le {c : Nat → Nat → Int} {x y : Nat} {xs ys : List Nat} (h : c x y ≤ 0) : mg c (x :: xs) (y :: ys) = x :: mg c xs (y :: ys) := by
  have e : (x :: xs).length + (y :: ys).length = (xs.length + (y :: ys).length) + 1 := by simp; omega
  unfold mg; rw [e]; show (if c x y ≤ 0 then _ else _) = _; rw [if_pos h]
theorem mg_gt {c : Nat → Nat → Int} {x y : Nat} {xs ys : List Nat} (h : ¬ c x y ≤ 0) : mg c (x :: xs) (y :: ys) = y :: mg c (x :: xs) ys := by
  have e : (x :: xs).length + (y :: ys).length = ((x :: xs).length + ys.length) + 1 := by simp; omega
  unfold mg; rw [e]; show (if c x y ≤ 0 then _ else _) = _; rw [if_neg h]

/-- what induction over both rows asks -/
theorem mg_ind (c : Nat → Nat → Int) {M : List Nat → List Nat → Prop} (h1 : ∀ ys, M [] ys) (h2 : ∀ xs, M xs [])
    (h3 : ∀ x xs y ys, c x y ≤ 0 → M xs (y :: ys) → M (x :: xs) (y :: ys)) (h4 : ∀ x xs y ys, ¬ c x y ≤ 0 → M (x :: xs) ys → M (x :: xs) (y :: ys)) : ∀ xs ys, M xs ys := by
  intro xs ys
  generalize hn : xs.length + ys.length = n
  induction n generalizing xs ys with
  | zero =>
    have : xs = [] := List.length_eq_zero_iff.1 (by omega)
    subst this; exact h1 _
  | succ n ih =>
    cases xs with
    | nil => exact h1 _
    | cons x xs =>
      cases ys with
      | nil => exact h2 _
      | cons y ys =>
        by_cases h : c x y ≤ 0
        · exact h3 _ _ _ _ h (ih _ _ (by simp at hn ⊢; omega))
        · exact h4 _ _ _ _ h (ih _ _ (by simp at hn ⊢; omega))

theorem mg_perm (c : Nat → Nat → Int) (xs ys : List Nat) : (mg c xs ys).Perm (xs ++ ys) := by
  induction xs, ys using mg_ind c with
  | h1 ys => rw [mg_nil]; exact .refl _
  | h2 xs => rw [mg_nil', List.append_nil]
  | h3 x xs y ys h ih => rw [mg_le h]; exact ih.cons x
  | h4 x xs y ys h ih =>
    rw [mg_gt h]
    exact (ih.cons y).trans (List.perm_middle (a := y) (l₁ := x :: xs) (l₂ := ys)).symm
theorem mg_len (c : Nat → Nat → Int) (xs ys : List Nat) : (mg c xs ys).length = xs.length + ys.length := by rw [(mg_perm c xs ys).length_eq, List.length_append]

/-- a row sorted by halves -/
def srF (c : Nat → Nat → Int) : Nat → List Nat → List Nat
  | 0, l => l
  | f + 1, l => if l.length < 2 then l else mg c (srF c f (l.take (l.length / 2))) (srF c f (l.drop (l.length / 2)))

theorem srF_perm (c : Nat → Nat → Int) : ∀ (f : Nat) (l : List Nat), (srF c f l).Perm l
  | 0, l => .refl _
  | f + 1, l => by
    unfold srF
    split
    · exact .refl _
    · refine (mg_perm c _ _).trans (((srF_perm c f _).append (srF_perm c f _)).trans ?_)
      rw [List.take_append_drop]
theorem srF_len (c : Nat → Nat → Int) (f : Nat) (l : List Nat) : (srF c f l).length = l.length := (srF_perm c f l).length_eq

/-- how two places are held against one another: an order but for ties -/
structure Pre (P : Nat → Prop) (c : Nat → Nat → Int) : Prop where
  bd : ∀ x y, P x → P y → -1 ≤ c x y ∧ c x y ≤ 1
  sw : ∀ x y, P x → P y → c y x = -c x y
  tr : ∀ x y z, P x → P y → P z → c x y ≤ 0 → c y z ≤ 0 → c x z ≤ 0

/-- lesser by the key, or the same and ahead -/
def Ahd (c : Nat → Nat → Int) (x y : Nat) : Prop := c x y < 0 ∨ (c x y = 0 ∧ x < y)

theorem Pre.lt_le {P : Nat → Prop} {c : Nat → Nat → Int} (h : Pre P c) {x y z : Nat} (hx : P x) (hy : P y) (hz : P z) (h1 : c x y < 0) (h2 : c y z ≤ 0) : c x z < 0 := by
  have a := h.tr x y z hx hy hz (by omega) h2
  have s1 := h.sw x y hx hy
  have s2 := h.sw x z hx hz
  rcases Int.lt_or_lt_of_ne (show c x z ≠ 0 from fun e => by
    have b := h.tr y z x hy hz hx h2 (by omega)
    omega) with b | b <;> omega
theorem Pre.le_lt {P : Nat → Prop} {c : Nat → Nat → Int} (h : Pre P c) {x y z : Nat} (hx : P x) (hy : P y) (hz : P z) (h1 : c x y ≤ 0) (h2 : c y z < 0) : c x z < 0 := by
  have a := h.tr x y z hx hy hz h1 (by omega)
  have s1 := h.sw y z hy hz
  have s2 := h.sw x z hx hz
  rcases Int.lt_or_lt_of_ne (show c x z ≠ 0 from fun e => by
    have b := h.tr z x y hz hx hy (by omega) h1
    omega) with b | b <;> omega

theorem Ahd.le {c : Nat → Nat → Int} {x y : Nat} (h : Ahd c x y) : c x y ≤ 0 := by rcases h with h | h <;> omega

theorem mg_ahd {P : Nat → Prop} {c : Nat → Nat → Int} (h : Pre P c) (xs ys : List Nat) : (∀ x ∈ xs, P x) → (∀ y ∈ ys, P y) → (∀ x ∈ xs, ∀ y ∈ ys, x < y) → xs.Pairwise (Ahd c) → ys.Pairwise (Ahd c) → (mg c xs ys).Pairwise (Ahd c) := by
  induction xs, ys using mg_ind c with
  | h1 ys => intro _ _ _ _ hy; rw [mg_nil]; exact hy
  | h2 xs => intro _ _ _ hx _; rw [mg_nil']; exact hx
  | h3 x xs y ys hc ih =>
    intro hx hy hlt h1 h2
    rw [mg_le hc]
    refine List.pairwise_cons.2 ⟨fun z hz => ?_, ih (fun a ha => hx a (List.mem_cons_of_mem _ ha)) hy (fun a ha => hlt a (List.mem_cons_of_mem _ ha)) (List.pairwise_cons.1 h1).2 h2⟩
    have hxx := hx x (List.mem_cons_self ..)
    have hyy := hy y (List.mem_cons_self ..)
    rcases List.mem_append.1 ((mg_perm c xs (y :: ys)).mem_iff.1 hz) with m | m
    · exact (List.pairwise_cons.1 h1).1 z m
    · have hl := hlt x (List.mem_cons_self ..) z m
      have hle : c x z ≤ 0 := by
        rcases List.mem_cons.1 m with rfl | m'
        · exact hc
        · exact h.tr x y z hxx hyy (hy z m) hc ((List.pairwise_cons.1 h2).1 z m').le
      by_cases e : c x z = 0
      · exact .inr ⟨e, hl⟩
      · exact .inl (by omega)
  | h4 x xs y ys hc ih =>
    intro hx hy hlt h1 h2
    rw [mg_gt hc]
    refine List.pairwise_cons.2 ⟨fun z hz => ?_, ih hx (fun a ha => hy a (List.mem_cons_of_mem _ ha)) (fun a ha b hb => hlt a ha b (List.mem_cons_of_mem _ hb)) h1 (List.pairwise_cons.1 h2).2⟩
    have hxx := hx x (List.mem_cons_self ..)
    have hyy := hy y (List.mem_cons_self ..)
    have s := h.sw x y hxx hyy
    rcases List.mem_append.1 ((mg_perm c (x :: xs) ys).mem_iff.1 hz) with m | m
    · refine .inl ?_
      rcases List.mem_cons.1 m with rfl | m'
      · omega
      · exact h.lt_le hyy hxx (hx z m) (by omega) ((List.pairwise_cons.1 h1).1 z m').le
    · exact (List.pairwise_cons.1 h2).1 z m

theorem srF_ahd {P : Nat → Prop} {c : Nat → Nat → Int} (h : Pre P c) : ∀ (f : Nat) (l : List Nat), l.length ≤ f → (∀ x ∈ l, P x) → l.Pairwise (· < ·) → (srF c f l).Pairwise (Ahd c)
  | 0, l, hl, _, _ => by
    have : l = [] := List.length_eq_zero_iff.1 (by omega)
    subst this; exact .nil
  | f + 1, l, hl, hP, hs => by
    unfold srF
    split
    · rename_i h2
      match l, h2 with
      | [], _ => exact .nil
      | [x], _ => exact List.pairwise_singleton _ _
    · rename_i h2
      have hs' := hs
      rw [← List.take_append_drop (l.length / 2) l] at hs'
      obtain ⟨p1, p2, p3⟩ := List.pairwise_append.1 hs'
      refine mg_ahd h _ _ (fun x hx => ?_) (fun x hx => ?_) (fun x hx y hy => ?_) (srF_ahd h f _ (by rw [List.length_take]; omega) (fun x hx => hP x (List.mem_of_mem_take hx)) p1) (srF_ahd h f _ (by rw [List.length_drop]; omega) (fun x hx => hP x (List.mem_of_mem_drop hx)) p2)
      · exact hP x (List.mem_of_mem_take ((srF_perm c f _).mem_iff.1 hx))
      · exact hP x (List.mem_of_mem_drop ((srF_perm c f _).mem_iff.1 hx))
      · exact p3 x ((srF_perm c f _).mem_iff.1 hx) y ((srF_perm c f _).mem_iff.1 hy)

/-- the places of n keys, sorted -/
def srt (c : Nat → Nat → Int) (n : Nat) : List Nat := srF c n (List.range n)
theorem srt_len (c : Nat → Nat → Int) (n : Nat) : (srt c n).length = n := by unfold srt; rw [srF_len, List.length_range]
theorem srt_perm (c : Nat → Nat → Int) (n : Nat) : (srt c n).Perm (List.range n) := srF_perm ..
theorem srt_lt {c : Nat → Nat → Int} {n i : Nat} (h : i ∈ srt c n) : i < n := List.mem_range.1 ((srt_perm c n).mem_iff.1 h)
theorem srt_ahd {c : Nat → Nat → Int} {n : Nat} (h : Pre (· < n) c) : (srt c n).Pairwise (Ahd c) :=
  srF_ahd h n _ (by rw [List.length_range]; omega) (fun x hx => List.mem_range.1 hx) List.pairwise_lt_range

/-- where a row is cut: from the place i on, the run having begun at b -/
def cutF (c : Nat → Nat → Int) (l : List Nat) : Nat → Nat → Nat → List (Nat × Nat)
  | 0, _, _ => []
  | f + 1, i, b => if i = l.length ∨ c (l.getD (i - 1) 0) (l.getD i 0) < 0 then (b, i) :: cutF c l f (i + 1) i else cutF c l f (i + 1) b
def cut (c : Nat → Nat → Int) (l : List Nat) : List (Nat × Nat) := cutF c l l.length 1 0
def run (l : List Nat) (p : Nat × Nat) : List Nat := (l.take p.2).drop p.1

theorem cutF_flat (c : Nat → Nat → Int) (l : List Nat) : ∀ (f i b : Nat), i + f = l.length + 1 → b < i → (cutF c l f i b).flatMap (run l) = if i ≤ l.length then l.drop b else []
  | 0, i, b, h, hb => by rw [if_neg (by omega)]; rfl
  | f + 1, i, b, h, hb => by
    rw [if_pos (by omega)]
    unfold cutF
    split
    · rename_i hc
      rw [List.flatMap_cons, cutF_flat c l f (i + 1) i (by omega) (by omega)]
      by_cases e : i + 1 ≤ l.length
      · rw [if_pos e]
        show (l.take i).drop b ++ l.drop i = l.drop b
        conv => rhs; rw [← List.take_append_drop i l]
        rw [List.drop_append_of_le_length (by rw [List.length_take]; omega)]
      · have hi : i = l.length := by omega
        rw [if_neg e, List.append_nil, hi]
        show (l.take l.length).drop b = _
        rw [List.take_length]
    · rename_i hc
      have hi : i ≠ l.length := fun e => hc (.inl e)
      rw [cutF_flat c l f (i + 1) b (by omega) (by omega), if_pos (by omega)]

/-- the runs, one behind the other, are the row -/
theorem cut_flat (c : Nat → Nat → Int) (l : List Nat) : (cut c l).flatMap (run l) = l := by
  unfold cut
  rw [cutF_flat c l l.length 1 0 (by omega) (by omega)]
  cases l with
  | nil => rfl
  | cons x xs => simp
theorem cutF_in (c : Nat → Nat → Int) (l : List Nat) : ∀ (f i b : Nat), i + f = l.length + 1 → b < i → ∀ p ∈ cutF c l f i b, p.1 < p.2 ∧ p.2 ≤ l.length
  | 0, i, b, h, hb, p, hp => by cases hp
  | f + 1, i, b, h, hb, p, hp => by
    unfold cutF at hp
    split at hp
    · rcases List.mem_cons.1 hp with rfl | hp
      · exact ⟨hb, by show i ≤ _; omega⟩
      · exact cutF_in c l f (i + 1) i (by omega) (by omega) p hp
    · exact cutF_in c l f (i + 1) b (by omega) (by omega) p hp
theorem cut_in (c : Nat → Nat → Int) (l : List Nat) {p : Nat × Nat} (hp : p ∈ cut c l) : p.1 < p.2 ∧ p.2 ≤ l.length := cutF_in c l l.length 1 0 (by omega) (by omega) p hp
theorem cutF_len (c : Nat → Nat → Int) (l : List Nat) : ∀ (f i b : Nat), (cutF c l f i b).length ≤ f
  | 0, _, _ => Nat.le_refl _
  | f + 1, i, b => by
    unfold cutF
    split
    · rw [List.length_cons]; have := cutF_len c l f (i + 1) i; omega
    · have := cutF_len c l f (i + 1) b; omega

/-- the keys' order, by their places -/
def cK (h : Nat) (ks : List VT) (i j : Nat) : Int := match ks[i]?, ks[j]? with
  | some a, some b => cmpH h a b
  | _, _ => 0
theorem cK_at {h : Nat} {ks : List VT} {i j : Nat} (hi : i < ks.length) (hj : j < ks.length) : cK h ks i j = cmpH h ks[i] ks[j] := by
  unfold cK; rw [List.getElem?_eq_getElem hi, List.getElem?_eq_getElem hj]
theorem cK_pre {h : Nat} {ks : List VT} (hf : ∀ T ∈ ks, formN h T = true) : Pre (· < ks.length) (cK h ks) where
  bd := fun x y hx hy => by rw [cK_at hx hy]; exact (cmpH_ord h).bd _ _ (hf _ (List.getElem_mem hx)) (hf _ (List.getElem_mem hy))
  sw := fun x y hx hy => by rw [cK_at hx hy, cK_at hy hx]; exact (cmpH_ord h).sw _ _ (hf _ (List.getElem_mem hx)) (hf _ (List.getElem_mem hy))
  tr := fun x y z hx hy hz => by rw [cK_at hx hy, cK_at hy hz, cK_at hx hz]; exact (cmpH_ord h).tr _ _ _ (hf _ (List.getElem_mem hx)) (hf _ (List.getElem_mem hy)) (hf _ (List.getElem_mem hz))
end Go.Proofs.Ytmknelkgfnklfaa
namespace Go.Proofs.Ytmknelkgfnklfaa
open Go.RowKit
set_option linter.unusedVariables false
set_option linter.unusedSimpArgs false

/-- All answers, where Formed does -/
def FmOk (h : Nat) : Prop := ∀ (T : VT) (v : Value) (w : World), InH w h T v → Calls Try.prog 27 #[v] w fun e w' => e = .returned (.bool (formN h T)) ∧ Below w.heap.size w w'

theorem all_up {ts : List VT} {f : VT → Bool} {k : Nat} (hk : k < ts.length) : (ts.take (k + 1)).all f = ((ts.take k).all f && f ts[k]) := by
  rw [List.take_succ_eq_append_getElem hk, List.all_append]; simp
theorem all_no {ts : List VT} {f : VT → Bool} {k : Nat} (hk : k < ts.length) (h : f ts[k] = false) : ts.all f = false := by
  rw [List.all_eq_false]; exact ⟨ts[k], List.getElem_mem hk, by simp [h]⟩

set_option maxRecDepth 100000 in
set_option maxHeartbeats 3200000 in
theorem w_All (h : Nat) (ih : FmOk h) (io : Option Addr) (N icap : Nat) (ts : List VT) (w : World) (hi : IIn w h io ts) (hN : ts.length = N) (hcap : N ≤ icap) (hN2 : N ≤ 140737488355328) :
    Calls Try.prog 23 #[.slice io N icap] w fun e w' => e = .returned (.bool (ts.all (formN h))) ∧ Below w.heap.size w w' := by
  have HI := Hid.mk hi
  have HNN := Hid.mk hN
  have HIh := Hid.mk ih
  clear hi hN ih
  go_enter Try.func23, Try.ntmps23
  go_wp2_with fail
  go_loopw [3] (fun i wr => ∃ k : Nat, k ≤ N ∧ i = .int .i64 (k : Int) ∧ Hid (Below w.heap.size w wr) ∧ Hid ((ts.take k).all (formN h) = true)) (fun i _ => N - (intOf i).toNat)
  case atStart => exact ⟨0, Nat.zero_le _, rfl, Below.refl _ _, rfl⟩
  case round =>
    obtain ⟨k, hk, rfl, HB, HQ⟩ := hrel
    by_cases hlt : k < N
    · have hl1 : (k : Int) < (N : Int) := by omega
      have hkl : k < ts.length := by rw [HNN.out]; exact hlt
      obtain ⟨b, off, hio, hbl, hrow⟩ := (HI.out.keep HB.out).row (by omega)
      subst hio
      obtain ⟨v0, v1, v2, v3, v4, ⟨c0, c1, c2, c3, c4⟩, ht⟩ := hrow k hkl
      have HC := Hid.mk (HIh.out _ _ wr ht)
      have HUp := Hid.mk (all_up (f := formN h) hkl)
      have HNo := Hid.mk (fun hh => all_no (f := formN h) hkl hh)
      clear hrow hbl ht
      cases hf : formN h ts[k] with
      | true =>
        rw [hf] at HC
        have HN : Hid ((ts.take (k + 1)).all (formN h) = true) := by show _ = _; rw [HUp.out, HQ.out, hf]; rfl
        clear hf hkl HUp HNo
        go_wp2_with fail
        refine HC.out.mono ?_
        rintro e w2 ⟨rfl, hb2⟩
        have HB2 := Hid.mk (HB.out.trans (hb2.mono HB.out.size))
        clear hb2 c0 c1 c2 c3 c4
        go_wp2_with fail
        go_roundw
        case rel => exact ⟨k + 1, hlt, by go_num, HB2, HN⟩
        case measure => simp [intOf]; omega
      | false =>
        rw [hf] at HC
        have HF := Hid.mk (HNo.out hf)
        clear hf hkl HUp HNo
        go_wp2_with fail
        refine HC.out.mono ?_
        rintro e w2 ⟨rfl, hb2⟩
        have HB2 := Hid.mk (HB.out.trans (hb2.mono HB.out.size))
        clear hb2 c0 c1 c2 c3 c4
        go_wp2_with fail
        go_ret
        exact ⟨by rw [HF.out]; rfl, HB2.out⟩
    · have hl1 : ¬ (k : Int) < (N : Int) := by omega
      have HF : Hid (ts.all (formN h) = true) := by
        have h1 := HQ.out
        rw [List.take_of_length_le (by rw [HNN.out]; omega)] at h1
        exact h1
      go_wp2_with fail
      go_ret
      exact ⟨by rw [HF.out]; rfl, HB.out⟩
end Go.Proofs.Ytmknelkgfnklfaa
namespace Go.Proofs.Ytmknelkgfnklfaa
open Go.RowKit
set_option linter.unusedVariables false
set_option linter.unusedSimpArgs false

set_option maxRecDepth 100000 in
set_option maxHeartbeats 3200000 in
theorem formr_0 (nm tx : ByteArray) (io : Option Addr) (N icap : Nat) (ko : Option Addr) (K kcap : Nat) (A RO : Bool) (w : World)
    (HAll : Hid (∀ u, Below w.heap.size w u → Calls Try.prog 23 #[.slice io N icap] u fun e w' => e = .returned (.bool A) ∧ Below u.heap.size u w'))
    (HRise : Hid (∀ u, Below w.heap.size w u → Calls Try.prog 46 #[.slice ko K kcap] u fun e w' => e = .returned (.bool RO) ∧ Below u.heap.size u w'))
    (HA0 : Hid (N = 0 → A = true)) (hn : nm.size ≤ 140737488355328) (ht : tx.size ≤ 140737488355328) (hN : N ≤ icap) (hK : K ≤ kcap) :
    Calls Try.prog 27 #[.agg #[.int .i64 0, .string nm, .string tx, .slice io N icap, .slice ko K kcap]] w fun e w' => e = .returned (.bool (formV 0 nm tx N K A RO)) ∧ Below w.heap.size w w' := by
  have HX := Hid.mk (vbx_new w (.int .i64 0) (.string nm) (.string tx) (.slice io N icap) (.slice ko K kcap))
  have HNum := Hid.mk (fun u => w_Number nm u (by omega))
  have HUtf := Hid.mk (fun u => w_UTF tx u (by omega))
  cases he1 : nm.toList.isEmpty with
  | false =>
    have HF : Hid (formV 0 nm tx N K A RO = false) := by show _ = _; unfold formV bareB; rw [if_pos (by omega), he1]; rfl
    go_enter Try.func27, Try.ntmps27
    go_wp2_with fail
    go_ret
    exact ⟨by rw [HF.out]; rfl, HX.out.below⟩
  | true =>
    cases he2 : tx.toList.isEmpty with
    | false =>
      have HF : Hid (formV 0 nm tx N K A RO = false) := by show _ = _; unfold formV bareB; rw [if_pos (by omega), he1, he2]; rfl
      go_enter Try.func27, Try.ntmps27
      go_wp2_with fail
      go_ret
      exact ⟨by rw [HF.out]; rfl, HX.out.below⟩
    | true =>
      by_cases hN0 : N = 0
      · subst hN0
        by_cases hK0 : K = 0
        · subst hK0
          have HF : Hid (formV 0 nm tx 0 0 A RO = A) := by show _ = _; rw [HA0.out rfl]; unfold formV bareB; rw [if_pos (by omega), he1, he2]; rfl
          go_enter Try.func27, Try.ntmps27
          go_wp2_with fail
          refine (HAll.out _ HX.out.below).mono ?_
          rintro e w9 ⟨rfl, hb9⟩
          have HX9 := Hid.mk (HX.out.keep hb9)
          clear hb9
          go_wp2_with fail
          go_ret
          exact ⟨by rw [HF.out]; rfl, HX9.out.below⟩
        · have hK1 : (0 : Int) < (K : Int) := by omega
          have HF : Hid (formV 0 nm tx 0 K A RO = false) := by show _ = _; unfold formV bareB; rw [if_pos (by omega), he1, he2, decide_eq_false hK0]; simp
          clear hK0
          go_enter Try.func27, Try.ntmps27
          go_wp2_with fail
          go_ret
          exact ⟨by rw [HF.out]; rfl, HX.out.below⟩
      · have hN1 : (0 : Int) < (N : Int) := by omega
        have HF : Hid (formV 0 nm tx N K A RO = false) := by show _ = _; unfold formV bareB; rw [if_pos (by omega), he1, he2, decide_eq_false hN0]; simp
        clear hN0
        go_enter Try.func27, Try.ntmps27
        go_wp2_with fail
        go_ret
        exact ⟨by rw [HF.out]; rfl, HX.out.below⟩

end Go.Proofs.Ytmknelkgfnklfaa
