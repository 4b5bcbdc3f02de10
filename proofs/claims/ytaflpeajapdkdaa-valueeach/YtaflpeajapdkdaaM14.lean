import Derived.Test.YtaflpeajapdkdaaM12
import Derived.Test.YtaflpeajapdkdaaM13
namespace Go.Proofs.Ytaflpeajapdkdaa
open Go.RowKit
set_option linter.unusedVariables false
set_option linter.unusedSimpArgs false

/-- what an order keeps, among those that P lets by -/
structure Ord {α : Type} (P : α → Prop) (c : α → α → Int) : Prop where
  bd : ∀ x y, P x → P y → -1 ≤ c x y ∧ c x y ≤ 1
  sw : ∀ x y, P x → P y → c y x = - c x y
  zr : ∀ x y, P x → P y → c x y = 0 → x = y
  tr : ∀ x y z, P x → P y → P z → c x y ≤ 0 → c y z ≤ 0 → c x z ≤ 0
theorem Ord.rf {α : Type} {P : α → Prop} {c : α → α → Int} (h : Ord P c) {x : α} (hx : P x) : c x x = 0 := by
  have := h.sw x x hx hx; omega

/-- two lists in order -/
def listC {α : Type} (c : α → α → Int) : List α → List α → Int
  | [], [] => 0
  | [], _ :: _ => -1
  | _ :: _, [] => 1
  | x :: xs, y :: ys => if c x y = 0 then listC c xs ys else c x y

theorem listC_ord {α : Type} {P : α → Prop} {c : α → α → Int} (h : Ord P c) : Ord (fun l : List α => ∀ x ∈ l, P x) (listC c) where
  bd := by
    intro xs
    induction xs with
    | nil => intro ys _ _; cases ys <;> simp [listC]
    | cons x xs ih =>
      intro ys hx hy
      cases ys with
      | nil => simp [listC]
      | cons y ys =>
        simp only [listC]
        split
        · exact ih ys (fun z hz => hx z (List.mem_cons_of_mem _ hz)) (fun z hz => hy z (List.mem_cons_of_mem _ hz))
        · exact h.bd x y (hx x (List.mem_cons_self ..)) (hy y (List.mem_cons_self ..))
  sw := by
    intro xs
    induction xs with
    | nil => intro ys _ _; cases ys <;> simp [listC]
    | cons x xs ih =>
      intro ys hx hy
      cases ys with
      | nil => simp [listC]
      | cons y ys =>
        have e := h.sw x y (hx x (List.mem_cons_self ..)) (hy y (List.mem_cons_self ..))
        simp only [listC]
        by_cases h0 : c x y = 0
        · rw [if_pos h0, if_pos (by omega)]
          exact ih ys (fun z hz => hx z (List.mem_cons_of_mem _ hz)) (fun z hz => hy z (List.mem_cons_of_mem _ hz))
        · rw [if_neg h0, if_neg (by omega)]; exact e
  zr := by
    intro xs
    induction xs with
    | nil => intro ys _ _ h0; cases ys with
      | nil => rfl
      | cons y ys => simp [listC] at h0
    | cons x xs ih =>
      intro ys hx hy h0
      cases ys with
      | nil => simp [listC] at h0
      | cons y ys =>
        simp only [listC] at h0
        by_cases h1 : c x y = 0
        · rw [if_pos h1] at h0
          rw [h.zr x y (hx x (List.mem_cons_self ..)) (hy y (List.mem_cons_self ..)) h1, ih ys (fun z hz => hx z (List.mem_cons_of_mem _ hz)) (fun z hz => hy z (List.mem_cons_of_mem _ hz)) h0]
        · rw [if_neg h1] at h0; exact absurd h0 h1
  tr := by
    intro xs
    induction xs with
    | nil => intro ys zs _ _ _ _ _; cases zs <;> simp [listC]
    | cons x xs ih =>
      intro ys zs hx hy hz h1 h2
      cases ys with
      | nil => simp [listC] at h1
      | cons y ys =>
        cases zs with
        | nil => simp [listC] at h2
        | cons z zs =>
          have px := hx x (List.mem_cons_self ..)
          have py := hy y (List.mem_cons_self ..)
          have pz := hz z (List.mem_cons_self ..)
          have tx := fun z hz => hx z (List.mem_cons_of_mem _ hz)
          have ty := fun z hz => hy z (List.mem_cons_of_mem _ hz)
          have tz := fun w hw => hz w (List.mem_cons_of_mem _ hw)
          simp only [listC] at h1 h2 ⊢
          by_cases a : c x y = 0
          · rw [if_pos a] at h1
            obtain rfl := h.zr x y px py a
            by_cases b : c x z = 0
            · rw [if_pos b] at h2 ⊢; exact ih ys zs tx ty tz h1 h2
            · rw [if_neg b] at h2 ⊢; exact h2
          · rw [if_neg a] at h1
            by_cases b : c y z = 0
            · obtain rfl := h.zr y z py pz b
              rw [if_neg a]; exact h1
            · rw [if_neg b] at h2
              have t := h.tr x y z px py pz h1 h2
              by_cases d : c x z = 0
              · obtain rfl := h.zr x z px pz d
                have := h.sw x y px py
                omega
              · rw [if_neg d]; exact t

/-- two bytes in order -/
def byteC (x y : UInt8) : Int := if x < y then -1 else if x = y then 0 else 1
theorem byteC_ord : Ord (fun _ : UInt8 => True) byteC := by
  have hl : ∀ x y : UInt8, x < y ↔ x.toNat < y.toNat := fun x y => UInt8.lt_iff_toNat_lt
  have he : ∀ x y : UInt8, x = y ↔ x.toNat = y.toNat := fun x y => UInt8.toNat_inj.symm
  refine ⟨?_, ?_, ?_, ?_⟩
  · intro x y _ _; unfold byteC; split <;> (try split) <;> omega
  · intro x y _ _; unfold byteC; simp only [hl, he]; repeat' split
    all_goals omega
  · intro x y _ _ h0; unfold byteC at h0; simp only [hl, he] at h0 ⊢; split at h0 <;> (try split at h0) <;> omega
  · intro x y z _ _ _ h1 h2; unfold byteC at *; simp only [hl, he] at *; repeat' split at h1
    all_goals repeat' split at h2
    all_goals repeat' split
    all_goals omega

theorem cmpS_list : ∀ a b : List UInt8, Pl.cmpS a b = listC byteC a b
  | [], [] => by simp [Pl.cmpS, Op.bytesLess, listC]
  | [], _ :: _ => by simp [Pl.cmpS, Op.bytesLess, listC]
  | _ :: _, [] => by simp [Pl.cmpS, Op.bytesLess, listC]
  | x :: xs, y :: ys => by
    have ih := cmpS_list xs ys
    simp only [listC]
    rw [← ih]
    by_cases h : x < y
    · have e : byteC x y = -1 := by unfold byteC; rw [if_pos h]
      rw [e, if_neg (by omega)]
      unfold Pl.cmpS
      rw [if_pos (by simp [Op.bytesLess, h])]
    · by_cases h2 : x = y
      · subst h2
        have e : byteC x x = 0 := by unfold byteC; rw [if_neg h, if_pos rfl]
        rw [e, if_pos rfl]
        unfold Pl.cmpS
        simp [Op.bytesLess, h]
      · have e : byteC x y = 1 := by unfold byteC; rw [if_neg h, if_neg h2]
        rw [e, if_neg (by omega)]
        unfold Pl.cmpS
        rw [if_neg (by simp [Op.bytesLess, h, h2]), if_neg (by simp [h2])]

/-- two texts in order -/
def keyC (a b : ByteArray) : Int := Pl.cmpS a.toList b.toList
theorem keyC_ord : Ord (fun _ : ByteArray => True) keyC := by
  have o := listC_ord byteC_ord
  have t : ∀ l : List UInt8, ∀ x ∈ l, True := fun _ _ _ => trivial
  refine ⟨fun x y _ _ => ?_, fun x y _ _ => ?_, fun x y _ _ => ?_, fun x y z _ _ _ => ?_⟩ <;> unfold keyC <;> simp only [cmpS_list]
  · exact o.bd _ _ (t _) (t _)
  · exact o.sw _ _ (t _) (t _)
  · intro h
    have := o.zr _ _ (t _) (t _) h
    rw [Lib.toList_data, Lib.toList_data] at this
    exact Pl.eq_of_toList this
  · exact o.tr _ _ _ (t _) (t _) (t _)

/-- two numbers in order -/
def numC (a b : ByteArray) : Int := Pl.cmpN a.data.toList b.data.toList
theorem formed_inj {a b : List UInt8} (ha : Pl.formed a = true) (hb : Pl.formed b = true) (h : Pl.cmpN a b = 0) : a = b := by
  have hs : ∀ p q : List UInt8, Pl.cmpS p q = 0 → p = q := fun p q h0 => by
    rw [cmpS_list] at h0
    exact (listC_ord byteC_ord).zr p q (fun _ _ => trivial) (fun _ _ => trivial) h0
  have ht : ∀ p q : List UInt8, Pl.cmpT p q = 0 → p = q := fun p q h0 => by
    unfold Pl.cmpT at h0
    split at h0
    · omega
    · split at h0
      · omega
      · exact hs p q h0
  have hbn : ∀ l : List UInt8, Pl.neg l = true → l = 45 :: Pl.body l := fun l h => by
    cases l with
    | nil => simp [Pl.neg] at h
    | cons c r =>
      have h2 : c.toNat = 45 := by simpa [Pl.neg] using h
      have h3 : c = 45 := UInt8.toNat_inj.1 h2
      unfold Pl.body; rw [if_pos h, h3]; rfl
  have hbp : ∀ l : List UInt8, Pl.neg l = false → l = Pl.body l := fun l h => by
    unfold Pl.body; rw [h]; rfl
  unfold Pl.cmpN at h
  rw [ha, hb] at h
  simp only [Bool.and_self, if_true] at h
  cases na : Pl.neg a with
  | true =>
    cases nb : Pl.neg b with
    | true =>
      rw [na, nb] at h
      simp only [if_true] at h
      rw [hbn a na, hbn b nb, ht _ _ h]
    | false => rw [na, nb] at h; simp at h
  | false =>
    cases nb : Pl.neg b with
    | true => rw [na, nb] at h; simp at h
    | false =>
      rw [na, nb] at h
      simp only [Bool.false_eq_true, if_false] at h
      rw [hbp a na, hbp b nb, ht _ _ h]

theorem numC_ord : Ord (fun a : ByteArray => Pl.formed a.data.toList = true) numC := by
  have e : ∀ a b : ByteArray, Pl.formed a.data.toList = true → Pl.formed b.data.toList = true → numC a b = Pl.cmpI (Pl.ival a.data.toList) (Pl.ival b.data.toList) := fun a b ha hb => Pl.cmpN_val ha hb
  refine ⟨fun x y hx hy => ?_, fun x y hx hy => ?_, fun x y hx hy h => ?_, fun x y z hx hy hz h1 h2 => ?_⟩
  · exact Pl.cmpN_bd _ _
  · rw [e _ _ hx hy, e _ _ hy hx]; exact Pl.cmpI_swap _ _
  · exact Pl.eq_of_toList (formed_inj hx hy h)
  · rw [e _ _ hx hy] at h1; rw [e _ _ hy hz] at h2; rw [e _ _ hx hz]
    unfold Pl.cmpI at *
    repeat' split at h1
    all_goals repeat' split at h2
    all_goals repeat' split
    all_goals omega

/-- two values in order, off what their parts come to -/
def cmpV (ka kb : Int) (nc tc kc ic : Int) : Int :=
  if ka < kb then -1 else if kb < ka then 1 else if ka = 3 then nc else if ka = 4 then tc else if ka = 5 then ic else if ka = 6 then (if kc = 0 then ic else kc) else 0
def cmpH : Nat → VT → VT → Int
  | 0, _, _ => 0
  | h + 1, A, B => cmpV A.kind B.kind (numC A.num B.num) (keyC A.text B.text) (listC keyC A.keys B.keys) (listC (cmpH h) A.items B.items)

theorem bare_open {nm tx : ByteArray} {N K : Nat} (h : bareB nm tx N K = true) : nm = .empty ∧ tx = .empty ∧ N = 0 ∧ K = 0 := by
  have em : ∀ s : ByteArray, s.toList.isEmpty = true → s = .empty := fun s hs => by
    rw [Lib.toList_data] at hs
    exact Pl.eq_of_toList (by simpa using hs)
  unfold bareB at h
  simp only [Bool.and_eq_true, decide_eq_true_eq] at h
  exact ⟨em _ h.1.1.1, em _ h.1.1.2, h.1.2, h.2⟩

/-- what a well shaped value is, kind by kind -/
theorem form_open {h : Nat} {T : VT} (hf : formN (h + 1) T = true) :
    (T = .mk 0 .empty .empty [] [] ∨ T = .mk 1 .empty .empty [] [] ∨ T = .mk 2 .empty .empty [] []) ∨
    (∃ n, T = .mk 3 n .empty [] [] ∧ Pl.formed n.data.toList = true) ∨ (∃ t, T = .mk 4 .empty t [] [] ∧ okB t.data.toList = true) ∨
    (∃ i, T = .mk 5 .empty .empty i [] ∧ ∀ x ∈ i, formN h x = true) ∨ (∃ i k, T = .mk 6 .empty .empty i k ∧ k.length = i.length ∧ rK k k.length = true ∧ oK k k.length = true ∧ ∀ x ∈ i, formN h x = true) := by
  obtain ⟨kd, nm, tx, it, ks⟩ := T
  unfold formN at hf
  simp only [VT.kind, VT.num, VT.text, VT.items, VT.keys] at hf
  unfold formV at hf
  by_cases h0 : kd = 0 ∨ kd = 1 ∨ kd = 2
  · rw [if_pos h0] at hf
    obtain ⟨rfl, rfl, a, b⟩ := bare_open hf
    rw [List.eq_nil_of_length_eq_zero a, List.eq_nil_of_length_eq_zero b]
    rcases h0 with rfl | rfl | rfl <;> simp
  · rw [if_neg h0] at hf
    by_cases h3 : kd = 3
    · rw [if_pos h3] at hf
      subst h3
      simp only [Bool.and_eq_true] at hf
      obtain ⟨_, rfl, a, b⟩ := bare_open hf.2
      rw [List.eq_nil_of_length_eq_zero a, List.eq_nil_of_length_eq_zero b]
      exact .inr (.inl ⟨nm, rfl, hf.1⟩)
    · rw [if_neg h3] at hf
      by_cases h4 : kd = 4
      · rw [if_pos h4] at hf
        subst h4
        simp only [Bool.and_eq_true] at hf
        obtain ⟨rfl, _, a, b⟩ := bare_open hf.2
        rw [List.eq_nil_of_length_eq_zero a, List.eq_nil_of_length_eq_zero b]
        exact .inr (.inr (.inl ⟨tx, rfl, hf.1⟩))
      · rw [if_neg h4] at hf
        by_cases h5 : kd = 5
        · rw [if_pos h5] at hf
          subst h5
          simp only [Bool.and_eq_true, List.all_eq_true] at hf
          obtain ⟨rfl, rfl, _, b⟩ := bare_open hf.2
          rw [List.eq_nil_of_length_eq_zero b]
          exact .inr (.inr (.inr (.inl ⟨it, rfl, hf.1⟩)))
        · rw [if_neg h5] at hf
          by_cases h6 : kd = 6
          · rw [if_pos h6] at hf
            subst h6
            simp only [Bool.and_eq_true, List.all_eq_true, decide_eq_true_eq] at hf
            obtain ⟨rfl, rfl, _, _⟩ := bare_open hf.2
            exact .inr (.inr (.inr (.inr ⟨it, ks, rfl, hf.1.1.1, hf.1.1.2.1, hf.1.1.2.2, hf.1.2⟩)))
          · rw [if_neg h6] at hf; cases hf
end Go.Proofs.Ytaflpeajapdkdaa
namespace Go.Proofs.Ytaflpeajapdkdaa
open Go.RowKit
set_option linter.unusedVariables false
set_option linter.unusedSimpArgs false

theorem Ord.map {α β : Type} {Q : β → Prop} {c : β → β → Int} (o : Ord Q c) {P : α → Prop} {d : α → α → Int} (g : β → α) (hg : ∀ x, P x → ∃ n, x = g n ∧ Q n) (hd : ∀ n m, Q n → Q m → d (g n) (g m) = c n m) : Ord P d where
  bd := fun x y hx hy => by
    obtain ⟨n, rfl, hn⟩ := hg x hx
    obtain ⟨m, rfl, hm⟩ := hg y hy
    rw [hd n m hn hm]; exact o.bd n m hn hm
  sw := fun x y hx hy => by
    obtain ⟨n, rfl, hn⟩ := hg x hx
    obtain ⟨m, rfl, hm⟩ := hg y hy
    rw [hd n m hn hm, hd m n hm hn]; exact o.sw n m hn hm
  zr := fun x y hx hy h => by
    obtain ⟨n, rfl, hn⟩ := hg x hx
    obtain ⟨m, rfl, hm⟩ := hg y hy
    rw [hd n m hn hm] at h; rw [o.zr n m hn hm h]
  tr := fun x y z hx hy hz h1 h2 => by
    obtain ⟨n, rfl, hn⟩ := hg x hx
    obtain ⟨m, rfl, hm⟩ := hg y hy
    obtain ⟨k, rfl, hk⟩ := hg z hz
    rw [hd n m hn hm] at h1; rw [hd m k hm hk] at h2; rw [hd n k hn hk]; exact o.tr n m k hn hm hk h1 h2

theorem Ord.pair {α β : Type} {P : α → Prop} {c : α → α → Int} (o : Ord P c) {Q : β → Prop} {d : β → β → Int} (p : Ord Q d) :
    Ord (fun x : α × β => P x.1 ∧ Q x.2) (fun x y => if c x.1 y.1 = 0 then d x.2 y.2 else c x.1 y.1) where
  bd := fun x y hx hy => by
    show -1 ≤ (if c x.1 y.1 = 0 then d x.2 y.2 else c x.1 y.1) ∧ (if c x.1 y.1 = 0 then d x.2 y.2 else c x.1 y.1) ≤ 1
    split
    · exact p.bd _ _ hx.2 hy.2
    · exact o.bd _ _ hx.1 hy.1
  sw := fun x y hx hy => by
    show (if c y.1 x.1 = 0 then d y.2 x.2 else c y.1 x.1) = -(if c x.1 y.1 = 0 then d x.2 y.2 else c x.1 y.1)
    have e := o.sw _ _ hx.1 hy.1
    by_cases h0 : c x.1 y.1 = 0
    · rw [if_pos h0, if_pos (by omega)]; exact p.sw _ _ hx.2 hy.2
    · rw [if_neg h0, if_neg (by omega)]; exact e
  zr := fun x y hx hy h => by
    have h' : (if c x.1 y.1 = 0 then d x.2 y.2 else c x.1 y.1) = 0 := h
    by_cases h0 : c x.1 y.1 = 0
    · rw [if_pos h0] at h'
      exact Prod.ext (o.zr _ _ hx.1 hy.1 h0) (p.zr _ _ hx.2 hy.2 h')
    · rw [if_neg h0] at h'; exact absurd h' h0
  tr := fun x y z hx hy hz h1 h2 => by
    have h1' : (if c x.1 y.1 = 0 then d x.2 y.2 else c x.1 y.1) ≤ 0 := h1
    have h2' : (if c y.1 z.1 = 0 then d y.2 z.2 else c y.1 z.1) ≤ 0 := h2
    show (if c x.1 z.1 = 0 then d x.2 z.2 else c x.1 z.1) ≤ 0
    by_cases a : c x.1 y.1 = 0
    · rw [if_pos a] at h1'
      have e := o.zr _ _ hx.1 hy.1 a
      rw [e]
      by_cases b : c y.1 z.1 = 0
      · rw [if_pos b] at h2' ⊢; exact p.tr _ _ _ hx.2 hy.2 hz.2 h1' h2'
      · rw [if_neg b] at h2' ⊢; exact h2'
    · rw [if_neg a] at h1'
      by_cases b : c y.1 z.1 = 0
      · have e := o.zr _ _ hy.1 hz.1 b
        rw [← e, if_neg a]; exact h1'
      · rw [if_neg b] at h2'
        have t := o.tr _ _ _ hx.1 hy.1 hz.1 h1' h2'
        by_cases e : c x.1 z.1 = 0
        · have e2 := o.zr _ _ hx.1 hz.1 e
          have := o.sw _ _ hx.1 hy.1
          rw [e2] at this
          rw [e2] at h1' a
          omega
        · rw [if_neg e]; exact t

theorem ord_one : Ord (fun _ : Unit => True) (fun _ _ => 0) := ⟨fun _ _ _ _ => by omega, fun _ _ _ _ => by omega, fun _ _ _ _ _ => rfl, fun _ _ _ _ _ _ _ _ => by omega⟩

theorem ord_kind {α : Type} {P : α → Prop} {f : α → Int} {c d : α → α → Int} (hc : ∀ x y, c x y = if f x < f y then -1 else if f y < f x then 1 else d x y)
    (o : ∀ k, Ord (fun x => P x ∧ f x = k) d) : Ord P c where
  bd := fun x y hx hy => by
    rw [hc]
    split
    · omega
    · split
      · omega
      · exact (o (f x)).bd x y ⟨hx, rfl⟩ ⟨hy, by omega⟩
  sw := fun x y hx hy => by
    rw [hc, hc]
    by_cases a : f x < f y
    · rw [if_neg (by omega), if_pos a, if_pos a]; rfl
    · by_cases b : f y < f x
      · rw [if_pos b, if_neg a, if_pos b]
      · rw [if_neg b, if_neg a, if_neg a, if_neg b]; exact (o (f x)).sw x y ⟨hx, rfl⟩ ⟨hy, by omega⟩
  zr := fun x y hx hy h => by
    rw [hc] at h
    by_cases a : f x < f y
    · rw [if_pos a] at h; omega
    · by_cases b : f y < f x
      · rw [if_neg a, if_pos b] at h; omega
      · rw [if_neg a, if_neg b] at h; exact (o (f x)).zr x y ⟨hx, rfl⟩ ⟨hy, by omega⟩ h
  tr := fun x y z hx hy hz h1 h2 => by
    rw [hc] at h1 h2 ⊢
    by_cases a : f y < f x
    · rw [if_neg (by omega), if_pos a] at h1; omega
    · by_cases b : f z < f y
      · rw [if_neg (by omega), if_pos b] at h2; omega
      · by_cases e : f x < f z
        · rw [if_pos e]; omega
        · rw [if_neg (by omega), if_neg a] at h1
          rw [if_neg (by omega), if_neg b] at h2
          rw [if_neg e, if_neg (by omega)]
          exact (o (f x)).tr x y z ⟨hx, rfl⟩ ⟨hy, by omega⟩ ⟨hz, by omega⟩ h1 h2

/-- values of one kind -/
def cmpI' (h : Nat) (A B : VT) : Int := if A.kind = 3 then numC A.num B.num else if A.kind = 4 then keyC A.text B.text else if A.kind = 5 then listC (cmpH h) A.items B.items else if A.kind = 6 then (if listC keyC A.keys B.keys = 0 then listC (cmpH h) A.items B.items else listC keyC A.keys B.keys) else 0

theorem cmpH_kind (h : Nat) (o : Ord (fun T => formN h T = true) (cmpH h)) (k : Int) : Ord (fun T : VT => formN (h + 1) T = true ∧ T.kind = k) (cmpI' h) := by
  by_cases k3 : k = 3
  · subst k3
    refine numC_ord.map (fun n => .mk 3 n .empty [] []) (fun x hx => ?_) (fun n m _ _ => rfl)
    rcases form_open hx.1 with (rfl | rfl | rfl) | ⟨n, rfl, hn⟩ | ⟨n, rfl, _⟩ | ⟨i, rfl, _⟩ | ⟨i, ks, rfl, _⟩
    · exact absurd hx.2 (by simp [VT.kind])
    · exact absurd hx.2 (by simp [VT.kind])
    · exact absurd hx.2 (by simp [VT.kind])
    · exact ⟨n, rfl, hn⟩
    · exact absurd hx.2 (by simp [VT.kind])
    · exact absurd hx.2 (by simp [VT.kind])
    · exact absurd hx.2 (by simp [VT.kind])
  by_cases k4 : k = 4
  · subst k4
    refine keyC_ord.map (fun n => .mk 4 .empty n [] []) (fun x hx => ?_) (fun n m _ _ => rfl)
    rcases form_open hx.1 with (rfl | rfl | rfl) | ⟨n, rfl, hn⟩ | ⟨n, rfl, _⟩ | ⟨i, rfl, _⟩ | ⟨i, ks, rfl, _⟩
    · exact absurd hx.2 (by simp [VT.kind])
    · exact absurd hx.2 (by simp [VT.kind])
    · exact absurd hx.2 (by simp [VT.kind])
    · exact absurd hx.2 (by simp [VT.kind])
    · exact ⟨n, rfl, trivial⟩
    · exact absurd hx.2 (by simp [VT.kind])
    · exact absurd hx.2 (by simp [VT.kind])
  by_cases k5 : k = 5
  · subst k5
    refine (listC_ord o).map (fun n => .mk 5 .empty .empty n []) (fun x hx => ?_) (fun n m _ _ => rfl)
    rcases form_open hx.1 with (rfl | rfl | rfl) | ⟨n, rfl, hn⟩ | ⟨n, rfl, _⟩ | ⟨i, rfl, hi⟩ | ⟨i, ks, rfl, _⟩
    · exact absurd hx.2 (by simp [VT.kind])
    · exact absurd hx.2 (by simp [VT.kind])
    · exact absurd hx.2 (by simp [VT.kind])
    · exact absurd hx.2 (by simp [VT.kind])
    · exact absurd hx.2 (by simp [VT.kind])
    · exact ⟨i, rfl, hi⟩
    · exact absurd hx.2 (by simp [VT.kind])
  by_cases k6 : k = 6
  · subst k6
    refine ((listC_ord keyC_ord).pair (listC_ord o)).map (fun n => .mk 6 .empty .empty n.2 n.1) (fun x hx => ?_) (fun n m _ _ => rfl)
    rcases form_open hx.1 with (rfl | rfl | rfl) | ⟨n, rfl, hn⟩ | ⟨n, rfl, _⟩ | ⟨i, rfl, hi⟩ | ⟨i, ks, rfl, _, _, _, hi⟩
    · exact absurd hx.2 (by simp [VT.kind])
    · exact absurd hx.2 (by simp [VT.kind])
    · exact absurd hx.2 (by simp [VT.kind])
    · exact absurd hx.2 (by simp [VT.kind])
    · exact absurd hx.2 (by simp [VT.kind])
    · exact absurd hx.2 (by simp [VT.kind])
    · exact ⟨(ks, i), rfl, fun _ _ => trivial, hi⟩
  · refine ord_one.map (fun _ => .mk k .empty .empty [] []) (fun x hx => ?_) (fun n m _ _ => ?_)
    · rcases form_open hx.1 with (rfl | rfl | rfl) | ⟨n, rfl, hn⟩ | ⟨n, rfl, _⟩ | ⟨i, rfl, hi⟩ | ⟨i, ks, rfl, _, _, _, hi⟩
      · exact ⟨(), by rw [← hx.2]; rfl, trivial⟩
      · exact ⟨(), by rw [← hx.2]; rfl, trivial⟩
      · exact ⟨(), by rw [← hx.2]; rfl, trivial⟩
      · exact absurd hx.2.symm k3
      · exact absurd hx.2.symm k4
      · exact absurd hx.2.symm k5
      · exact absurd hx.2.symm k6
    · have kk : (VT.mk k .empty .empty [] []).kind = k := rfl
      unfold cmpI'
      rw [if_neg (by rw [kk]; exact k3), if_neg (by rw [kk]; exact k4), if_neg (by rw [kk]; exact k5), if_neg (by rw [kk]; exact k6)]

theorem cmpH_ord : ∀ h, Ord (fun T => formN h T = true) (cmpH h)
  | 0 => by
    have no : ∀ x : VT, ¬ formN 0 x = true := fun x hx => by cases hx
    exact { bd := fun x y hx => absurd hx (no x), sw := fun x y hx => absurd hx (no x), zr := fun x y hx => absurd hx (no x), tr := fun x y z hx => absurd hx (no x) }
  | h + 1 => ord_kind (f := VT.kind) (d := cmpI' h) (fun x y => by
      show cmpV _ _ _ _ _ _ = _
      unfold cmpV cmpI'; rfl) (cmpH_kind h (cmpH_ord h))
end Go.Proofs.Ytaflpeajapdkdaa
namespace Go.Proofs.Ytaflpeajapdkdaa
open Go.RowKit
set_option linter.unusedVariables false
set_option linter.unusedSimpArgs false

/-- All answers, where Formed does -/
def FmOk (h : Nat) : Prop := ∀ (T : VT) (v : Value) (w : World), InH w h T v → Calls Try.prog 6 #[v] w fun e w' => e = .returned (.bool (formN h T)) ∧ Below w.heap.size w w'

theorem all_up {ts : List VT} {f : VT → Bool} {k : Nat} (hk : k < ts.length) : (ts.take (k + 1)).all f = ((ts.take k).all f && f ts[k]) := by
  rw [List.take_succ_eq_append_getElem hk, List.all_append]; simp
theorem all_no {ts : List VT} {f : VT → Bool} {k : Nat} (hk : k < ts.length) (h : f ts[k] = false) : ts.all f = false := by
  rw [List.all_eq_false]; exact ⟨ts[k], List.getElem_mem hk, by simp [h]⟩

set_option maxRecDepth 100000 in
set_option maxHeartbeats 3200000 in
theorem w_All (h : Nat) (ih : FmOk h) (io : Option Addr) (N icap : Nat) (ts : List VT) (w : World) (hi : IIn w h io ts) (hN : ts.length = N) (hcap : N ≤ icap) (hN2 : N ≤ 140737488355328) :
    Calls Try.prog 20 #[.slice io N icap] w fun e w' => e = .returned (.bool (ts.all (formN h))) ∧ Below w.heap.size w w' := by
  have HI := Hid.mk hi
  have HNN := Hid.mk hN
  have HIh := Hid.mk ih
  clear hi hN ih
  go_enter Try.func20, Try.ntmps20
  go_wp2_with fail
  go_loopw [3] (fun i wr => ∃ k : Nat, k ≤ N ∧ i = .int .i64 (k : Int) ∧ Hid (Below w.heap.size w wr) ∧ Hid ((ts.take k).all (formN h) = true)) (fun i _ => N - (intOf i).toNat)
  case atStart => exact ⟨0, Nat.zero_le _, rfl, Below.refl _ _, rfl⟩
  case round =>
    obtain ⟨k, hk, rfl, HB, HQ⟩ := hrel
    by_cases hlt : k < N
    · have hl1 : (k : Int) < (N : Int) := by omega
      have hkl : k < ts.length := by rw [HNN.out]; exact hlt
      obtain ⟨b, off, hio, hbl, hrow⟩ := (HI.out.keep HB.out).row (by omega)
      subst hio
      obtain ⟨v0, v1, v2, v3, v4, ⟨c0, c1, c2, c3, c4⟩, ht⟩ := hrow k hkl
      have HC := Hid.mk (HIh.out _ _ wr ht)
      have HUp := Hid.mk (all_up (f := formN h) hkl)
      have HNo := Hid.mk (fun hh => all_no (f := formN h) hkl hh)
      clear hrow hbl ht
      cases hf : formN h ts[k] with
      | true =>
        rw [hf] at HC
        have HN : Hid ((ts.take (k + 1)).all (formN h) = true) := by show _ = _; rw [HUp.out, HQ.out, hf]; rfl
        clear hf hkl HUp HNo
        go_wp2_with fail
        refine HC.out.mono ?_
        rintro e w2 ⟨rfl, hb2⟩
        have HB2 := Hid.mk (HB.out.trans (hb2.mono HB.out.size))
        clear hb2 c0 c1 c2 c3 c4
        go_wp2_with fail
        go_roundw
        case rel => exact ⟨k + 1, hlt, by go_num, HB2, HN⟩
        case measure => simp [intOf]; omega
      | false =>
        rw [hf] at HC
        have HF := Hid.mk (HNo.out hf)
        clear hf hkl HUp HNo
        go_wp2_with fail
        refine HC.out.mono ?_
        rintro e w2 ⟨rfl, hb2⟩
        have HB2 := Hid.mk (HB.out.trans (hb2.mono HB.out.size))
        clear hb2 c0 c1 c2 c3 c4
        go_wp2_with fail
        go_ret
        exact ⟨by rw [HF.out]; rfl, HB2.out⟩
    · have hl1 : ¬ (k : Int) < (N : Int) := by omega
      have HF : Hid (ts.all (formN h) = true) := by
        have h1 := HQ.out
        rw [List.take_of_length_le (by rw [HNN.out]; omega)] at h1
        exact h1
      go_wp2_with fail
      go_ret
      exact ⟨by rw [HF.out]; rfl, HB.out⟩
end Go.Proofs.Ytaflpeajapdkdaa
namespace Go.Proofs.Ytaflpeajapdkdaa
open Go.RowKit
set_option linter.unusedVariables false
set_option linter.unusedSimpArgs false

set_option maxRecDepth 100000 in
set_option maxHeartbeats 3200000 in
theorem formr_0 (nm tx : ByteArray) (io : Option Addr) (N icap : Nat) (ko : Option Addr) (K kcap : Nat) (A RO : Bool) (w : World)
    (HAll : Hid (∀ u, Below w.heap.size w u → Calls Try.prog 20 #[.slice io N icap] u fun e w' => e = .returned (.bool A) ∧ Below u.heap.size u w'))
    (HRise : Hid (∀ u, Below w.heap.size w u → Calls Try.prog 19 #[.slice ko K kcap] u fun e w' => e = .returned (.bool RO) ∧ Below u.heap.size u w'))
    (HA0 : Hid (N = 0 → A = true)) (hn : nm.size ≤ 140737488355328) (ht : tx.size ≤ 140737488355328) (hN : N ≤ icap) (hK : K ≤ kcap) :
    Calls Try.prog 6 #[.agg #[.int .i64 0, .string nm, .string tx, .slice io N icap, .slice ko K kcap]] w fun e w' => e = .returned (.bool (formV 0 nm tx N K A RO)) ∧ Below w.heap.size w w' := by
  have HX := Hid.mk (vbx_new w (.int .i64 0) (.string nm) (.string tx) (.slice io N icap) (.slice ko K kcap))
  have HNum := Hid.mk (fun u => w_Number nm u (by omega))
  have HUtf := Hid.mk (fun u => w_UTF tx u (by omega))
  cases he1 : nm.toList.isEmpty with
  | false =>
    have HF : Hid (formV 0 nm tx N K A RO = false) := by show _ = _; unfold formV bareB; rw [if_pos (by omega), he1]; rfl
    go_enter Try.func6, Try.ntmps6
    go_wp2_with fail
    go_ret
    exact ⟨by rw [HF.out]; rfl, HX.out.below⟩
  | true =>
    cases he2 : tx.toList.isEmpty with
    | false =>
      have HF : Hid (formV 0 nm tx N K A RO = false) := by show _ = _; unfold formV bareB; rw [if_pos (by omega), he1, he2]; rfl
      go_enter Try.func6, Try.ntmps6
      go_wp2_with fail
      go_ret
      exact ⟨by rw [HF.out]; rfl, HX.out.below⟩
    | true =>
      by_cases hN0 : N = 0
      · subst hN0
        by_cases hK0 : K = 0
        · subst hK0
          have HF : Hid (formV 0 nm tx 0 0 A RO = A) := by show _ = _; rw [HA0.out rfl]; unfold formV bareB; rw [if_pos (by omega), he1, he2]; rfl
          go_enter Try.func6, Try.ntmps6
          go_wp2_with fail
          refine (HAll.out _ HX.out.below).mono ?_
          rintro e w9 ⟨rfl, hb9⟩
          have HX9 := Hid.mk (HX.out.keep hb9)
          clear hb9
          go_wp2_with fail
          go_ret
          exact ⟨by rw [HF.out]; rfl, HX9.out.below⟩
        · have hK1 : (0 : Int) < (K : Int) := by omega
          have HF : Hid (formV 0 nm tx 0 K A RO = false) := by show _ = _; unfold formV bareB; rw [if_pos (by omega), he1, he2, decide_eq_false hK0]; simp
          clear hK0
          go_enter Try.func6, Try.ntmps6
          go_wp2_with fail
          go_ret
          exact ⟨by rw [HF.out]; rfl, HX.out.below⟩
      · have hN1 : (0 : Int) < (N : Int) := by omega
        have HF : Hid (formV 0 nm tx N K A RO = false) := by show _ = _; unfold formV bareB; rw [if_pos (by omega), he1, he2, decide_eq_false hN0]; simp
        clear hN0
        go_enter Try.func6, Try.ntmps6
        go_wp2_with fail
        go_ret
        exact ⟨by rw [HF.out]; rfl, HX.out.below⟩

end Go.Proofs.Ytaflpeajapdkdaa
