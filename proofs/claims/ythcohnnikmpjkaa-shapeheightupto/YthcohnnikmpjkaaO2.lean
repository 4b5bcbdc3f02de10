import Derived.Test.YthcohnnikmpjkaaO1
namespace Go.Proofs.Ythcohnnikmpjkaa
open Go.RowKit
set_option linter.unusedVariables false
set_option linter.unusedSimpArgs false

theorem Ord.map {α β : Type} {Q : β → Prop} {c : β → β → Int} (o : Ord Q c) {P : α → Prop} {d : α → α → Int} (g : β → α) (hg : ∀ x, P x → ∃ n, x = g n ∧ Q n) (hd : ∀ n m, Q n → Q m → d (g n) (g m) = c n m) : Ord P d where
  bd := fun x y hx hy => by
    obtain ⟨n, rfl, hn⟩ := hg x hx
    obtain ⟨m, rfl, hm⟩ := hg y hy
    rw [hd n m hn hm]; exact o.bd n m hn hm
  sw := fun x y hx hy => by
    obtain ⟨n, rfl, hn⟩ := hg x hx
    obtain ⟨m, rfl, hm⟩ := hg y hy
    rw [hd n m hn hm, hd m n hm hn]; exact o.sw n m hn hm
  zr := fun x y hx hy h => by
    obtain ⟨n, rfl, hn⟩ := hg x hx
    obtain ⟨m, rfl, hm⟩ := hg y hy
    rw [hd n m hn hm] at h; rw [o.zr n m hn hm h]
  tr := fun x y z hx hy hz h1 h2 => by
    obtain ⟨n, rfl, hn⟩ := hg x hx
    obtain ⟨m, rfl, hm⟩ := hg y hy
    obtain ⟨k, rfl, hk⟩ := hg z hz
    rw [hd n m hn hm] at h1; rw [hd m k hm hk] at h2; rw [hd n k hn hk]; exact o.tr n m k hn hm hk h1 h2

theorem Ord.pair {α β : Type} {P : α → Prop} {c : α → α → Int} (o : Ord P c) {Q : β → Prop} {d : β → β → Int} (p : Ord Q d) :
    Ord (fun x : α × β => P x.1 ∧ Q x.2) (fun x y => if c x.1 y.1 = 0 then d x.2 y.2 else c x.1 y.1) where
  bd := fun x y hx hy => by
    show -1 ≤ (if c x.1 y.1 = 0 then d x.2 y.2 else c x.1 y.1) ∧ (if c x.1 y.1 = 0 then d x.2 y.2 else c x.1 y.1) ≤ 1
    split
    · exact p.bd _ _ hx.2 hy.2
    · exact o.bd _ _ hx.1 hy.1
  sw := fun x y hx hy => by
    show (if c y.1 x.1 = 0 then d y.2 x.2 else c y.1 x.1) = -(if c x.1 y.1 = 0 then d x.2 y.2 else c x.1 y.1)
    have e := o.sw _ _ hx.1 hy.1
    by_cases h0 : c x.1 y.1 = 0
    · rw [if_pos h0, if_pos (by omega)]; exact p.sw _ _ hx.2 hy.2
    · rw [if_neg h0, if_neg (by omega)]; exact e
  zr := fun x y hx hy h => by
    have h' : (if c x.1 y.1 = 0 then d x.2 y.2 else c x.1 y.1) = 0 := h
    by_cases h0 : c x.1 y.1 = 0
    · rw [if_pos h0] at h'
      exact Prod.ext (o.zr _ _ hx.1 hy.1 h0) (p.zr _ _ hx.2 hy.2 h')
    · rw [if_neg h0] at h'; exact absurd h' h0
  tr := fun x y z hx hy hz h1 h2 => by
    have h1' : (if c x.1 y.1 = 0 then d x.2 y.2 else c x.1 y.1) ≤ 0 := h1
    have h2' : (if c y.1 z.1 = 0 then d y.2 z.2 else c y.1 z.1) ≤ 0 := h2
    show (if c x.1 z.1 = 0 then d x.2 z.2 else c x.1 z.1) ≤ 0
    by_cases a : c x.1 y.1 = 0
    · rw [if_pos a] at h1'
      have e := o.zr _ _ hx.1 hy.1 a
      rw [e]
      by_cases b : c y.1 z.1 = 0
      · rw [if_pos b] at h2' ⊢; exact p.tr _ _ _ hx.2 hy.2 hz.2 h1' h2'
      · rw [if_neg b] at h2' ⊢; exact h2'
    · rw [if_neg a] at h1'
      by_cases b : c y.1 z.1 = 0
      · have e := o.zr _ _ hy.1 hz.1 b
        rw [← e, if_neg a]; exact h1'
      · rw [if_neg b] at h2'
        have t := o.tr _ _ _ hx.1 hy.1 hz.1 h1' h2'
        by_cases e : c x.1 z.1 = 0
        · have e2 := o.zr _ _ hx.1 hz.1 e
          have := o.sw _ _ hx.1 hy.1
          rw [e2] at this
          rw [e2] at h1' a
          omega
        · rw [if_neg e]; exact t

theorem ord_one : Ord (fun _ : Unit => True) (fun _ _ => 0) := ⟨fun _ _ _ _ => by omega, fun _ _ _ _ => by omega, fun _ _ _ _ _ => rfl, fun _ _ _ _ _ _ _ _ => by omega⟩

theorem ord_kind {α : Type} {P : α → Prop} {f : α → Int} {c d : α → α → Int} (hc : ∀ x y, c x y = if f x < f y then -1 else if f y < f x then 1 else d x y)
    (o : ∀ k, Ord (fun x => P x ∧ f x = k) d) : Ord P c where
  bd := fun x y hx hy => by
    rw [hc]
    split
    · omega
    · split
      · omega
      · exact (o (f x)).bd x y ⟨hx, rfl⟩ ⟨hy, by omega⟩
  sw := fun x y hx hy => by
    rw [hc, hc]
    by_cases a : f x < f y
    · rw [if_neg (by omega), if_pos a, if_pos a]; rfl
    · by_cases b : f y < f x
      · rw [if_pos b, if_neg a, if_pos b]
      · rw [if_neg b, if_neg a, if_neg a, if_neg b]; exact (o (f x)).sw x y ⟨hx, rfl⟩ ⟨hy, by omega⟩
  zr := fun x y hx hy h => by
    rw [hc] at h
    by_cases a : f x < f y
    · rw [if_pos a] at h; omega
    · by_cases b : f y < f x
      · rw [if_neg a, if_pos b] at h; omega
      · rw [if_neg a, if_neg b] at h; exact (o (f x)).zr x y ⟨hx, rfl⟩ ⟨hy, by omega⟩ h
  tr := fun x y z hx hy hz h1 h2 => by
    rw [hc] at h1 h2 ⊢
    by_cases a : f y < f x
    · rw [if_neg (by omega), if_pos a] at h1; omega
    · by_cases b : f z < f y
      · rw [if_neg (by omega), if_pos b] at h2; omega
      · by_cases e : f x < f z
        · rw [if_pos e]; omega
        · rw [if_neg (by omega), if_neg a] at h1
          rw [if_neg (by omega), if_neg b] at h2
          rw [if_neg e, if_neg (by omega)]
          exact (o (f x)).tr x y z ⟨hx, rfl⟩ ⟨hy, by omega⟩ ⟨hz, by omega⟩ h1 h2

/-- values of one kind -/
def cmpI' (h : Nat) (A B : VT) : Int := if A.kind = 3 then numC A.num B.num else if A.kind = 4 then keyC A.text B.text else if A.kind = 5 then listC (cmpH h) A.items B.items else if A.kind = 6 then (if listC keyC A.keys B.keys = 0 then listC (cmpH h) A.items B.items else listC keyC A.keys B.keys) else 0

theorem cmpH_kind (h : Nat) (o : Ord (fun T => formN h T = true) (cmpH h)) (k : Int) : Ord (fun T : VT => formN (h + 1) T = true ∧ T.kind = k) (cmpI' h) := by
  by_cases k3 : k = 3
  · subst k3
    refine numC_ord.map (fun n => .mk 3 n .empty [] []) (fun x hx => ?_) (fun n m _ _ => rfl)
    rcases form_open hx.1 with (rfl | rfl | rfl) | ⟨n, rfl, hn⟩ | ⟨n, rfl, _⟩ | ⟨i, rfl, _⟩ | ⟨i, ks, rfl, _⟩
    · exact absurd hx.2 (by simp [VT.kind])
    · exact absurd hx.2 (by simp [VT.kind])
    · exact absurd hx.2 (by simp [VT.kind])
    · exact ⟨n, rfl, hn⟩
    · exact absurd hx.2 (by simp [VT.kind])
    · exact absurd hx.2 (by simp [VT.kind])
    · exact absurd hx.2 (by simp [VT.kind])
  by_cases k4 : k = 4
  · subst k4
    refine keyC_ord.map (fun n => .mk 4 .empty n [] []) (fun x hx => ?_) (fun n m _ _ => rfl)
    rcases form_open hx.1 with (rfl | rfl | rfl) | ⟨n, rfl, hn⟩ | ⟨n, rfl, _⟩ | ⟨i, rfl, _⟩ | ⟨i, ks, rfl, _⟩
    · exact absurd hx.2 (by simp [VT.kind])
    · exact absurd hx.2 (by simp [VT.kind])
    · exact absurd hx.2 (by simp [VT.kind])
    · exact absurd hx.2 (by simp [VT.kind])
    · exact ⟨n, rfl, trivial⟩
    · exact absurd hx.2 (by simp [VT.kind])
    · exact absurd hx.2 (by simp [VT.kind])
  by_cases k5 : k = 5
  · subst k5
    refine (listC_ord o).map (fun n => .mk 5 .empty .empty n []) (fun x hx => ?_) (fun n m _ _ => rfl)
    rcases form_open hx.1 with (rfl | rfl | rfl) | ⟨n, rfl, hn⟩ | ⟨n, rfl, _⟩ | ⟨i, rfl, hi⟩ | ⟨i, ks, rfl, _⟩
    · exact absurd hx.2 (by simp [VT.kind])
    · exact absurd hx.2 (by simp [VT.kind])
    · exact absurd hx.2 (by simp [VT.kind])
    · exact absurd hx.2 (by simp [VT.kind])
    · exact absurd hx.2 (by simp [VT.kind])
    · exact ⟨i, rfl, hi⟩
    · exact absurd hx.2 (by simp [VT.kind])
  by_cases k6 : k = 6
  · subst k6
    refine ((listC_ord keyC_ord).pair (listC_ord o)).map (fun n => .mk 6 .empty .empty n.2 n.1) (fun x hx => ?_) (fun n m _ _ => rfl)
    rcases form_open hx.1 with (rfl | rfl | rfl) | ⟨n, rfl, hn⟩ | ⟨n, rfl, _⟩ | ⟨i, rfl, hi⟩ | ⟨i, ks, rfl, _, _, _, hi⟩
    · exact absurd hx.2 (by simp [VT.kind])
    · exact absurd hx.2 (by simp [VT.kind])
    · exact absurd hx.2 (by simp [VT.kind])
    · exact absurd hx.2 (by simp [VT.kind])
    · exact absurd hx.2 (by simp [VT.kind])
    · exact absurd hx.2 (by simp [VT.kind])
    · exact ⟨(ks, i), rfl, fun _ _ => trivial, hi⟩
  · refine ord_one.map (fun _ => .mk k .empty .empty [] []) (fun x hx => ?_) (fun n m _ _ => ?_)
    · rcases form_open hx.1 with (rfl | rfl | rfl) | ⟨n, rfl, hn⟩ | ⟨n, rfl, _⟩ | ⟨i, rfl, hi⟩ | ⟨i, ks, rfl, _, _, _, hi⟩
      · exact ⟨(), by rw [← hx.2]; rfl, trivial⟩
      · exact ⟨(), by rw [← hx.2]; rfl, trivial⟩
      · exact ⟨(), by rw [← hx.2]; rfl, trivial⟩
      · exact absurd hx.2.symm k3
      · exact absurd hx.2.symm k4
      · exact absurd hx.2.symm k5
      · exact absurd hx.2.symm k6
    · have kk : (VT.mk k .empty .empty [] []).kind = k := rfl
      unfold cmpI'
      rw [if_neg (by rw [kk]; exact k3), if_neg (by rw [kk]; exact k4), if_neg (by rw [kk]; exact k5), if_neg (by rw [kk]; exact k6)]

theorem cmpH_ord : ∀ h, Ord (fun T => formN h T = true) (cmpH h)
  | 0 => by
    have no : ∀ x : VT, ¬ formN 0 x = true := fun x hx => by cases hx
    exact { bd := fun x y hx => absurd hx (no x), sw := fun x y hx => absurd hx (no x), zr := fun x y hx => absurd hx (no x), tr := fun x y z hx => absurd hx (no x) }
  | h + 1 => ord_kind (f := VT.kind) (d := cmpI' h) (fun x y => by
      show cmpV _ _ _ _ _ _ = _
      unfold cmpV cmpI'; rfl) (cmpH_kind h (cmpH_ord h))
end Go.Proofs.Ythcohnnikmpjkaa
