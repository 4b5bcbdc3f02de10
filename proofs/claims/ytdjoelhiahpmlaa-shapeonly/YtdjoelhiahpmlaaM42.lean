import Derived.Test.YtdjoelhiahpmlaaM40
import Derived.Test.YtdjoelhiahpmlaaM41
namespace Go.Proofs.Ytdjoelhiahpmlaa
open Go.RowKit Go.Shelf Go.Sort
set_option linter.unusedVariables false
set_option linter.unusedSimpArgs false

/-- is a kind among the kinds of these? -/
def anyK (its : List VT) (k : Int) : Bool := its.any fun x => decide (x.kind = k)
/-- the type of the kinds of some values, where there is height enough -/
def comN (h : Nat) (its : List VT) : TT := if h ≤ 1 then ttEv else widB (anyK its 0) (anyK its 1) (anyK its 2) (anyK its 3) (anyK its 4) (anyK its 5) (anyK its 6)
/-- the near type of what holds no others -/
def nrLeaf (V : VT) : TT := if V.kind = 3 then .mk false false false false false [(V.num, V.num)] [] [] [] else if V.kind = 4 then .mk false false false false false [] [V.text] [] [] else .mk false (decide (V.kind = 0)) (decide (V.kind = 1)) (decide (V.kind = 2)) false [] [] [] []
/-- what is told of all items of an array -/
def itN (h : Nat) (f : VT → TT) (its : List VT) : TT := match its with
  | [] => ttNe
  | x :: r => if r.all (fun y => sameT (h + 2) (f x) (f y)) then f x else comN (h + 1) its
/-- what is told of an object's fields -/
def fdN (h : Nat) (f : VT → TT) (V : VT) : OB := if 12 < V.keys.length then .mk [] [] [] (comN (h + 1) V.items) else .mk V.keys (V.items.map f) (V.keys.map fun _ => true) ttNe
/-- the near type of a value -/
def nrN : Nat → VT → TT
  | 0, V => if V.kind = 5 ∨ V.kind = 6 then ttEv else nrLeaf V
  | h + 1, V => if V.kind = 5 then .mk false false false false false [] [] [.mk (itN h (nrN h) V.items) V.items.length V.items.length] [] else if V.kind = 6 then .mk false false false false false [] [] [] [fdN h (nrN h) V] else nrLeaf V

theorem fm_up : ∀ {h : Nat} {T : TT}, fmN h T = true → fmN (h + 1) T = true
  | 0, _, h => by cases h
  | h + 1, T, hf => by
    rw [fm_split, Bool.and_eq_true, List.all_eq_true] at hf ⊢
    exact ⟨hf.1, fun x hx => fm_up (hf.2 x hx)⟩
theorem fm_le {h m : Nat} {T : TT} (hf : fmN h T = true) (hm : h ≤ m) : fmN m T = true := by
  induction hm with
  | refl => exact hf
  | step _ ih => exact fm_up ih
theorem fm_ev (h : Nat) : fmN (h + 1) ttEv = true := rfl
theorem fm_ne (h : Nat) : fmN (h + 1) ttNe = true := rfl
set_option maxRecDepth 100000 in
theorem fm_widB : ∀ a0 a1 a2 a3 a4 a5 a6 : Bool, fmN 2 (widB a0 a1 a2 a3 a4 a5 a6) = true := by decide +kernel
set_option maxRecDepth 100000 in
theorem nv_widB : ∀ a0 a1 a2 a3 a4 a5 a6 : Bool, (widB a0 a1 a2 a3 a4 a5 a6).never = !(a0 || a1 || a2 || a3 || a4 || a5 || a6) := by decide +kernel
theorem fm_com (h m : Nat) (its : List VT) : fmN (m + 2) (comN h its) = true := by
  unfold comN
  split
  · exact fm_ev _
  · exact fm_le (fm_widB _ _ _ _ _ _ _) (by omega)

theorem any_K {its : List VT} {x : VT} (hx : x ∈ its) : anyK its x.kind = true := List.any_eq_true.2 ⟨x, hx, by simp⟩
theorem nv_com (h : Nat) {its : List VT} {x : VT} {hv : Nat} (hx : x ∈ its) (hf : formN (hv + 1) x = true) : (comN h its).never = false := by
  unfold comN
  split
  · rfl
  · rw [nv_widB]
    have := any_K hx
    rcases kind_of hf with k | k | k | ⟨k, _⟩ | k | k | k <;> rw [k] at this <;> simp [this]
theorem form_pos : ∀ {hv : Nat} {V : VT}, formN hv V = true → ∃ m, hv = m + 1
  | 0, _, h => by cases h
  | m + 1, _, _ => ⟨m, rfl⟩

theorem leaf_never {hv : Nat} {V : VT} (hf : formN (hv + 1) V = true) (h5 : V.kind ≠ 5) (h6 : V.kind ≠ 6) : (nrLeaf V).never = false := by
  unfold nrLeaf
  rcases kind_of hf with k | k | k | ⟨k, _⟩ | k | k | k <;> first | exact absurd k h5 | exact absurd k h6 | (rw [k]; rfl)
theorem nr_never {hv : Nat} {V : VT} (h : Nat) (hf : formN hv V = true) : (nrN h V).never = false := by
  obtain ⟨m, rfl⟩ := form_pos hf
  cases h with
  | zero =>
    unfold nrN
    split
    · rfl
    · next h => exact leaf_never hf (fun k => h (.inl k)) (fun k => h (.inr k))
  | succ h =>
    unfold nrN
    split
    · rfl
    · split
      · rfl
      · exact leaf_never hf (by assumption) (by assumption)
end Go.Proofs.Ytdjoelhiahpmlaa
namespace Go.Proofs.Ytdjoelhiahpmlaa
open Go.RowKit Go.Shelf Go.Sort
set_option linter.unusedVariables false
set_option linter.unusedSimpArgs false

theorem numC_self {n : ByteArray} (hn : Pl.formed n.data.toList = true) : numC n n = 0 := by
  have := numC_ord.sw n n hn hn
  omega
theorem ar_eq (f : TT → Bool) (T : TT) (a b : Int) : arOk f (.mk T a b) = (!(decide (a < 0) || decide (b < -1) || (decide (0 ≤ b) && decide (b < a))) && (f T && (T.never == decide (b = 0)))) := rfl
theorem leaf3 (n : ByteArray) : nrLeaf (.mk 3 n .empty [] []) = .mk false false false false false [(n, n)] [] [] [] := rfl
theorem leaf4 (t : ByteArray) : nrLeaf (.mk 4 .empty t [] []) = .mk false false false false false [] [t] [] [] := rfl
theorem fd_eq (h : Nat) (f : VT → TT) (i : List VT) (ks : List ByteArray) : fdN h f (.mk 6 .empty .empty i ks) = if 12 < ks.length then .mk [] [] [] (comN (h + 1) i) else .mk ks (i.map f) (ks.map fun _ => true) ttNe := rfl
theorem it_eq (h : Nat) (f : VT → TT) (x : VT) (r : List VT) : itN h f (x :: r) = if r.all (fun y => sameT (h + 2) (f x) (f y)) then f x else comN (h + 1) (x :: r) := rfl
theorem fm_leaf {hv : Nat} {V : VT} (m : Nat) (hf : formN (hv + 1) V = true) (h5 : V.kind ≠ 5) (h6 : V.kind ≠ 6) : fmN (m + 1) (nrLeaf V) = true := by
  rcases form_open hf with (rfl | rfl | rfl) | ⟨n, rfl, hn⟩ | ⟨t, rfl, ht⟩ | ⟨i, rfl, hi⟩ | ⟨i, ks, rfl, _, _, _, hi⟩
  · rfl
  · rfl
  · rfl
  · rw [leaf3]
    show (spOk (n, n) && true) = true
    unfold spOk bndB
    simp only [hn, numC_self hn, Bool.or_true, Bool.and_true, decide_true, Int.le_refl]
  · rw [leaf4]
    show ((rK [t] 1 && oK [t] 1) && true) = true
    have h1 : rK [t] 1 = true := rfl
    have h2 : oK [t] 1 = true := by unfold oK; simp [ht]
    rw [h1, h2]; rfl
  · exact absurd rfl h5
  · exact absurd rfl h6

theorem it_cases (h : Nat) (f : VT → TT) (its : List VT) : (its = [] ∧ itN h f its = ttNe) ∨ (∃ x ∈ its, itN h f its = f x ∧ ∀ y ∈ its, f y = f x) ∨ (its ≠ [] ∧ itN h f its = comN (h + 1) its) := by
  cases its with
  | nil => exact .inl ⟨rfl, rfl⟩
  | cons x r =>
    rw [it_eq]
    by_cases hr : r.all (fun y => sameT (h + 2) (f x) (f y)) = true
    · refine .inr (.inl ⟨x, List.mem_cons_self .., by rw [if_pos hr], fun y hy => ?_⟩)
      rcases List.mem_cons.1 hy with rfl | hy
      · rfl
      · exact (sameT_eq _ _ _ (List.all_eq_true.1 hr y hy)).symm
    · exact .inr (.inr ⟨(by simp), by rw [if_neg hr]⟩)
theorem it_never {hv h : Nat} {its : List VT} (hi : ∀ x ∈ its, formN hv x = true) : (itN h (nrN h) its).never = decide (its.length = 0) := by
  rcases it_cases h (nrN h) its with ⟨e, e1⟩ | ⟨x, hx, e1, _⟩ | ⟨hne, e1⟩
  · rw [e1, e]; rfl
  · rw [e1, nr_never h (hi x hx)]
    exact (decide_eq_false (fun h0 => by rw [List.eq_nil_of_length_eq_zero h0] at hx; cases hx)).symm
  · rw [e1]
    cases its with
    | nil => exact absurd rfl hne
    | cons x r =>
      obtain ⟨m, rfl⟩ := form_pos (hi x (List.mem_cons_self ..))
      rw [nv_com _ (List.mem_cons_self ..) (hi x (List.mem_cons_self ..))]
      rfl
/-- the near type is well shaped -/
theorem fm_nr : ∀ (h hv : Nat) (V : VT), formN hv V = true → fmN (h + 2) (nrN h V) = true
  | 0, hv, V, hf => by
    obtain ⟨m, rfl⟩ := form_pos hf
    unfold nrN
    split
    · exact fm_ev _
    · next hk => exact fm_leaf _ hf (fun k => hk (.inl k)) (fun k => hk (.inr k))
  | h + 1, hv, V, hf => by
    obtain ⟨m, rfl⟩ := form_pos hf
    have ih := fm_nr h
    unfold nrN
    split
    · next h5 =>
      rcases form_open hf with (rfl | rfl | rfl) | ⟨n, rfl, hn⟩ | ⟨t, rfl, ht⟩ | ⟨i, rfl, hi⟩ | ⟨i, ks, rfl, _, _, _, hi⟩ <;> (try simp [VT.kind] at h5)
      have hN := it_never (h := h) hi
      have hF : fmN (h + 2) (itN h (nrN h) i) = true := by
        rcases it_cases h (nrN h) i with ⟨e, e1⟩ | ⟨x, hx, e1, _⟩ | ⟨hne, e1⟩
        · rw [e1]; exact fm_ne _
        · rw [e1]; exact ih m x (hi x hx)
        · rw [e1]; exact fm_com _ _ _
      show (arOk (fmN (h + 2)) (.mk (itN h (nrN h) i) (i.length : Int) (i.length : Int)) && true) = true
      rw [ar_eq, hF, hN]
      have a1 : ¬ ((i.length : Int) < 0) := by omega
      have a2 : ¬ ((i.length : Int) < -1) := by omega
      have a3 : ¬ ((i.length : Int) < (i.length : Int)) := by omega
      have a4 : decide ((i.length : Int) = 0) = decide (i.length = 0) := by
        rw [Bool.eq_iff_iff, decide_eq_true_eq, decide_eq_true_eq]; omega
      rw [decide_eq_false a1, decide_eq_false a2, decide_eq_false a3, a4]
      simp
    · split
      · next h5 h6 =>
        rcases form_open hf with (rfl | rfl | rfl) | ⟨n, rfl, hn⟩ | ⟨t, rfl, ht⟩ | ⟨i, rfl, hi⟩ | ⟨i, ks, rfl, hl, hr, ho, hi⟩ <;> (try simp [VT.kind] at h6)
        show ([fdN h (nrN h) (.mk 6 .empty .empty i ks)].all (obOk (fmN (h + 2)))) = true
        rw [List.all_cons, List.all_nil, Bool.and_true]
        rw [fd_eq]
        by_cases h12 : 12 < ks.length
        · rw [if_pos h12]
          have hc := fm_com (h + 1) h i
          unfold obOk
          simp only [OB.names, OB.fields, OB.must, OB.rest, hc]
          rfl
        · rw [if_neg h12]
          unfold obOk
          rw [hl] at hr ho
          simp only [OB.names, OB.fields, OB.must, OB.rest, fm_ne, hr, ho, List.length_map, hl, decide_true, Bool.true_and, Bool.and_true]
          rw [List.all_eq_true]
          intro p hp
          have h1 := (List.of_mem_zip hp).1
          have h2 := (List.of_mem_zip hp).2
          obtain ⟨x, hx, e1⟩ := List.mem_map.1 h1
          unfold fdOk
          rw [← e1, ih m x (hi x hx), nr_never h (hi x hx)]
          simp
      · exact fm_leaf _ hf (by assumption) (by assumption)
end Go.Proofs.Ytdjoelhiahpmlaa
namespace Go.Proofs.Ytdjoelhiahpmlaa
open Go.RowKit Go.Shelf Go.Sort
set_option linter.unusedVariables false
set_option linter.unusedSimpArgs false

theorem inAr_up {f g : VT → TT → Bool} (h : ∀ x t, f x t = true → g x t = true) {its : List VT} {a : AR} (hi : inAr f its a = true) : inAr g its a = true := by
  unfold inAr at hi ⊢
  rw [Bool.and_eq_true, List.all_eq_true] at hi ⊢
  exact ⟨hi.1, fun x hx => h _ _ (hi.2 x hx)⟩
theorem inArs_up {f g : VT → TT → Bool} (h : ∀ x t, f x t = true → g x t = true) {its : List VT} : ∀ {l : List AR}, inArs f its l = true → inArs g its l = true
  | [], hi => hi
  | _ :: _, hi => inAr_up h hi
theorem inF_up {f g : VT → TT → Bool} (h : ∀ x t, f x t = true → g x t = true) {V : VT} {x : ByteArray × TT × Bool} (hi : inF f V x = true) : inF g V x = true := by
  unfold inF at hi ⊢
  cases e : getV V x.1 with
  | none => rw [e] at hi; exact hi
  | some y => rw [e] at hi; exact h _ _ hi
theorem inOb_up {f g : VT → TT → Bool} (h : ∀ x t, f x t = true → g x t = true) {V : VT} {o : OB} (hi : inOb f V o = true) : inOb g V o = true := by
  unfold inOb at hi ⊢
  rw [Bool.and_eq_true, List.all_eq_true, List.all_eq_true] at hi ⊢
  refine ⟨fun x hx => inF_up h (hi.1 x hx), fun p hp => ?_⟩
  have h2 := hi.2 p hp
  rw [Bool.or_eq_true] at h2 ⊢
  exact h2.imp id (h _ _)
theorem in_up : ∀ {h : Nat} {V : VT} {T : TT}, inN h V T = true → inN (h + 1) V T = true
  | 0, _, _, h => by cases h
  | h + 1, V, T, hi => by
    have ih : ∀ x t, inN h x t = true → inN (h + 1) x t = true := fun x t => in_up
    rw [inN, Bool.or_eq_true] at hi ⊢
    refine hi.imp id fun hi => ?_
    by_cases k0 : V.kind = 0
    · rw [if_pos k0] at hi ⊢; exact hi
    rw [if_neg k0] at hi ⊢
    by_cases k1 : V.kind = 1
    · rw [if_pos k1] at hi ⊢; exact hi
    rw [if_neg k1] at hi ⊢
    by_cases k2 : V.kind = 2
    · rw [if_pos k2] at hi ⊢; exact hi
    rw [if_neg k2] at hi ⊢
    by_cases k3 : V.kind = 3
    · rw [if_pos k3] at hi ⊢; exact hi
    rw [if_neg k3] at hi ⊢
    by_cases k4 : V.kind = 4
    · rw [if_pos k4] at hi ⊢; exact hi
    rw [if_neg k4] at hi ⊢
    by_cases k5 : V.kind = 5
    · rw [if_pos k5] at hi ⊢; exact inArs_up ih hi
    rw [if_neg k5] at hi ⊢
    obtain ⟨o, ho, h2⟩ := List.any_eq_true.1 hi
    exact List.any_eq_true.2 ⟨o, ho, inOb_up ih h2⟩
theorem in_le {h m : Nat} {V : VT} {T : TT} (hi : inN h V T = true) (hm : h ≤ m) : inN m V T = true := by
  induction hm with
  | refl => exact hi
  | step _ ih => exact in_up ih
set_option maxRecDepth 100000 in
theorem kb_kv : ∀ a0 a1 a2 a3 a4 a5 a6 : Bool, kb (kvL [a0, a1, a2, a3, a4, a5, a6]) 0 = a0 ∧ kb (kvL [a0, a1, a2, a3, a4, a5, a6]) 1 = a1 ∧ kb (kvL [a0, a1, a2, a3, a4, a5, a6]) 2 = a2 ∧ kb (kvL [a0, a1, a2, a3, a4, a5, a6]) 3 = a3 ∧ kb (kvL [a0, a1, a2, a3, a4, a5, a6]) 4 = a4 ∧ kb (kvL [a0, a1, a2, a3, a4, a5, a6]) 5 = a5 ∧ kb (kvL [a0, a1, a2, a3, a4, a5, a6]) 6 = a6 := by decide +kernel
theorem wid_kv (a0 a1 a2 a3 a4 a5 a6 : Bool) : widT (kvL [a0, a1, a2, a3, a4, a5, a6]) = widB a0 a1 a2 a3 a4 a5 a6 := by
  obtain ⟨e0, e1, e2, e3, e4, e5, e6⟩ := kb_kv a0 a1 a2 a3 a4 a5 a6
  unfold widT
  rw [e0, e1, e2, e3, e4, e5, e6]
/-- the row of the kinds of some values -/
def rowK (its : List VT) : Int := kvL [anyK its 0, anyK its 1, anyK its 2, anyK its 3, anyK its 4, anyK its 5, anyK its 6]
theorem com_row (h : Nat) (its : List VT) : comN h its = if h ≤ 1 then ttEv else widT (rowK its) := by unfold comN rowK; rw [wid_kv]
theorem in_com (h m : Nat) {its : List VT} {x : VT} {hv : Nat} (hx : x ∈ its) (hf : formN (hv + 1) x = true) : inN (m + 2) x (comN h its) = true := by
  rw [com_row]
  split
  · exact in_ev _ _
  · refine in_le (h := 2) ?_ (by omega)
    obtain ⟨i0, i1, i2, i3, i4, i5, i6⟩ := in_wid (rowK its) x
    obtain ⟨e0, e1, e2, e3, e4, e5, e6⟩ := kb_kv (anyK its 0) (anyK its 1) (anyK its 2) (anyK its 3) (anyK its 4) (anyK its 5) (anyK its 6)
    have ha := any_K hx
    rcases kind_of hf with k | k | k | ⟨k, _⟩ | k | k | k
    · rw [i0 k]; rw [k] at ha; exact e0.trans ha
    · rw [i1 k]; rw [k] at ha; exact e1.trans ha
    · rw [i2 k]; rw [k] at ha; exact e2.trans ha
    · rw [i3 k]; rw [k] at ha; exact e3.trans ha
    · rw [i4 k]; rw [k] at ha; exact e4.trans ha
    · rw [i5 k]; rw [k] at ha; exact e5.trans ha
    · rw [i6 k]; rw [k] at ha; exact e6.trans ha

theorem bl_lt : ∀ a b : List UInt8, Op.bytesLess a b = decide (a < b)
  | [], [] => by simp [Op.bytesLess]
  | [], _ :: _ => by simp [Op.bytesLess]
  | _ :: _, [] => by simp [Op.bytesLess]
  | c :: r, d :: t => by
    have hbl : Op.bytesLess (c :: r) (d :: t) = (decide (c < d) || (c == d && Op.bytesLess r t)) := rfl
    rw [hbl, bl_lt r t]
    by_cases h1 : c < d
    · simp [List.cons_lt_cons_iff, h1]
    · by_cases h2 : c = d
      · subst h2
        simp [List.cons_lt_cons_iff, h1]
      · simp [List.cons_lt_cons_iff, h1, h2]
/-- the names of a rising row differ -/
theorem rise_lt {ks : List ByteArray} (hr : rK ks ks.length = true) : ∀ (k : Nat) (hk : k < ks.length) (j : Nat) (hj : j < k), ks[j].toList < ks[k].toList
  | 0, _, j, hj => absurd hj (Nat.not_lt_zero _)
  | k + 1, hk, j, hj => by
    have h1 := List.all_eq_true.1 hr (k + 1) (List.mem_range.2 hk)
    have h2 : rA ks (k + 1) = true := by simpa using h1
    unfold rA at h2
    rw [Nat.add_sub_cancel, List.getD_eq_getElem?_getD, List.getD_eq_getElem?_getD, List.getElem?_eq_getElem (by omega : k < ks.length), List.getElem?_eq_getElem hk, bl_lt, decide_eq_true_eq] at h2
    have h3 : ks[k].toList < ks[k + 1].toList := h2
    by_cases hjk : j = k
    · subst hjk; exact h3
    · exact List.lt_trans (rise_lt hr k (by omega) j (by omega)) h3
theorem rise_ne {ks : List ByteArray} (hr : rK ks ks.length = true) {j k : Nat} (hk : k < ks.length) (hj : j < k) : eqS (ks[j]'(by omega)) ks[k] = false := by
  cases e : eqS (ks[j]'(by omega)) ks[k] with
  | false => rfl
  | true =>
    have h1 := rise_lt hr k hk j hj
    rw [(eqS_iff _ _).1 e] at h1
    exact absurd h1 (List.lt_irrefl _)
theorem eqS_self (a : ByteArray) : eqS a a = true := (eqS_iff a a).2 rfl
end Go.Proofs.Ytdjoelhiahpmlaa
namespace Go.Proofs.Ytdjoelhiahpmlaa
open Go.RowKit Go.Shelf Go.Sort
set_option linter.unusedVariables false
set_option linter.unusedSimpArgs false

theorem in_arr (h : Nat) (i : List VT) (T : TT) (a : AR) (ha : T.arrs = [a]) : inN (h + 1) (.mk 5 .empty .empty i []) T = (T.all || inAr (inN h) i a) := by
  rw [inN, ha]; rfl
theorem in_obj (h : Nat) (i : List VT) (ks : List ByteArray) (T : TT) (o : OB) (ho : T.objs = [o]) : inN (h + 1) (.mk 6 .empty .empty i ks) T = (T.all || (inOb (inN h) (.mk 6 .empty .empty i ks) o || false)) := by
  rw [inN, ho]; rfl
theorem in_leaf {hv : Nat} {V : VT} (m : Nat) (hf : formN (hv + 1) V = true) (h5 : V.kind ≠ 5) (h6 : V.kind ≠ 6) : inN (m + 1) V (nrLeaf V) = true := by
  rcases form_open hf with (rfl | rfl | rfl) | ⟨n, rfl, hn⟩ | ⟨t, rfl, ht⟩ | ⟨i, rfl, hi⟩ | ⟨i, ks, rfl, _, _, _, hi⟩
  · rfl
  · rfl
  · rfl
  · rw [leaf3]
    show (false || hasP n (n, n)) = true
    unfold hasP
    simp [numC_self hn]
  · rw [leaf4]
    show (false || (false || hasK [t] t)) = true
    unfold hasK
    simp [eqS_self]
  · exact absurd rfl h5
  · exact absurd rfl h6
/-- a value is of its near type -/
theorem in_nr : ∀ (h hv : Nat) (V : VT), formN hv V = true → inN (h + 2) V (nrN h V) = true
  | 0, hv, V, hf => by
    obtain ⟨m, rfl⟩ := form_pos hf
    unfold nrN
    split
    · exact in_ev _ _
    · next hk => exact in_leaf _ hf (fun k => hk (.inl k)) (fun k => hk (.inr k))
  | h + 1, hv, V, hf => by
    obtain ⟨m, rfl⟩ := form_pos hf
    have ih := in_nr h
    unfold nrN
    split
    · next h5 =>
      rcases form_open hf with (rfl | rfl | rfl) | ⟨n, rfl, hn⟩ | ⟨t, rfl, ht⟩ | ⟨i, rfl, hi⟩ | ⟨i, ks, rfl, _, _, _, hi⟩ <;> (try simp [VT.kind] at h5)
      rw [in_arr _ i _ (.mk (itN h (nrN h) i) (i.length : Int) (i.length : Int)) rfl]
      show (false || inAr (inN (h + 2)) i (.mk (itN h (nrN h) i) (i.length : Int) (i.length : Int))) = true
      rw [Bool.false_or]
      unfold inAr
      rw [Bool.and_eq_true, List.all_eq_true]
      refine ⟨?_, fun x hx => ?_⟩
      · show (!(decide ((i.length : Int) < (i.length : Int)) || (decide (0 ≤ (i.length : Int)) && decide ((i.length : Int) < (i.length : Int))))) = true
        simp
      · show inN (h + 2) x (itN h (nrN h) i) = true
        rcases it_cases h (nrN h) i with ⟨e, e1⟩ | ⟨y, hy, e1, e2⟩ | ⟨hne, e1⟩
        · rw [e] at hx; cases hx
        · rw [e1, ← e2 x hx]; exact ih m x (hi x hx)
        · rw [e1]
          obtain ⟨m', rfl⟩ := form_pos (hi x hx)
          exact in_com _ _ hx (hi x hx)
    · split
      · next h5 h6 =>
        rcases form_open hf with (rfl | rfl | rfl) | ⟨n, rfl, hn⟩ | ⟨t, rfl, ht⟩ | ⟨i, rfl, hi⟩ | ⟨i, ks, rfl, hl, hr, ho, hi⟩ <;> (try simp [VT.kind] at h6)
        rw [in_obj _ i ks _ (fdN h (nrN h) (.mk 6 .empty .empty i ks)) rfl, fd_eq, Bool.or_false]
        show (false || _) = true
        rw [Bool.false_or]
        unfold inOb
        rw [Bool.and_eq_true, List.all_eq_true, List.all_eq_true]
        by_cases h12 : 12 < ks.length
        · rw [if_pos h12]
          refine ⟨fun x hx => absurd hx (List.not_mem_nil), fun p hp => ?_⟩
          have h2 : p.2 ∈ i := (List.of_mem_zip hp).2
          obtain ⟨m', rfl⟩ := form_pos (hi _ h2)
          show (hasK [] p.1 || inN (h + 2) p.2 (comN (h + 1) i)) = true
          rw [in_com _ _ h2 (hi _ h2), Bool.or_true]
        · rw [if_neg h12]
          refine ⟨fun x hx => ?_, fun p hp => ?_⟩
          · have hx' : x ∈ ks.zip ((i.map (nrN h)).zip (ks.map fun _ => true)) := hx
            obtain ⟨k, hk, e⟩ := List.getElem_of_mem hx'
            have hk' := hk
            simp only [List.length_zip, List.length_map] at hk'
            have e2 : x = (ks[k]'(by omega), nrN h (i[k]'(by omega)), true) := by
              rw [← e]
              simp
            rw [e2]
            unfold inF
            have e3 : getV (.mk 6 .empty .empty i ks) ks[k] = some (i[k]'(by omega)) := by
              show getL ks i ks[k] = _
              rw [getL_at (by omega) (eqS_self _) (fun j hj hjk => rise_ne hr _ hjk), List.getElem?_eq_getElem]
            rw [e3]
            exact ih m _ (hi _ (List.getElem_mem _))
          · have h1 : p.1 ∈ ks := (List.of_mem_zip hp).1
            show (hasK ks p.1 || _) = true
            have : hasK ks p.1 = true := List.any_eq_true.2 ⟨p.1, h1, eqS_self _⟩
            rw [this, Bool.true_or]
      · exact in_leaf _ hf (by assumption) (by assumption)
end Go.Proofs.Ytdjoelhiahpmlaa
namespace Go.Proofs.Ytdjoelhiahpmlaa
open Go.RowKit Go.Shelf Go.Sort
set_option linter.unusedVariables false
set_option linter.unusedSimpArgs false

/-- no row of items is longer than a world can hold -/
def bdV : Nat → VT → Prop
  | 0, _ => False
  | h + 1, V => V.items.length ≤ 140737488355328 ∧ ∀ x ∈ V.items, bdV h x
theorem InH.bd {W : World} : ∀ {h : Nat} {T : VT} {v : Value}, InH W h T v → bdV h T
  | 0, _, _, h => h
  | h + 1, T, v, hI => by
    obtain ⟨io, icap, ko, kcap, e, a1, a2, a3, a4, a5, a6, a7, hk, hi⟩ := hI
    refine ⟨a3, fun x hx => ?_⟩
    obtain ⟨k, hk, rfl⟩ := List.getElem_of_mem hx
    obtain ⟨b, off, _, _, hc⟩ := hi (by omega)
    obtain ⟨v0, v1, v2, v3, v4, _, h2⟩ := hc k hk
    exact h2.bd
theorem rg_ev (m : Nat) : rgT m ttEv := by
  cases m with
  | zero => exact trivial
  | succ m => exact ⟨fun a ha => absurd ha (List.not_mem_nil), fun a ha => absurd ha (List.not_mem_nil)⟩
theorem rg_ne (m : Nat) : rgT m ttNe := by
  cases m with
  | zero => exact trivial
  | succ m => exact ⟨fun a ha => absurd ha (List.not_mem_nil), fun a ha => absurd ha (List.not_mem_nil)⟩
theorem rg_widB (m : Nat) (a0 a1 a2 a3 a4 a5 a6 : Bool) : rgT m (widB a0 a1 a2 a3 a4 a5 a6) := by
  unfold widB
  split
  · exact rg_ev m
  · cases m with
    | zero => exact trivial
    | succ m =>
      refine ⟨fun a ha => ?_, fun o ho => ?_⟩
      · have ha' : a ∈ (if a5 then [AR.mk ttEv 0 (-1)] else []) := ha
        split at ha'
        · obtain rfl := List.mem_singleton.1 ha'
          exact ⟨⟨by decide, by decide⟩, ⟨by decide, by decide⟩, rg_ev m⟩
        · cases ha'
      · have ho' : o ∈ (if a6 then [OB.mk [] [] [] ttEv] else []) := ho
        split at ho'
        · obtain rfl := List.mem_singleton.1 ho'
          exact ⟨fun f hf => absurd hf (List.not_mem_nil), rg_ev m⟩
        · cases ho'
theorem rg_com (m h : Nat) (its : List VT) : rgT m (comN h its) := by
  unfold comN
  split
  · exact rg_ev m
  · exact rg_widB ..
theorem rg_leaf (m : Nat) (V : VT) : rgT m (nrLeaf V) := by
  cases m with
  | zero => exact trivial
  | succ m =>
    unfold nrLeaf
    split
    · exact ⟨fun a ha => absurd ha (List.not_mem_nil), fun a ha => absurd ha (List.not_mem_nil)⟩
    · split <;> exact ⟨fun a ha => absurd ha (List.not_mem_nil), fun a ha => absurd ha (List.not_mem_nil)⟩
theorem rg_nr : ∀ (h m hv : Nat) (V : VT), bdV hv V → rgT m (nrN h V)
  | 0, m, hv, V, hb => by
    unfold nrN
    split
    · exact rg_ev m
    · exact rg_leaf m V
  | h + 1, 0, hv, V, hb => trivial
  | h + 1, m + 1, 0, V, hb => hb.elim
  | h + 1, m + 1, hv + 1, V, hb => by
    obtain ⟨hl, hi⟩ := hb
    have ih : ∀ x ∈ V.items, rgT m (nrN h x) := fun x hx => rg_nr h m hv x (hi x hx)
    unfold nrN
    split
    · refine ⟨fun a ha => ?_, fun o ho => absurd ho (List.not_mem_nil)⟩
      obtain rfl := List.mem_singleton.1 (show a ∈ [AR.mk (itN h (nrN h) V.items) (V.items.length : Int) (V.items.length : Int)] from ha)
      have hr : -9223372036854775808 ≤ (V.items.length : Int) ∧ (V.items.length : Int) < 9223372036854775808 := by omega
      refine ⟨hr, hr, ?_⟩
      show rgT m (itN h (nrN h) V.items)
      rcases it_cases h (nrN h) V.items with ⟨e, e1⟩ | ⟨y, hy, e1, e2⟩ | ⟨hne, e1⟩
      · rw [e1]; exact rg_ne m
      · rw [e1]; exact ih y hy
      · rw [e1]; exact rg_com ..
    · split
      · refine ⟨fun a ha => absurd ha (List.not_mem_nil), fun o ho => ?_⟩
        obtain rfl := List.mem_singleton.1 (show o ∈ [fdN h (nrN h) V] from ho)
        unfold fdN
        split
        · exact ⟨fun f hf => absurd hf (List.not_mem_nil), rg_com ..⟩
        · refine ⟨fun f hf => ?_, rg_ne m⟩
          obtain ⟨x, hx, rfl⟩ := List.mem_map.1 (show f ∈ V.items.map (nrN h) from hf)
          exact ih x hx
      · exact rg_leaf _ V
/-- the near type is one that the order knows -/
theorem good_nr (h hv : Nat) (V : VT) (hf : formN hv V = true) (hb : bdV hv V) : goodT (h + 2) (nrN h V) := good_of (fm_nr h hv V hf) (rg_nr h (h + 2) hv V hb)
/-- whether two near types are one is told by the order, either way -/
theorem same_nr {h : Nat} {A B : TT} (ha : goodT h A) (hb : goodT h B) : decide (cmpTy h B A = 0) = sameT h A B := by
  rw [sameT_cmp ha hb, Bool.eq_iff_iff, decide_eq_true_eq, decide_eq_true_eq, (cmpTy_ord h).sw A B ha hb]
  omega
end Go.Proofs.Ytdjoelhiahpmlaa
