import Derived.Test.YtapjfocjeligiaaGreatDoorM28
import Derived.Test.YtapjfocjeligiaaGreatDoorM29
import Derived.Test.YtapjfocjeligiaaGreatDoorM30
namespace Go.Proofs.YtapjfocjeligiaaGreatDoor
open Go.RowKit Go.Shelf Go.Sort
set_option linter.unusedVariables false
set_option linter.unusedSimpArgs false

theorem bl_ltB : ∀ a b : List UInt8, Op.bytesLess a b = decide (a < b)
  | [], [] => by simp [Op.bytesLess]
  | [], _ :: _ => by simp [Op.bytesLess]
  | _ :: _, [] => by simp [Op.bytesLess]
  | c :: r, d :: t => by
    have hbl : Op.bytesLess (c :: r) (d :: t) = (decide (c < d) || (c == d && Op.bytesLess r t)) := rfl
    rw [hbl, bl_ltB r t]
    by_cases h1 : c < d
    · simp [List.cons_lt_cons_iff, h1]
    · by_cases h2 : c = d
      · subst h2
        simp [List.cons_lt_cons_iff, h1]
      · simp [List.cons_lt_cons_iff, h1, h2]
/-- the names of a rising row differ -/
theorem rise_ltB {ks : List ByteArray} (hr : rK ks ks.length = true) : ∀ (k : Nat) (hk : k < ks.length) (j : Nat) (hj : j < k), ks[j].toList < ks[k].toList
  | 0, _, j, hj => absurd hj (Nat.not_lt_zero _)
  | k + 1, hk, j, hj => by
    have h1 := List.all_eq_true.1 hr (k + 1) (List.mem_range.2 hk)
    have h2 : rA ks (k + 1) = true := by simpa using h1
    unfold rA at h2
    rw [Nat.add_sub_cancel, List.getD_eq_getElem?_getD, List.getD_eq_getElem?_getD, List.getElem?_eq_getElem (by omega : k < ks.length), List.getElem?_eq_getElem hk, bl_ltB, decide_eq_true_eq] at h2
    have h3 : ks[k].toList < ks[k + 1].toList := h2
    by_cases hjk : j = k
    · subst hjk; exact h3
    · exact List.lt_trans (rise_ltB hr k (by omega) j (by omega)) h3
/-- what an alternative says of a name, and whether that must be there -/
def fldL : List ByteArray → List TT → List Bool → TT → ByteArray → TT × Bool
  | n :: ns, f :: fs, m :: ms, r, s => if eqS n s then (f, m) else fldL ns fs ms r s
  | _, _, _, r, _ => (r, false)
def fldO (o : OB) (s : ByteArray) : TT × Bool := fldL o.names o.fields o.must o.rest s
/-- every, laid out -/
def laidT : TT := .mk false true true true true [(.empty, .empty)] [] [.mk ttEv 0 (-1)] [.mk [] [] [] ttEv]
def laid (T : TT) : TT := if T.all then laidT else T
def spL : List (ByteArray × ByteArray) → List (ByteArray × ByteArray) → Bool
  | [], _ => true
  | _ :: _, [] => false
  | p :: _, q :: _ => inS p.1 p.2 q.1 q.2
def txL (A B : TT) : Bool := B.any || (!A.any && A.texts.all fun s => hasK B.texts s)
def arX (f : TT → TT → Bool) (x y : AR) : Bool := !(decide (x.min < y.min) || (decide (0 ≤ y.max) && (decide (x.max < 0) || decide (y.max < x.max)))) && (decide (x.max = 0) || f x.item y.item)
def arL (f : TT → TT → Bool) : List AR → List AR → Bool
  | [], _ => true
  | _ :: _, [] => false
  | x :: _, y :: _ => arX f x y
def fitF (f : TT → TT → Bool) (x y : TT × Bool) : Bool := (x.2 || !y.2) && f x.1 y.1
def obX (f : TT → TT → Bool) (a b : OB) : Bool := ((a.names ++ b.names).all fun s => fitF f (fldO a s) (fldO b s)) && f a.rest b.rest
def obL (f : TT → TT → Bool) (xs ys : List OB) : Bool := xs.all fun a => ys.any fun b => obX f a b
def flL (A B : TT) : Bool := (!A.nul || B.nul) && ((!A.fls || B.fls) && (!A.tru || B.tru))
def bwK (f : TT → TT → Bool) (A B : TT) : Bool := flL A B && (spL A.nums B.nums && (txL A B && (arL f A.arrs B.arrs && obL f A.objs B.objs)))
/-- a type is known to lie in another one -/
def bwN : Nat → TT → TT → Bool
  | 0, _, _ => false
  | h + 1, A, B => B.all || bwK (bwN h) (laid A) B
def spM : List (ByteArray × ByteArray) → List (ByteArray × ByteArray) → Bool
  | p :: _, q :: _ => !abv p.1 q.2 && !abv q.1 p.2
  | _, _ => false
def txM (A B : TT) : Bool := if A.any then B.any || decide (0 < B.texts.length) else if B.any then decide (0 < A.texts.length) else A.texts.any fun s => hasK B.texts s
def longI (n m : Int) : Bool := decide (0 ≤ m) && decide (m < n)
def arY (f : TT → TT → Bool) (x y : AR) : Bool := !(longI (max x.min y.min) x.max || longI (max x.min y.min) y.max) && (decide (max x.min y.min = 0) || f x.item y.item)
def arM (f : TT → TT → Bool) : List AR → List AR → Bool
  | x :: _, y :: _ => arY f x y
  | _, _ => false
def metF (f : TT → TT → Bool) (x y : TT × Bool) : Bool := (!x.2 && !y.2) || f x.1 y.1
def obY (f : TT → TT → Bool) (a b : OB) : Bool := (a.names ++ b.names).all fun s => metF f (fldO a s) (fldO b s)
def obM (f : TT → TT → Bool) (xs ys : List OB) : Bool := xs.any fun a => ys.any fun b => obY f a b
def flM (A B : TT) : Bool := (A.nul && B.nul) || ((A.fls && B.fls) || (A.tru && B.tru))
def mtK (f : TT → TT → Bool) (A B : TT) : Bool := flM A B || (spM A.nums B.nums || (txM A B || (arM f A.arrs B.arrs || obM f A.objs B.objs)))
/-- two types have a value in common -/
def mtN : Nat → TT → TT → Bool
  | 0, _, _ => false
  | h + 1, A, B => if A.all then !B.never else if B.all then !A.never else mtK (mtN h) A B

/-- the names of two alternatives, gone through side by side: a name, its type, whether it must be there -/
def mgF (g : TT × Bool → TT × Bool → Bool) (ra rb : TT) : Nat → List (ByteArray × TT × Bool) → List (ByteArray × TT × Bool) → Bool
  | 0, _, _ => true
  | _ + 1, [], [] => true
  | n + 1, x :: xs, [] => g x.2 (rb, false) && mgF g ra rb n xs []
  | n + 1, [], y :: ys => g (ra, false) y.2 && mgF g ra rb n [] ys
  | n + 1, x :: xs, y :: ys =>
    if x.1.toList < y.1.toList then g x.2 (rb, false) && mgF g ra rb n xs (y :: ys)
    else if y.1.toList < x.1.toList then g (ra, false) y.2 && mgF g ra rb n (x :: xs) ys
    else g x.2 y.2 && mgF g ra rb n xs ys
/-- what a row of names says of one -/
def lkF : List (ByteArray × TT × Bool) → TT → ByteArray → TT × Bool
  | [], r, _ => (r, false)
  | x :: xs, r, s => if eqS x.1 s then x.2 else lkF xs r s
def zipO (o : OB) : List (ByteArray × TT × Bool) := o.names.zip (o.fields.zip o.must)
theorem lk_fld : ∀ (ns : List ByteArray) (fs : List TT) (ms : List Bool) (r : TT) (s : ByteArray), fldL ns fs ms r s = lkF (ns.zip (fs.zip ms)) r s
  | [], _, _, r, s => by simp [fldL, lkF]
  | n :: ns, [], _, r, s => by simp [fldL, lkF]
  | n :: ns, f :: fs, [], r, s => by simp [fldL, lkF]
  | n :: ns, f :: fs, m :: ms, r, s => by
    rw [fldL, List.zip_cons_cons, List.zip_cons_cons, lkF, lk_fld ns fs ms r s]
theorem lk_none : ∀ {l : List (ByteArray × TT × Bool)} {r : TT} {s : ByteArray}, (∀ x ∈ l, x.1 ≠ s) → lkF l r s = (r, false)
  | [], _, _, _ => rfl
  | x :: xs, r, s, h => by
    rw [lkF, if_neg (fun e => h x (List.mem_cons_self ..) ((eqS_iff _ _).1 e)), lk_none (fun y hy => h y (List.mem_cons_of_mem _ hy))]
theorem lk_tail {x : ByteArray × TT × Bool} {xs : List (ByteArray × TT × Bool)} {r : TT} {s : ByteArray} (h : x.1 ≠ s) : lkF (x :: xs) r s = lkF xs r s := by
  rw [lkF, if_neg (fun e => h ((eqS_iff _ _).1 e))]
theorem lk_head {x : ByteArray × TT × Bool} {xs : List (ByteArray × TT × Bool)} {r : TT} : lkF (x :: xs) r x.1 = x.2 := by
  rw [lkF, if_pos ((eqS_iff _ _).2 rfl)]
def risF (l : List (ByteArray × TT × Bool)) : Prop := l.Pairwise fun x y => x.1.toList < y.1.toList
theorem ne_of_lt {a b : ByteArray} (h : a.toList < b.toList) : a ≠ b := fun e => by rw [e] at h; exact List.lt_irrefl _ h
theorem list_tri {a b : ByteArray} (h1 : ¬ a.toList < b.toList) (h2 : ¬ b.toList < a.toList) : a = b := by
  have e : a.toList = b.toList := List.le_antisymm h2 h1
  exact (eqS_iff _ _).1 (by unfold eqS; rw [e]; simp)
theorem mg_all (g : TT × Bool → TT × Bool → Bool) (ra rb : TT) : ∀ (n : Nat) (xs ys : List (ByteArray × TT × Bool)), xs.length + ys.length ≤ n → risF xs → risF ys →
    (mgF g ra rb n xs ys = true ↔ ((∀ x ∈ xs, g x.2 (lkF ys rb x.1) = true) ∧ (∀ y ∈ ys, g (lkF xs ra y.1) y.2 = true)))
  | 0, xs, ys, hl, _, _ => by
    obtain rfl : xs = [] := List.eq_nil_of_length_eq_zero (by omega)
    obtain rfl : ys = [] := List.eq_nil_of_length_eq_zero (by omega)
    exact ⟨fun _ => ⟨fun x hx => (by cases hx), fun y hy => (by cases hy)⟩, fun _ => rfl⟩
  | n + 1, [], [], hl, _, _ => ⟨fun _ => ⟨fun x hx => (by cases hx), fun y hy => (by cases hy)⟩, fun _ => rfl⟩
  | n + 1, x :: xs, [], hl, rx, ry => by
    have ih := mg_all g ra rb n xs [] (by simp at hl ⊢; omega) (List.pairwise_cons.1 rx).2 ry
    rw [mgF, Bool.and_eq_true, ih]
    constructor
    · rintro ⟨h1, h2, h3⟩
      refine ⟨fun z hz => ?_, fun y hy => (by cases hy)⟩
      rcases List.mem_cons.1 hz with rfl | hz
      · exact h1
      · exact h2 z hz
    · rintro ⟨h1, h2⟩
      exact ⟨h1 x (List.mem_cons_self ..), fun z hz => h1 z (List.mem_cons_of_mem _ hz), fun y hy => (by cases hy)⟩
  | n + 1, [], y :: ys, hl, rx, ry => by
    have ih := mg_all g ra rb n [] ys (by simp at hl ⊢; omega) rx (List.pairwise_cons.1 ry).2
    rw [mgF, Bool.and_eq_true, ih]
    constructor
    · rintro ⟨h1, h2, h3⟩
      refine ⟨fun z hz => (by cases hz), fun z hz => ?_⟩
      rcases List.mem_cons.1 hz with rfl | hz
      · exact h1
      · exact h3 z hz
    · rintro ⟨h1, h2⟩
      exact ⟨h2 y (List.mem_cons_self ..), fun z hz => (by cases hz), fun z hz => h2 z (List.mem_cons_of_mem _ hz)⟩
  | n + 1, x :: xs, y :: ys, hl, rx, ry => by
    have px := List.pairwise_cons.1 rx
    have py := List.pairwise_cons.1 ry
    rw [mgF]
    by_cases c1 : x.1.toList < y.1.toList
    · have ih := mg_all g ra rb n xs (y :: ys) (by simp at hl ⊢; omega) px.2 ry
      rw [if_pos c1, Bool.and_eq_true, ih]
      have e1 : lkF (y :: ys) rb x.1 = (rb, false) := lk_none (fun z hz e => by
        rcases List.mem_cons.1 hz with rfl | hz
        · exact ne_of_lt c1 e.symm
        · exact ne_of_lt (List.lt_trans c1 (py.1 z hz)) e.symm)
      have e2 : ∀ z ∈ y :: ys, lkF (x :: xs) ra z.1 = lkF xs ra z.1 := fun z hz => lk_tail (by
        rcases List.mem_cons.1 hz with rfl | hz
        · exact ne_of_lt c1
        · exact ne_of_lt (List.lt_trans c1 (py.1 z hz)))
      constructor
      · rintro ⟨h1, h2, h3⟩
        refine ⟨fun z hz => ?_, fun z hz => by rw [e2 z hz]; exact h3 z hz⟩
        rcases List.mem_cons.1 hz with rfl | hz
        · rw [e1]; exact h1
        · exact h2 z hz
      · rintro ⟨h1, h2⟩
        exact ⟨by rw [← e1]; exact h1 x (List.mem_cons_self ..), fun z hz => h1 z (List.mem_cons_of_mem _ hz), fun z hz => by rw [← e2 z hz]; exact h2 z hz⟩
    · by_cases c2 : y.1.toList < x.1.toList
      · have ih := mg_all g ra rb n (x :: xs) ys (by simp at hl ⊢; omega) rx py.2
        rw [if_neg c1, if_pos c2, Bool.and_eq_true, ih]
        have e1 : lkF (x :: xs) ra y.1 = (ra, false) := lk_none (fun z hz e => by
          rcases List.mem_cons.1 hz with rfl | hz
          · exact ne_of_lt c2 e.symm
          · exact ne_of_lt (List.lt_trans c2 (px.1 z hz)) e.symm)
        have e2 : ∀ z ∈ x :: xs, lkF (y :: ys) rb z.1 = lkF ys rb z.1 := fun z hz => lk_tail (by
          rcases List.mem_cons.1 hz with rfl | hz
          · exact ne_of_lt c2
          · exact ne_of_lt (List.lt_trans c2 (px.1 z hz)))
        constructor
        · rintro ⟨h1, h2, h3⟩
          refine ⟨fun z hz => by rw [e2 z hz]; exact h2 z hz, fun z hz => ?_⟩
          rcases List.mem_cons.1 hz with rfl | hz
          · rw [e1]; exact h1
          · exact h3 z hz
        · rintro ⟨h1, h2⟩
          exact ⟨by rw [← e1]; exact h2 y (List.mem_cons_self ..), fun z hz => by rw [← e2 z hz]; exact h1 z hz, fun z hz => h2 z (List.mem_cons_of_mem _ hz)⟩
      · have ih := mg_all g ra rb n xs ys (by simp at hl ⊢; omega) px.2 py.2
        rw [if_neg c1, if_neg c2, Bool.and_eq_true, ih]
        have exy := list_tri c1 c2
        have e1 : ∀ z ∈ xs, lkF (y :: ys) rb z.1 = lkF ys rb z.1 := fun z hz => lk_tail (by rw [← exy]; exact ne_of_lt (px.1 z hz))
        have e2 : ∀ z ∈ ys, lkF (x :: xs) ra z.1 = lkF xs ra z.1 := fun z hz => lk_tail (by rw [exy]; exact ne_of_lt (py.1 z hz))
        constructor
        · rintro ⟨h1, h2, h3⟩
          refine ⟨fun z hz => ?_, fun z hz => ?_⟩
          · rcases List.mem_cons.1 hz with rfl | hz
            · rw [exy, lk_head]; exact h1
            · rw [e1 z hz]; exact h2 z hz
          · rcases List.mem_cons.1 hz with rfl | hz
            · rw [← exy, lk_head]; exact h1
            · rw [e2 z hz]; exact h3 z hz
        · rintro ⟨h1, h2⟩
          refine ⟨?_, fun z hz => by rw [← e1 z hz]; exact h1 z (List.mem_cons_of_mem _ hz), fun z hz => by rw [← e2 z hz]; exact h2 z (List.mem_cons_of_mem _ hz)⟩
          have := h1 x (List.mem_cons_self ..)
          rw [exy, lk_head] at this
          exact this
/-- an alternative whose names rise, each with a type and a mark -/
structure OkO (o : OB) : Prop where
  fl : o.names.length = o.fields.length
  ml : o.names.length = o.must.length
  ris : rK o.names o.names.length = true
theorem zip_names {o : OB} (h : OkO o) : (zipO o).map (·.1) = o.names := by
  unfold zipO
  rw [List.map_fst_zip]
  have h1 := h.fl; have h2 := h.ml
  simp only [List.length_zip]; omega
theorem zip_ris {o : OB} (h : OkO o) : risF (zipO o) := by
  have e : ((zipO o).map (·.1)).Pairwise (fun x y => x.toList < y.toList) := by
    rw [zip_names h, List.pairwise_iff_getElem]
    exact fun i j hi hj hij => rise_ltB h.ris j hj i hij
  exact (List.pairwise_map (f := fun x : ByteArray × TT × Bool => x.1) (R := fun x y : ByteArray => x.toList < y.toList)).1 e
theorem lk_mem : ∀ {l : List (ByteArray × TT × Bool)} {r : TT} {x : ByteArray × TT × Bool}, risF l → x ∈ l → lkF l r x.1 = x.2
  | y :: ys, r, x, hr, hx => by
    have p := List.pairwise_cons.1 hr
    rcases List.mem_cons.1 hx with rfl | hx
    · exact lk_head
    · rw [lk_tail (ne_of_lt (p.1 x hx)), lk_mem p.2 hx]
/-- gone through side by side: the same as each name of both -/
theorem mg_is (g : TT × Bool → TT × Bool → Bool) {a b : OB} (ha : OkO a) (hb : OkO b) {n : Nat} (hn : a.names.length + b.names.length ≤ n) :
    mgF g a.rest b.rest n (zipO a) (zipO b) = (a.names ++ b.names).all fun s => g (fldO a s) (fldO b s) := by
  have la : (zipO a).length = a.names.length := by rw [← List.length_map (f := (·.1)), zip_names ha]
  have lb : (zipO b).length = b.names.length := by rw [← List.length_map (f := (·.1)), zip_names hb]
  have fa : ∀ s, fldO a s = lkF (zipO a) a.rest s := fun s => lk_fld _ _ _ _ _
  have fb : ∀ s, fldO b s = lkF (zipO b) b.rest s := fun s => lk_fld _ _ _ _ _
  rw [Bool.eq_iff_iff, mg_all g _ _ n _ _ (by omega) (zip_ris ha) (zip_ris hb), List.all_append, Bool.and_eq_true, List.all_eq_true, List.all_eq_true]
  refine ⟨fun ⟨h1, h2⟩ => ⟨fun s hs => ?_, fun s hs => ?_⟩, fun ⟨h1, h2⟩ => ⟨fun x hx => ?_, fun y hy => ?_⟩⟩
  · rw [← zip_names ha] at hs
    obtain ⟨x, hx, rfl⟩ := List.mem_map.1 hs
    rw [fa, fb, lk_mem (zip_ris ha) hx]
    exact h1 x hx
  · rw [← zip_names hb] at hs
    obtain ⟨y, hy, rfl⟩ := List.mem_map.1 hs
    rw [fa, fb, lk_mem (zip_ris hb) hy]
    exact h2 y hy
  · have := h1 x.1 (by rw [← zip_names ha]; exact List.mem_map.2 ⟨x, hx, rfl⟩)
    rw [fa, fb, lk_mem (zip_ris ha) hx] at this
    exact this
  · have := h2 y.1 (by rw [← zip_names hb]; exact List.mem_map.2 ⟨y, hy, rfl⟩)
    rw [fa, fb, lk_mem (zip_ris hb) hy] at this
    exact this
end Go.Proofs.YtapjfocjeligiaaGreatDoor
