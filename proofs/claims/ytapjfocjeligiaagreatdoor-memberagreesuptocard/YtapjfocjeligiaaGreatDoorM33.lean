import Derived.Test.YtapjfocjeligiaaGreatDoorM31
import Derived.Test.YtapjfocjeligiaaGreatDoorM32
namespace Go.Proofs.YtapjfocjeligiaaGreatDoor
open Go.RowKit Go.Shelf Go.Sort
set_option linter.unusedVariables false
set_option linter.unusedSimpArgs false

/-- a step under a name, to a place -/
def stT (s : ByteArray) : VT := .mk 4 ⟨#[]⟩ s [] []
def stN (i : Nat) : VT := .mk 3 ⟨(Lib.itoa (i : Int)).toArray⟩ ⟨#[]⟩ [] []
/-- seen from around it -/
def Er.under (s : VT) : Er → Er
  | none => none
  | some (p, r) => some (s :: p, r)
/-- a type has values of a kind -/
def kdB (T : TT) (k : Int) : Bool := if k = 0 then T.nul else if k = 1 then T.fls else if k = 2 then T.tru else if k = 3 then decide (0 < T.nums.length) else if k = 4 then (T.any || decide (0 < T.texts.length)) else if k = 5 then decide (0 < T.arrs.length) else decide (0 < T.objs.length)
/-- a bound is not passed -/
def nab (a b : ByteArray) : Bool := a.toList.isEmpty || (b.toList.isEmpty || decide (numC a b ≤ 0))
def agSp (n : ByteArray) (p : ByteArray × ByteArray) : Er := if nab p.1 n && nab n p.2 then none else some ([], 2)
def agTx (s : ByteArray) (T : TT) : Er := if hasK T.texts s || T.any then none else some ([], 3)
def agIt (f : VT → TT → Er) (A : TT) : Nat → List VT → Er
  | _, [] => none
  | i, x :: xs => match f x A with
    | some q => Er.under (stN i) (some q)
    | none => agIt f A (i + 1) xs
def agAr (f : VT → TT → Er) (its : List VT) (a : AR) : Er := if (its.length : Int) < a.min then some ([], 4) else if 0 ≤ a.max ∧ a.max < (its.length : Int) then some ([], 5) else agIt f a.item 0 its
def agLk (ks : List ByteArray) : List (ByteArray × Bool) → Er
  | [] => none
  | x :: xs => if x.2 && !hasK ks x.1 then some ([stT x.1], 6) else agLk ks xs
def agFl (f : VT → TT → Er) (o : OB) : List (ByteArray × VT) → Er
  | [] => none
  | x :: xs => match f x.2 (fldO o x.1).1 with
    | some q => Er.under (stT x.1) (some q)
    | none => agFl f o xs
def agOb (f : VT → TT → Er) (V : VT) (o : OB) : Er := match agLk V.keys (o.names.zip o.must) with
  | some q => some q
  | none => agFl f o (V.keys.zip V.items)
def agObs (f : VT → TT → Er) (V : VT) : List OB → Er
  | [o] => agOb f V o
  | os => if os.any (fun o => (agOb f V o).isNone) then none else some ([], 7)
def agNm (n : ByteArray) : List (ByteArray × ByteArray) → Er
  | [] => none
  | p :: _ => agSp n p
def agArs (f : VT → TT → Er) (its : List VT) : List AR → Er
  | [] => none
  | a :: _ => agAr f its a
/-- why a value is not of a type -/
def agK (f : VT → TT → Er) (V : VT) (T : TT) : Er := if T.all then none else if kdB T V.kind = false then some ([], 1) else if V.kind = 3 then agNm V.num T.nums else if V.kind = 4 then agTx V.text T else if V.kind = 5 then agArs f V.items T.arrs else if V.kind = 6 then agObs f V T.objs else none
def agN : Nat → VT → TT → Er
  | 0, _, _ => none
  | h + 1, V, T => agK (agN h) V T
theorem agIt_drop {f : VT → TT → Er} {A : TT} : ∀ {its : List VT} {k i : Nat}, (∀ j, (hj : j < its.length) → j < k → f its[j] A = none) → agIt f A i its = agIt f A (i + k) (its.drop k)
  | its, 0, i, _ => by simp
  | [], k + 1, i, _ => by simp [agIt]
  | x :: xs, k + 1, i, h => by
    have h0 : f x A = none := h 0 (by simp) (by omega)
    have ih := agIt_drop (f := f) (A := A) (its := xs) (k := k) (i := i + 1) (fun j hj hk => h (j + 1) (by simpa using hj) (by omega))
    rw [agIt, h0, List.drop_succ_cons, show i + (k + 1) = i + 1 + k by omega]
    exact ih
theorem agIt_end {f : VT → TT → Er} {A : TT} {its : List VT} (h : ∀ j, (hj : j < its.length) → j < its.length → f its[j] A = none) : agIt f A 0 its = none := by
  rw [agIt_drop h, List.drop_length]; rfl
theorem agIt_at {f : VT → TT → Er} {A : TT} {its : List VT} {k : Nat} {q : List VT × Int} (hk : k < its.length) (h : ∀ j, (hj : j < its.length) → j < k → f its[j] A = none) (hq : f its[k] A = some q) : agIt f A 0 its = some (stN k :: q.1, q.2) := by
  rw [agIt_drop h, List.drop_eq_getElem_cons hk, agIt, hq, Nat.zero_add]; rfl
theorem agLk_drop {ks : List ByteArray} : ∀ {l : List (ByteArray × Bool)} {k : Nat}, (∀ j, (hj : j < l.length) → j < k → (l[j].2 && !hasK ks l[j].1) = false) → agLk ks l = agLk ks (l.drop k)
  | l, 0, _ => by simp
  | [], k + 1, _ => by simp [agLk]
  | x :: xs, k + 1, h => by
    have h0 : (x.2 && !hasK ks x.1) = false := h 0 (by simp) (by omega)
    rw [agLk, if_neg (by rw [h0]; simp), List.drop_succ_cons]
    exact agLk_drop (fun j hj hk => h (j + 1) (by simpa using hj) (by omega))
theorem agLk_end {ks : List ByteArray} {l : List (ByteArray × Bool)} (h : ∀ j, (hj : j < l.length) → j < l.length → (l[j].2 && !hasK ks l[j].1) = false) : agLk ks l = none := by
  rw [agLk_drop h, List.drop_length]; rfl
theorem agLk_at {ks : List ByteArray} {l : List (ByteArray × Bool)} {k : Nat} (hk : k < l.length) (h : ∀ j, (hj : j < l.length) → j < k → (l[j].2 && !hasK ks l[j].1) = false) (hq : (l[k].2 && !hasK ks l[k].1) = true) : agLk ks l = some ([stT l[k].1], 6) := by
  rw [agLk_drop h, List.drop_eq_getElem_cons hk, agLk, if_pos hq]
theorem agFl_drop {f : VT → TT → Er} {o : OB} : ∀ {l : List (ByteArray × VT)} {k : Nat}, (∀ j, (hj : j < l.length) → j < k → f l[j].2 (fldO o l[j].1).1 = none) → agFl f o l = agFl f o (l.drop k)
  | l, 0, _ => by simp
  | [], k + 1, _ => by simp [agFl]
  | x :: xs, k + 1, h => by
    have h0 : f x.2 (fldO o x.1).1 = none := h 0 (by simp) (by omega)
    rw [agFl, h0, List.drop_succ_cons]
    exact agFl_drop (fun j hj hk => h (j + 1) (by simpa using hj) (by omega))
theorem agFl_end {f : VT → TT → Er} {o : OB} {l : List (ByteArray × VT)} (h : ∀ j, (hj : j < l.length) → j < l.length → f l[j].2 (fldO o l[j].1).1 = none) : agFl f o l = none := by
  rw [agFl_drop h, List.drop_length]; rfl
theorem agFl_at {f : VT → TT → Er} {o : OB} {l : List (ByteArray × VT)} {k : Nat} {q : List VT × Int} (hk : k < l.length) (h : ∀ j, (hj : j < l.length) → j < k → f l[j].2 (fldO o l[j].1).1 = none) (hq : f l[k].2 (fldO o l[k].1).1 = some q) : agFl f o l = some (stT l[k].1 :: q.1, q.2) := by
  rw [agFl_drop h, List.drop_eq_getElem_cons hk, agFl, hq]; rfl
end Go.Proofs.YtapjfocjeligiaaGreatDoor
