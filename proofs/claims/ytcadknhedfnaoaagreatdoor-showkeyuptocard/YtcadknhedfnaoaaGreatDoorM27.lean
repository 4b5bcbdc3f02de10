import Derived.Test.YtcadknhedfnaoaaGreatDoorM21
namespace Go.Proofs.YtcadknhedfnaoaaGreatDoor
open Go.RowKit
set_option linter.unusedVariables false
set_option linter.unusedSimpArgs false

def blB (c : UInt8) : Bool := decide (c.toNat = 32 ∨ c.toNat = 9 ∨ c.toNat = 10 ∨ c.toNat = 13)
def dgB (c : UInt8) : Bool := decide (48 ≤ c.toNat ∧ c.toNat ≤ 57)
def leB (c : UInt8) : Bool := decide (97 ≤ c.toNat ∧ c.toNat ≤ 122 ∨ 65 ≤ c.toNat ∧ c.toNat ≤ 90 ∨ c.toNat = 95)
def inB (c : UInt8) : Bool := leB c || dgB c
def nuB (c : UInt8) : Bool := inB c || decide (c.toNat = 46)
def rmB (c : UInt8) : Bool := decide (c.toNat ≠ 10)
def piB (c : UInt8) : Bool := decide (c.toNat ≠ 34 ∧ c.toNat ≠ 92)

/-- the place behind the longest run of bytes of a class -/
def bhP (P : UInt8 → Bool) (l : List UInt8) (p : Nat) : Nat := l.length - ((l.drop p).dropWhile P).length
theorem bhP_ge (P : UInt8 → Bool) {l : List UInt8} {p : Nat} (hp : p ≤ l.length) : p ≤ bhP P l p ∧ bhP P l p ≤ l.length := by
  have := dropWhile_le P (l.drop p)
  rw [List.length_drop] at this
  unfold bhP
  omega
theorem drop_getD {l : List UInt8} {p : Nat} (hp : p < l.length) : l.drop p = l.getD p 0 :: l.drop (p + 1) := by
  rw [List.drop_eq_getElem_cons hp]; simp [List.getD, hp]
theorem bhP_step {P : UInt8 → Bool} {l : List UInt8} {p : Nat} (hp : p < l.length) (h : P (l.getD p 0) = true) : bhP P l p = bhP P l (p + 1) := by
  unfold bhP
  rw [drop_getD hp, List.dropWhile_cons, if_pos h]
theorem bhP_stop {P : UInt8 → Bool} {l : List UInt8} {p : Nat} (hp : p < l.length) (h : P (l.getD p 0) = false) : bhP P l p = p := by
  unfold bhP
  rw [drop_getD hp, List.dropWhile_cons, if_neg (by rw [h]; decide), List.length_cons, List.length_drop]
  omega
theorem bhP_end (P : UInt8 → Bool) (l : List UInt8) : bhP P l l.length = l.length := by
  unfold bhP
  rw [List.drop_length]; rfl
theorem bhP_gt {P : UInt8 → Bool} {l : List UInt8} {p : Nat} (hp : p < l.length) (h : P (l.getD p 0) = true) : p < bhP P l p := by
  rw [bhP_step hp h]
  exact (bhP_ge P (by omega)).1
/-- what stands where a run ends -/
theorem bhP_at {P : UInt8 → Bool} {l : List UInt8} : ∀ (n p : Nat), l.length - p ≤ n → p ≤ l.length → bhP P l p < l.length → P (l.getD (bhP P l p) 0) = false := by
  intro n
  induction n with
  | zero => intro p hn hp h; rw [show p = l.length by omega, bhP_end] at h; omega
  | succ n ih =>
    intro p hn hp h
    by_cases hlt : p < l.length
    · cases hP : P (l.getD p 0) with
      | true => rw [bhP_step hlt hP] at h ⊢; exact ih (p + 1) (by omega) (by omega) h
      | false => rw [bhP_stop hlt hP]; exact hP
    · rw [show p = l.length by omega, bhP_end] at h; omega
/-- what stands within a run -/
theorem bhP_in {P : UInt8 → Bool} {l : List UInt8} : ∀ (n p j : Nat), l.length - p ≤ n → p ≤ l.length → p ≤ j → j < bhP P l p → P (l.getD j 0) = true := by
  intro n
  induction n with
  | zero => intro p j hn hp hj h; rw [show p = l.length by omega, bhP_end] at h; omega
  | succ n ih =>
    intro p j hn hp hj h
    by_cases hlt : p < l.length
    · cases hP : P (l.getD p 0) with
      | true =>
        rw [bhP_step hlt hP] at h
        by_cases e : j = p
        · rw [e]; exact hP
        · exact ih (p + 1) j (by omega) (by omega) (by omega) h
      | false => rw [bhP_stop hlt hP] at h; omega
    · rw [show p = l.length by omega, bhP_end] at h; omega

/-- blanks and remarks -/
def idF (l : List UInt8) : Nat → Nat → Nat
  | 0, p => p
  | f + 1, p => if p < l.length ∧ (l.getD p 0).toNat = 35 then idF l f (bhP blB l (bhP rmB l p)) else p
def idW (l : List UInt8) (p : Nat) : Nat := idF l (l.length + 1) (bhP blB l p)
theorem rm_gt {l : List UInt8} {p : Nat} (h : p < l.length ∧ (l.getD p 0).toNat = 35) : p < bhP blB l (bhP rmB l p) ∧ bhP blB l (bhP rmB l p) ≤ l.length := by
  have h1 := bhP_gt (P := rmB) h.1 (by unfold rmB; rw [h.2]; rfl)
  have h2 := bhP_ge rmB (p := p) (l := l) (by omega)
  have h3 := bhP_ge blB (p := bhP rmB l p) (l := l) h2.2
  omega
theorem idF_up {l : List UInt8} : ∀ (f p : Nat), p ≤ l.length → l.length - p < f → idF l (f + 1) p = idF l f p := by
  intro f
  induction f with
  | zero => intro p _ h; omega
  | succ f ih =>
    intro p hp h
    by_cases h1 : p < l.length ∧ (l.getD p 0).toNat = 35
    · have := rm_gt h1
      rw [show idF l (f + 1 + 1) p = idF l (f + 1) (bhP blB l (bhP rmB l p)) from if_pos h1, show idF l (f + 1) p = idF l f (bhP blB l (bhP rmB l p)) from if_pos h1]
      exact ih _ this.2 (by omega)
    · rw [show idF l (f + 1 + 1) p = p from if_neg h1, show idF l (f + 1) p = p from if_neg h1]
theorem idF_more {l : List UInt8} {p : Nat} (hp : p ≤ l.length) : ∀ (k f : Nat), l.length - p < f → idF l (f + k) p = idF l f p := by
  intro k
  induction k with
  | zero => intro f _; rfl
  | succ k ih => intro f h; rw [show f + (k + 1) = (f + k) + 1 by omega, idF_up _ _ hp (by omega)]; exact ih f h
theorem idF_any {l : List UInt8} {p f g : Nat} (hp : p ≤ l.length) (hf : l.length - p < f) (hg : l.length - p < g) : idF l f p = idF l g p := by
  rcases Nat.le_total f g with h | h
  · rw [show g = f + (g - f) by omega, idF_more hp _ _ hf]
  · rw [show f = g + (f - g) by omega, idF_more hp _ _ hg]
theorem idF_ge {l : List UInt8} : ∀ (f p : Nat), p ≤ l.length → p ≤ idF l f p ∧ idF l f p ≤ l.length := by
  intro f
  induction f with
  | zero => intro p hp; exact ⟨Nat.le_refl _, hp⟩
  | succ f ih =>
    intro p hp
    rw [idF]
    split
    · next h1 =>
      have := rm_gt h1
      have h2 := ih _ this.2
      omega
    · exact ⟨Nat.le_refl _, hp⟩
theorem idW_ge {l : List UInt8} {p : Nat} (hp : p ≤ l.length) : p ≤ idW l p ∧ idW l p ≤ l.length := by
  have h1 := bhP_ge blB hp
  have h2 := idF_ge (l.length + 1) _ h1.2
  unfold idW
  omega
/-- at a place behind blanks: one remark passed, or the end -/
theorem idF_remark {l : List UInt8} {p : Nat} (h : p < l.length ∧ (l.getD p 0).toNat = 35) : idF l (l.length + 1) p = idF l (l.length + 1) (bhP blB l (bhP rmB l p)) := by
  have := rm_gt h
  rw [idF, if_pos h]
  exact idF_any this.2 (by omega) (by omega)
theorem idF_rest {l : List UInt8} {f p : Nat} (h : ¬ (p < l.length ∧ (l.getD p 0).toNat = 35)) : idF l f p = p := by
  cases f with
  | zero => rfl
  | succ f => rw [idF, if_neg h]

/-- the longest name at a place -/
def nameW (l : List UInt8) (p : Nat) : List UInt8 := if p < l.length ∧ leB (l.getD p 0) = true then cut l p (bhP inB l p) else []
def ownL : List (List UInt8) := [[100, 101, 102], [105, 102], [116, 104, 101, 110], [101, 108, 105, 102], [101, 108, 115, 101], [101, 110, 100], [97, 115], [114, 101, 100, 117, 99, 101], [102, 111, 114, 101, 97, 99, 104], [116, 114, 121], [99, 97, 116, 99, 104], [97, 110, 100], [111, 114], [108, 97, 98, 101, 108], [98, 114, 101, 97, 107], [110, 117, 108, 108], [116, 114, 117, 101], [102, 97, 108, 115, 101]]
def ownB (n : List UInt8) : Bool := ownL.contains n
def namedB (l : List UInt8) : Bool := decide (l ≠ [] ∧ nameW l 0 = l)
def plainW (l : List UInt8) : Bool := namedB l && !ownB l
def mk1L : List (List UInt8) := [[124], [44], [61], [60], [62], [43], [45], [42], [47], [37], [46], [40], [41], [91], [93], [123], [125], [58], [59], [63]]
def mk2L : List (List UInt8) := [[46, 46], [124, 61], [43, 61], [45, 61], [42, 61], [47, 61], [37, 61], [61, 61], [33, 61], [60, 61], [62, 61], [47, 47]]
def mkL : List (List UInt8) := [47, 47, 61] :: (mk2L ++ mk1L)
def mkB (m : List UInt8) : Bool := mkL.contains m
def mkW (l : List UInt8) (p : Nat) : List UInt8 :=
  if mkB ((l.drop p).take 3) = true then (l.drop p).take 3 else if mkB ((l.drop p).take 2) = true then (l.drop p).take 2 else if mkB ((l.drop p).take 1) = true then (l.drop p).take 1 else []

/-- does a filter begin here? -/
def inwB (l : List UInt8) (p : Nat) : Bool := Lib.hasPrefix (l.drop p) [92, 40]
def peC (l : List UInt8) (p : Nat) : Prop := p < l.length ∧ (l.getD p 0).toNat = 92 ∧ inwB l p = false
instance (l : List UInt8) (p : Nat) : Decidable (peC l p) := by unfold peC; infer_instance
def peF (l : List UInt8) : Nat → Nat → Nat
  | 0, p => p
  | f + 1, p => if peC l p then peF l f (bhP piB l (min (p + 2) l.length)) else p
def peW (l : List UInt8) (p : Nat) : Nat := peF l (l.length + 1) (bhP piB l p)
theorem pe_gt {l : List UInt8} {p : Nat} (h : peC l p) : p < bhP piB l (min (p + 2) l.length) ∧ bhP piB l (min (p + 2) l.length) ≤ l.length := by
  have h3 := bhP_ge piB (p := min (p + 2) l.length) (l := l) (by omega)
  have := h.1
  omega
theorem peF_up {l : List UInt8} : ∀ (f p : Nat), p ≤ l.length → l.length - p < f → peF l (f + 1) p = peF l f p := by
  intro f
  induction f with
  | zero => intro p _ h; omega
  | succ f ih =>
    intro p hp h
    by_cases h1 : peC l p
    · have := pe_gt h1
      rw [show peF l (f + 1 + 1) p = peF l (f + 1) (bhP piB l (min (p + 2) l.length)) from if_pos h1, show peF l (f + 1) p = peF l f (bhP piB l (min (p + 2) l.length)) from if_pos h1]
      exact ih _ this.2 (by omega)
    · rw [show peF l (f + 1 + 1) p = p from if_neg h1, show peF l (f + 1) p = p from if_neg h1]
theorem peF_more {l : List UInt8} {p : Nat} (hp : p ≤ l.length) : ∀ (k f : Nat), l.length - p < f → peF l (f + k) p = peF l f p := by
  intro k
  induction k with
  | zero => intro f _; rfl
  | succ k ih => intro f h; rw [show f + (k + 1) = (f + k) + 1 by omega, peF_up _ _ hp (by omega)]; exact ih f h
theorem peF_any {l : List UInt8} {p f g : Nat} (hp : p ≤ l.length) (hf : l.length - p < f) (hg : l.length - p < g) : peF l f p = peF l g p := by
  rcases Nat.le_total f g with h | h
  · rw [show g = f + (g - f) by omega, peF_more hp _ _ hf]
  · rw [show f = g + (f - g) by omega, peF_more hp _ _ hg]
theorem peF_ge {l : List UInt8} : ∀ (f p : Nat), p ≤ l.length → p ≤ peF l f p ∧ peF l f p ≤ l.length := by
  intro f
  induction f with
  | zero => intro p hp; exact ⟨Nat.le_refl _, hp⟩
  | succ f ih =>
    intro p hp
    rw [peF]
    split
    · next h1 =>
      have := pe_gt h1
      have h2 := ih _ this.2
      omega
    · exact ⟨Nat.le_refl _, hp⟩
theorem peW_ge {l : List UInt8} {p : Nat} (hp : p ≤ l.length) : p ≤ peW l p ∧ peW l p ≤ l.length := by
  have h1 := bhP_ge piB hp
  have h2 := peF_ge (l.length + 1) _ h1.2
  unfold peW
  omega
theorem peF_esc {l : List UInt8} {p : Nat} (h : peC l p) : peF l (l.length + 1) p = peF l (l.length + 1) (bhP piB l (min (p + 2) l.length)) := by
  have := pe_gt h
  rw [peF, if_pos h]
  exact peF_any this.2 (by omega) (by omega)
theorem peF_rest {l : List UInt8} {f p : Nat} (h : ¬ peC l p) : peF l f p = p := by
  cases f with
  | zero => rfl
  | succ f => rw [peF, if_neg h]

/-- a piece as a literal -/
def litW (x : List UInt8) (ends : Bool) : List UInt8 := 34 :: (x ++ if ends = true then [34] else [])
def pcU (l : List UInt8) (p : Nat) : List Nat × Nat × Nat := unqL (litW (cut l (p + 1) (peW l (p + 1))) (decide (peW l (p + 1) < l.length))) 1 []
def pieceW (l : List UInt8) (p last further : Nat) : Tok :=
  if (pcU l p).2.2 = 0 then (if inwB l (peW l (p + 1)) = true then ⟨further, p, peW l (p + 1) + 2, txt (pcU l p).1, 0⟩ else ⟨last, p, peW l (p + 1) + 1, txt (pcU l p).1, 0⟩)
  else ⟨0, p + (pcU l p).2.1, 0, [], (pcU l p).2.2⟩
def nameT (l : List UInt8) (p : Nat) : Tok := ⟨if ownB (nameW l p) = true then 2 else 1, p, p + (nameW l p).length, nameW l p, 0⟩
def varT (l : List UInt8) (p : Nat) : Tok := if plainW (nameW l (p + 1)) = true then ⟨3, p, p + 1 + (nameW l (p + 1)).length, nameW l (p + 1), 0⟩ else ⟨0, p, 0, [], 160⟩
def fieldT (l : List UInt8) (p : Nat) : Tok := ⟨4, p, p + 1 + (nameW l (p + 1)).length, nameW l (p + 1), 0⟩
def numT16 (l : List UInt8) (p : Nat) : Tok := if Pl.formed (cut l p (bhP nuB l p)) = true then ⟨5, p, bhP nuB l p, cut l p (bhP nuB l p), 0⟩ else ⟨0, p, 0, [], 42⟩
def markT (l : List UInt8) (p : Nat) : Tok := if mkW l p = [] then ⟨0, p, 0, [], 160⟩ else ⟨10, p, p + (mkW l p).length, mkW l p, 0⟩
def clsB (op : List Nat) : Bool := decide (op.getLast? = some 0)
def tokW (l : List UInt8) (op : List Nat) (p : Nat) : Tok :=
  if leB (l.getD p 0) = true then nameT l p
  else if (l.getD p 0).toNat = 36 then varT l p
  else if (l.getD p 0).toNat = 46 ∧ nameW l (p + 1) ≠ [] then fieldT l p
  else if dgB (l.getD p 0) = true then numT16 l p
  else if (l.getD p 0).toNat = 34 then pieceW l p 6 7
  else if (l.getD p 0).toNat = 41 ∧ clsB op = true then pieceW l p 9 8
  else markT l p
/-- what is open behind a token -/
def incL : List Nat → List Nat
  | [] => []
  | [x] => [x + 1]
  | x :: y :: r => x :: incL (y :: r)
def decO : List Nat → List Nat
  | [] => []
  | [x] => [x - 1]
  | x :: y :: r => x :: decO (y :: r)
def openW (t : Tok) (op : List Nat) : List Nat :=
  if t.kind = 7 then op ++ [0] else if t.kind = 9 then op.dropLast
  else if t.kind = 10 ∧ t.text = [40] then incL op else if t.kind = 10 ∧ t.text = [41] then decO op else op
/-- all that is told from a place on -/
def scF (l : List UInt8) : Nat → Nat → List Nat → List Tok
  | 0, _, _ => []
  | f + 1, p, op => if p < l.length then (if (tokW l op p).err = 0 then tokW l op p :: scF l f (idW l (tokW l op p).fin) (openW (tokW l op p) op) else [tokW l op p]) else (if op = [] then [] else [⟨0, l.length, 0, [], 21⟩])
def scW (l : List UInt8) : List Tok := scF l (l.length + 1) (idW l 0) []
end Go.Proofs.YtcadknhedfnaoaaGreatDoor
