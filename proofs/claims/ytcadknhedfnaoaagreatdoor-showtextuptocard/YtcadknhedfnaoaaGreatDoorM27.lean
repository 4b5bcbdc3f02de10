import Derived.Test.YtcadknhedfnaoaaGreatDoorM20
import Derived.Test.YtcadknhedfnaoaaGreatDoorM21
namespace Go.Proofs.YtcadknhedfnaoaaGreatDoor
open Go.RowKit
set_option linter.unusedVariables false
set_option linter.unusedSimpArgs false

def blB (c : UInt8) : Bool := decide (c.toNat = 32 ∨ c.toNat = 9 ∨ c.toNat = 10 ∨ c.toNat = 13)
def dgB (c : UInt8) : Bool := decide (48 ≤ c.toNat ∧ c.toNat ≤ 57)
def leB (c : UInt8) : Bool := decide (97 ≤ c.toNat ∧ c.toNat ≤ 122 ∨ 65 ≤ c.toNat ∧ c.toNat ≤ 90 ∨ c.toNat = 95)
def inB (c : UInt8) : Bool := leB c || dgB c
def nuB (c : UInt8) : Bool := inB c || decide (c.toNat = 46)
def rmB (c : UInt8) : Bool := decide (c.toNat ≠ 10)
def piB (c : UInt8) : Bool := decide (c.toNat ≠ 34 ∧ c.toNat ≠ 92)

/-- the place behind the longest run of bytes of a class -/
def bhP (P : UInt8 → Bool) (l : List UInt8) (p : Nat) : Nat := l.length - ((l.drop p).dropWhile P).length
theorem bhP_ge (P : UInt8 → Bool) {l : List UInt8} {p : Nat} (hp : p ≤ l.length) : p ≤ bhP P l p ∧ bhP P l p ≤ l.length := by
  have := dropWhile_le P (l.drop p)
  rw [List.length_drop] at this
  unfold bhP
  omega
theorem drop_getD {l : List UInt8} {p : Nat} (hp : p < l.length) : l.drop p = l.getD p 0 :: l.drop (p + 1) := by
  rw [List.drop_eq_getElem_cons hp]; simp [List.getD, hp]
theorem bhP_step {P : UInt8 → Bool} {l : List UInt8} {p : Nat} (hp : p < l.length) (h : P (l.getD p 0) = true) : bhP P l p = bhP P l (p + 1) := by
  unfold bhP
  rw [drop_getD hp, List.dropWhile_cons, if_pos h]
theorem bhP_stop {P : UInt8 → Bool} {l : List UInt8} {p : Nat} (hp : p < l.length) (h : P (l.getD p 0) = false) : bhP P l p = p := by
  unfold bhP
  rw [drop_getD hp, List.dropWhile_cons, if_neg (by rw [h]; decide), List.length_cons, List.length_drop]
  omega
theorem bhP_end (P : UInt8 → Bool) (l : List UInt8) : bhP P l l.length = l.length := by
  unfold bhP
  rw [List.drop_length]; rfl
theorem bhP_gt {P : UInt8 → Bool} {l : List UInt8} {p : Nat} (hp : p < l.length) (h : P (l.getD p 0) = true) : p < bhP P l p := by
  rw [bhP_step hp h]
  exact (bhP_ge P (by omega)).1
/-- what stands where a run ends -/
theorem bhP_at {P : UInt8 → Bool} {l : List UInt8} : ∀ (n p : Nat), l.length - p ≤ n → p ≤ l.length → bhP P l p < l.length → P (l.getD (bhP P l p) 0) = false := by
  intro n
  induction n with
  | zero => intro p hn hp h; rw [show p = l.length by omega, bhP_end] at h; omega
  | succ n ih =>
    intro p hn hp h
    by_cases hlt : p < l.length
    · cases hP : P (l.getD p 0) with
      | true => rw [bhP_step hlt hP] at h ⊢; exact ih (p + 1) (by omega) (by omega) h
      | false => rw [bhP_stop hlt hP]; exact hP
    · rw [show p = l.length by omega, bhP_end] at h; omega
/-- what stands within a run -/
theorem bhP_in {P : UInt8 → Bool} {l : List UInt8} : ∀ (n p j : Nat), l.length - p ≤ n → p ≤ l.length → p ≤ j → j < bhP P l p → P (l.getD j 0) = true := by
  intro n
  induction n with
  | zero => intro p j hn hp hj h; rw [show p = l.length by omega, bhP_end] at h; omega
  | succ n ih =>
    intro p j hn hp hj h
    by_cases hlt : p < l.length
    · cases hP : P (l.getD p 0) with
      | true =>
        rw [bhP_step hlt hP] at h
        by_cases e : j = p
        · rw [e]; exact hP
        · exact ih (p + 1) j (by omega) (by omega) (by omega) h
      | false => rw [bhP_stop hlt hP] at h; omega
    · rw [show p = l.length by omega, bhP_end] at h; omega

/-- blanks and remarks -/
def idF (l : List UInt8) : Nat → Nat → Nat
  | 0, p => p
  | f + 1, p => if p < l.length ∧ (l.getD p 0).toNat = 35 then idF l f (bhP blB l (bhP rmB l p)) else p
def idW (l : List UInt8) (p : Nat) : Nat := idF l (l.length + 1) (bhP blB l p)
theorem rm_gt {l : List UInt8} {p : Nat} (h : p < l.length ∧ (l.getD p 0).toNat = 35) : p < bhP blB l (bhP rmB l p) ∧ bhP blB l (bhP rmB l p) ≤ l.length := by
  have h1 := bhP_gt (P := rmB) h.1 (by unfold rmB; rw [h.2]; rfl)
  have h2 := bhP_ge rmB (p := p) (l := l) (by omega)
  have h3 := bhP_ge blB (p := bhP rmB l p) (l := l) h2.2
  omega
theorem idF_up {l : List UInt8} : ∀ (f p : Nat), p ≤ l.length → l.length - p < f → idF l (f + 1) p = idF l f p := by
  intro f
  induction f with
  | zero => intro p _ h; omega
  | succ f ih =>
    intro p hp h
    by_cases h1 : p < l.length ∧ (l.getD p 0).toNat = 35
    · have := rm_gt h1
      rw [show idF l (f + 1 + 1) p = idF l (f + 1) (bhP blB l (bhP rmB l p)) from if_pos h1, show idF l (f + 1) p = idF l f (bhP blB l (bhP rmB l p)) from if_pos h1]
      exact ih _ this.2 (by omega)
    · rw [show idF l (f + 1 + 1) p = p from if_neg h1, show idF l (f + 1) p = p from if_neg h1]
theorem idF_more {l : List UInt8} {p : Nat} (hp : p ≤ l.length) : ∀ (k f : Nat), l.length - p < f → idF l (f + k) p = idF l f p := by
  intro k
  induction k with
  | zero => intro f _; rfl
  | succ k ih => intro f h; rw [show f + (k + 1) = (f + k) + 1 by omega, idF_up _ _ hp (by omega)]; exact ih f h
theorem idF_any {l : List UInt8} {p f g : Nat} (hp : p ≤ l.length) (hf : l.length - p < f) (hg : l.length - p < g) : idF l f p = idF l g p := by
  rcases Nat.le_total f g with h | h
  · rw [show g = f + (g - f) by omega, idF_more hp _ _ hf]
  · rw [show f = g + (f - g) by omega, idF_more hp _ _ hg]
theorem idF_ge {l : List UInt8} : ∀ (f p : Nat), p ≤ l.length → p ≤ idF l f p ∧ idF l f p ≤ l.length := by
  intro f
  induction f with
  | zero => intro p hp; exact ⟨Nat.le_refl _, hp⟩
  | succ f ih =>
    intro p hp
    rw [idF]
    split
    · next h1 =>
      have := rm_gt h1
      have h2 := ih _ this.2
      omega
    · exact ⟨Nat.le_refl _, hp⟩
theorem idW_ge {l : List UInt8} {p : Nat} (hp : p ≤ l.length) : p ≤ idW l p ∧ idW l p ≤ l.length := by
  have h1 := bhP_ge blB hp
  have h2 := idF_ge (l.length + 1) _ h1.2
  unfold idW
  omega
/-- at a place behind blanks: one remark passed, or the end -/
theorem idF_remark {l : List UInt8} {p : Nat} (h : p < l.length ∧ (l.getD p 0).toNat = 35) : idF l (l.length + 1) p = idF l (l.length + 1) (bhP blB l (bhP rmB l p)) := by
  have := rm_gt h
  rw [idF, if_pos h]
  exact idF_any this.2 (by omega) (by omega)
theorem idF_rest {l : List UInt8} {f p : Nat} (h : ¬ (p < l.length ∧ (l.getD p 0).toNat = 35)) : idF l f p = p := by
  cases f with
  | zero => rfl
  | succ f => rw [idF, if_neg h]

/-- the longest name at a place -/
def nameW (l : List UInt8) (p : Nat) : List UInt8 := if p < l.length ∧ leB (l.getD p 0) = true then cut l p (bhP inB l p) else []
def ownL : List (List UInt8) := [[100, 101, 102], [105, 102], [116, 104, 101, 110], [101, 108, 105, 102], [101, 108, 115, 101], [101, 110, 100], [97, 115], [114, 101, 100, 117, 99, 101], [102, 111, 114, 101, 97, 99, 104], [116, 114, 121], [99, 97, 116, 99, 104], [97, 110, 100], [111, 114], [108, 97, 98, 101, 108], [98, 114, 101, 97, 107], [110, 117, 108, 108], [116, 114, 117, 101], [102, 97, 108, 115, 101]]
def ownB (n : List UInt8) : Bool := ownL.contains n
def namedB (l : List UInt8) : Bool := decide (l ≠ [] ∧ nameW l 0 = l)
def plainW (l : List UInt8) : Bool := namedB l && !ownB l
def mk1L : List (List UInt8) := [[124], [44], [61], [60], [62], [43], [45], [42], [47], [37], [46], [40], [41], [91], [93], [123], [125], [58], [59], [63]]
def mk2L : List (List UInt8) := [[46, 46], [124, 61], [43, 61], [45, 61], [42, 61], [47, 61], [37, 61], [61, 61], [33, 61], [60, 61], [62, 61], [47, 47]]
def mkL : List (List UInt8) := [47, 47, 61] :: (mk2L ++ mk1L)
def mkB (m : List UInt8) : Bool := mkL.contains m
def mkW (l : List UInt8) (p : Nat) : List UInt8 :=
  if mkB ((l.drop p).take 3) = true then (l.drop p).take 3 else if mkB ((l.drop p).take 2) = true then (l.drop p).take 2 else if mkB ((l.drop p).take 1) = true then (l.drop p).take 1 else []

/-- does a filter begin here? -/
def inwB (l : List UInt8) (p : Nat) : Bool := Lib.hasPrefix (l.drop p) [92, 40]
def peC (l : List UInt8) (p : Nat) : Prop := p < l.length ∧ (l.getD p 0).toNat = 92 ∧ inwB l p = false
instance (l : List UInt8) (p : Nat) : Decidable (peC l p) := by unfold peC; infer_instance
def peF (l : List UInt8) : Nat → Nat → Nat
  | 0, p => p
  | f + 1, p => if peC l p then peF l f (bhP piB l (min (p + 2) l.length)) else p
def peW (l : List UInt8) (p : Nat) : Nat := peF l (l.length + 1) (bhP piB l p)
theorem pe_gt {l : List UInt8} {p : Nat} (h : peC l p) : p < bhP piB l (min (p + 2) l.length) ∧ bhP piB l (min (p + 2) l.length) ≤ l.length := by
  have h3 := bhP_ge piB (p := min (p + 2) l.length) (l := l) (by omega)
  have := h.1
  omega
theorem peF_up {l : List UInt8} : ∀ (f p : Nat), p ≤ l.length → l.length - p < f → peF l (f + 1) p = peF l f p := by
  intro f
  induction f with
  | zero => intro p _ h; omega
  | succ f ih =>
    intro p hp h
    by_cases h1 : peC l p
    · have := pe_gt h1
      rw [show peF l (f + 1 + 1) p = peF l (f + 1) (bhP piB l (min (p + 2) l.length)) from if_pos h1, show peF l (f + 1) p = peF l f (bhP piB l (min (p + 2) l.length)) from if_pos h1]
      exact ih _ this.2 (by omega)
    · rw [show peF l (f + 1 + 1) p = p from if_neg h1, show peF l (f + 1) p = p from if_neg h1]
theorem peF_more {l : List UInt8} {p : Nat} (hp : p ≤ l.length) : ∀ (k f : Nat), l.length - p < f → peF l (f + k) p = peF l f p := by
  intro k
  induction k with
  | zero => intro f _; rfl
  | succ k ih => intro f h; rw [show f + (k + 1) = (f + k) + 1 by omega, peF_up _ _ hp (by omega)]; exact ih f h
theorem peF_any {l : List UInt8} {p f g : Nat} (hp : p ≤ l.length) (hf : l.length - p < f) (hg : l.length - p < g) : peF l f p = peF l g p := by
  rcases Nat.le_total f g with h | h
  · rw [show g = f + (g - f) by omega, peF_more hp _ _ hf]
  · rw [show f = g + (f - g) by omega, peF_more hp _ _ hg]
theorem peF_ge {l : List UInt8} : ∀ (f p : Nat), p ≤ l.length → p ≤ peF l f p ∧ peF l f p ≤ l.length := by
  intro f
  induction f with
  | zero => intro p hp; exact ⟨Nat.le_refl _, hp⟩
  | succ f ih =>
    intro p hp
    rw [peF]
    split
    · next h1 =>
      have := pe_gt h1
      have h2 := ih _ this.2
      omega
    · exact ⟨Nat.le_refl _, hp⟩
theorem peW_ge {l : List UInt8} {p : Nat} (hp : p ≤ l.length) : p ≤ peW l p ∧ peW l p ≤ l.length := by
  have h1 := bhP_ge piB hp
  have h2 := peF_ge (l.length + 1) _ h1.2
  unfold peW
  omega
theorem peF_esc {l : List UInt8} {p : Nat} (h : peC l p) : peF l (l.length + 1) p = peF l (l.length + 1) (bhP piB l (min (p + 2) l.length)) := by
  have := pe_gt h
  rw [peF, if_pos h]
  exact peF_any this.2 (by omega) (by omega)
theorem peF_rest {l : List UInt8} {f p : Nat} (h : ¬ peC l p) : peF l f p = p := by
  cases f with
  | zero => rfl
  | succ f => rw [peF, if_neg h]

/-- a piece as a literal -/
def litW (x : List UInt8) (ends : Bool) : List UInt8 := 34 :: (x ++ if ends = true then [34] else [])
def pcU (l : List UInt8) (p : Nat) : List Nat × Nat × Nat := unqL (litW (cut l (p + 1) (peW l (p + 1))) (decide (peW l (p + 1) < l.length))) 1 []
def pieceW (l : List UInt8) (p last further : Nat) : Tok :=
  if (pcU l p).2.2 = 0 then (if inwB l (peW l (p + 1)) = true then ⟨further, p, peW l (p + 1) + 2, txt (pcU l p).1, 0⟩ else ⟨last, p, peW l (p + 1) + 1, txt (pcU l p).1, 0⟩)
  else ⟨0, p + (pcU l p).2.1, 0, [], (pcU l p).2.2⟩
def nameT (l : List UInt8) (p : Nat) : Tok := ⟨if ownB (nameW l p) = true then 2 else 1, p, p + (nameW l p).length, nameW l p, 0⟩
def varT (l : List UInt8) (p : Nat) : Tok := if plainW (nameW l (p + 1)) = true then ⟨3, p, p + 1 + (nameW l (p + 1)).length, nameW l (p + 1), 0⟩ else ⟨0, p, 0, [], 160⟩
def fieldT (l : List UInt8) (p : Nat) : Tok := ⟨4, p, p + 1 + (nameW l (p + 1)).length, nameW l (p + 1), 0⟩
def numT16 (l : List UInt8) (p : Nat) : Tok := if Pl.formed (cut l p (bhP nuB l p)) = true then ⟨5, p, bhP nuB l p, cut l p (bhP nuB l p), 0⟩ else ⟨0, p, 0, [], 42⟩
def markT (l : List UInt8) (p : Nat) : Tok := if mkW l p = [] then ⟨0, p, 0, [], 160⟩ else ⟨10, p, p + (mkW l p).length, mkW l p, 0⟩
def clsB (op : List Nat) : Bool := decide (op.getLast? = some 0)
def tokW (l : List UInt8) (op : List Nat) (p : Nat) : Tok :=
  if leB (l.getD p 0) = true then nameT l p
  else if (l.getD p 0).toNat = 36 then varT l p
  else if (l.getD p 0).toNat = 46 ∧ nameW l (p + 1) ≠ [] then fieldT l p
  else if dgB (l.getD p 0) = true then numT16 l p
  else if (l.getD p 0).toNat = 34 then pieceW l p 6 7
  else if (l.getD p 0).toNat = 41 ∧ clsB op = true then pieceW l p 9 8
  else markT l p
/-- what is open behind a token -/
def incL : List Nat → List Nat
  | [] => []
  | [x] => [x + 1]
  | x :: y :: r => x :: incL (y :: r)
def decO : List Nat → List Nat
  | [] => []
  | [x] => [x - 1]
  | x :: y :: r => x :: decO (y :: r)
def openW (t : Tok) (op : List Nat) : List Nat :=
  if t.kind = 7 then op ++ [0] else if t.kind = 9 then op.dropLast
  else if t.kind = 10 ∧ t.text = [40] then incL op else if t.kind = 10 ∧ t.text = [41] then decO op else op
/-- all that is told from a place on -/
def scF (l : List UInt8) : Nat → Nat → List Nat → List Tok
  | 0, _, _ => []
  | f + 1, p, op => if p < l.length then (if (tokW l op p).err = 0 then tokW l op p :: scF l f (idW l (tokW l op p).fin) (openW (tokW l op p) op) else [tokW l op p]) else (if op = [] then [] else [⟨0, l.length, 0, [], 21⟩])
def scW (l : List UInt8) : List Tok := scF l (l.length + 1) (idW l 0) []
end Go.Proofs.YtcadknhedfnaoaaGreatDoor
namespace Go.Proofs.YtcadknhedfnaoaaGreatDoor
open Go.RowKit
set_option linter.unusedVariables false
set_option linter.unusedSimpArgs false

set_option maxRecDepth 100000 in
set_option maxHeartbeats 1600000 in
theorem w_wDigit (c : UInt8) (w : World) :
    Calls Tryz.prog 116 #[.int .u8 ((c.toNat : Nat) : Int)] w fun e w' => e = .returned (.bool (dgB c)) ∧ w' = w := by
  have ht : ∀ b, dgB c = b → dgB c = b := fun _ h => h
  unfold dgB at ht
  have hlt := c.toNat_lt
  obtain ⟨x, hx⟩ : ∃ x : Int, ((c.toNat : Nat) : Int) = x := ⟨_, rfl⟩
  rw [hx]
  have hcs : (48 ≤ x ∧ x ≤ 57) ∨ (48 ≤ x ∧ ¬ x ≤ 57) ∨ (¬ 48 ≤ x ∧ x ≤ 57) := by omega
  rcases hcs with ⟨q0, q1⟩ | ⟨q0, q1⟩ | ⟨q0, q1⟩
  · have HT : dgB c = true := by unfold dgB; exact decide_eq_true (by omega)
    rw [HT]
    clear HT ht hx hlt
    go_enter Tryz.func116, Tryz.ntmps116
    go_wp2_with fail
    go_ret
    exact ⟨by first | rfl | simp [*], rfl⟩
  · have HT : dgB c = false := by unfold dgB; exact decide_eq_false (by omega)
    rw [HT]
    clear HT ht hx hlt
    go_enter Tryz.func116, Tryz.ntmps116
    go_wp2_with fail
    go_ret
    exact ⟨by first | rfl | simp [*], rfl⟩
  · have HT : dgB c = false := by unfold dgB; exact decide_eq_false (by omega)
    rw [HT]
    clear HT ht hx hlt
    go_enter Tryz.func116, Tryz.ntmps116
    go_wp2_with fail
    go_ret
    exact ⟨by first | rfl | simp [*], rfl⟩

set_option maxRecDepth 100000 in
set_option maxHeartbeats 1600000 in
theorem w_wLetter (c : UInt8) (w : World) :
    Calls Tryz.prog 87 #[.int .u8 ((c.toNat : Nat) : Int)] w fun e w' => e = .returned (.bool (leB c)) ∧ w' = w := by
  have ht : ∀ b, leB c = b → leB c = b := fun _ h => h
  unfold leB at ht
  have hlt := c.toNat_lt
  obtain ⟨x, hx⟩ : ∃ x : Int, ((c.toNat : Nat) : Int) = x := ⟨_, rfl⟩
  rw [hx]
  have hcs : (97 ≤ x ∧ x ≤ 122) ∨ (97 ≤ x ∧ ¬ x ≤ 122 ∧ 65 ≤ x ∧ ¬ x ≤ 90 ∧ ¬ x = 95) ∨ (¬ 97 ≤ x ∧ 65 ≤ x ∧ x ≤ 90) ∨ (¬ 97 ≤ x ∧ 65 ≤ x ∧ ¬ x ≤ 90 ∧ x = 95) ∨ (¬ 97 ≤ x ∧ 65 ≤ x ∧ ¬ x ≤ 90 ∧ ¬ x = 95) ∨ (¬ 97 ≤ x ∧ ¬ 65 ≤ x ∧ ¬ x = 95) := by omega
  rcases hcs with ⟨q0, q1⟩ | ⟨q0, q1, q2, q3, q4⟩ | ⟨q0, q1, q2⟩ | ⟨q0, q1, q2, q3⟩ | ⟨q0, q1, q2, q3⟩ | ⟨q0, q1, q2⟩
  · have HT : leB c = true := by unfold leB; exact decide_eq_true (by omega)
    rw [HT]
    clear HT ht hx hlt
    go_enter Tryz.func87, Tryz.ntmps87
    go_wp2_with fail
    go_ret
    exact ⟨by first | rfl | simp [*], rfl⟩
  · have HT : leB c = false := by unfold leB; exact decide_eq_false (by omega)
    rw [HT]
    clear HT ht hx hlt
    go_enter Tryz.func87, Tryz.ntmps87
    go_wp2_with fail
    go_ret
    exact ⟨by first | rfl | simp [*], rfl⟩
  · have HT : leB c = true := by unfold leB; exact decide_eq_true (by omega)
    rw [HT]
    clear HT ht hx hlt
    go_enter Tryz.func87, Tryz.ntmps87
    go_wp2_with fail
    go_ret
    exact ⟨by first | rfl | simp [*], rfl⟩
  · have HT : leB c = true := by unfold leB; exact decide_eq_true (by omega)
    rw [HT]
    subst q3
    clear HT ht hx hlt q0 q1 q2
    go_enter Tryz.func87, Tryz.ntmps87
    go_wp2_with fail
    go_ret
    exact ⟨by first | rfl | simp [*], rfl⟩
  · have HT : leB c = false := by unfold leB; exact decide_eq_false (by omega)
    rw [HT]
    clear HT ht hx hlt
    go_enter Tryz.func87, Tryz.ntmps87
    go_wp2_with fail
    go_ret
    exact ⟨by first | rfl | simp [*], rfl⟩
  · have HT : leB c = false := by unfold leB; exact decide_eq_false (by omega)
    rw [HT]
    clear HT ht hx hlt
    go_enter Tryz.func87, Tryz.ntmps87
    go_wp2_with fail
    go_ret
    exact ⟨by first | rfl | simp [*], rfl⟩

set_option maxRecDepth 100000 in
set_option maxHeartbeats 1600000 in
theorem w_wInName (c : UInt8) (w : World) :
    Calls Tryz.prog 89 #[.int .u8 ((c.toNat : Nat) : Int)] w fun e w' => e = .returned (.bool (inB c)) ∧ w' = w := by
  have H1 := Hid.mk (fun u => w_wLetter c u)
  have H2 := Hid.mk (fun u => w_wDigit c u)
  unfold inB
  cases h1 : leB c with
  | true =>
    rw [h1] at H1
    clear h1 H2
    rw [Bool.true_or]
    generalize ((c.toNat : Nat) : Int) = x at *
    go_enter Tryz.func89, Tryz.ntmps89
    go_wp2_with fail
    refine (H1.out _).mono ?_
    rintro e w1 ⟨rfl, rfl⟩
    go_wp2_with fail
    go_ret
    exact ⟨rfl, rfl⟩
  | false =>
    rw [h1] at H1
    clear h1
    rw [Bool.false_or]
    generalize dgB c = b2 at *
    generalize ((c.toNat : Nat) : Int) = x at *
    go_enter Tryz.func89, Tryz.ntmps89
    go_wp2_with fail
    refine (H1.out _).mono ?_
    rintro e w1 ⟨rfl, rfl⟩
    go_wp2_with fail
    refine (H2.out _).mono ?_
    rintro e w1 ⟨rfl, rfl⟩
    go_wp2_with fail
    go_ret
    exact ⟨rfl, rfl⟩
end Go.Proofs.YtcadknhedfnaoaaGreatDoor
namespace Go.Proofs.YtcadknhedfnaoaaGreatDoor
open Go.RowKit
set_option linter.unusedVariables false
set_option linter.unusedSimpArgs false

set_option maxRecDepth 100000 in
set_option maxHeartbeats 1600000 in
theorem w_bhName (s : ByteArray) (p : Nat) (w : World) (hp : p ≤ s.size) (hs : s.size ≤ 140737488355328) :
    Calls Tryz.prog 88 #[.string s, .int .i64 (p : Int), .func (.func 89) #[] #[]] w fun e w' => e = .returned (.int .i64 ((bhP inB s.data.toList p : Nat) : Int)) ∧ w' = w := by
  obtain ⟨l, hl⟩ : ∃ l, l = s.data.toList := ⟨_, rfl⟩
  have HL : Hid (l.length = s.size) := by show _ = _; rw [hl]; exact size_lst s
  have HG : Hid (∀ q (h : q < s.size), l.getD q 0 = s[q]) := fun q h => by rw [hl]; exact getD_byte h
  rw [← hl]
  clear hl
  go_enter Tryz.func88, Tryz.ntmps88
  go_wp2_with fail
  go_loopw [1] (fun a wr => ∃ q : Nat, q ≤ s.size ∧ a = .int .i64 (q : Int) ∧ Hid (bhP inB l p = bhP inB l q) ∧ wr = w) (fun a _ => s.size - (intOf a).toNat)
  case atStart => exact ⟨p, hp, rfl, rfl, rfl⟩
  case round =>
    obtain ⟨q, hq, rfl, HQ, rfl⟩ := hrel
    by_cases hlt : q < s.size
    · have hi1 : (q : Int) < (s.size : Int) := by omega
      have hi0 : (0 : Int) ≤ (q : Int) := by omega
      have hi2 : ¬ (s.size : Int) ≤ (q : Int) := by omega
      have hc := fun u => w_wInName s[q] u
      have hst := bhP_step (P := inB) (l := l) (p := q) (by rw [HL.out]; exact hlt)
      have hsp := bhP_stop (P := inB) (l := l) (p := q) (by rw [HL.out]; exact hlt)
      rw [HG.out q hlt] at hst hsp
      cases h1 : inB s[q] with
      | true =>
        rw [h1] at hc hst
        have HC := Hid.mk hc
        have HST := Hid.mk (hst rfl)
        clear hst hsp hc h1
        go_wp2_with fail
        refine (HC.out _).mono ?_
        rintro e w1 ⟨rfl, rfl⟩
        go_wp2_with fail
        go_roundw
        case rel => exact ⟨q + 1, by omega, by go_num, HQ.out.trans HST.out, by first | rfl | trivial⟩
        case measure => simp [intOf]; omega
      | false =>
        rw [h1] at hc hsp
        have HC := Hid.mk hc
        have HSP := Hid.mk (HQ.out.trans (hsp rfl))
        clear hst hsp hc h1
        go_wp2_with fail
        refine (HC.out _).mono ?_
        rintro e w1 ⟨rfl, rfl⟩
        go_wp2_with fail
        go_ret
        exact ⟨by rw [HSP.out]; first | done | rfl, rfl⟩
    · have hi1 : ¬ (q : Int) < (s.size : Int) := by omega
      have HE : Hid (bhP inB l p = q) := by
        show _ = _
        rw [HQ.out, show q = l.length by rw [HL.out]; omega, bhP_end]
      go_wp2_with fail
      go_ret
      exact ⟨by rw [HE.out]; first | done | rfl, rfl⟩
end Go.Proofs.YtcadknhedfnaoaaGreatDoor
namespace Go.Proofs.YtcadknhedfnaoaaGreatDoor
open Go.RowKit
set_option linter.unusedVariables false
set_option linter.unusedSimpArgs false

set_option maxRecDepth 100000 in
set_option maxHeartbeats 6400000 in
theorem w_wOwn (n : ByteArray) (w : World) :
    Calls Tryz.prog 124 #[.string n] w fun e w' => e = .returned (.bool (ownB n.data.toList)) ∧ w' = w := by
  by_cases h0 : n.data.toList = [100, 101, 102]
  · have HT : ownB n.data.toList = true := by rw [h0]; decide
    rw [HT]
    have g0 : (n.toList == [100, 101, 102]) = true := by rw [Lib.toList_data, h0]; rfl
    clear HT h0
    go_enter Tryz.func124, Tryz.ntmps124
    go_wp2_with fail
    go_ret
    exact ⟨rfl, rfl⟩
  have g0 : (n.toList == [100, 101, 102]) = false := by rw [Lib.toList_data, beq_eq_false_iff_ne]; exact h0
  have b0 := beq_eq_false_iff_ne.2 h0
  clear h0
  by_cases h1 : n.data.toList = [105, 102]
  · have HT : ownB n.data.toList = true := by rw [h1]; decide
    rw [HT]
    have g1 : (n.toList == [105, 102]) = true := by rw [Lib.toList_data, h1]; rfl
    clear HT h1
    go_enter Tryz.func124, Tryz.ntmps124
    go_wp2_with fail
    go_ret
    exact ⟨rfl, rfl⟩
  have g1 : (n.toList == [105, 102]) = false := by rw [Lib.toList_data, beq_eq_false_iff_ne]; exact h1
  have b1 := beq_eq_false_iff_ne.2 h1
  clear h1
  by_cases h2 : n.data.toList = [116, 104, 101, 110]
  · have HT : ownB n.data.toList = true := by rw [h2]; decide
    rw [HT]
    have g2 : (n.toList == [116, 104, 101, 110]) = true := by rw [Lib.toList_data, h2]; rfl
    clear HT h2
    go_enter Tryz.func124, Tryz.ntmps124
    go_wp2_with fail
    go_ret
    exact ⟨rfl, rfl⟩
  have g2 : (n.toList == [116, 104, 101, 110]) = false := by rw [Lib.toList_data, beq_eq_false_iff_ne]; exact h2
  have b2 := beq_eq_false_iff_ne.2 h2
  clear h2
  by_cases h3 : n.data.toList = [101, 108, 105, 102]
  · have HT : ownB n.data.toList = true := by rw [h3]; decide
    rw [HT]
    have g3 : (n.toList == [101, 108, 105, 102]) = true := by rw [Lib.toList_data, h3]; rfl
    clear HT h3
    go_enter Tryz.func124, Tryz.ntmps124
    go_wp2_with fail
    go_ret
    exact ⟨rfl, rfl⟩
  have g3 : (n.toList == [101, 108, 105, 102]) = false := by rw [Lib.toList_data, beq_eq_false_iff_ne]; exact h3
  have b3 := beq_eq_false_iff_ne.2 h3
  clear h3
  by_cases h4 : n.data.toList = [101, 108, 115, 101]
  · have HT : ownB n.data.toList = true := by rw [h4]; decide
    rw [HT]
    have g4 : (n.toList == [101, 108, 115, 101]) = true := by rw [Lib.toList_data, h4]; rfl
    clear HT h4
    go_enter Tryz.func124, Tryz.ntmps124
    go_wp2_with fail
    go_ret
    exact ⟨rfl, rfl⟩
  have g4 : (n.toList == [101, 108, 115, 101]) = false := by rw [Lib.toList_data, beq_eq_false_iff_ne]; exact h4
  have b4 := beq_eq_false_iff_ne.2 h4
  clear h4
  by_cases h5 : n.data.toList = [101, 110, 100]
  · have HT : ownB n.data.toList = true := by rw [h5]; decide
    rw [HT]
    have g5 : (n.toList == [101, 110, 100]) = true := by rw [Lib.toList_data, h5]; rfl
    clear HT h5
    go_enter Tryz.func124, Tryz.ntmps124
    go_wp2_with fail
    go_ret
    exact ⟨rfl, rfl⟩
  have g5 : (n.toList == [101, 110, 100]) = false := by rw [Lib.toList_data, beq_eq_false_iff_ne]; exact h5
  have b5 := beq_eq_false_iff_ne.2 h5
  clear h5
  by_cases h6 : n.data.toList = [97, 115]
  · have HT : ownB n.data.toList = true := by rw [h6]; decide
    rw [HT]
    have g6 : (n.toList == [97, 115]) = true := by rw [Lib.toList_data, h6]; rfl
    clear HT h6
    go_enter Tryz.func124, Tryz.ntmps124
    go_wp2_with fail
    go_ret
    exact ⟨rfl, rfl⟩
  have g6 : (n.toList == [97, 115]) = false := by rw [Lib.toList_data, beq_eq_false_iff_ne]; exact h6
  have b6 := beq_eq_false_iff_ne.2 h6
  clear h6
  by_cases h7 : n.data.toList = [114, 101, 100, 117, 99, 101]
  · have HT : ownB n.data.toList = true := by rw [h7]; decide
    rw [HT]
    have g7 : (n.toList == [114, 101, 100, 117, 99, 101]) = true := by rw [Lib.toList_data, h7]; rfl
    clear HT h7
    go_enter Tryz.func124, Tryz.ntmps124
    go_wp2_with fail
    go_ret
    exact ⟨rfl, rfl⟩
  have g7 : (n.toList == [114, 101, 100, 117, 99, 101]) = false := by rw [Lib.toList_data, beq_eq_false_iff_ne]; exact h7
  have b7 := beq_eq_false_iff_ne.2 h7
  clear h7
  by_cases h8 : n.data.toList = [102, 111, 114, 101, 97, 99, 104]
  · have HT : ownB n.data.toList = true := by rw [h8]; decide
    rw [HT]
    have g8 : (n.toList == [102, 111, 114, 101, 97, 99, 104]) = true := by rw [Lib.toList_data, h8]; rfl
    clear HT h8
    go_enter Tryz.func124, Tryz.ntmps124
    go_wp2_with fail
    go_ret
    exact ⟨rfl, rfl⟩
  have g8 : (n.toList == [102, 111, 114, 101, 97, 99, 104]) = false := by rw [Lib.toList_data, beq_eq_false_iff_ne]; exact h8
  have b8 := beq_eq_false_iff_ne.2 h8
  clear h8
  by_cases h9 : n.data.toList = [116, 114, 121]
  · have HT : ownB n.data.toList = true := by rw [h9]; decide
    rw [HT]
    have g9 : (n.toList == [116, 114, 121]) = true := by rw [Lib.toList_data, h9]; rfl
    clear HT h9
    go_enter Tryz.func124, Tryz.ntmps124
    go_wp2_with fail
    go_ret
    exact ⟨rfl, rfl⟩
  have g9 : (n.toList == [116, 114, 121]) = false := by rw [Lib.toList_data, beq_eq_false_iff_ne]; exact h9
  have b9 := beq_eq_false_iff_ne.2 h9
  clear h9
  by_cases h10 : n.data.toList = [99, 97, 116, 99, 104]
  · have HT : ownB n.data.toList = true := by rw [h10]; decide
    rw [HT]
    have g10 : (n.toList == [99, 97, 116, 99, 104]) = true := by rw [Lib.toList_data, h10]; rfl
    clear HT h10
    go_enter Tryz.func124, Tryz.ntmps124
    go_wp2_with fail
    go_ret
    exact ⟨rfl, rfl⟩
  have g10 : (n.toList == [99, 97, 116, 99, 104]) = false := by rw [Lib.toList_data, beq_eq_false_iff_ne]; exact h10
  have b10 := beq_eq_false_iff_ne.2 h10
  clear h10
  by_cases h11 : n.data.toList = [97, 110, 100]
  · have HT : ownB n.data.toList = true := by rw [h11]; decide
    rw [HT]
    have g11 : (n.toList == [97, 110, 100]) = true := by rw [Lib.toList_data, h11]; rfl
    clear HT h11
    go_enter Tryz.func124, Tryz.ntmps124
    go_wp2_with fail
    go_ret
    exact ⟨rfl, rfl⟩
  have g11 : (n.toList == [97, 110, 100]) = false := by rw [Lib.toList_data, beq_eq_false_iff_ne]; exact h11
  have b11 := beq_eq_false_iff_ne.2 h11
  clear h11
  by_cases h12 : n.data.toList = [111, 114]
  · have HT : ownB n.data.toList = true := by rw [h12]; decide
    rw [HT]
    have g12 : (n.toList == [111, 114]) = true := by rw [Lib.toList_data, h12]; rfl
    clear HT h12
    go_enter Tryz.func124, Tryz.ntmps124
    go_wp2_with fail
    go_ret
    exact ⟨rfl, rfl⟩
  have g12 : (n.toList == [111, 114]) = false := by rw [Lib.toList_data, beq_eq_false_iff_ne]; exact h12
  have b12 := beq_eq_false_iff_ne.2 h12
  clear h12
  by_cases h13 : n.data.toList = [108, 97, 98, 101, 108]
  · have HT : ownB n.data.toList = true := by rw [h13]; decide
    rw [HT]
    have g13 : (n.toList == [108, 97, 98, 101, 108]) = true := by rw [Lib.toList_data, h13]; rfl
    clear HT h13
    go_enter Tryz.func124, Tryz.ntmps124
    go_wp2_with fail
    go_ret
    exact ⟨rfl, rfl⟩
  have g13 : (n.toList == [108, 97, 98, 101, 108]) = false := by rw [Lib.toList_data, beq_eq_false_iff_ne]; exact h13
  have b13 := beq_eq_false_iff_ne.2 h13
  clear h13
  by_cases h14 : n.data.toList = [98, 114, 101, 97, 107]
  · have HT : ownB n.data.toList = true := by rw [h14]; decide
    rw [HT]
    have g14 : (n.toList == [98, 114, 101, 97, 107]) = true := by rw [Lib.toList_data, h14]; rfl
    clear HT h14
    go_enter Tryz.func124, Tryz.ntmps124
    go_wp2_with fail
    go_ret
    exact ⟨rfl, rfl⟩
  have g14 : (n.toList == [98, 114, 101, 97, 107]) = false := by rw [Lib.toList_data, beq_eq_false_iff_ne]; exact h14
  have b14 := beq_eq_false_iff_ne.2 h14
  clear h14
  by_cases h15 : n.data.toList = [110, 117, 108, 108]
  · have HT : ownB n.data.toList = true := by rw [h15]; decide
    rw [HT]
    have g15 : (n.toList == [110, 117, 108, 108]) = true := by rw [Lib.toList_data, h15]; rfl
    clear HT h15
    go_enter Tryz.func124, Tryz.ntmps124
    go_wp2_with fail
    go_ret
    exact ⟨rfl, rfl⟩
  have g15 : (n.toList == [110, 117, 108, 108]) = false := by rw [Lib.toList_data, beq_eq_false_iff_ne]; exact h15
  have b15 := beq_eq_false_iff_ne.2 h15
  clear h15
  by_cases h16 : n.data.toList = [116, 114, 117, 101]
  · have HT : ownB n.data.toList = true := by rw [h16]; decide
    rw [HT]
    have g16 : (n.toList == [116, 114, 117, 101]) = true := by rw [Lib.toList_data, h16]; rfl
    clear HT h16
    go_enter Tryz.func124, Tryz.ntmps124
    go_wp2_with fail
    go_ret
    exact ⟨rfl, rfl⟩
  have g16 : (n.toList == [116, 114, 117, 101]) = false := by rw [Lib.toList_data, beq_eq_false_iff_ne]; exact h16
  have b16 := beq_eq_false_iff_ne.2 h16
  clear h16
  by_cases h17 : n.data.toList = [102, 97, 108, 115, 101]
  · have HT : ownB n.data.toList = true := by rw [h17]; decide
    rw [HT]
    have g17 : (n.toList == [102, 97, 108, 115, 101]) = true := by rw [Lib.toList_data, h17]; rfl
    clear HT h17
    go_enter Tryz.func124, Tryz.ntmps124
    go_wp2_with fail
    go_ret
    exact ⟨rfl, rfl⟩
  have g17 : (n.toList == [102, 97, 108, 115, 101]) = false := by rw [Lib.toList_data, beq_eq_false_iff_ne]; exact h17
  have b17 := beq_eq_false_iff_ne.2 h17
  clear h17
  have HT : ownB n.data.toList = false := by
    unfold ownB
    simp only [ownL, List.cons_append, List.nil_append, List.contains_cons, List.contains_nil, b0, b1, b2, b3, b4, b5, b6, b7, b8, b9, b10, b11, b12, b13, b14, b15, b16, b17, Bool.or_false]
  rw [HT]
  clear HT b0 b1 b2 b3 b4 b5 b6 b7 b8 b9 b10 b11 b12 b13 b14 b15 b16 b17
  go_enter Tryz.func124, Tryz.ntmps124
  go_wp2_with fail
  go_ret
  exact ⟨rfl, rfl⟩

end Go.Proofs.YtcadknhedfnaoaaGreatDoor
namespace Go.Proofs.YtcadknhedfnaoaaGreatDoor
open Go.RowKit
set_option linter.unusedVariables false
set_option linter.unusedSimpArgs false

theorem ext_cut (s : ByteArray) (a b : Nat) (hb : b ≤ s.size) : s.extract a b = ⟨(cut s.data.toList a b).toArray⟩ := by
  have h := extract_lst s a b hb
  have e : (s.extract a b).data = (cut s.data.toList a b).toArray := by rw [← h]
  cases hx : s.extract a b with
  | mk d => rw [hx] at e; exact congrArg ByteArray.mk e
theorem arr_lst (x : List UInt8) : (⟨x.toArray⟩ : ByteArray).data.toList = x := rfl
theorem arr_size (x : List UInt8) : (⟨x.toArray⟩ : ByteArray).size = x.length := by show x.toArray.size = _; simp
theorem cut_len {l : List UInt8} {a b : Nat} (hb : b ≤ l.length) : (cut l a b).length = b - a := by unfold cut; simp; omega
theorem nameW_len {l : List UInt8} {p : Nat} (hp : p ≤ l.length) : p + (nameW l p).length ≤ l.length := by
  unfold nameW
  split
  · next h =>
    have := bhP_ge inB hp
    rw [cut_len this.2]; omega
  · simpa using hp

set_option maxRecDepth 100000 in
set_option maxHeartbeats 1600000 in
theorem w_nameAt (s : ByteArray) (p : Nat) (w : World) (hp : p ≤ s.size) (hs : s.size ≤ 140737488355328) :
    Calls Tryz.prog 50 #[.string s, .int .i64 (p : Int)] w fun e w' => e = .returned (.string ⟨(nameW s.data.toList p).toArray⟩) ∧ w' = w := by
  by_cases he : p = s.size
  · have HN : Hid (nameW s.data.toList p = []) := by show _ = _; unfold nameW; rw [if_neg (by rw [size_lst]; omega)]
    have hq : ((p : Int) == (s.size : Int)) = true := by rw [he]; simp
    clear he
    go_enter Tryz.func50, Tryz.ntmps50
    go_wp2_with fail
    go_ret
    exact ⟨by rw [HN.out]; first | done | rfl, rfl⟩
  · have hlt : p < s.size := by omega
    have hq : ((p : Int) == (s.size : Int)) = false := by rw [beq_eq_false_iff_ne]; omega
    have hi0 : (0 : Int) ≤ (p : Int) := by omega
    have hi1 : (p : Int) < (s.size : Int) := by omega
    have hc := fun u => w_wLetter s[p] u
    have hd := getD_byte hlt
    cases h1 : leB s[p] with
    | false =>
      rw [h1] at hc
      have HC := Hid.mk hc
      have HN : Hid (nameW s.data.toList p = []) := by show _ = _; unfold nameW; rw [if_neg (by rw [hd, h1]; simp)]
      clear he hc hd h1
      go_enter Tryz.func50, Tryz.ntmps50
      go_wp2_with fail
      refine (HC.out _).mono ?_
      rintro e w1 ⟨rfl, hw1⟩
      obtain rfl := hw1.symm
      go_wp2_with fail
      go_ret
      exact ⟨by rw [HN.out]; first | done | rfl, rfl⟩
    | true =>
      rw [h1] at hc
      have HC := Hid.mk hc
      have HBh := Hid.mk (fun u => w_bhName s p u hp hs)
      have hbe := bhP_ge inB (l := s.data.toList) (p := p) (by rw [size_lst]; omega)
      have HN : Hid (nameW s.data.toList p = cut s.data.toList p (bhP inB s.data.toList p)) := by show _ = _; unfold nameW; rw [if_pos ⟨by rw [size_lst]; exact hlt, by rw [hd, h1]⟩]
      have HX := Hid.mk (ext_cut s p (bhP inB s.data.toList p) (by rw [← size_lst]; exact hbe.2))
      rw [size_lst] at hbe
      generalize bhP inB s.data.toList p = q at *
      obtain ⟨hpq, hqs⟩ := hbe
      have hj1 : (p : Int) ≤ (q : Int) := by omega
      have hj2 : (q : Int) ≤ (s.size : Int) := by omega
      clear he hc hd h1
      go_enter Tryz.func50, Tryz.ntmps50
      go_wp2_with fail
      refine (HC.out _).mono ?_
      rintro e w1 ⟨rfl, hw1⟩
      obtain rfl := hw1.symm
      go_wp2_with fail
      refine (HBh.out _).mono ?_
      rintro e w1 ⟨rfl, hw1⟩
      obtain rfl := hw1.symm
      go_wp2_with fail
      go_ret
      exact ⟨by rw [HN.out, ← HX.out]; first | done | rfl, rfl⟩

theorem named_lst (s : ByteArray) : namedB s.data.toList = (!(s.toList == []) && ((⟨(nameW s.data.toList 0).toArray⟩ : ByteArray).toList == s.toList)) := by
  unfold namedB
  rw [Lib.toList_data, Lib.toList_data]
  show _ = (!(s.data.toList == []) && (nameW s.data.toList 0 == s.data.toList))
  generalize s.data.toList = l
  by_cases h1 : l = []
  · subst h1; simp
  · by_cases h2 : nameW l 0 = l
    · rw [decide_eq_true ⟨h1, h2⟩, h2, beq_eq_false_iff_ne.2 h1]; simp
    · rw [decide_eq_false (fun h => h2 h.2), beq_eq_false_iff_ne.2 h2]; simp

set_option maxRecDepth 100000 in
set_option maxHeartbeats 1600000 in
theorem w_Named (s : ByteArray) (w : World) (hs : s.size ≤ 140737488355328) :
    Calls Tryz.prog 21 #[.string s] w fun e w' => e = .returned (.bool (namedB s.data.toList)) ∧ w' = w := by
  have HN := Hid.mk (fun u => w_nameAt s 0 u (Nat.zero_le _) hs)
  rw [named_lst]
  generalize (⟨(nameW s.data.toList 0).toArray⟩ : ByteArray) = nm at *
  by_cases h0 : s.toList = []
  · have e1 : (s.toList == []) = true := by rw [h0]; rfl
    have e2 : s.toList.isEmpty = true := by rw [h0]; rfl
    rw [e1]
    clear HN
    go_enter Tryz.func21, Tryz.ntmps21
    go_wp2_with fail
    go_ret
    exact ⟨rfl, rfl⟩
  · have e1 : (s.toList == []) = false := beq_eq_false_iff_ne.2 h0
    have e2 : s.toList.isEmpty = false := by simp [h0]
    rw [e1]
    go_enter Tryz.func21, Tryz.ntmps21
    go_wp2_with fail
    refine (HN.out _).mono ?_
    rintro e w1 ⟨rfl, hw1⟩
    obtain rfl := hw1.symm
    go_wp2_with fail
    go_ret
    exact ⟨by simp, rfl⟩

set_option maxRecDepth 100000 in
set_option maxHeartbeats 1600000 in
theorem w_Plain (s : ByteArray) (w : World) (hs : s.size ≤ 140737488355328) :
    Calls Tryz.prog 99 #[.string s] w fun e w' => e = .returned (.bool (plainW s.data.toList)) ∧ w' = w := by
  have HN := Hid.mk (fun u => w_Named s u hs)
  have HO := Hid.mk (fun u => w_wOwn s u)
  unfold plainW
  cases h1 : namedB s.data.toList with
  | false =>
    rw [h1] at HN
    clear h1
    go_enter Tryz.func99, Tryz.ntmps99
    go_wp2_with fail
    refine (HN.out _).mono ?_
    rintro e w1 ⟨rfl, hw1⟩
    obtain rfl := hw1.symm
    go_wp2_with fail
    go_ret
    exact ⟨rfl, rfl⟩
  | true =>
    rw [h1] at HN
    clear h1
    generalize ownB s.data.toList = b2 at *
    go_enter Tryz.func99, Tryz.ntmps99
    go_wp2_with fail
    refine (HN.out _).mono ?_
    rintro e w1 ⟨rfl, hw1⟩
    obtain rfl := hw1.symm
    go_wp2_with fail
    refine (HO.out _).mono ?_
    rintro e w1 ⟨rfl, hw1⟩
    obtain rfl := hw1.symm
    go_wp2_with fail
    go_ret
    exact ⟨by cases b2 <;> rfl, rfl⟩
end Go.Proofs.YtcadknhedfnaoaaGreatDoor
