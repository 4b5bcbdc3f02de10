import Derived.Test.YtdmkfdaddacdhaaGreatDoorM32
namespace Go.Proofs.YtdmkfdaddacdhaaGreatDoor
open Go.RowKit Go.Shelf
set_option linter.unusedVariables false
set_option linter.unusedSimpArgs false

/-- a piece, reckoned -/
def pieceC (l : List UInt8) (p a b : Nat) : Tok :=
  if (rpc l (l.length + 1) (p + 1) []).2.2.2 = 0 then (if (rpc l (l.length + 1) (p + 1) []).2.2.1 = true then ⟨a, p, (rpc l (l.length + 1) (p + 1) []).2.1, txt (rpc l (l.length + 1) (p + 1) []).1, 0⟩ else ⟨b, p, (rpc l (l.length + 1) (p + 1) []).2.1, txt (rpc l (l.length + 1) (p + 1) []).1, 0⟩)
  else ⟨0, (rpc l (l.length + 1) (p + 1) []).2.1, 0, [], (rpc l (l.length + 1) (p + 1) []).2.2.2⟩
theorem piece_eq {l : List UInt8} {p : Nat} (a b : Nat) (hp : p < l.length) : pieceW l p a b = pieceC l p a b := by
  have h := piece_pc hp
  unfold pieceW pieceC
  generalize rpc l (l.length + 1) (p + 1) [] = r at *
  rcases h with ⟨h1, hu, hlt, h2⟩ | ⟨h1, _, hu, h3, _⟩
  · rw [hu, if_pos h1]
    dsimp only
    rw [if_pos rfl]
    rcases h2 with ⟨h4, h5, hw⟩ | ⟨h4, h5, hw, _⟩
    · rw [if_neg (by rw [hw]; decide), if_pos h4, h5]
    · rw [if_pos hw, if_neg (by rw [h4]; decide), h5]
  · rw [hu, if_neg h1]
    dsimp only
    rw [if_neg h1, show p + (r.2.1 - p) = r.2.1 by omega]
/-- a token, reckoned -/
def tkC (l : List UInt8) (op : List Nat) (p : Nat) : Tok :=
  if leB (l.getD p 0) = true then nameT l p
  else if (l.getD p 0).toNat = 36 then varT l p
  else if (l.getD p 0).toNat = 46 ∧ nameW l (p + 1) ≠ [] then fieldT l p
  else if dgB (l.getD p 0) = true then numT16 l p
  else if (l.getD p 0).toNat = 34 then pieceC l p 6 7
  else if (l.getD p 0).toNat = 41 ∧ clsB op = true then pieceC l p 9 8
  else markT l p
theorem tok_eq {l : List UInt8} {op : List Nat} {p : Nat} (hp : p < l.length) : tokW l op p = tkC l op p := by
  unfold tokW tkC
  rw [piece_eq 6 7 hp, piece_eq 9 8 hp]
theorem kn_step {l : List UInt8} {p q : Nat} {op op2 : List Nat} {t : Tok} (hp : p < l.length) (ht : tkC l op p = t) (he : t.err = 0) (hq : idW l t.fin = q) (ho : openW t op = op2) : scF l (l.length + 1) p op = t :: scF l (l.length + 1) q op2 := by
  have h := tok_eq (op := op) hp
  rw [ht] at h
  rw [sc_step hp (by rw [h]; exact he), h, hq, ho]
theorem kn_bad {l : List UInt8} {p : Nat} {op : List Nat} {t : Tok} (hp : p < l.length) (ht : tkC l op p = t) (he : ¬ t.err = 0) : scF l (l.length + 1) p op = [t] := by
  have h := tok_eq (op := op) hp
  rw [ht] at h
  rw [sc_bad hp (by rw [h]; exact he), h]
theorem kn_end {l : List UInt8} {p : Nat} (hp : ¬ p < l.length) : scF l (l.length + 1) p [] = [] := by rw [sc_end hp, if_pos rfl]
theorem kn_open {l : List UInt8} {p : Nat} {op : List Nat} (hp : ¬ p < l.length) (ho : op ≠ []) : scF l (l.length + 1) p op = [⟨0, l.length, 0, [], 21⟩] := by rw [sc_end hp, if_neg ho]

instance : DecidableEq Tok := fun ⟨k, a, f, t, e⟩ ⟨k', a', f', t', e'⟩ =>
  if h : k = k' ∧ a = a' ∧ f = f' ∧ t = t' ∧ e = e' then isTrue (by obtain ⟨rfl, rfl, rfl, rfl, rfl⟩ := h; rfl) else isFalse (fun g => h (by cases g; exact ⟨rfl, rfl, rfl, rfl, rfl⟩))

def xA : List UInt8 := [46, 97, 32, 124, 32, 109, 97, 112, 40, 36, 120, 41]
def yA : List Tok := [⟨4, 0, 2, [97], 0⟩, ⟨10, 3, 4, [124], 0⟩, ⟨1, 5, 8, [109, 97, 112], 0⟩, ⟨10, 8, 9, [40], 0⟩, ⟨3, 9, 11, [120], 0⟩, ⟨10, 11, 12, [41], 0⟩]
theorem sc_A : scW xA = yA := by
  unfold scW yA
  rw [show idW xA 0 = 0 from by decide]
  rw [kn_step (q := 3) (op2 := []) (t := ⟨4, 0, 2, [97], 0⟩) (by decide) (by decide +kernel) rfl (by decide) (by decide)]
  rw [kn_step (q := 5) (op2 := []) (t := ⟨10, 3, 4, [124], 0⟩) (by decide) (by decide +kernel) rfl (by decide) (by decide)]
  rw [kn_step (q := 8) (op2 := []) (t := ⟨1, 5, 8, [109, 97, 112], 0⟩) (by decide) (by decide +kernel) rfl (by decide) (by decide)]
  rw [kn_step (q := 9) (op2 := []) (t := ⟨10, 8, 9, [40], 0⟩) (by decide) (by decide +kernel) rfl (by decide) (by decide)]
  rw [kn_step (q := 11) (op2 := []) (t := ⟨3, 9, 11, [120], 0⟩) (by decide) (by decide +kernel) rfl (by decide) (by decide)]
  rw [kn_step (q := 12) (op2 := []) (t := ⟨10, 11, 12, [41], 0⟩) (by decide) (by decide +kernel) rfl (by decide) (by decide)]
  rw [kn_end (by decide)]
def xB : List UInt8 := [34, 97, 92, 40, 46, 98, 41, 99, 34]
def yB : List Tok := [⟨7, 0, 4, [97], 0⟩, ⟨4, 4, 6, [98], 0⟩, ⟨9, 6, 9, [99], 0⟩]
theorem sc_B : scW xB = yB := by
  unfold scW yB
  rw [show idW xB 0 = 0 from by decide]
  rw [kn_step (q := 4) (op2 := [0]) (t := ⟨7, 0, 4, [97], 0⟩) (by decide) (by decide +kernel) rfl (by decide) (by decide)]
  rw [kn_step (q := 6) (op2 := [0]) (t := ⟨4, 4, 6, [98], 0⟩) (by decide) (by decide +kernel) rfl (by decide) (by decide)]
  rw [kn_step (q := 9) (op2 := []) (t := ⟨9, 6, 9, [99], 0⟩) (by decide) (by decide +kernel) rfl (by decide) (by decide)]
  rw [kn_end (by decide)]
def xC : List UInt8 := [34, 92, 40, 40, 49, 41, 41, 92, 40, 50, 41, 34]
def yC : List Tok := [⟨7, 0, 3, [], 0⟩, ⟨10, 3, 4, [40], 0⟩, ⟨5, 4, 5, [49], 0⟩, ⟨10, 5, 6, [41], 0⟩, ⟨8, 6, 9, [], 0⟩, ⟨5, 9, 10, [50], 0⟩, ⟨9, 10, 12, [], 0⟩]
theorem sc_C : scW xC = yC := by
  unfold scW yC
  rw [show idW xC 0 = 0 from by decide]
  rw [kn_step (q := 3) (op2 := [0]) (t := ⟨7, 0, 3, [], 0⟩) (by decide) (by decide +kernel) rfl (by decide) (by decide)]
  rw [kn_step (q := 4) (op2 := [1]) (t := ⟨10, 3, 4, [40], 0⟩) (by decide) (by decide +kernel) rfl (by decide) (by decide)]
  rw [kn_step (q := 5) (op2 := [1]) (t := ⟨5, 4, 5, [49], 0⟩) (by decide) (by decide +kernel) rfl (by decide) (by decide)]
  rw [kn_step (q := 6) (op2 := [0]) (t := ⟨10, 5, 6, [41], 0⟩) (by decide) (by decide +kernel) rfl (by decide) (by decide)]
  rw [kn_step (q := 9) (op2 := [0]) (t := ⟨8, 6, 9, [], 0⟩) (by decide) (by decide +kernel) rfl (by decide) (by decide)]
  rw [kn_step (q := 10) (op2 := [0]) (t := ⟨5, 9, 10, [50], 0⟩) (by decide) (by decide +kernel) rfl (by decide) (by decide)]
  rw [kn_step (q := 12) (op2 := []) (t := ⟨9, 10, 12, [], 0⟩) (by decide) (by decide +kernel) rfl (by decide) (by decide)]
  rw [kn_end (by decide)]
def xD : List UInt8 := [49, 32, 35, 32, 120]
def yD : List Tok := [⟨5, 0, 1, [49], 0⟩]
theorem sc_D : scW xD = yD := by
  unfold scW yD
  rw [show idW xD 0 = 0 from by decide]
  rw [kn_step (q := 5) (op2 := []) (t := ⟨5, 0, 1, [49], 0⟩) (by decide) (by decide +kernel) rfl (by decide) (by decide)]
  rw [kn_end (by decide)]
def xE : List UInt8 := [105, 102]
def yE : List Tok := [⟨2, 0, 2, [105, 102], 0⟩]
theorem sc_E : scW xE = yE := by
  unfold scW yE
  rw [show idW xE 0 = 0 from by decide]
  rw [kn_step (q := 2) (op2 := []) (t := ⟨2, 0, 2, [105, 102], 0⟩) (by decide) (by decide +kernel) rfl (by decide) (by decide)]
  rw [kn_end (by decide)]
def xF : List UInt8 := [36, 49]
def yF : List Tok := []
theorem sc_F : scW xF = yF ++ [⟨0, 0, 0, [], 160⟩] := by
  unfold scW yF
  rw [show idW xF 0 = 0 from by decide]
  rw [kn_bad (t := ⟨0, 0, 0, [], 160⟩) (by decide) (by decide +kernel) (by decide)]
  rfl
def xG : List UInt8 := [46, 32, 124, 32, 36, 105, 102]
def yG : List Tok := [⟨10, 0, 1, [46], 0⟩, ⟨10, 2, 3, [124], 0⟩]
theorem sc_G : scW xG = yG ++ [⟨0, 4, 0, [], 160⟩] := by
  unfold scW yG
  rw [show idW xG 0 = 0 from by decide]
  rw [kn_step (q := 2) (op2 := []) (t := ⟨10, 0, 1, [46], 0⟩) (by decide) (by decide +kernel) rfl (by decide) (by decide)]
  rw [kn_step (q := 4) (op2 := []) (t := ⟨10, 2, 3, [124], 0⟩) (by decide) (by decide +kernel) rfl (by decide) (by decide)]
  rw [kn_bad (t := ⟨0, 4, 0, [], 160⟩) (by decide) (by decide +kernel) (by decide)]
  rfl
def xH : List UInt8 := [49, 46, 53]
def yH : List Tok := []
theorem sc_H : scW xH = yH ++ [⟨0, 0, 0, [], 42⟩] := by
  unfold scW yH
  rw [show idW xH 0 = 0 from by decide]
  rw [kn_bad (t := ⟨0, 0, 0, [], 42⟩) (by decide) (by decide +kernel) (by decide)]
  rfl
def xI : List UInt8 := [34, 92, 40, 49]
def yI : List Tok := [⟨7, 0, 3, [], 0⟩, ⟨5, 3, 4, [49], 0⟩]
theorem sc_I : scW xI = yI ++ [⟨0, 4, 0, [], 21⟩] := by
  unfold scW yI
  rw [show idW xI 0 = 0 from by decide]
  rw [kn_step (q := 3) (op2 := [0]) (t := ⟨7, 0, 3, [], 0⟩) (by decide) (by decide +kernel) rfl (by decide) (by decide)]
  rw [kn_step (q := 4) (op2 := [0]) (t := ⟨5, 3, 4, [49], 0⟩) (by decide) (by decide +kernel) rfl (by decide) (by decide)]
  rw [kn_open (by decide) (by decide)]
  rfl
def xJ : List UInt8 := [34, 92, 113, 34]
def yJ : List Tok := []
theorem sc_J : scW xJ = yJ ++ [⟨0, 1, 0, [], 23⟩] := by
  unfold scW yJ
  rw [show idW xJ 0 = 0 from by decide]
  rw [kn_bad (t := ⟨0, 1, 0, [], 23⟩) (by decide) (by decide +kernel) (by decide)]
  rfl
end Go.Proofs.YtdmkfdaddacdhaaGreatDoor
