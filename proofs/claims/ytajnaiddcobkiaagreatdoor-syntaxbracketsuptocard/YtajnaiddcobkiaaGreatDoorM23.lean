import Derived.Test.YtajnaiddcobkiaaGreatDoorM22
namespace Go.Proofs.YtajnaiddcobkiaaGreatDoor
open Go.RowKit Go.Shelf
set_option linter.unusedVariables false
set_option linter.unusedSimpArgs false
def pieceC (l : List UInt8) (p a b : Nat) : Tok :=
 if (rpc l (l.length + 1) (p + 1) []).2.2.2 = 0 then (if (rpc l (l.length + 1) (p + 1) []).2.2.1 = true then ⟨a, p, (rpc l (l.length + 1) (p + 1) []).2.1, txt (rpc l (l.length + 1) (p + 1) []).1, 0⟩ else ⟨b, p, (rpc l (l.length + 1) (p + 1) []).2.1, txt (rpc l (l.length + 1) (p + 1) []).1, 0⟩)
 else ⟨0, (rpc l (l.length + 1) (p + 1) []).2.1, 0, [], (rpc l (l.length + 1) (p + 1) []).2.2.2⟩
theorem piece_eq {l : List UInt8} {p : Nat} (a b : Nat) (hp : p < l.length) : pieceW l p a b = pieceC l p a b := by
 have h := piece_pc hp
 unfold pieceW pieceC
 generalize rpc l (l.length + 1) (p + 1) [] = r at *
 rcases h with ⟨h1, hu, hlt, h2⟩ | ⟨h1, _, hu, h3, _⟩
 · rw [hu, if_pos h1]
   dsimp only
   rw [if_pos rfl]
   rcases h2 with ⟨h4, h5, hw⟩ | ⟨h4, h5, hw, _⟩
   · rw [if_neg (by rw [hw]; decide), if_pos h4, h5]
   · rw [if_pos hw, if_neg (by rw [h4]; decide), h5]
 · rw [hu, if_neg h1]
   dsimp only
   rw [if_neg h1, show p + (r.2.1 - p) = r.2.1 by omega]
def tkC (l : List UInt8) (op : List Nat) (p : Nat) : Tok :=
 if leB (l.getD p 0) = true then nameT l p
 else if (l.getD p 0).toNat = 36 then varT l p
 else if (l.getD p 0).toNat = 46 ∧ nameW l (p + 1) ≠ [] then fieldT l p
 else if dgB (l.getD p 0) = true then numT16 l p
 else if (l.getD p 0).toNat = 34 then pieceC l p 6 7
 else if (l.getD p 0).toNat = 41 ∧ clsB op = true then pieceC l p 9 8
 else markT l p
theorem tok_eq {l : List UInt8} {op : List Nat} {p : Nat} (hp : p < l.length) : tokW l op p = tkC l op p := by
 unfold tokW tkC
 rw [piece_eq 6 7 hp, piece_eq 9 8 hp]
instance : DecidableEq Tok := fun ⟨k, a, f, t, e⟩ ⟨k', a', f', t', e'⟩ =>
 if h : k = k' ∧ a = a' ∧ f = f' ∧ t = t' ∧ e = e' then isTrue (by obtain ⟨rfl, rfl, rfl, rfl, rfl⟩ := h; rfl) else isFalse (fun g => h (by cases g; exact ⟨rfl, rfl, rfl, rfl, rfl⟩))
end Go.Proofs.YtajnaiddcobkiaaGreatDoor
