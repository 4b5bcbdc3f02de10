import Derived.Test.YtapjfocjeligiaaGreatDoorM19
namespace Go.Proofs.YtapjfocjeligiaaGreatDoor
open Go.RowKit
set_option linter.unusedVariables false

/-- never and every, as trees -/
def ttNe : TT := .mk false false false false false [] [] [] []
def ttEv : TT := .mk true false false false false [] [] [] []
theorem inT_nev (W : World) (h : Nat) : InT W (h + 1) ttNe (.agg #[.bool false, .bool false, .bool false, .bool false, .slice none 0 0, .bool false, .slice none 0 0, .slice none 0 0, .slice none 0 0]) :=
  ⟨none, 0, none, 0, none, 0, none, 0, rfl, ⟨Nat.le_refl _, Nat.le_refl _, Nat.le_refl _, Nat.le_refl _⟩, ⟨Nat.zero_le _, Nat.zero_le _, Nat.zero_le _, Nat.zero_le _⟩, fun p hp => absurd hp (List.not_mem_nil), fun p hp => absurd hp (List.not_mem_nil), ⟨fun h => absurd h (Nat.lt_irrefl 0)⟩, ⟨fun h => absurd h (Nat.lt_irrefl 0)⟩, fun h => absurd h (Nat.lt_irrefl 0), fun h => absurd h (Nat.lt_irrefl 0)⟩
theorem inT_evr (W : World) (h : Nat) : InT W (h + 1) ttEv (.agg #[.bool true, .bool false, .bool false, .bool false, .slice none 0 0, .bool false, .slice none 0 0, .slice none 0 0, .slice none 0 0]) :=
  ⟨none, 0, none, 0, none, 0, none, 0, rfl, ⟨Nat.le_refl _, Nat.le_refl _, Nat.le_refl _, Nat.le_refl _⟩, ⟨Nat.zero_le _, Nat.zero_le _, Nat.zero_le _, Nat.zero_le _⟩, fun p hp => absurd hp (List.not_mem_nil), fun p hp => absurd hp (List.not_mem_nil), ⟨fun h => absurd h (Nat.lt_irrefl 0)⟩, ⟨fun h => absurd h (Nat.lt_irrefl 0)⟩, fun h => absurd h (Nat.lt_irrefl 0), fun h => absurd h (Nat.lt_irrefl 0)⟩
end Go.Proofs.YtapjfocjeligiaaGreatDoor
