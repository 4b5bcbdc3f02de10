import Derived.Test.YtfcbeohkhljboadDoorV30
namespace Go.Proofs.YtfcbeohkhljboadDoor
open Go.RowKit
set_option linter.unusedVariables false
set_option linter.unusedSimpArgs false

theorem conv_zero' (w : World) (p : Option Addr) (c : Nat) : (convert 50 9 (.slice p 0 c)).run Tryd.prog w = .ok (.string ByteArray.empty) w := by
  rw [run_convert_bytes_string w 50 9 5 _ 0 c Tryd.underlying50 Tryd.underlying5 Tryd.underlying9]
  cases p <;> simp [Conv.bytesToString, loadCells]
  all_goals rfl
theorem conv_own' {wr : World} {base n : Nat} {l : List UInt8} {ao : Option Addr} {cap : Nat} (h1 : l.length = n) (h3 : wr.ownsRow base 5 1 (.slice ao n cap) n (Lib.byteCells l)) : (convert 50 9 (.slice ao n cap)).run Tryd.prog wr = .ok (.string ⟨l.toArray⟩) wr := by
  by_cases hn : 0 < n
  · obtain ⟨g, cap', hv⟩ := own_some h3 hn
    cases hv
    exact bytes_conv h1 h3
  · have e : n = 0 := by omega
    subst e
    have e2 : l = [] := List.eq_nil_of_length_eq_zero h1
    subst e2
    exact conv_zero' wr ao cap

theorem own_below' {w w1 : World} {B e size n : Nat} {v : Value} {xs : List Value} (h : w.ownsRow B e size v n xs) (hb : Below w.heap.size w w1) : w1.ownsRow B e size v n xs := by
  refine ⟨h.1, ?_⟩
  rcases h.2 with h0 | ⟨g, cap, cur, hv, hb', hg, rest⟩
  · exact .inl h0
  · refine .inr ⟨g, cap, cur, hv, hb', ?_, rest⟩
    rw [hb.block g (Array.getElem?_eq_some_iff.1 hg).1]
    exact hg
def rtxt (xs : List Int) : List UInt8 := xs.flatMap fun x => enc (rn x)
/-- while the reference writes -/
structure TxSt (w wr : World) (v : Value) (n : Nat) (xs : List Int) (k : Nat) : Prop where
  own : (rtxt (xs.take k)).length = n ∧ wr.ownsRow w.heap.size 5 1 v n (Lib.byteCells (rtxt (xs.take k)))
  below : Below w.heap.size w wr
end Go.Proofs.YtfcbeohkhljboadDoor
