/-
  NARROWER THAN 'FOR EVERY INPUT', by the rows' own cells (each row's printed sentence says how): ValueFormed: loops · ValueOrders: loops · ValueRow: loops · ValueWeighs: loops · ValueFields: loops · ValueMerges: loops.
  DERIVED. THE GIVEN ROWS OF THIS SEAT. 6 by the template 'for every input the law returns true; each argument reads behind the call as it read before'; 0 by the template 'total and deterministic' (their statements: YtjfbbdhmcljhnaaTotals.lean).
  GIVEN WITH THE SEED: the statements are not yours to turn. If you find one false, say at which input.
  Laid BY PROGRAM, IN A SANDBOX (cutbox-rows.mjs): the forced cells as the released guide's own fill.sh prints them over the translation bf79e44a1e5a1c12… (all of the seat's roots in one cut). By AI agents, Wed Nov 11 2026. No macro, syntax, notation, axiom, sorry.
-/
import Derived.Test.YtjfbbdhmcljhnaaChecked
import GoSem.Claim
import GoSem.ClaimJoined
import GoSem.ClaimMapViews
import Derived.JoinedTies
import Derived.KernelRfl
namespace Go.Proofs.Ytjfbbdhmcljhnaa
/- THE CELL 'sum', in the pinned program and in every row, IS THE sha256 OF THE DUMP (.gsa) THAT YtjfbbdhmcljhnaaProg.lean LOADS. Nothing in Lean hashes anything: it is a label: what it is worth is what the hold of that sum in a sandbox is worth. -/
noncomputable def Try.pinned : Pinned := { name := "ytjfbbdhmcljhnaa", sum := "bf79e44a1e5a1c12aa6fff41d85a997822cda09ef5e25f565e61f0efce2b2be2", checked := Try.checked }
namespace Rows
def none {H : Type} : Left H := { results := [], args := [] }

/-- 'hallmarklaw03.ValueFormed': WHATEVER THE INPUT: true; the input reads as it did. -/
def valueFormedSpec : ChangeSpec := { name := "valueFormed", fn := fun _ => fun
  | [d] => { results := [.lit (.bool true)], args := [d] }
  | _ => none }
def valueFormedRow : OpenClaim := { program := "ytjfbbdhmcljhnaa", sum := "bf79e44a1e5a1c12aa6fff41d85a997822cda09ef5e25f565e61f0efce2b2be2", func := "hallmark/hallmarklaw03.ValueFormed", spec := "valueFormed", unfollowed := true, recurses := true, loops := true, apart := false }
def ValueFormedSaid : Prop := valueFormedRow.holds Try.pinned (OpenSpec.ofChange valueFormedSpec)

/-- ITS FALSE NEIGHBOUR: 'it returns false'. Refute it at one input. -/
def valueFormedWrong : ChangeSpec := { name := "valueFormed", fn := fun _ => fun
  | [d] => { results := [.lit (.bool false)], args := [d] }
  | _ => none }
def ValueFormedWrongFalsely : Prop := valueFormedRow.holds Try.pinned (OpenSpec.ofChange valueFormedWrong)

/-- 'hallmarklaw03.ValueOrders': WHATEVER THE INPUT: true; the input reads as it did. -/
def valueOrdersSpec : ChangeSpec := { name := "valueOrders", fn := fun _ => fun
  | [d1, d2] => { results := [.lit (.bool true)], args := [d1, d2] }
  | _ => none }
def valueOrdersRow : OpenClaim := { program := "ytjfbbdhmcljhnaa", sum := "bf79e44a1e5a1c12aa6fff41d85a997822cda09ef5e25f565e61f0efce2b2be2", func := "hallmark/hallmarklaw03.ValueOrders", spec := "valueOrders", unfollowed := true, recurses := true, loops := true, apart := false }
def ValueOrdersSaid : Prop := valueOrdersRow.holds Try.pinned (OpenSpec.ofChange valueOrdersSpec)

/-- ITS FALSE NEIGHBOUR: 'it returns false'. Refute it at one input. -/
def valueOrdersWrong : ChangeSpec := { name := "valueOrders", fn := fun _ => fun
  | [d1, d2] => { results := [.lit (.bool false)], args := [d1, d2] }
  | _ => none }
def ValueOrdersWrongFalsely : Prop := valueOrdersRow.holds Try.pinned (OpenSpec.ofChange valueOrdersWrong)

/-- 'hallmarklaw03.ValueRow': WHATEVER THE INPUT: true; the input reads as it did. -/
def valueRowSpec : ChangeSpec := { name := "valueRow", fn := fun _ => fun
  | [d1, d2, d3] => { results := [.lit (.bool true)], args := [d1, d2, d3] }
  | _ => none }
def valueRowRow : OpenClaim := { program := "ytjfbbdhmcljhnaa", sum := "bf79e44a1e5a1c12aa6fff41d85a997822cda09ef5e25f565e61f0efce2b2be2", func := "hallmark/hallmarklaw03.ValueRow", spec := "valueRow", unfollowed := true, recurses := true, loops := true, apart := false }
def ValueRowSaid : Prop := valueRowRow.holds Try.pinned (OpenSpec.ofChange valueRowSpec)

/-- ITS FALSE NEIGHBOUR: 'it returns false'. Refute it at one input. -/
def valueRowWrong : ChangeSpec := { name := "valueRow", fn := fun _ => fun
  | [d1, d2, d3] => { results := [.lit (.bool false)], args := [d1, d2, d3] }
  | _ => none }
def ValueRowWrongFalsely : Prop := valueRowRow.holds Try.pinned (OpenSpec.ofChange valueRowWrong)

/-- 'hallmarklaw03.ValueWeighs': WHATEVER THE INPUT: true; the input reads as it did. -/
def valueWeighsSpec : ChangeSpec := { name := "valueWeighs", fn := fun _ => fun
  | [d] => { results := [.lit (.bool true)], args := [d] }
  | _ => none }
def valueWeighsRow : OpenClaim := { program := "ytjfbbdhmcljhnaa", sum := "bf79e44a1e5a1c12aa6fff41d85a997822cda09ef5e25f565e61f0efce2b2be2", func := "hallmark/hallmarklaw03.ValueWeighs", spec := "valueWeighs", unfollowed := true, recurses := true, loops := true, apart := false }
def ValueWeighsSaid : Prop := valueWeighsRow.holds Try.pinned (OpenSpec.ofChange valueWeighsSpec)

/-- ITS FALSE NEIGHBOUR: 'it returns false'. Refute it at one input. -/
def valueWeighsWrong : ChangeSpec := { name := "valueWeighs", fn := fun _ => fun
  | [d] => { results := [.lit (.bool false)], args := [d] }
  | _ => none }
def ValueWeighsWrongFalsely : Prop := valueWeighsRow.holds Try.pinned (OpenSpec.ofChange valueWeighsWrong)

/-- 'hallmarklaw03.ValueFields': WHATEVER THE INPUT: true; the input reads as it did. -/
def valueFieldsSpec : ChangeSpec := { name := "valueFields", fn := fun _ => fun
  | [d] => { results := [.lit (.bool true)], args := [d] }
  | _ => none }
def valueFieldsRow : OpenClaim := { program := "ytjfbbdhmcljhnaa", sum := "bf79e44a1e5a1c12aa6fff41d85a997822cda09ef5e25f565e61f0efce2b2be2", func := "hallmark/hallmarklaw03.ValueFields", spec := "valueFields", unfollowed := true, recurses := true, loops := true, apart := false }
def ValueFieldsSaid : Prop := valueFieldsRow.holds Try.pinned (OpenSpec.ofChange valueFieldsSpec)

/-- ITS FALSE NEIGHBOUR: 'it returns false'. Refute it at one input. -/
def valueFieldsWrong : ChangeSpec := { name := "valueFields", fn := fun _ => fun
  | [d] => { results := [.lit (.bool false)], args := [d] }
  | _ => none }
def ValueFieldsWrongFalsely : Prop := valueFieldsRow.holds Try.pinned (OpenSpec.ofChange valueFieldsWrong)

/-- 'hallmarklaw03.ValueMerges': WHATEVER THE INPUT: true; the input reads as it did. -/
def valueMergesSpec : ChangeSpec := { name := "valueMerges", fn := fun _ => fun
  | [d1, d2, d3] => { results := [.lit (.bool true)], args := [d1, d2, d3] }
  | _ => none }
def valueMergesRow : OpenClaim := { program := "ytjfbbdhmcljhnaa", sum := "bf79e44a1e5a1c12aa6fff41d85a997822cda09ef5e25f565e61f0efce2b2be2", func := "hallmark/hallmarklaw03.ValueMerges", spec := "valueMerges", unfollowed := true, recurses := true, loops := true, apart := false }
def ValueMergesSaid : Prop := valueMergesRow.holds Try.pinned (OpenSpec.ofChange valueMergesSpec)

/-- ITS FALSE NEIGHBOUR: 'it returns false'. Refute it at one input. -/
def valueMergesWrong : ChangeSpec := { name := "valueMerges", fn := fun _ => fun
  | [d1, d2, d3] => { results := [.lit (.bool false)], args := [d1, d2, d3] }
  | _ => none }
def ValueMergesWrongFalsely : Prop := valueMergesRow.holds Try.pinned (OpenSpec.ofChange valueMergesWrong)

/- THE SECOND FORM. 'bulk': how many values and letters a reading holds, each counted each time it is reached (what is shared counts as often as it is met; a slice's spare places count too). A statement '..UptoSaid' is the law's where the arguments, and the package variables that the reading takes, are together of bulk at most 1048576: NARROWER than '..Said'. Prove '..Said' where nothing that the law and all that it calls make is longer than what came in: it says more and counts as full. Else prove '..UptoSaid'. A law counts once. -/
mutual
def uptoBulk {H : Type} : DataW H → Nat
  | .lit (.string bytes) => bytes.length + 1
  | .lit _ => 1
  | .nil => 1
  | .ptr d => uptoBulk d + 1
  | .slice elems spare => uptoBulkAll elems + uptoBulkAll spare + 1
  | .agg parts => uptoBulkAll parts + 1
  | .iface _ d => uptoBulk d + 1
  | .map entries => uptoBulkEntries entries + 1
  | .held _ => 1
def uptoBulkAll {H : Type} : List (DataW H) → Nat
  | [] => 0
  | d :: r => uptoBulk d + uptoBulkAll r
def uptoBulkEntries {H : Type} : List (Lit × DataW H) → Nat
  | [] => 0
  | x :: r => uptoBulkEntry x + uptoBulkEntries r
def uptoBulkEntry {H : Type} : Lit × DataW H → Nat
  | (.string bytes, d) => bytes.length + uptoBulk d + 1
  | (_, d) => uptoBulk d + 1
 end
def uptoSmall : (H : Type) → List (DataW H) → Bool := fun _ ds => decide (uptoBulkAll ds ≤ 1048576)
def OpenSpec.upto (s : _root_.Go.ChangeSpec) : _root_.Go.OpenSpec := { _root_.Go.OpenSpec.ofChange s with cond := some uptoSmall }

/-- 'hallmarklaw03.ValueFormed', WHERE WHAT IT READS IS OF BULK AT MOST 1048576: true; the input reads as it did. -/
def valueFormedUptoRow : OpenClaim := { program := "ytjfbbdhmcljhnaa", sum := "bf79e44a1e5a1c12aa6fff41d85a997822cda09ef5e25f565e61f0efce2b2be2", func := "hallmark/hallmarklaw03.ValueFormed", spec := "valueFormed", unfollowed := true, recurses := true, loops := true, apart := false, narrowed := true }
def ValueFormedUptoSaid : Prop := valueFormedUptoRow.holds Try.pinned (OpenSpec.upto valueFormedSpec)

/-- 'hallmarklaw03.ValueOrders', WHERE WHAT IT READS IS OF BULK AT MOST 1048576: true; the input reads as it did. -/
def valueOrdersUptoRow : OpenClaim := { program := "ytjfbbdhmcljhnaa", sum := "bf79e44a1e5a1c12aa6fff41d85a997822cda09ef5e25f565e61f0efce2b2be2", func := "hallmark/hallmarklaw03.ValueOrders", spec := "valueOrders", unfollowed := true, recurses := true, loops := true, apart := false, narrowed := true }
def ValueOrdersUptoSaid : Prop := valueOrdersUptoRow.holds Try.pinned (OpenSpec.upto valueOrdersSpec)

/-- 'hallmarklaw03.ValueRow', WHERE WHAT IT READS IS OF BULK AT MOST 1048576: true; the input reads as it did. -/
def valueRowUptoRow : OpenClaim := { program := "ytjfbbdhmcljhnaa", sum := "bf79e44a1e5a1c12aa6fff41d85a997822cda09ef5e25f565e61f0efce2b2be2", func := "hallmark/hallmarklaw03.ValueRow", spec := "valueRow", unfollowed := true, recurses := true, loops := true, apart := false, narrowed := true }
def ValueRowUptoSaid : Prop := valueRowUptoRow.holds Try.pinned (OpenSpec.upto valueRowSpec)

/-- 'hallmarklaw03.ValueWeighs', WHERE WHAT IT READS IS OF BULK AT MOST 1048576: true; the input reads as it did. -/
def valueWeighsUptoRow : OpenClaim := { program := "ytjfbbdhmcljhnaa", sum := "bf79e44a1e5a1c12aa6fff41d85a997822cda09ef5e25f565e61f0efce2b2be2", func := "hallmark/hallmarklaw03.ValueWeighs", spec := "valueWeighs", unfollowed := true, recurses := true, loops := true, apart := false, narrowed := true }
def ValueWeighsUptoSaid : Prop := valueWeighsUptoRow.holds Try.pinned (OpenSpec.upto valueWeighsSpec)

/-- 'hallmarklaw03.ValueFields', WHERE WHAT IT READS IS OF BULK AT MOST 1048576: true; the input reads as it did. -/
def valueFieldsUptoRow : OpenClaim := { program := "ytjfbbdhmcljhnaa", sum := "bf79e44a1e5a1c12aa6fff41d85a997822cda09ef5e25f565e61f0efce2b2be2", func := "hallmark/hallmarklaw03.ValueFields", spec := "valueFields", unfollowed := true, recurses := true, loops := true, apart := false, narrowed := true }
def ValueFieldsUptoSaid : Prop := valueFieldsUptoRow.holds Try.pinned (OpenSpec.upto valueFieldsSpec)

/-- 'hallmarklaw03.ValueMerges', WHERE WHAT IT READS IS OF BULK AT MOST 1048576: true; the input reads as it did. -/
def valueMergesUptoRow : OpenClaim := { program := "ytjfbbdhmcljhnaa", sum := "bf79e44a1e5a1c12aa6fff41d85a997822cda09ef5e25f565e61f0efce2b2be2", func := "hallmark/hallmarklaw03.ValueMerges", spec := "valueMerges", unfollowed := true, recurses := true, loops := true, apart := false, narrowed := true }
def ValueMergesUptoSaid : Prop := valueMergesUptoRow.holds Try.pinned (OpenSpec.upto valueMergesSpec)

end Rows
end Go.Proofs.Ytjfbbdhmcljhnaa
