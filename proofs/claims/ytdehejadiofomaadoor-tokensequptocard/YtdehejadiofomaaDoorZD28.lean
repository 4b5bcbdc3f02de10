import Derived.Test.YtdehejadiofomaaDoorZD28o
import Derived.Test.YtdehejadiofomaaDoorZD28x
namespace Go.Proofs.YtdehejadiofomaaDoor
open Go.RowKit Go.Shelf

theorem w_TokenSeq (s : ByteArray) (most : Int) (w : World) (ss : s.size ≤ 1048576) (hE : ErrIn w) : Calls Tryd.prog 3 #[.string s, .int .i64 most] w fun e w' => e = .returned (.bool true) ∧ Below w.heap.size w w' := by
  by_cases h : ∀ t ∈ allY s.data.toList, t.err = 0
  · exact w_TokenSeq_ok s most w ss hE h
  · exact w_TokenSeq_bad s most w ss hE h
end Go.Proofs.YtdehejadiofomaaDoor
