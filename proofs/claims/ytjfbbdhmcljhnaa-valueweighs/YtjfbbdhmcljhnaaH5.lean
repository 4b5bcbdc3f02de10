import Derived.Test.YtjfbbdhmcljhnaaH6
import Derived.Test.YtjfbbdhmcljhnaaWalk2
namespace Go.Proofs.Ytjfbbdhmcljhnaa
open Go.RowKit
set_option linter.unusedVariables false
set_option linter.unusedSimpArgs false

set_option maxRecDepth 100000 in
set_option maxHeartbeats 800000 in
theorem w_DigitsE (s : ByteArray) (w : World) (hs : s.size ≤ 140737488355328) (hf : Pl.formed s.data.toList = true) : Calls Try.prog 45 #[.string s] w fun e w' => e = .returned (.tuple #[.int .i64 (((Pl.body s.data.toList).length : Nat) : Int), .int .i64 0]) ∧ Below w.heap.size w w' := by
  have HF := Hid.mk hf
  have hms : s.size ≤ maxLen := by unfold maxLen; omega
  clear hf
  go_enter Try.func45, Try.ntmps45
  go_wp2_with fail
  refine (w_Formed s _ hms).mono ?_
  rintro e w1 ⟨rfl, hb1⟩
  rw [HF.out]
  have HB1 := Hid.mk hb1
  clear hb1
  go_wp2_with fail
  refine (w_cutMinus s _ hms).mono ?_
  rintro e w2 ⟨r, rfl, hr, hsz, hb2⟩
  have HR : Hid ((Pl.body s.data.toList).length = r.size) := by rw [← hr]; exact sizeLn r
  have HB2 := Hid.mk (below_more HB1.out hb2)
  clear hr hb2
  go_wp2_with fail
  go_ret2
  exact ⟨by rw [HR.out]; rfl, HB2.out⟩
end Go.Proofs.Ytjfbbdhmcljhnaa
