import Derived.Test.YtgnaeddpdomgkabDoorTen25
namespace Go.Proofs.YtgnaeddpdomgkabDoor
open Go.RowKit
set_option linter.unusedVariables false
set_option linter.unusedSimpArgs false

theorem w_readAny (s : ByteArray) (w : World) (hs : s.size ≤ 4294967296) :
    Calls Tryd.prog 25 #[.string s] w fun e w' => ∃ bl ro rn rc, e = .returned (.tuple #[.agg #[.bool bl, .slice ro rn rc], .bool (Pl.formed s.data.toList)]) ∧ Below w.heap.size w w' := by
  by_cases hf : Pl.formed s.data.toList = true
  · refine (w_treadV s w hs hf).mono ?_
    rintro e w' ⟨ro, rn, rc, rfl, _, h⟩
    exact ⟨_, ro, rn, rc, by rw [hf], h⟩
  · rw [Bool.not_eq_true] at hf
    refine (w_tread_not s w (by unfold maxLen; omega) hf).mono ?_
    rintro e w' ⟨rfl, h⟩
    exact ⟨_, none, 0, 0, by rw [hf], h⟩

set_option maxRecDepth 100000 in
set_option maxHeartbeats 1600000 in
theorem w_two_bad (a b : ByteArray) (fn : Nat) (w : World) (ha : a.size ≤ 4294967296) (hb : b.size ≤ 4294967296) (hbad : (Pl.formed a.data.toList && Pl.formed b.data.toList) = false) :
    Calls Tryd.prog 28 #[.string a, .string b, .func (.func fn) #[] #[]] w fun e w' => e = .returned (.tuple #[.string ⟨#[]⟩, .int .i64 1]) ∧ Below w.heap.size w w' := by
  have HRa := Hid.mk (fun (u : World) => w_readAny a u ha)
  have HRb := Hid.mk (fun (u : World) => w_readAny b u hb)
  generalize Pl.formed a.data.toList = fa at *
  generalize Pl.formed b.data.toList = fb at *
  go_enter Tryd.func28, Tryd.ntmps28
  go_wp2_with fail
  refine (HRa.out _).mono ?_
  rintro e w1 ⟨b1, ao, an, ac, rfl, hb1⟩
  have HB1 := Hid.mk hb1
  clear hb1
  go_wp2_with fail
  refine (HRb.out _).mono ?_
  rintro e w2 ⟨b2, bo, bn, bc, rfl, hb2⟩
  have HB2 := Hid.mk (below_more (below1 w1 _) hb2)
  clear hb2
  have HB3 := Hid.mk (below_more (below_more HB1.out HB2.out) (below1 w2 (.cells #[.bool b2, .slice bo bn bc] 39)))
  cases fa
  · go_wp2_with fail
    go_ret2
    exact ⟨rfl, HB3.out⟩
  · cases fb
    · go_wp2_with fail
      go_ret2
      exact ⟨rfl, HB3.out⟩
    · simp at hbad

theorem body_size (s : ByteArray) : (Pl.body s.data.toList).length ≤ s.size := by
  unfold Pl.body
  have : s.data.toList.length = s.size := Array.length_toList
  split
  · rw [List.length_tail]; omega
  · omega

theorem sgn_ival (l : List UInt8) : sgn (Pl.neg l) (Pl.dvl (Pl.body l)) = Pl.ival l := rfl

theorem pow_le9 (n : Nat) : 10 ^ n ≤ 1000000000 ^ n := Nat.pow_le_pow_left (by decide) n

end Go.Proofs.YtgnaeddpdomgkabDoor
