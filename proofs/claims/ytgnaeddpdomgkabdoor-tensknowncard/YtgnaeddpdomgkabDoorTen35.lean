import Derived.Test.YtgnaeddpdomgkabDoorTen34
namespace Go.Proofs.YtgnaeddpdomgkabDoor
open Go.RowKit
set_option linter.unusedVariables false
set_option linter.unusedSimpArgs false

set_option maxRecDepth 100000 in
set_option maxHeartbeats 800000 in
theorem w_Add_bad (a b : ByteArray) (w : World) (ha : a.size ≤ 4294967296) (hb : b.size ≤ 4294967296) (hbad : (Pl.formed a.data.toList && Pl.formed b.data.toList) = false) :
    Calls Tryd.prog 14 #[.string a, .string b] w fun e w' => e = .returned (.tuple #[.string ⟨#[]⟩, .int .i64 1]) ∧ Below w.heap.size w w' := by
  have HW := Hid.mk (fun (fn : Nat) => w_two_bad a b fn w ha hb hbad)
  clear hbad
  go_enter Tryd.func14, Tryd.ntmps14
  go_wp2_with fail
  refine (HW.out _).mono ?_
  rintro e w1 ⟨rfl, r3⟩
  have HR := Hid.mk r3
  clear r3
  go_wp2_with fail
  go_ret2
  exact ⟨rfl, HR.out⟩

set_option maxRecDepth 100000 in
set_option maxHeartbeats 800000 in
theorem w_Div_zero (a b : ByteArray) (w : World) (ha : a.size ≤ 4294967296) (fa : Pl.formed a.data.toList = true) (h0 : b.toList = [48]) :
    Calls Tryd.prog 11 #[.string a, .string b] w fun e w' => e = .returned (.tuple #[.string ⟨#[]⟩, .int .i64 10]) ∧ Below w.heap.size w w' := by
  have HC := Hid.mk (fun (u : World) => w_Formed a u (by unfold maxLen; omega))
  have hn : (b.toList == [48]) = true := by rw [h0]; rfl
  have HW : Hid (Calls Tryd.prog 22 #[.string a, .string b, .func (.func 23) #[] #[]] w fun e w' => e = .returned (.tuple #[.string ⟨#[]⟩, .int .i64 10]) ∧ Below w.heap.size w w') := by
    show Calls _ _ _ _ _
    have HF := Hid.mk fa
    clear fa h0
    go_enter Tryd.func22, Tryd.ntmps22
    go_wp2_with fail
    refine (HC.out _).mono ?_
    rintro e w0 ⟨rfl, hb0⟩
    rw [HF.out]
    have HB0 := Hid.mk hb0
    clear hb0
    go_wp2_with fail
    go_ret2
    exact ⟨rfl, HB0.out⟩
  clear fa h0 hn
  go_enter Tryd.func11, Tryd.ntmps11
  go_wp2_with fail
  refine HW.out.mono ?_
  rintro e w1 ⟨rfl, r3⟩
  have HR := Hid.mk r3
  clear r3
  go_wp2_with fail
  go_ret2
  exact ⟨rfl, HR.out⟩

set_option maxRecDepth 100000 in
set_option maxHeartbeats 1600000 in
theorem w_Root_neg (a : ByteArray) (w : World) (ha : a.size ≤ 4294967296) (fa : Pl.formed a.data.toList = true) (hn : Pl.neg a.data.toList = true) :
    Calls Tryd.prog 13 #[.string a] w fun e w' => e = .returned (.tuple #[.string ⟨#[]⟩, .int .i64 11]) ∧ Below w.heap.size w w' := by
  have HRa := Hid.mk (fun (u : World) => w_treadV a u ha fa)
  rw [hn] at HRa
  clear fa hn
  go_enter Tryd.func13, Tryd.ntmps13
  go_wp2_with fail
  refine (HRa.out _).mono ?_
  rintro e w1 ⟨ao, an, ac, rfl, HN1, hb1⟩
  have HB1 := Hid.mk (below_more hb1 (below1 w1 (.cells #[.bool true, .slice ao an ac] 39)))
  clear hb1
  go_wp2_with fail
  go_ret2
  exact ⟨rfl, HB1.out⟩

end Go.Proofs.YtgnaeddpdomgkabDoor
