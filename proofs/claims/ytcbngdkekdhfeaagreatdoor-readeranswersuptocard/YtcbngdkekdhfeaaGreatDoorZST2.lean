import Derived.Test.YtcbngdkekdhfeaaGreatDoorZST1
namespace Go.Proofs.YtcbngdkekdhfeaaGreatDoor
open Go.RowKit Go.Shelf
set_option linter.unusedVariables false
set_option linter.unusedSimpArgs false
attribute [local go_sem] Oper.semAt_some

set_option maxRecDepth 100000 in
set_option maxHeartbeats 1600000 in
theorem values_in (n : Nat) (hn : 2 ≤ n) (l Bs : Nat) (s : ByteArray) (ss : s.size ≤ 16777216) (w : World) (hE : ErrIn w) (cs : w.cell? ⟨Bs, 0, none⟩ = some (.string s)) (J Jx : List (VT × Value) → World → Prop) (hJ : LowOf w.heap.size J) (hJx : LowOf w.heap.size Jx)
    (hY : ∀ pre x W1, J pre W1 → InH W1 65 x.1 x.2 → pre.length < s.size + 1 → ((pre ++ [x]).map (·.1) <+: (eachL s.data.toList (vL s) (s.size + 1) [] 0).1) → YieldAt Fence.wide (n - 1 - 1) Tryz.prog l #[x.2] W1 fun e W' => (e = .returned (.bool true) ∧ J (pre ++ [x]) W' ∧ KpV w.heap.size W1 W') ∨ (e = .returned (.bool false) ∧ Jx (pre ++ [x]) W' ∧ KpV w.heap.size W1 W')) (h0 : J [] w) :
    CallsIn Fence.wide n Tryz.prog 28 #[.func (.yield l) #[] #[], .pointer (some ⟨Bs, 0, none⟩)] w fun e W' => (∃ v, e = .returned v) ∧ ((∃ xs, xs.map (·.1) = (eachL s.data.toList (vL s) (s.size + 1) [] 0).1 ∧ J xs W') ∨ (∃ pre, (pre.map (·.1) <+: (eachL s.data.toList (vL s) (s.size + 1) [] 0).1) ∧ Jx pre W')) := by
  have HI := Hid.mk (each_in (n - 1) (by omega) l s ss w hE J Jx hJ hJx hY h0)
  have hBs : Bs < w.heap.size := World.block_lt_of_cell? w _ cs
  clear hE hJ hJx hY h0
  generalize (eachL s.data.toList (vL s) (s.size + 1) [] 0).1 = L at *
  refine callsIn_of_wp Tryz.func28 rfl trivial ?_ rfl
  simp only [Tryz.ntmps28, List.size_toArray, List.length_cons, List.length_nil, Nat.reduceAdd, Nat.reduceSub, Array.replicate_succ, Array.replicate_zero, List.push_toArray, List.append_toArray, List.nil_append, List.cons_append]
  gi_wp2_with fail
  refine ⟨trivial, fun _ => by omega, HI.out.mono ?_⟩
  rintro e W' ⟨⟨v, rfl⟩, hway⟩
  have HW := Hid.mk hway
  clear hway
  gi_wp2_with fail
  refine bodyPost_end (v := .tuple #[]) (results_none rfl _ _ _) rfl ?_
  exact ⟨⟨_, rfl⟩, HW.out⟩
end Go.Proofs.YtcbngdkekdhfeaaGreatDoor
