import Derived.Test.YtbfjpmbninlbbabGreatDoorZY5
import Derived.Test.YtbfjpmbninlbbabGreatDoorZY6
import Derived.Test.YtbfjpmbninlbbabGreatDoorZY7
import Derived.Test.YtbfjpmbninlbbabGreatDoorZY8
import Derived.Test.YtbfjpmbninlbbabGreatDoorZY9
import Derived.Test.YtbfjpmbninlbbabGreatDoorZY10
namespace Go.Proofs.YtbfjpmbninlbbabGreatDoor
open Go.RowKit
set_option linter.unusedVariables false
set_option linter.unusedSimpArgs false

theorem ans_all (k : Int) : AnsOk k := by
  by_cases h0 : k = 0
  · subst h0; exact ans_0
  by_cases h1 : k = 1
  · subst h1; exact ans_1
  by_cases h2 : k = 2
  · subst h2; exact ans_2
  by_cases h3 : k = 3
  · subst h3; exact ans_3
  by_cases h4 : k = 4
  · subst h4; exact ans_4
  by_cases h5 : k = 5
  · subst h5; exact ans_5
  by_cases h6 : k = 6
  · subst h6; exact ans_6
  by_cases h7 : k = 7
  · subst h7; exact ans_7
  by_cases h8 : k = 8
  · subst h8; exact ans_8
  by_cases h9 : k = 9
  · subst h9; exact ans_9
  by_cases h10 : k = 10
  · subst h10; exact ans_10
  by_cases h11 : k = 11
  · subst h11; exact ans_11
  exact ans_else k h0 h1 h2 h3 h4 h5 h6 h7 h8 h9 h10 h11

/-- a call of the script, as it lies -/
structure OpAt (W : World) (b off i : Nat) (k f t : Int) (S P : ByteArray) (ao : Option Addr) (n cap : Nat) (xs : List Int) : Prop where
  c0 : W.cell? ⟨b, off + i * 6, none⟩ = some (.int .i64 k)
  c1 : W.cell? ⟨b, off + i * 6 + 1, none⟩ = some (.string S)
  c2 : W.cell? ⟨b, off + i * 6 + 2, none⟩ = some (.string P)
  c3 : W.cell? ⟨b, off + i * 6 + 3, none⟩ = some (.int .i64 f)
  c4 : W.cell? ⟨b, off + i * 6 + 4, none⟩ = some (.int .i64 t)
  c5 : W.cell? ⟨b, off + i * 6 + 5, none⟩ = some (.slice ao n cap)
  sS : S.size ≤ 1048576
  sP : P.size ≤ 1048576
  sn : n ≤ 1048576
  len : xs.length = n
  ints : Ints .i32 W (.slice ao n cap) xs
  wf : ∀ i, i < xs.length → -2147483648 ≤ xs.getD i 0 ∧ xs.getD i 0 ≤ 2147483647
theorem OpAt.keep {W W' : World} {b off i : Nat} {k f t : Int} {S P : ByteArray} {ao : Option Addr} {n cap : Nat} {xs : List Int} (h : OpAt W b off i k f t S P ao n cap xs) (hb : Below W.heap.size W W') (hl : b < W.heap.size) : OpAt W' b off i k f t S P ao n cap xs :=
  ⟨(hb.cell (p := ⟨_, _, _⟩) hl).trans h.c0, (hb.cell (p := ⟨_, _, _⟩) hl).trans h.c1, (hb.cell (p := ⟨_, _, _⟩) hl).trans h.c2, (hb.cell (p := ⟨_, _, _⟩) hl).trans h.c3, (hb.cell (p := ⟨_, _, _⟩) hl).trans h.c4, (hb.cell (p := ⟨_, _, _⟩) hl).trans h.c5, h.sS, h.sP, h.sn, h.len, h.ints.keep hb, h.wf⟩

set_option maxRecDepth 100000 in
set_option maxHeartbeats 3200000 in
theorem w_UtfAnswers (so : Option Addr) (N sc : Nat) (w : World) (hN : N ≤ 1048576) (hcap : N ≤ sc) (hO : 0 < N → ∃ b off, so = some ⟨b, off, none⟩ ∧ b < w.heap.size ∧ ∀ i, i < N → ∃ k f t S P ao n cap xs, OpAt w b off i k f t S P ao n cap xs) (hE : ErrIn w) :
    Calls Tryz.prog 3 #[.slice so N sc] w fun e w' => e = .returned (.bool true) ∧ Below w.heap.size w w' := by
  have HO := Hid.mk hO
  have HE := Hid.mk hE
  clear hO hE
  go_enter Tryz.func3, Tryz.ntmps3
  go_wp2_with fail
  refine (w_fixed _).mono ?_
  rintro e w1 ⟨rfl, hb1⟩
  have HB1 := Hid.mk hb1
  clear hb1
  go_wp2_with fail
  go_loopw [3] (fun i wr => ∃ k : Nat, k ≤ N ∧ i = .int .i64 (k : Int) ∧ Hid (Below w.heap.size w wr)) (fun i _ => N - (intOf i).toNat)
  case atStart => exact ⟨0, Nat.zero_le _, rfl, HB1⟩
  case round =>
    clear HB1
    obtain ⟨k, hk, rfl, HB⟩ := hrel
    by_cases hlt : k < N
    · have hl1 : (k : Int) < (N : Int) := by omega
      obtain ⟨b, off, hso, hb, hat⟩ := HO.out (by omega)
      subst hso
      obtain ⟨kk, f, t, S, P, ao, n, cap, xs, hop⟩ := hat k hlt
      have hop2 := hop.keep HB.out hb
      obtain ⟨c0, c1, c2, c3, c4, c5, s1, s2, s3, s4, s5, s6⟩ := hop2
      have HA := Hid.mk (ans_all kk f t S P ao n cap xs wr s1 s2 s3 s4 s5 s6 (HE.out.keep HB.out))
      clear hat hop s4 s5 s6 hb
      go_wp2_with fail
      refine HA.out.mono ?_
      rintro e w2 ⟨rfl, hb2⟩
      have HB2 := Hid.mk (HB.out.trans (hb2.mono HB.out.size))
      clear hb2 HA c0 c1 c2 c3 c4 c5
      go_wp2_with fail
      go_roundw
      case rel => exact ⟨k + 1, hlt, by go_num, HB2⟩
      case measure => simp [intOf]; omega
    · have hl1 : ¬ (k : Int) < (N : Int) := by omega
      go_wp2_with fail
      go_ret
      exact ⟨rfl, HB.out⟩
end Go.Proofs.YtbfjpmbninlbbabGreatDoor
