import Derived.Test.YtcbngdkekdhfeaaGreatDoorZST4
namespace Go.Proofs.YtcbngdkekdhfeaaGreatDoor
open Go.RowKit Go.Shelf Go.Sort
set_option linter.unusedVariables false
set_option linter.unusedSimpArgs false
attribute [local go_sem] Oper.semAt_some

structure StpAt (W : World) (b off i : Nat) (k : Int) (S : ByteArray) : Prop where
  c0 : W.cell? ⟨b, off + i * 2, none⟩ = some (.int .i64 k)
  c1 : W.cell? ⟨b, off + i * 2 + 1, none⟩ = some (.string S)
  sS : S.size ≤ 1048576
theorem StpAt.keep {W W' : World} {b off i : Nat} {k : Int} {S : ByteArray} (h : StpAt W b off i k S) (hb : Below W.heap.size W W') (hl : b < W.heap.size) : StpAt W' b off i k S :=
  ⟨(hb.cell (p := ⟨_, _, _⟩) hl).trans h.c0, (hb.cell (p := ⟨_, _, _⟩) hl).trans h.c1, h.sS⟩
def StpRow (W : World) (so : Option Addr) (N : Nat) : Prop := 0 < N → ∃ b off, so = some ⟨b, off, none⟩ ∧ b < W.heap.size ∧ ∀ i, i < N → ∃ k S, StpAt W b off i k S

set_option maxRecDepth 100000 in
set_option maxHeartbeats 3200000 in
theorem w_ReaderAnswers (so : Option Addr) (N sc : Nat) (w : World) (hN : N ≤ 1048576) (hcap : N ≤ sc) (hO : StpRow w so N) (hE : ErrIn w) :
    Calls Tryz.prog 5 #[.slice so N sc] w fun e w' => Below w.heap.size w w' ∧ e = .returned (.bool true) := by
  have HO := Hid.mk hO
  have HE := Hid.mk hE
  have HFx := Hid.mk (w_fixed5 w hE)
  have H1 := Hid.mk (fun (S : ByteArray) (u : World) (hS : S.size ≤ 1048576) (hu : ErrIn u) => w_one5' hS (roC5 hS) u hu)
  have H2 := Hid.mk (fun (S : ByteArray) (u : World) (hS : S.size ≤ 1048576) (hu : ErrIn u) => w_many5 S hS u hu)
  have H3 := Hid.mk (fun (S : ByteArray) (u : World) (hS : S.size ≤ 1048576) (hu : ErrIn u) => w_ReaderStreams S 1 u hS hu)
  clear hO hE
  go_enter Tryz.func5, Tryz.ntmps5
  go_wp2_with fail
  refine HFx.out.mono ?_
  rintro e w1 ⟨hb1, rfl⟩
  have HB1 := Hid.mk hb1
  clear hb1 HFx
  go_wp2_with fail
  go_loopw [3] (fun i wr => ∃ k : Nat, k ≤ N ∧ i = .int .i64 (k : Int) ∧ Hid (Below w.heap.size w wr)) (fun i _ => N - (intOf i).toNat)
  case atStart => exact ⟨0, Nat.zero_le _, rfl, HB1⟩
  case round =>
    clear HB1
    obtain ⟨k, hk, rfl, HB⟩ := hrel
    by_cases hlt : k < N
    · have hl1 : (k : Int) < (N : Int) := by omega
      have hl0 : (0 : Int) ≤ (k : Int) := by omega
      obtain ⟨b, off, hso, hb, hat⟩ := HO.out (by omega)
      subst hso
      obtain ⟨kk, S, hop⟩ := hat k hlt
      obtain ⟨c0, c1, s1⟩ := hop.keep HB.out hb
      have HA1 := Hid.mk (H1.out S wr s1 (HE.out.keep HB.out))
      have HA2 := Hid.mk (H2.out S wr s1 (HE.out.keep HB.out))
      have HA3 := Hid.mk (H3.out S wr s1 (HE.out.keep HB.out))
      clear hat hop s1 hb
      by_cases h0 : kk = 0
      · have g0 : (kk == (0 : Int)) = true := by rw [h0]; rfl
        clear h0 HA2 HA3
        go_wp2_with fail
        refine HA1.out.mono ?_
        rintro e w2 ⟨hb2, rfl⟩
        have HB2 := Hid.mk (HB.out.trans (hb2.mono HB.out.size))
        clear hb2 HA1 c0 c1
        go_wp2_with fail
        go_roundw
        case rel => exact ⟨k + 1, hlt, by go_num, HB2⟩
        case measure => simp [intOf]; omega
      · have g0 : (kk == (0 : Int)) = false := by rw [beq_eq_false_iff_ne]; exact h0
        clear h0
        by_cases h1 : kk = 1
        · have g1 : (kk == (1 : Int)) = true := by rw [h1]; rfl
          clear h1 HA1 HA3
          go_wp2_with fail
          refine HA2.out.mono ?_
          rintro e w2 ⟨hb2, rfl⟩
          have HB2 := Hid.mk (HB.out.trans (hb2.mono HB.out.size))
          clear hb2 HA2 c0 c1
          go_wp2_with fail
          go_roundw
          case rel => exact ⟨k + 1, hlt, by go_num, HB2⟩
          case measure => simp [intOf]; omega
        · have g1 : (kk == (1 : Int)) = false := by rw [beq_eq_false_iff_ne]; exact h1
          clear h1 HA1 HA2
          go_wp2_with fail
          refine HA3.out.mono ?_
          rintro e w2 ⟨hb2, rfl⟩
          have HB2 := Hid.mk (HB.out.trans (hb2.mono HB.out.size))
          clear hb2 HA3 c0 c1
          go_wp2_with fail
          go_roundw
          case rel => exact ⟨k + 1, hlt, by go_num, HB2⟩
          case measure => simp [intOf]; omega
    · have hl1 : ¬ (k : Int) < (N : Int) := by omega
      go_wp2_with fail
      go_ret
      exact ⟨HB.out, rfl⟩
end Go.Proofs.YtcbngdkekdhfeaaGreatDoor
