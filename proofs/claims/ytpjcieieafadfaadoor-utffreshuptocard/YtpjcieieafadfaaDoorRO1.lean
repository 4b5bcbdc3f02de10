import Derived.Test.YtpjcieieafadfaaDoorV31
namespace Go.Proofs.YtpjcieieafadfaaDoor
open Go.RowKit
set_option linter.unusedVariables false
set_option linter.unusedSimpArgs false

/-- a row of runes of one's own -/
def OwnR (w : World) (base g n cap : Nat) (xs : List Int) : Prop := xs.length = n ∧ w.ownsRow base 21 1 (.slice (some ⟨g, 0, none⟩) n cap) n (ivals .i32 xs)
theorem OwnR.head {w : World} {base g n cap : Nat} {xs : List Int} (h : OwnR w base g n cap xs) : Head .i32 w g n cap xs := own_head h.2
theorem OwnR.keep {w w' : World} {base g n cap : Nat} {xs : List Int} (h : OwnR w base g n cap xs) (hb : Below w.heap.size w w') : OwnR w' base g n cap xs :=
  ⟨h.1, h.2.kept (row := none) ⟨hb.os, hb.tape, hb.output, hb.size, fun k hk _ => hb.block k hk⟩ (.inr (by simp [Value.ownBlock]))⟩

theorem grown_snoc (xs : List Int) (k : Nat) : ivals .i32 (xs ++ (List.range k).map fun (i : Nat) => (1000000 + (i : Int))) ++ [.int .i32 (1000000 + (k : Int))] = ivals .i32 (xs ++ (List.range (k + 1)).map fun (i : Nat) => (1000000 + (i : Int))) := by
  simp [ivals, List.range_succ]

/-- the marks behind -/
def marked (xs : List Int) (k : Nat) : List Int := xs ++ (List.range k).map fun (i : Nat) => (1000000 + (i : Int))

structure GrSt (w wr : World) (base g n cap : Nat) (xs : List Int) (k : Nat) : Prop where
  own : wr.ownsRow base 21 1 (.slice (some ⟨g, 0, none⟩) n cap) n (ivals .i32 (marked xs k))
  below : Below base w wr
  size : w.heap.size ≤ wr.heap.size

set_option maxRecDepth 100000 in
set_option maxHeartbeats 1600000 in
theorem w_grownRunes (base g n cap : Nat) (xs : List Int) (w : World) (hv : OwnR w base g n cap xs) (hb : base ≤ w.heap.size) (hl : n ≤ 17592186044416) :
    Calls Tryd.prog 13 #[.slice (some ⟨g, 0, none⟩) n cap, .int .i64 17, .int .i32 1000000] w fun e w' => ∃ g' cap', e = .returned (.slice (some ⟨g', 0, none⟩) (n + 17) cap') ∧ Hid (OwnR w' base g' (n + 17) cap' (marked xs 17)) ∧ Below base w w' := by
  obtain ⟨i0, hi0, hz0, hz1, hz2⟩ := info_parts Tryd.infoR
  have HL := Hid.mk hv.1
  have HS : Hid (GrSt w w base g n cap xs 0) := ⟨by simpa [marked] using hv.2, Below.refl _ _, Nat.le_refl _⟩
  clear hv
  go_enter Tryd.func13, Tryd.ntmps13
  go_wp2_with fail
  go_loopw [0, 7] (fun l i wr => ∃ (k g' m sc : Nat), k ≤ 17 ∧ Hid (m = n + k) ∧ m ≤ n + 17 ∧ l = .slice (some ⟨g', 0, none⟩) m sc ∧ i = .int .i64 k ∧ Hid (GrSt w wr base g' m sc xs k)) (fun _ i _ => 17 - (intOf i).toNat)
  case atStart => exact ⟨0, g, n, cap, Nat.zero_le _, rfl, by omega, rfl, rfl, HS⟩
  case round =>
    obtain ⟨k, g', m, sc, hk, HM, hm, rfl, rfl, HQ⟩ := hrel
    by_cases hlt : k < 17
    · have hk1 : (k : Int) < 17 := by omega
      have hown := HQ.out.own
      have hsz := HQ.out.size
      go_wp2_with (at_builtin; refine wpList_append_own _ rfl _ _ 27 rfl base 21 i0 (.int .i32 0) 1 4 Tryd.underlying27 hi0 hz0 hz1 hz2 rfl (by decide) _ _ _ rfl (hown.alloc _) ⟨wr.heap.size, 0, none⟩ 1 1 [.int .i32 (1000000 + (k : Int))] rfl rfl (by intro j u hj; match j, hj with | 0, hj => simp at hj; subst hj; simp [Addr.add]) (by intro u hu; simp at hu; subst hu; rfl) (by unfold maxLen; omega) (by omega) (by simp; omega) ?_)
      intro v1 w1 hown1 hgrow1 hnn
      obtain ⟨g1, sc1, hv1⟩ := own_any hown1 (Nat.succ_pos _)
      have HN1 : Hid (GrSt w w1 base g1 (m + 1) sc1 xs (k + 1)) := by
        rw [hv1] at hown1
        refine ⟨by have := hown1; rw [marked, grown_snoc] at this; exact this, ?_, ?_⟩
        · exact (HQ.out.below.alloc (by omega) _).grown hgrow1 (by simp; omega) (own_base hown)
        · have := hgrow1.size; simp at this; omega
      have hv2 : v1 = .slice (some ⟨g1, 0, none⟩) (m + 1) sc1 := hv1
      subst hv2
      have HM1 : Hid (m + 1 = n + (k + 1)) := by have := HM.out; show _ = _; omega
      have hm1 : m + 1 ≤ n + 17 := by have := HM.out; omega
      clear hown1 hgrow1 hnn hown hv1
      go_wp2_with fail
      go_roundw
      case rel => exact ⟨k + 1, g1, m + 1, sc1, by omega, HM1, hm1, rfl, by go_num, HN1⟩
      case measure => simp [intOf]; omega
    · have hk1 : ¬ (k : Int) < 17 := by omega
      have hk17 : k = 17 := by omega
      have HF : Hid (OwnR wr base g' (n + 17) sc (marked xs 17) ∧ Below base w wr ∧ m = n + 17) := by
        have h1 := HM.out
        subst hk17
        refine ⟨⟨by simp [marked, HL.out], ?_⟩, HQ.out.below, h1⟩
        rw [← h1]; exact HQ.out.own
      obtain ⟨m', hm'⟩ : ∃ m', m' = n + 17 := ⟨_, rfl⟩
      obtain rfl : m = n + 17 := HF.out.2.2
      clear hm'
      go_wp2_with fail
      go_ret
      exact ⟨g', sc, rfl, HF.out.1, HF.out.2.1⟩
end Go.Proofs.YtpjcieieafadfaaDoor
