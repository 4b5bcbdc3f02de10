import Derived.Test.YtpjcieieafadfaaDoorF1
namespace Go.Proofs.YtpjcieieafadfaaDoor
open Go.RowKit
set_option linter.unusedVariables false
set_option linter.unusedSimpArgs false

/-- so many counted on behind a list -/
def cnt (X : List Int) (f : Int) (k : Nat) : List Int := X ++ (List.range k).map fun (i : Nat) => f + (i : Int)
theorem cnt_up (kd : IntKind) (X : List Int) (f : Int) (k : Nat) : ivals kd (cnt X f k) ++ [.int kd (f + (k : Int))] = ivals kd (cnt X f (k + 1)) := by simp [ivals, cnt, List.range_succ]
theorem cnt_zero (X : List Int) (f : Int) : cnt X f 0 = X := by simp [cnt]
theorem cnt_mkG (m f : Int) (n k : Nat) : cnt (mkG m f n 0) f k = mkG m f n k := by simp [cnt, mkG]

/-- while a row grows -/
structure GwSt (kd : IntKind) (e B : Nat) (w wr : World) (v0 v : Value) (n : Nat) (xs : List Int) (f : Int) (k : Nat) : Prop where
  own : wr.ownsRow B e 1 v n (ivals kd (cnt xs f k))
  below : Below B w wr
  size : w.heap.size ≤ wr.heap.size
  grown : w.grownBy wr v0.ownBlock
  at_ : v.ownBlock = v0.ownBlock ∨ ∃ g, v.ownBlock = some g ∧ w.heap.size ≤ g

theorem GwSt.next {kd : IntKind} {e B : Nat} {w wr w1 : World} {v0 v : Value} {n : Nat} {xs : List Int} {f : Int} {k : Nat} (h : GwSt kd e B w wr v0 v n xs f k) {o : Obj} {g cap : Nat} (hB : B ≤ w.heap.size)
    (hown : w1.ownsRow B e 1 (.slice (some ⟨g, 0, none⟩) (n + 1) cap) (n + 1) (ivals kd (cnt xs f k) ++ [.int kd (f + (k : Int))])) (hgrow : (wr.alloc o).grownBy w1 v.ownBlock) (hat : v.ownBlock = some g ∨ g = wr.heap.size + 1) :
    GwSt kd e B w w1 v0 (.slice (some ⟨g, 0, none⟩) (n + 1) cap) (n + 1) xs f (k + 1) := by
  have hs := h.size
  have hg2 := grown_after hgrow
  refine ⟨by rw [← cnt_up]; exact hown, below_app h.own (by omega) h.below hgrow, Nat.le_trans hs hg2.size, ?_, ?_⟩
  · refine ⟨hg2.os.trans h.grown.os, hg2.tape.trans h.grown.tape, hg2.output.trans h.grown.output, Nat.le_trans hs hg2.size, fun j hj hne => ?_⟩
    rw [hg2.block j (by omega) ?_]
    · exact h.grown.block j hj hne
    · rcases h.at_ with e1 | ⟨g1, e1, e2⟩
      · rw [e1]; exact hne
      · rw [e1]; intro e3; cases e3; omega
  · rcases hat with e1 | e1
    · rcases h.at_ with e2 | ⟨g1, e2, e3⟩
      · exact .inl (e1.symm.trans e2)
      · right; exact ⟨g, rfl, by rw [e1] at e2; cases e2; exact e3⟩
    · right; exact ⟨g, rfl, by omega⟩

def GwR (kd : IntKind) (e B : Nat) (w w' : World) (E : Ending) (v0 : Value) (n : Nat) (xs : List Int) (f : Int) (m : Nat) : Prop :=
  ∃ ao cap, E = .returned (.slice ao (n + m) cap) ∧ Hid (GwSt kd e B w w' v0 (.slice ao (n + m) cap) (n + m) xs f m)

set_option maxRecDepth 100000 in
set_option maxHeartbeats 1600000 in
theorem w_grownR (B n m : Nat) (so : Option Addr) (sc : Nat) (xs : List Int) (f : Int) (w : World) (hv : w.ownsRow B 21 1 (.slice so n sc) n (ivals .i32 xs)) (hB : B ≤ w.heap.size) (hn : n ≤ 1048576) (hm : m ≤ 1048593) (hf : 0 ≤ f) (hf2 : f ≤ 4000000) :
    Calls Tryd.prog 13 #[.slice so n sc, .int .i64 (m : Int), .int .i32 f] w fun E w' => GwR .i32 21 B w w' E (.slice so n sc) n xs f m := by
  obtain ⟨i0, hi0, hz0, hz1, hz2⟩ := info_parts Tryd.infoR
  have HS : Hid (GwSt .i32 21 B w w (.slice so n sc) (.slice so (n + 0) sc) (n + 0) xs f 0) := ⟨by rw [cnt_zero]; exact hv, Below.refl _ _, Nat.le_refl _, World.grownBy.refl _ _, .inl rfl⟩
  obtain ⟨v0, hv0⟩ : ∃ v0, v0 = Value.slice so n sc := ⟨_, rfl⟩
  rw [← hv0] at HS
  unfold GwR
  rw [← hv0]
  have HV0 := Hid.mk hv0
  clear hv
  go_enter Tryd.func13, Tryd.ntmps13
  rw [HV0.out]
  clear hv0
  go_wp2_with fail
  go_loopw [0, 7] (fun l i wr => ∃ (k : Nat) (ao : Option Addr) (cap : Nat), k ≤ m ∧ l = .slice ao (n + k) cap ∧ i = .int .i64 k ∧ Hid (GwSt .i32 21 B w wr v0 (.slice ao (n + k) cap) (n + k) xs f k)) (fun _ i _ => m - (intOf i).toNat)
  case atStart => exact ⟨0, so, sc, Nat.zero_le _, rfl, rfl, HS⟩
  case round =>
    obtain ⟨k, ao, cap, hk, rfl, rfl, HQ⟩ := hrel
    by_cases hlt : k < m
    · have hk1 : (k : Int) < (m : Int) := by omega
      have hown := HQ.out.own
      have hsz := HQ.out.size
      go_wp2_with (at_builtin; refine wpList_append_lies _ rfl _ _ 27 rfl B 21 i0 (.int .i32 0) 1 4 Tryd.underlying27 hi0 hz0 hz1 hz2 rfl (by decide) _ _ _ rfl (hown.alloc _) ⟨wr.heap.size, 0, none⟩ 1 1 [.int .i32 (f + (k : Int))] rfl rfl (by intro j u hj; match j, hj with | 0, hj => simp at hj; subst hj; simp [Addr.add]) (by intro u hu; simp at hu; subst hu; rfl) (by omega) (by unfold maxLen; omega) (by omega) (by simp; omega) (wr.heap.size + 1) (by simp) ?_)
      intro g4 c4 w4 hown4 hgrow4 hat4 hlt4
      have HN := Hid.mk (HQ.out.next hB hown4 hgrow4 hat4)
      clear hown4 hgrow4 hat4 hlt4 hown
      go_wp2_with fail
      go_roundw
      case rel => exact ⟨k + 1, some ⟨g4, 0, none⟩, c4, hlt, rfl, by go_num, HN⟩
      case measure => simp [intOf]; omega
    · have hk1 : ¬ (k : Int) < (m : Int) := by omega
      have hkm : k = m := by omega
      subst hkm
      go_wp2_with fail
      go_ret
      exact ⟨ao, cap, rfl, by rw [← HV0.out]; exact HQ⟩

set_option maxRecDepth 100000 in
set_option maxHeartbeats 1600000 in
theorem w_grownI (B n m : Nat) (so : Option Addr) (sc : Nat) (xs : List Int) (f : Int) (w : World) (hv : w.ownsRow B 3 1 (.slice so n sc) n (ivals .i64 xs)) (hB : B ≤ w.heap.size) (hn : n ≤ 1048576) (hm : m ≤ 1048593) (hf : 0 ≤ f) (hf2 : f ≤ 4000000) :
    Calls Tryd.prog 14 #[.slice so n sc, .int .i64 (m : Int), .int .i64 f] w fun E w' => GwR .i64 3 B w w' E (.slice so n sc) n xs f m := by
  obtain ⟨i0, hi0, hz0, hz1, hz2⟩ := info_parts Tryd.infoI
  have HS : Hid (GwSt .i64 3 B w w (.slice so n sc) (.slice so (n + 0) sc) (n + 0) xs f 0) := ⟨by rw [cnt_zero]; exact hv, Below.refl _ _, Nat.le_refl _, World.grownBy.refl _ _, .inl rfl⟩
  obtain ⟨v0, hv0⟩ : ∃ v0, v0 = Value.slice so n sc := ⟨_, rfl⟩
  rw [← hv0] at HS
  unfold GwR
  rw [← hv0]
  have HV0 := Hid.mk hv0
  clear hv
  go_enter Tryd.func14, Tryd.ntmps14
  rw [HV0.out]
  clear hv0
  go_wp2_with fail
  go_loopw [0, 7] (fun l i wr => ∃ (k : Nat) (ao : Option Addr) (cap : Nat), k ≤ m ∧ l = .slice ao (n + k) cap ∧ i = .int .i64 k ∧ Hid (GwSt .i64 3 B w wr v0 (.slice ao (n + k) cap) (n + k) xs f k)) (fun _ i _ => m - (intOf i).toNat)
  case atStart => exact ⟨0, so, sc, Nat.zero_le _, rfl, rfl, HS⟩
  case round =>
    obtain ⟨k, ao, cap, hk, rfl, rfl, HQ⟩ := hrel
    by_cases hlt : k < m
    · have hk1 : (k : Int) < (m : Int) := by omega
      have hown := HQ.out.own
      have hsz := HQ.out.size
      go_wp2_with (at_builtin; refine wpList_append_lies _ rfl _ _ 24 rfl B 3 i0 (.int .i64 0) 1 8 Tryd.underlying24 hi0 hz0 hz1 hz2 rfl (by decide) _ _ _ rfl (hown.alloc _) ⟨wr.heap.size, 0, none⟩ 1 1 [.int .i64 (f + (k : Int))] rfl rfl (by intro j u hj; match j, hj with | 0, hj => simp at hj; subst hj; simp [Addr.add]) (by intro u hu; simp at hu; subst hu; rfl) (by omega) (by unfold maxLen; omega) (by omega) (by simp; omega) (wr.heap.size + 1) (by simp) ?_)
      intro g4 c4 w4 hown4 hgrow4 hat4 hlt4
      have HN := Hid.mk (HQ.out.next hB hown4 hgrow4 hat4)
      clear hown4 hgrow4 hat4 hlt4 hown
      go_wp2_with fail
      go_roundw
      case rel => exact ⟨k + 1, some ⟨g4, 0, none⟩, c4, hlt, rfl, by go_num, HN⟩
      case measure => simp [intOf]; omega
    · have hk1 : ¬ (k : Int) < (m : Int) := by omega
      have hkm : k = m := by omega
      subst hkm
      go_wp2_with fail
      go_ret
      exact ⟨ao, cap, rfl, by rw [← HV0.out]; exact HQ⟩

set_option maxRecDepth 100000 in
set_option maxHeartbeats 1600000 in
theorem w_marked (so : Option Addr) (sc n k : Nat) (mk f : Int) (w : World) (hv : Ints .i64 w (.slice so (n + k) sc) (mkG mk f n k)) (hn : n ≤ 1048576) (hk : k ≤ 1048593) (hm : -4 ≤ mk) (hm2 : mk ≤ 0) (hf : 0 ≤ f) (hf2 : f ≤ 4000000) :
    Calls Tryd.prog 15 #[.slice so (n + k) sc, .int .i64 (n : Int), .int .i64 mk, .int .i64 f] w fun e w' => e = .returned (.bool true) ∧ Below w.heap.size w w' := by
  have HG := Hid.mk (fun i h => mkG_get mk f n k i h)
  obtain ⟨ao, cap, e, hc, hx⟩ := hv
  simp only [Value.slice.injEq] at e
  obtain ⟨rfl, _, rfl⟩ := e
  rw [mkG_len] at hx hc
  have HX := Hid.mk hx
  clear hx
  go_enter Tryd.func15, Tryd.ntmps15
  go_wp2_with fail
  go_loopw [9] (fun i wr => ∃ (j : Nat), j ≤ n + k ∧ i = .int .i64 j ∧ Hid (Below w.heap.size w wr)) (fun i _ => n + k - (intOf i).toNat)
  case atStart => exact ⟨0, Nat.zero_le _, rfl, Below.refl _ _⟩
  case round =>
    obtain ⟨j, hj, rfl, HQ⟩ := hrel
    by_cases hlt : j < n + k
    · have hj1 : (j : Int) < (n : Int) + (k : Int) := by omega
      obtain ⟨b, off, rfl, hb, hcell⟩ := HX.out (by omega)
      have cK := (HQ.out.cell (p := ⟨b, off + j, none⟩) hb).trans (hcell j hlt)
      rw [HG.out j hlt] at cK
      clear hcell
      by_cases hjn : j < n
      · rw [if_pos hjn] at cK
        have hj2 : ¬ (n : Int) ≤ (j : Int) := by omega
        go_wp2_with fail
        go_roundw
        case rel => exact ⟨j + 1, hlt, by go_num, HQ⟩
        case measure => simp [intOf]; omega
      · rw [if_neg hjn] at cK
        have hj2 : (n : Int) ≤ (j : Int) := by omega
        go_wp2_with fail
        go_roundw
        case rel => exact ⟨j + 1, hlt, by go_num, HQ⟩
        case measure => simp [intOf]; omega
    · have hj1 : ¬ (j : Int) < (n : Int) + (k : Int) := by omega
      go_wp2_with fail
      go_ret
      exact ⟨rfl, HQ.out⟩
end Go.Proofs.YtpjcieieafadfaaDoor
