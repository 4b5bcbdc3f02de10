import Derived.Test.YtbfjpmbninlbbabGreatDoorM5
import Derived.Deep.AppendLies
namespace Go.Proofs.YtbfjpmbninlbbabGreatDoor
open Go.RowKit
set_option linter.unusedVariables false
set_option linter.unusedSimpArgs false

/-- the slice value v reads, in w, as the numbers xs of kind k -/
def Ints (k : IntKind) (w : World) (v : Value) (xs : List Int) : Prop :=
  ∃ (ao : Option Addr) (cap : Nat), v = .slice ao xs.length cap ∧ xs.length ≤ cap ∧ (0 < xs.length → ∃ b off, ao = some ⟨b, off, none⟩ ∧ b < w.heap.size ∧ ∀ i, i < xs.length → w.cell? ⟨b, off + i, none⟩ = some (.int k (xs.getD i 0)))
theorem Ints.keep {k : IntKind} {w w' : World} {v : Value} {xs : List Int} (h : Ints k w v xs) (hb : Below w.heap.size w w') : Ints k w' v xs := by
  obtain ⟨ao, cap, hv, hc, hr⟩ := h
  refine ⟨ao, cap, hv, hc, fun hn => ?_⟩
  obtain ⟨b, off, ha, hlt, hcell⟩ := hr hn
  refine ⟨b, off, ha, Nat.lt_of_lt_of_le hlt hb.size, fun i hi => ?_⟩
  rw [hb.cell (p := ⟨b, off + i, none⟩) hlt]
  exact hcell i hi
def ivals (k : IntKind) (xs : List Int) : List Value := xs.map fun (x : Int) => Value.int k x
theorem ivals_get (k : IntKind) (xs : List Int) (i : Nat) (h : i < xs.length) : (ivals k xs)[i]? = some (.int k (xs.getD i 0)) := by
  simp [ivals, List.getElem?_eq_getElem h]
theorem own_ints {w : World} {base : Nat} {e : TypeId} {k : IntKind} {v : Value} {n : Nat} {xs : List Int} (h : w.ownsRow base e 1 v n (ivals k xs)) : Ints k w v xs := by
  obtain ⟨hl, h⟩ := h
  have hn : xs.length = n := by
    have : (ivals k xs).length = xs.length := by simp [ivals]
    omega
  rcases h with ⟨rfl, rfl⟩ | ⟨g, cap, cur, rfl, hg, hh, hcap, hm, hcs, ht⟩
  · have : xs = [] := List.eq_nil_of_length_eq_zero hn
    subst this
    exact ⟨none, 0, rfl, Nat.le_refl _, fun h => by cases h⟩
  · refine ⟨some ⟨g, 0, none⟩, cap, by rw [hn], by omega, fun _ => ⟨g, 0, rfl, (Array.getElem?_eq_some_iff.1 hh).1, fun i hi => ?_⟩⟩
    rw [cell_of_row w g (0 + i) cur e (0, 0) hh, Nat.zero_add]
    have h1 := ivals_get k xs i hi
    rw [← ht, List.getElem?_take, if_pos (by omega)] at h1
    simpa using h1
theorem take_isnoc (xs : List Int) (k : Nat) (h : k < xs.length) : xs.take (k + 1) = xs.take k ++ [xs.getD k 0] := by
  rw [List.take_succ_eq_append_getElem h, List.getD_eq_getElem?_getD, List.getElem?_eq_getElem h]; rfl
theorem own_empty (w : World) (e : TypeId) : (w.alloc (.cells #[] e)).ownsRow w.heap.size e 1 (.slice (some ⟨w.heap.size, 0, none⟩) 0 0) 0 [] :=
  ⟨rfl, Or.inr ⟨w.heap.size, 0, #[], rfl, Nat.le_refl _, heap_alloc_new w _, Nat.le_refl _, by decide, rfl, rfl⟩⟩
theorem Tryz.infoI : (Tryz.prog.info? 3).map (fun i => (i.zero, i.size, i.bytes)) = some (some (.int .i64 0), 1, 8) := by kernel_rfl

/-- while a list is copied -/
structure CopySt (k : IntKind) (e : TypeId) (w wr : World) (v : Value) (xs : List Int) (i : Nat) : Prop where
  own : wr.ownsRow w.heap.size e 1 v i (ivals k (xs.take i))
  below : Below w.heap.size w wr
theorem CopySt.next {k : IntKind} {e : TypeId} {w wr w1 : World} {v v1 : Value} {xs : List Int} {i : Nat} {o : Obj} (h : CopySt k e w wr v xs i) (hi : i < xs.length) (hown : w1.ownsRow w.heap.size e 1 v1 (i + 1) (ivals k (xs.take i) ++ [.int k (xs.getD i 0)])) (hg : (wr.alloc o).grownBy w1 v.ownBlock) : CopySt k e w w1 v1 xs (i + 1) := by
  refine ⟨?_, below_app h.own h.below.size h.below hg⟩
  rw [take_isnoc xs i hi]
  have : ivals k (xs.take i ++ [xs.getD i 0]) = ivals k (xs.take i) ++ [.int k (xs.getD i 0)] := by simp [ivals]
  rw [this]
  exact hown

/-- a call that answers a new list -/
def ListR (k : IntKind) (w w' : World) (e : Ending) (xs : List Int) : Prop := ∃ so sc, e = .returned (.slice so xs.length sc) ∧ Hid (Ints k w' (.slice so xs.length sc) xs) ∧ Below w.heap.size w w'

set_option maxRecDepth 100000 in
set_option maxHeartbeats 1600000 in
theorem w_numbers (v : Value) (xs : List Int) (w : World) (hv : Ints .i32 w v xs) (hr : ∀ i, i < xs.length → -2147483648 ≤ xs.getD i 0 ∧ xs.getD i 0 ≤ 2147483647) (hl : xs.length ≤ 1099511627776) :
    Calls Tryz.prog 16 #[v] w fun e w' => ListR .i64 w w' e xs := by
  obtain ⟨i0, hi0, hz0, hz1, hz2⟩ := info_parts Tryz.infoI
  obtain ⟨ao, cap, rfl, hc, hx⟩ := hv
  have HR := Hid.mk hr
  have HX := Hid.mk hx
  obtain ⟨n, hn⟩ : ∃ n, n = xs.length := ⟨_, rfl⟩
  have HN := Hid.mk hn
  rw [← hn] at hc hl ⊢
  have HS : Hid (CopySt .i64 3 w (w.alloc (.cells #[] 3)) (.slice (some ⟨w.heap.size, 0, none⟩) 0 0) xs 0) := ⟨own_empty w 3, (Below.refl _ _).alloc (Nat.le_refl _) _⟩
  unfold ListR
  rw [← hn]
  clear hr hx hn
  go_enter Tryz.func16, Tryz.ntmps16
  go_wp2_with fail
  go_loopw [3, 4] (fun l i wr => ∃ (k : Nat) (so : Option Addr) (sc : Nat), k ≤ n ∧ l = .slice so k sc ∧ i = .int .i64 k ∧ Hid (CopySt .i64 3 w wr (.slice so k sc) xs k)) (fun _ i _ => n - (intOf i).toNat)
  case atStart => exact ⟨0, _, 0, Nat.zero_le _, rfl, rfl, HS⟩
  case round =>
    obtain ⟨k, so, sc, hk, rfl, rfl, HQ⟩ := hrel
    by_cases hlt : k < n
    · have hk1 : (k : Int) < (n : Int) := by omega
      have hkx : k < xs.length := by rw [← HN.out]; exact hlt
      obtain ⟨b, off, rfl, hb, hcell⟩ := HX.out (by omega)
      obtain ⟨x, hxx⟩ : ∃ x, x = xs.getD k 0 := ⟨_, rfl⟩
      have hcx : wr.cell? ⟨b, off + k, none⟩ = some (.int .i32 x) := by
        rw [hxx]; exact (HQ.out.below.cell (p := ⟨b, off + k, none⟩) hb).trans (hcell k hkx)
      have hrx := HR.out k hkx
      rw [← hxx] at hrx
      obtain ⟨hr1, hr2⟩ := hrx
      have HXX := Hid.mk hxx
      have hown := HQ.out.own
      have HKX := Hid.mk hkx
      have hsz := HQ.out.below.size
      clear hcell hxx hkx
      go_wp2_with (at_builtin; refine wpList_append_own _ rfl _ _ 39 rfl w.heap.size 3 i0 (.int .i64 0) 1 8 Tryz.underlying39 hi0 hz0 hz1 hz2 rfl (by decide) _ _ _ rfl (hown.alloc _) ⟨wr.heap.size, 0, none⟩ 1 1 [.int .i64 x] rfl rfl (by intro j u hj; match j, hj with | 0, hj => simp at hj; subst hj; simp [Addr.add]) (by intro u hu; simp at hu; subst hu; rfl) (by unfold maxLen; omega) (by omega) (by simp; omega) ?_)
      intro v1 w1 hown1 hgrow1 hnn
      obtain ⟨so1, sc1, hv1⟩ := own_shape hown1
      have HN1 : Hid (CopySt .i64 3 w w1 v1 xs (k + 1)) := HQ.out.next HKX.out (by rw [← HXX.out]; exact hown1) hgrow1
      subst hv1
      clear hown1 hgrow1 hnn hown hcx
      go_wp2_with fail
      go_roundw
      case rel => exact ⟨k + 1, so1, sc1, by omega, rfl, by go_num, HN1⟩
      case measure => simp [intOf]; omega
    · have hk1 : ¬ (k : Int) < (n : Int) := by omega
      have hkn : k = n := by omega
      subst hkn
      have HF : Hid (Ints .i64 wr (.slice so k sc) xs) := by
        have := own_ints HQ.out.own
        rw [List.take_of_length_le (by rw [← HN.out]; exact Nat.le_refl _)] at this
        exact this
      go_wp2_with fail
      go_ret
      exact ⟨so, sc, rfl, HF, HQ.out.below⟩

set_option maxRecDepth 100000 in
set_option maxHeartbeats 1600000 in
theorem w_alike (va vb : Value) (xs : List Int) (w : World) (ha : Ints .i64 w va xs) (hb : Ints .i64 w vb xs) (hl : xs.length ≤ 1099511627776) :
    Calls Tryz.prog 15 #[va, vb] w fun e w' => e = .returned (.bool true) ∧ Below w.heap.size w w' := by
  obtain ⟨ao, capa, rfl, hca, hxa⟩ := ha
  obtain ⟨bo, capb, rfl, hcb, hxb⟩ := hb
  have HA := Hid.mk hxa
  have HB := Hid.mk hxb
  obtain ⟨n, hn⟩ : ∃ n, n = xs.length := ⟨_, rfl⟩
  have HN := Hid.mk hn
  rw [← hn] at hca hcb hl ⊢
  have hnn : ((n : Int) != (n : Int)) = false := by simp
  clear hxa hxb hn
  go_enter Tryz.func15, Tryz.ntmps15
  go_wp2_with fail
  go_loopw [5] (fun i wr => ∃ (k : Nat), k ≤ n ∧ i = .int .i64 k ∧ Hid (Below w.heap.size w wr)) (fun i _ => n - (intOf i).toNat)
  case atStart => exact ⟨0, Nat.zero_le _, rfl, Below.refl _ _⟩
  case round =>
    obtain ⟨k, hk, rfl, HQ⟩ := hrel
    by_cases hlt : k < n
    · have hk1 : (k : Int) < (n : Int) := by omega
      have hkx : k < xs.length := by rw [← HN.out]; exact hlt
      obtain ⟨b, off, rfl, hb, hcell⟩ := HA.out (by omega)
      obtain ⟨b', off', rfl, hb', hcell'⟩ := HB.out (by omega)
      have hc1 := (HQ.out.cell (p := ⟨b, off + k, none⟩) hb).trans (hcell k hkx)
      have hc2 := (HQ.out.cell (p := ⟨b', off' + k, none⟩) hb').trans (hcell' k hkx)
      generalize xs.getD k 0 = x at hc1 hc2
      have hxx : (x != x) = false := by simp
      clear hcell hcell' hkx
      go_wp2_with fail
      go_quiet (fail)
      have HQ2 : Hid (Below w.heap.size w (wr.drewN nq)) := ⟨HQ.out.os, HQ.out.tape, HQ.out.output, HQ.out.size, HQ.out.block⟩
      go_wp2_with fail
      go_roundw
      case measure => simp [intOf]; omega
      exact ⟨k + 1, by omega, by go_num, HQ2⟩
    · have hk1 : ¬ (k : Int) < (n : Int) := by omega
      go_wp2_with fail
      go_ret
      exact ⟨rfl, HQ.out⟩
end Go.Proofs.YtbfjpmbninlbbabGreatDoor
