import Derived.Test.YtbfjpmbninlbbabGreatDoorM7
import Derived.Test.YtbfjpmbninlbbabGreatDoorM8
namespace Go.Proofs.YtbfjpmbninlbbabGreatDoor
open Go.RowKit
set_option linter.unusedVariables false
set_option linter.unusedSimpArgs false

def toI (zs : List Nat) : List Int := zs.map fun (n : Nat) => (n : Int)
theorem toI_len (zs : List Nat) : (toI zs).length = zs.length := List.length_map ..
theorem toI_get (zs : List Nat) (i : Nat) : (toI zs).getD i 0 = ((zs.getD i 0 : Nat) : Int) := by
  unfold toI
  by_cases h : i < zs.length
  · simp [h]
  · simp [List.getElem?_eq_none (Nat.le_of_not_lt h)]
theorem toI_range (zs : List Nat) (h : ∀ z ∈ zs, isR z) (i : Nat) : -2147483648 ≤ (toI zs).getD i 0 ∧ (toI zs).getD i 0 ≤ 2147483647 := by
  rw [toI_get]
  by_cases hi : i < zs.length
  · have hz : isR (zs.getD i 0) := by
      apply h
      rw [List.getD_eq_getElem?_getD, List.getElem?_eq_getElem hi]
      exact List.getElem_mem hi
    unfold isR at hz
    omega
  · rw [List.getD_eq_getElem?_getD, List.getElem?_eq_none (Nat.le_of_not_lt hi)]
    simp
theorem txt_toI (zs : List Nat) (h : ∀ z ∈ zs, isR z) : ((toI zs).flatMap fun z => enc (rn z)) = txt zs := by
  induction zs with
  | nil => rfl
  | cons z r ih =>
    have e1 : toI (z :: r) = (z : Int) :: toI r := rfl
    have e2 : txt (z :: r) = enc z ++ txt r := rfl
    rw [e1, e2, List.flatMap_cons, rn_nat (h z (List.mem_cons_self ..)), ih fun y hy => h y (List.mem_cons_of_mem _ hy)]

/-- a list at the head of its block -/
def Head (k : IntKind) (w : World) (g n cap : Nat) (xs : List Int) : Prop := xs.length = n ∧ n ≤ cap ∧ g < w.heap.size ∧ ∀ i, i < n → w.cell? ⟨g, i, none⟩ = some (.int k (xs.getD i 0))
theorem Head.ints {k : IntKind} {w : World} {g n cap : Nat} {xs : List Int} (h : Head k w g n cap xs) : Ints k w (.slice (some ⟨g, 0, none⟩) n cap) xs := by
  obtain ⟨h1, h2, h3, h4⟩ := h
  subst h1
  exact ⟨_, cap, rfl, h2, fun _ => ⟨g, 0, rfl, h3, fun i hi => by rw [Nat.zero_add]; exact h4 i hi⟩⟩
theorem Head.keep {k : IntKind} {w w' : World} {g n cap : Nat} {xs : List Int} (h : Head k w g n cap xs) (hb : Below w.heap.size w w') : Head k w' g n cap xs :=
  ⟨h.1, h.2.1, Nat.lt_of_lt_of_le h.2.2.1 hb.size, fun i hi => (hb.cell (p := ⟨g, i, none⟩) h.2.2.1).trans (h.2.2.2 i hi)⟩

set_option maxRecDepth 100000 in
set_option maxHeartbeats 800000 in
theorem w_Runes2 (s : ByteArray) (zs : List Nat) (n : Nat) (w : World) (hz : runes s.data.toList = zs) (hn : zs.length = n) (hs : n ≤ 70368744177664) :
    Calls Tryz.prog 14 #[.string s] w fun e w' => ∃ g cap, e = .returned (.slice (some ⟨g, 0, none⟩) n cap) ∧ Hid (Head .i32 w' g n cap (toI zs)) ∧ Below w.heap.size w w' := by
  subst hz
  have hrf := runesFrom_eq s s.size 0 #[] (Nat.zero_le _) (by omega)
  rw [List.drop_zero] at hrf
  have hsz : (Conv.runesFrom s s.size 0 #[]).size = n := by rw [hrf]; simp [hn]
  have hcv := run_runes_of_string (P := Tryz.prog) w 9 25 21 s Tryz.underlying9 Tryz.underlying25 Tryz.underlying21 (by rw [hsz]; omega)
  have hcap := grownCap_ge w n 0 21
  rw [hsz] at hcv
  obtain ⟨cap, hc⟩ : ∃ cap, cap = grownCap w n 0 21 := ⟨_, rfl⟩
  rw [← hc] at hcv hcap
  obtain ⟨W1, hW1⟩ : ∃ W1, W1 = (w.drew.alloc (.cells (Conv.runesFrom s s.size 0 #[] ++ Array.replicate (cap - n) (.int .i32 0)) 21)) := ⟨_, rfl⟩
  rw [← hW1] at hcv
  have HB : Hid (Below w.heap.size w W1) := by show Below _ _ _; rw [hW1]; exact ((Below.refl _ _).drew).alloc (Nat.le_refl _) _
  have HR : Hid (Head .i32 W1 w.heap.size n cap (toI (runes s.data.toList))) := by
    refine ⟨by rw [toI_len, hn], hcap, by rw [hW1]; simp, fun i hi => ?_⟩
    rw [hW1]
    have h : (w.drew.alloc (.cells (Conv.runesFrom s s.size 0 #[] ++ Array.replicate (cap - n) (.int .i32 0)) 21)).heap[w.heap.size]? = _ := heap_alloc_new w.drew _
    rw [cell_of_row _ _ _ _ _ _ h, hrf, Array.getElem?_append_left (by simp; omega), toI_get]
    have hi2 : i < (runes s.data.toList).length := by omega
    simp [hi2]
  clear hW1 hc hcap hrf hsz hn
  generalize toI (runes s.data.toList) = xs at *
  go_enter Tryz.func14, Tryz.ntmps14
  go_wp2_with fail
  go_ret
  exact ⟨_, _, rfl, HR, HB.out⟩

theorem w_Text2 {g n cap : Nat} {zs : List Nat} {w : World} (h : Head .i32 w g n cap (toI zs)) (hr : ∀ z ∈ zs, isR z) :
    Calls Tryz.prog 19 #[.slice (some ⟨g, 0, none⟩) n cap] w fun e w' => e = .returned (.string ⟨(txt zs).toArray⟩) ∧ w' = w := by
  have := w_Text g n cap (toI zs) w h.1 (fun j hj => h.2.2.2 j (by rw [← h.1]; exact hj))
  rw [txt_toI zs hr] at this
  exact this

theorem beq_lists (s t : ByteArray) : (s.toList == t.toList) = (s.data.toList == t.data.toList) := by
  rw [Lib.toList_data, Lib.toList_data]
theorem txt_len (zs : List Nat) : (txt zs).length ≤ 4 * zs.length := by
  induction zs with
  | nil => exact Nat.le_refl _
  | cons z r ih =>
    have e2 : txt (z :: r) = enc z ++ txt r := rfl
    have := (enc_len z).2
    rw [e2, List.length_append, List.length_cons]; omega
end Go.Proofs.YtbfjpmbninlbbabGreatDoor
namespace Go.Proofs.YtbfjpmbninlbbabGreatDoor
open Go.RowKit
set_option linter.unusedVariables false
set_option linter.unusedSimpArgs false

theorem Tryz.infoR : (Tryz.prog.info? 21).map (fun i => (i.zero, i.size, i.bytes)) = some (some (.int .i32 0), 1, 4) := by kernel_rfl
theorem own_any {w : World} {base n : Nat} {e : TypeId} {size : Nat} {v : Value} {xs : List Value} (h : w.ownsRow base e size v n xs) (hn : 0 < n) : ∃ g cap, v = .slice (some ⟨g, 0, none⟩) n cap := by
  rcases h.2 with ⟨e, e2⟩ | ⟨g, cap, cur, e, _⟩
  · omega
  · exact ⟨g, cap, e⟩
theorem own_head {w : World} {base : Nat} {e : TypeId} {k : IntKind} {g cap n : Nat} {xs : List Int} (h : w.ownsRow base e 1 (.slice (some ⟨g, 0, none⟩) n cap) n (ivals k xs)) : Head k w g n cap xs := by
  have hs := h
  obtain ⟨hl, h⟩ := h
  have hn : xs.length = n := by
    have : (ivals k xs).length = xs.length := by simp [ivals]
    omega
  rcases h with ⟨h0, _⟩ | ⟨g', cap', cur, hv, hg, hh, hcap, hm, hcs, ht⟩
  · cases h0
  · cases hv
    refine ⟨hn, hcap, (Array.getElem?_eq_some_iff.1 hh).1, fun i hi => ?_⟩
    rw [cell_of_row w g i cur e (0, 0) hh]
    have h1 := ivals_get k xs i (by omega)
    rw [← ht, List.getElem?_take, if_pos (by omega)] at h1
    simpa using h1

set_option maxRecDepth 100000 in
set_option maxHeartbeats 1600000 in
theorem w_twin (v : Value) (xs : List Int) (n : Nat) (w : World) (hv : Ints .i32 w v xs) (hn : xs.length = n) (hl : n ≤ 35184372088832) :
    Calls Tryz.prog 20 #[v] w fun e w' => ∃ g cap, e = .returned (.slice (some ⟨g, 0, none⟩) n cap) ∧ Hid (Head .i32 w' g n cap xs) ∧ Below w.heap.size w w' := by
  obtain ⟨i0, hi0, hz0, hz1, hz2⟩ := info_parts Tryz.infoR
  obtain ⟨ao, cap, rfl, hc, hx⟩ := hv
  have HX := Hid.mk hx
  have HN := Hid.mk hn
  rw [hn] at hc ⊢
  have HS : Hid (CopySt .i32 21 w (w.alloc (.cells #[] 21)) (.slice (some ⟨w.heap.size, 0, none⟩) 0 0) xs 0) := ⟨own_empty w 21, (Below.refl _ _).alloc (Nat.le_refl _) _⟩
  clear hx hn
  go_enter Tryz.func20, Tryz.ntmps20
  go_wp2_with fail
  go_loopw [3, 4] (fun l i wr => ∃ (k : Nat) (g sc : Nat), k ≤ n ∧ l = .slice (some ⟨g, 0, none⟩) k sc ∧ i = .int .i64 k ∧ Hid (CopySt .i32 21 w wr (.slice (some ⟨g, 0, none⟩) k sc) xs k)) (fun _ i _ => n - (intOf i).toNat)
  case atStart => exact ⟨0, _, 0, Nat.zero_le _, rfl, rfl, HS⟩
  case round =>
    obtain ⟨k, g, sc, hk, rfl, rfl, HQ⟩ := hrel
    by_cases hlt : k < n
    · have hk1 : (k : Int) < (n : Int) := by omega
      have hkx : k < xs.length := by rw [HN.out]; exact hlt
      obtain ⟨b, off, rfl, hb, hcell⟩ := HX.out (by omega)
      obtain ⟨x, hxx⟩ : ∃ x, x = xs.getD k 0 := ⟨_, rfl⟩
      have hcx : wr.cell? ⟨b, off + k, none⟩ = some (.int .i32 x) := by
        rw [hxx]; exact (HQ.out.below.cell (p := ⟨b, off + k, none⟩) hb).trans (hcell k hkx)
      have HXX := Hid.mk hxx
      have hown := HQ.out.own
      have HKX := Hid.mk hkx
      have hsz := HQ.out.below.size
      clear hcell hxx hkx
      go_wp2_with (at_builtin; refine wpList_append_own _ rfl _ _ 25 rfl w.heap.size 21 i0 (.int .i32 0) 1 4 Tryz.underlying25 hi0 hz0 hz1 hz2 rfl (by decide) _ _ _ rfl (hown.alloc _) ⟨wr.heap.size, 0, none⟩ 1 1 [.int .i32 x] rfl rfl (by intro j u hj; match j, hj with | 0, hj => simp at hj; subst hj; simp [Addr.add]) (by intro u hu; simp at hu; subst hu; rfl) (by unfold maxLen; omega) (by omega) (by simp; omega) ?_)
      intro v1 w1 hown1 hgrow1 hnn
      obtain ⟨g1, sc1, hv1⟩ := own_any hown1 (Nat.succ_pos _)
      have HN1 : Hid (CopySt .i32 21 w w1 v1 xs (k + 1)) := HQ.out.next HKX.out (by rw [← HXX.out]; exact hown1) hgrow1
      have hv2 : v1 = .slice (some ⟨g1, 0, none⟩) (k + 1) sc1 := hv1
      subst hv2
      clear hown1 hgrow1 hnn hown hcx hv1
      go_wp2_with fail
      go_roundw
      case rel => exact ⟨k + 1, g1, sc1, by omega, rfl, by go_num, HN1⟩
      case measure => simp [intOf]; omega
    · have hk1 : ¬ (k : Int) < (n : Int) := by omega
      have hkn : k = n := by omega
      subst hkn
      have HF : Hid (Head .i32 wr g k sc xs) := by
        have := HQ.out.own
        rw [List.take_of_length_le (by rw [HN.out]; exact Nat.le_refl _)] at this
        exact own_head this
      go_wp2_with fail
      go_ret
      exact ⟨g, sc, rfl, HF, HQ.out.below⟩

set_option maxRecDepth 100000 in
set_option maxHeartbeats 1600000 in
theorem w_IsRune (x : Int) (w : World) :
    Calls Tryz.prog 57 #[.int .i64 x] w fun e w' => e = .returned (.bool (Lib.validRune x)) ∧ w' = w := by
  have HV : Hid (Lib.validRune x = decide ((0 ≤ x ∧ x < 0xD800) ∨ (0xDFFF < x ∧ x ≤ 0x10FFFF))) := rfl
  rcases (show x < 0 ∨ (0 ≤ x ∧ ¬ x ≤ 1114111) ∨ (0 ≤ x ∧ x ≤ 1114111 ∧ x < 55296) ∨ (0 ≤ x ∧ x ≤ 1114111 ∧ ¬ x < 55296 ∧ 57343 < x) ∨ (0 ≤ x ∧ x ≤ 1114111 ∧ ¬ x < 55296 ∧ ¬ 57343 < x) by omega) with h | ⟨h, h1⟩ | ⟨h, h1, h2⟩ | ⟨h, h1, h2, h3⟩ | ⟨h, h1, h2, h3⟩
  · have HF : Hid (Lib.validRune x = false) := by show _ = _; rw [HV.out]; exact decide_eq_false (by omega)
    have h' : ¬ 0 ≤ x := by omega
    go_enter Tryz.func57, Tryz.ntmps57
    go_wp2_with fail
    go_ret
    exact ⟨by rw [HF.out]; rfl, rfl⟩
  · have HF : Hid (Lib.validRune x = false) := by show _ = _; rw [HV.out]; exact decide_eq_false (by omega)
    go_enter Tryz.func57, Tryz.ntmps57
    go_wp2_with fail
    go_ret
    exact ⟨by rw [HF.out]; rfl, rfl⟩
  · have HF : Hid (Lib.validRune x = true) := by show _ = _; rw [HV.out]; exact decide_eq_true (by omega)
    go_enter Tryz.func57, Tryz.ntmps57
    go_wp2_with fail
    go_ret
    exact ⟨by rw [HF.out]; rfl, rfl⟩
  · have HF : Hid (Lib.validRune x = true) := by show _ = _; rw [HV.out]; exact decide_eq_true (by omega)
    go_enter Tryz.func57, Tryz.ntmps57
    go_wp2_with fail
    go_ret
    exact ⟨by rw [HF.out]; rfl, rfl⟩
  · have HF : Hid (Lib.validRune x = false) := by show _ = _; rw [HV.out]; exact decide_eq_false (by omega)
    go_enter Tryz.func57, Tryz.ntmps57
    go_wp2_with fail
    go_ret
    exact ⟨by rw [HF.out]; rfl, rfl⟩

theorem txt_rn (xs : List Int) : (xs.flatMap fun z => enc (rn z)) = txt (xs.map rn) := by
  unfold txt; rw [List.flatMap_map]
theorem map_rn_isR (xs : List Int) : ∀ z ∈ xs.map rn, isR z := by
  intro z hz
  obtain ⟨x, _, rfl⟩ := List.mem_map.1 hz
  exact rn_isR x
theorem get_rn (xs : List Int) (i : Nat) (h : i < xs.length) : (toI (xs.map rn)).getD i 0 = if Lib.validRune (xs.getD i 0) then xs.getD i 0 else 65533 := by
  rw [toI_get, List.getD_eq_getElem?_getD, List.getElem?_map, List.getElem?_eq_getElem h, List.getD_eq_getElem?_getD, List.getElem?_eq_getElem h]
  show ((rn xs[i] : Nat) : Int) = if Lib.validRune xs[i] then xs[i] else 65533
  unfold rn
  cases hv : Lib.validRune xs[i] with
  | true =>
    have hv' : decide ((0 ≤ xs[i] ∧ xs[i] < 0xD800) ∨ (0xDFFF < xs[i] ∧ xs[i] ≤ 0x10FFFF)) = true := hv
    have := of_decide_eq_true hv'
    simp only [if_true]
    omega
  | false => rfl
end Go.Proofs.YtbfjpmbninlbbabGreatDoor
namespace Go.Proofs.YtbfjpmbninlbbabGreatDoor
open Go.RowKit
set_option linter.unusedVariables false
set_option linter.unusedSimpArgs false

set_option maxHeartbeats 800000 in
theorem w_Size (n : Nat) (w : World) (hn : n ≤ 1114111) :
    Calls Tryz.prog 62 #[.int .i64 (n : Int)] w fun e w' => e = .returned (.int .i64 ((enc n).length : Int)) ∧ w' = w := by
  by_cases h1 : n < 0x80
  · have HL : Hid ((enc n).length = 1) := by show _ = _; unfold enc; rw [if_pos h1]; rfl
    have q1 : (n : Int) < 128 := by omega
    clear h1
    go_enter Tryz.func62, Tryz.ntmps62
    go_wp2_with fail
    go_ret
    exact ⟨by rw [HL.out]; rfl, rfl⟩
  by_cases h2 : n < 0x800
  · have HL : Hid ((enc n).length = 2) := by show _ = _; unfold enc; rw [if_neg h1, if_pos h2]; rfl
    have q1 : ¬ (n : Int) < 128 := by omega
    have q2 : (n : Int) < 2048 := by omega
    clear h1 h2
    go_enter Tryz.func62, Tryz.ntmps62
    go_wp2_with fail
    go_ret
    exact ⟨by rw [HL.out]; rfl, rfl⟩
  by_cases h3 : n < 0x10000
  · have HL : Hid ((enc n).length = 3) := by show _ = _; unfold enc; rw [if_neg h1, if_neg h2, if_pos h3]; rfl
    have q2 : ¬ (n : Int) < 2048 := by omega
    have q1 : ¬ (n : Int) < 128 := by omega
    have q3 : (n : Int) < 65536 := by omega
    clear h1 h2 h3
    go_enter Tryz.func62, Tryz.ntmps62
    go_wp2_with fail
    go_ret
    exact ⟨by rw [HL.out]; rfl, rfl⟩
  · have HL : Hid ((enc n).length = 4) := by show _ = _; unfold enc; rw [if_neg h1, if_neg h2, if_neg h3]; rfl
    have q1 : ¬ (n : Int) < 128 := by omega
    have q2 : ¬ (n : Int) < 2048 := by omega
    have q3 : ¬ (n : Int) < 65536 := by omega
    clear h1 h2 h3
    go_enter Tryz.func62, Tryz.ntmps62
    go_wp2_with fail
    go_ret
    exact ⟨by rw [HL.out]; rfl, rfl⟩
end Go.Proofs.YtbfjpmbninlbbabGreatDoor
