import Derived.Test.YtfcbeohkhljboaeDoorRO1
namespace Go.Proofs.YtfcbeohkhljboaeDoor
open Go.RowKit
set_option linter.unusedVariables false
set_option linter.unusedSimpArgs false

/-- the first cells of a row -/
structure RRow (w : World) (g n : Nat) (zs : List Int) : Prop where
  len : zs.length = n
  lt : g < w.heap.size
  cell : ∀ j, j < n → w.cell? ⟨g, j, none⟩ = some (.int .i32 (zs.getD j 0))
  free : ∀ j, w.frozen? ⟨g, j, none⟩ = false

theorem OwnR.row {w : World} {base g n cap : Nat} {xs : List Int} (h : OwnR w base g n cap xs) : RRow w g n xs := by
  obtain ⟨h1, h2, h3, h4⟩ := h.head
  refine ⟨h1, h3, h4, fun j => ?_⟩
  rcases h.2.2 with ⟨e, _⟩ | ⟨g', cap', cur, e, _, hg, _⟩
  · cases e
  · cases e; exact frozen_of_row w g j _ _ hg
theorem RRow.keep {w w' : World} {g n : Nat} {zs : List Int} (h : RRow w g n zs) (hb : Below w.heap.size w w') : RRow w' g n zs :=
  ⟨h.len, Nat.lt_of_lt_of_le h.lt hb.size, fun j hj => (hb.cell (p := ⟨g, j, none⟩) h.lt).trans (h.cell j hj), fun j => (hb.frozen (p := ⟨g, j, none⟩) h.lt).trans (h.free j)⟩
theorem RRow.set {w : World} {g n : Nat} {zs : List Int} (h : RRow w g n zs) (i : Nat) (hi : i < n) (x : Int) : RRow (w.setCell ⟨g, i, none⟩ (.int .i32 x)) g n (zs.set i x) := by
  refine ⟨by rw [List.length_set]; exact h.len, by simp; exact h.lt, fun j hj => ?_, fun j => by rw [World.frozen?_setCell]; exact h.free j⟩
  by_cases he : i = j
  · subst he
    rw [World.cell?_setCell_same _ _ _ (h.cell i hi)]
    simp [List.getD, h.len, hi]
  · rw [World.cell?_setCell_other _ _ _ _ (by simp <;> omega), h.cell j hj]
    simp [List.getD, he]
theorem RRow.ints {w : World} {g n cap : Nat} {zs : List Int} (h : RRow w g n zs) (hc : n ≤ cap) : Ints .i32 w (.slice (some ⟨g, 0, none⟩) n cap) zs := by
  refine ⟨some ⟨g, 0, none⟩, cap, by rw [h.len], by rw [h.len]; exact hc, fun hp => ⟨g, 0, rfl, h.lt, fun i hi => ?_⟩⟩
  rw [Nat.zero_add]; exact h.cell i (by rw [← h.len]; exact hi)
theorem RRow.text {w : World} {g n : Nat} {zs : List Int} (cap : Nat) (h : RRow w g n zs) : Calls Tryd.prog 10 #[.slice (some ⟨g, 0, none⟩) n cap] w fun e w' => e = .returned (.string ⟨(rtxt zs).toArray⟩) ∧ w' = w :=
  w_Text g n cap zs w h.len (fun j hj => h.cell j (by rw [← h.len]; exact hj))

theorem marked_front (xs : List Int) (k i : Nat) (h : i < xs.length) : (marked xs k).getD i 0 = xs.getD i 0 := by
  simp [marked, List.getD, List.getElem?_append_left h]
theorem marked_back (xs : List Int) (k i : Nat) (h : xs.length ≤ i) (hi : i < xs.length + k) : (marked xs k).getD i 0 = 1000000 + ((i - xs.length : Nat) : Int) := by
  simp only [marked, List.getD, List.getElem?_append_right h, List.getElem?_map]
  rw [List.getElem?_range (by omega)]; rfl

/-- the list while it is written over -/
def mixed (xs ys : List Int) (i : Nat) : List Int := ys.take i ++ xs.drop i
theorem mixed_set (xs ys : List Int) (i : Nat) (h : i < xs.length) (hy : i < ys.length) : (mixed xs ys i).set i (ys.getD i 0) = mixed xs ys (i + 1) := by
  unfold mixed
  have hl : (ys.take i).length = i := by rw [List.length_take]; omega
  rw [List.set_append_right _ _ (by omega), hl, Nat.sub_self, List.drop_eq_getElem_cons h, List.set_cons_zero, List.take_succ_eq_append_getElem hy, List.append_assoc]
  simp [List.getD, hy]

theorem mixed_len (xs ys : List Int) (i : Nat) (h : i ≤ xs.length) (hy : i ≤ ys.length) : (mixed xs ys i).length = xs.length := by
  unfold mixed; rw [List.length_append, List.length_take, List.length_drop]; omega
theorem mixed_get (xs ys : List Int) (i j : Nat) (h : i ≤ xs.length) (hy : i ≤ ys.length) (hj : j < xs.length) : (mixed xs ys i).getD j 0 = if j < i then ys.getD j 0 else xs.getD j 0 := by
  unfold mixed
  have hl : (ys.take i).length = i := by rw [List.length_take]; omega
  split
  · rename_i hlt
    simp only [List.getD]
    rw [List.getElem?_append_left (by omega), List.getElem?_take_of_lt hlt]
  · rename_i hlt
    simp only [List.getD]
    rw [List.getElem?_append_right (by omega), hl, List.getElem?_drop]
    congr 2; congr 1; omega
theorem RRow.front {w : World} {g n k : Nat} {xs : List Int} (h : RRow w g (n + k) (marked xs k)) (hn : xs.length = n) : RRow w g n xs :=
  ⟨hn, h.lt, fun j hj => by rw [h.cell j (by omega), marked_front xs k j (by omega)], h.free⟩

structure RoSt (w3 wr : World) (base g n : Nat) (zs : List Int) : Prop where
  row : RRow wr g n zs
  below : Below base w3 wr
  size : w3.heap.size ≤ wr.heap.size

set_option maxRecDepth 100000 in
set_option maxHeartbeats 4000000 in
theorem w_UtfReadOnly (v0 v1 : Value) (xs ys : List Int) (w : World) (hv : Ints .i32 w v0 xs) (hu : Ints .i32 w v1 ys) (hr : ∀ i, i < xs.length → -2147483648 ≤ xs.getD i 0 ∧ xs.getD i 0 ≤ 2147483647) (hs : ∀ i, i < ys.length → -2147483648 ≤ ys.getD i 0 ∧ ys.getD i 0 ≤ 2147483647)
    (hl : xs.length ≤ 1048576) (hm : ys.length ≤ 1048576) :
    Calls Tryd.prog 3 #[v0, v1] w fun e w' => e = .returned (.bool true) ∧ Below w.heap.size w w' := by
  have HV := Hid.mk hv
  have HU := Hid.mk hu
  have HR := Hid.mk hr
  have HSR := Hid.mk hs
  obtain ⟨n, hn⟩ : ∃ n, xs.length = n := ⟨_, rfl⟩
  obtain ⟨m, hmm⟩ : ∃ m, ys.length = m := ⟨_, rfl⟩
  obtain ⟨ao, cap0, rfl, hc, hx⟩ := hv
  obtain ⟨bo, cap1, rfl, hc1, hy⟩ := hu
  have HX := Hid.mk hx
  have HY := Hid.mk hy
  rw [hn] at hc hl HX HV ⊢
  rw [hmm] at hc1 hm HY HU ⊢
  have HN := Hid.mk hn
  have HMM := Hid.mk hmm
  clear hx hy hr hs hn hmm
  go_enter Tryd.func3, Tryd.ntmps3
  go_wp2_with fail
  refine (w_fixed _).mono ?_
  rintro e w1 ⟨rfl, hb1⟩
  have HB1 := Hid.mk hb1
  clear hb1
  go_wp2_with fail
  refine (w_twinO _ xs n w1 (HV.out.keep HB1.out) HN.out (by omega)).mono ?_
  rintro e w2 ⟨g, cap, rfl, HG, hb2⟩
  have hsz12 := hb2.size
  have HB2 := Hid.mk (below_more HB1.out hb2)
  clear hb2
  go_wp2_with fail
  refine (w_grownRunes w1.heap.size g n cap xs w2 HG.out hsz12 (by omega)).mono ?_
  rintro e w3 ⟨g', cap', rfl, HG3, hb3⟩
  have HB3 : Hid (Below w.heap.size w w3) := HB2.out.trans (hb3.mono HB1.out.size)
  have hb1s := HB1.out.size
  have hb3s := hb3.size
  have HR3 := Hid.mk HG3.out.row
  have hcap : n + 17 ≤ cap' := HG3.out.head.2.1
  have HGB : Hid (w1.heap.size ≤ g') := by
    rcases HG3.out.2.2 with ⟨e, _⟩ | ⟨g2, c2, cur, e, hb, _⟩
    · cases e
    · cases e; exact hb
  clear hb3 HG
  go_wp2_with fail
  have hnum := w_numbers _ xs w3 (HV.out.keep HB3.out) HR.out (by rw [HN.out]; omega)
  unfold ListR at hnum
  rw [HN.out] at hnum
  refine hnum.mono ?_
  clear hnum
  rintro e w4 ⟨so, sc, rfl, HI4, hb4⟩
  have HB4 := Hid.mk (below_more HB3.out hb4)
  have HR4 := Hid.mk (HR3.out.keep hb4)
  have hb4s := hb4.size
  clear hb4
  go_wp2_with fail
  refine (w_refText _ xs w4 HI4.out (by rw [HN.out]; omega)).mono ?_
  rintro e w5 ⟨rfl, hb5⟩
  have HB5 := Hid.mk (below_more HB4.out hb5)
  have HR5 := Hid.mk (HR4.out.keep hb5)
  have hb5s := hb5.size
  clear hb5 HI4
  have HT5 : Hid (Calls Tryd.prog 10 #[.slice (some ⟨g', 0, none⟩) n cap'] w5 fun e w' => e = .returned (.string ⟨(rtxt xs).toArray⟩) ∧ w' = w5) := (HR5.out.front HN.out).text cap'
  generalize (⟨(rtxt xs).toArray⟩ : ByteArray) = T at HT5 ⊢
  have hTT : (T.toList == T.toList) = true := by simp
  go_wp2_with fail
  refine HT5.out.mono ?_
  rintro e w6 ⟨rfl, hw⟩
  obtain rfl := hw.symm
  go_wp2_with fail
  refine HT5.out.mono ?_
  rintro e w6 ⟨rfl, hw⟩
  obtain rfl := hw.symm
  go_wp2_with fail
  go_loopw [8] (fun i wr => ∃ k : Nat, k ≤ n + 17 ∧ i = .int .i64 k ∧ w5 = wr) (fun i _ => n + 17 - (intOf i).toNat)
  case atStart => exact ⟨0, by omega, rfl, rfl⟩
  case round =>
    obtain ⟨k, hk, rfl, rfl⟩ := hrel
    by_cases hlt : k < n + 17
    · have hk1 : (k : Int) < (n : Int) + 17 := by omega
      have cK := HR5.out.cell k hlt
      by_cases hkn : k < n
      · have hk2 : (k : Int) < (n : Int) := by omega
        rw [marked_front xs 17 k (by rw [HN.out]; exact hkn)] at cK
        obtain ⟨b, off, hao, hb, hcell⟩ := HX.out (by omega)
        have cL := (HB5.out.cell (p := ⟨b, off + k, none⟩) hb).trans (hcell k hkn)
        generalize xs.getD k 0 = x at cK cL
        have hxx : (x != x) = false := by simp
        subst hao
        clear hcell
        go_wp2_with fail
        go_roundw
        case rel => exact ⟨k + 1, by omega, by go_num, trivial⟩
        case measure => simp [intOf]; omega
      · have hk2 : ¬ (k : Int) < (n : Int) := by omega
        rw [marked_back xs 17 k (by rw [HN.out]; omega) (by rw [HN.out]; omega), HN.out] at cK
        obtain ⟨j, rfl⟩ : ∃ j, k = n + j := ⟨k - n, by omega⟩
        rw [show n + j - n = j by omega] at cK
        go_wp2_with fail
        go_roundw
        case rel => exact ⟨n + j + 1, by omega, by go_num, trivial⟩
        case measure => simp [intOf]; omega
    · have hk1 : ¬ (k : Int) < (n : Int) + 17 := by omega
      have HS0 : Hid (RoSt w5 w5 w1.heap.size g' n (mixed xs ys 0)) := ⟨by have := HR5.out.front HN.out; simpa [mixed] using this, Below.refl _ _, Nat.le_refl _⟩
      clear hlt
      go_wp2_with fail
      go_loopw [10] (fun i wr => ∃ k : Nat, k ≤ n ∧ k ≤ m ∧ i = .int .i64 k ∧ Hid (RoSt w5 wr w1.heap.size g' n (mixed xs ys k))) (fun i _ => n - (intOf i).toNat)
      case atStart => exact ⟨0, by omega, by omega, rfl, HS0⟩
      case round =>
        obtain ⟨k, hkn, hkm, rfl, HQ⟩ := hrel
        by_cases hlt : k < n ∧ k < m
        · have hk1 : (k : Int) < (n : Int) := by omega
          have hk2 : (k : Int) < (m : Int) := by omega
          obtain ⟨b, off, hbo, hb, hcell⟩ := HY.out (by omega)
          have cY := (HQ.out.below.cell (p := ⟨b, off + k, none⟩) (by show b < _; omega)).trans ((HB5.out.cell (p := ⟨b, off + k, none⟩) hb).trans (hcell k hlt.2))
          have cX := HQ.out.row.cell k hlt.1
          have fX := HQ.out.row.free k
          have HN1 : Hid (RoSt w5 (wr.setCell ⟨g', k, none⟩ (.int .i32 (ys.getD k 0))) w1.heap.size g' n (mixed xs ys (k + 1))) := by
            refine ⟨?_, HQ.out.below.setCell (p := ⟨g', k, none⟩) HGB.out _, by simp; exact HQ.out.size⟩
            have h1 := HQ.out.row.set k hlt.1 (ys.getD k 0)
            rw [mixed_set xs ys k (by rw [HN.out]; exact hlt.1) (by rw [HMM.out]; exact hlt.2)] at h1
            exact h1
          generalize ys.getD k 0 = y at cY HN1
          generalize (mixed xs ys k).getD k 0 = x at cX
          subst hbo
          clear hcell
          go_wp2_with fail
          go_roundw
          case rel => exact ⟨k + 1, by omega, by omega, by go_num, HN1⟩
          case measure => simp [intOf]; omega
        · have hsp : ¬ (k : Int) < (n : Int) ∨ ((k : Int) < (n : Int) ∧ ¬ (k : Int) < (m : Int)) := by omega
          obtain ⟨zs, hz⟩ : ∃ zs, zs = mixed xs ys k := ⟨_, rfl⟩
          have HZR : Hid (∀ i, i < zs.length → -2147483648 ≤ zs.getD i 0 ∧ zs.getD i 0 ≤ 2147483647) := by
            intro i hi
            have h1 := mixed_len xs ys k (by rw [HN.out]; omega) (by rw [HMM.out]; omega)
            rw [hz] at hi ⊢
            rw [mixed_get xs ys k i (by rw [HN.out]; omega) (by rw [HMM.out]; omega) (by omega)]
            split
            · exact HSR.out i (by rw [HMM.out]; omega)
            · exact HR.out i (by omega)
          rw [← hz] at HQ
          have HBw : Hid (Below w.heap.size w wr) := HB5.out.trans (HQ.out.below.mono hb1s)
          clear hz
          rcases hsp with hk1 | ⟨hk1, hk2⟩
          all_goals
            go_wp2_with fail
            have hnum := w_numbers _ zs wr (HQ.out.row.ints (cap := cap') (by omega)) HZR.out (by rw [HQ.out.row.len]; omega)
            unfold ListR at hnum
            rw [HQ.out.row.len] at hnum
            refine hnum.mono ?_
            clear hnum
            rintro e w7 ⟨to, tc, rfl, HI7, hb7⟩
            have HB7 := Hid.mk (below_more HBw.out hb7)
            have HR7 := Hid.mk (HQ.out.row.keep hb7)
            clear hb7
            go_wp2_with fail
            refine (w_refText _ zs w7 HI7.out (by rw [HQ.out.row.len]; omega)).mono ?_
            rintro e w8 ⟨rfl, hb8⟩
            have HB8 := Hid.mk (below_more HB7.out hb8)
            have HR8 := Hid.mk (HR7.out.keep hb8)
            clear hb8
            have HT8 : Hid (Calls Tryd.prog 10 #[.slice (some ⟨g', 0, none⟩) n cap'] w8 fun e w' => e = .returned (.string ⟨(rtxt zs).toArray⟩) ∧ w' = w8) := HR8.out.text cap'
            generalize (⟨(rtxt zs).toArray⟩ : ByteArray) = U at HT8 ⊢
            go_wp2_with fail
            refine HT8.out.mono ?_
            rintro e w9 ⟨rfl, hw⟩
            obtain rfl := hw.symm
            go_wp2_with fail
            go_ret
            exact ⟨by simp, HB8.out⟩
end Go.Proofs.YtfcbeohkhljboaeDoor
