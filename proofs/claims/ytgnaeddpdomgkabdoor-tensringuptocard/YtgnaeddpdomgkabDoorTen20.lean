import Derived.Test.YtgnaeddpdomgkabDoorTen19
namespace Go.Proofs.YtgnaeddpdomgkabDoor
open Go.RowKit
set_option linter.unusedVariables false
set_option linter.unusedSimpArgs false

set_option maxRecDepth 100000 in
set_option maxHeartbeats 1600000 in
theorem w_text (bl : Bool) (v : Value) (zs : List Nat) (w : World) (hg : Got w v zs) (hz : zs.length ≤ 17179869184) (htab : Tab w) :
    Calls Tryd.prog 27 #[.agg #[.bool bl, v]] w fun e w' => ∃ r : ByteArray, e = .returned (.string r) ∧ Pl.formed r.data.toList = true ∧ Pl.ival r.data.toList = sgn bl (Pl.val 1000000000 zs) ∧ Below w.heap.size w w' := by
  obtain ⟨i0, hi0, hz0, hz1, hz2⟩ := info_parts Tryd.infoB
  have HG := Hid.mk hg
  have HT := Hid.mk htab
  rcases hg.1.open' with ⟨rfl, ao, cap, rfl, hblk⟩ | ⟨hp, b, off, cap, rfl, hc, hlt, hcell⟩
  · have hv : Hid (Pl.ival [48] = sgn bl (Pl.val 1000000000 [])) := by show _ = _; cases bl <;> rfl
    clear hg htab
    go_enter Tryd.func27, Tryd.ntmps27
    go_wp2
    go_ret
    exact ⟨⟨#[48]⟩, rfl, rfl, hv.out, (Below.refl _ _).alloc (Nat.le_refl _) _⟩
  · obtain ⟨m, hm⟩ : ∃ m, zs.length = m + 1 := ⟨zs.length - 1, by omega⟩
    have HM := Hid.mk hm
    rw [hm] at hcell hz hc ⊢
    have HCell := Hid.mk hcell
    have hmk := fun (u : World) => run_make_bytes (9 * (m + 1) + 1) (((m : Int) + 1) * 9 + 1) (by omega) (by omega) u
    obtain ⟨u, hu⟩ : ∃ u, u = zs.getD m 0 := ⟨_, rfl⟩
    have c0 := hcell m (by omega)
    rw [← hu] at c0
    have HU := Hid.mk hu
    have hul : u < 1000000000 := by rw [hu]; exact Pl.dig_getD (by decide) hg.2.1 m
    have hne : ((m : Int) + 1 == 0) = false := by rw [beq_eq_false_iff_ne]; omega
    clear hg htab hcell hm hp hu
    cases bl
    · go_enter Tryd.func27, Tryd.ntmps27
      go_wp2_with fail
      have hown0 := own_bytes (box w false (.slice (some ⟨b, off, none⟩) (m + 1) cap)) (9 * (m + 1) + 1) (by omega)
      rw [box_size] at hown0
      have htb := (HT.out.keep (box_below w false (.slice (some ⟨b, off, none⟩) (m + 1) cap))).keep ((Below.refl _ _).alloc (Nat.le_refl _) (brow (9 * (m + 1) + 1)))
      refine (w_AppendUint (w.heap.size + 1) 0 u hul _ (Lib.byteCells []) _ hown0 (by simp [box_size]) (by omega) htb).mono ?_
      rintro e w3 ⟨v3, rfl, hown3, hb3⟩
      rw [← box_size w false (.slice (some ⟨b, off, none⟩) (m + 1) cap)] at hown3 hb3
      obtain ⟨g, cap3, N, hv3, hst⟩ := TxtSt.start (w1 := (box w false (.slice (some ⟨b, off, none⟩) (m + 1) cap))) (w2 := (box w false (.slice (some ⟨b, off, none⟩) (m + 1) cap)).alloc (brow (9 * (m + 1) + 1))) (bl := false) (zs := zs) (k := m) (l := []) (n := 0) rfl rfl HM.out HU.out.symm HG.out.2.2 HG.out.2.1 hown3 ((Below.refl (box w false (.slice (some ⟨b, off, none⟩) (m + 1) cap)).heap.size (box w false (.slice (some ⟨b, off, none⟩) (m + 1) cap))).alloc (Nat.le_refl _) _) hb3
      have HSt := Hid.mk hst
      subst hv3
      clear hown3 hb3 hst c0 hmk hown0 htb
      go_wp2_with fail
      go_loopw [3, 5] (fun o i wr => ∃ (k g n cp : Nat), k ≤ m ∧ o = .slice (some ⟨g, 0, none⟩) n cp ∧ i = .int .i64 ((k : Int) - 1) ∧ Hid (TxtSt (box w false (.slice (some ⟨b, off, none⟩) (m + 1) cap)) wr g n cp false zs k)) (fun _ i _ => (intOf i + 1).toNat)
      case atStart => exact ⟨m, g, N, cap3, Nat.le_refl _, rfl, int_eq (by omega), HSt⟩
      case round =>
        obtain ⟨k, g, n, cp, hk, rfl, rfl, HS⟩ := hrel
        cases k with
        | zero =>
          obtain ⟨r, hcv, hf, hi⟩ := HS.out.conv
          have HF : Hid (Pl.formed r.data.toList = true ∧ Pl.ival r.data.toList = sgn false (Pl.val 1000000000 zs) ∧ Below w.heap.size w wr) := by
            obtain ⟨l, h1, h2, h3, h4, h5⟩ := HS.out.out
            exact ⟨hf, hi, (box_below _ _ _).trans (h4.mono (by rw [box_size]; omega))⟩
          clear hf hi
          go_wp2_with fail
          go_ret
          exact ⟨r, rfl, HF.out⟩
        | succ k =>
          obtain ⟨l, h1, h2, h3, h4, h5⟩ := HS.out.out
          obtain ⟨x, hx⟩ : ∃ x, x = zs.getD k 0 := ⟨_, rfl⟩
          have hxl : x < 1000000000 := by rw [hx]; exact Pl.dig_getD (by decide) HG.out.2.1 k
          have cb : wr.cell? ⟨w.heap.size, 1, none⟩ = some (.slice (some ⟨b, off, none⟩) (m + 1) cap) := by
            rw [h4.cell (p := ⟨w.heap.size, 1, none⟩) (by rw [box_size]; exact Nat.lt_succ_self _)]
            exact box_cell _ _ _
          have cd : wr.cell? ⟨b, off + k, none⟩ = some (.int .u64 (x : Int)) := by
            rw [h4.cell (p := ⟨b, off + k, none⟩) (by rw [box_size]; show b < _; omega), hx, ← HCell.out k (by omega)]
            exact World.cell?_alloc_lt _ _ _ hlt
          have hlw : (box w false (.slice (some ⟨b, off, none⟩) (m + 1) cap)).heap.size ≤ wr.heap.size := h4.size
          have H2 := Hid.mk h2
          have H4 := Hid.mk h4
          have HX := Hid.mk hx
          have hml := HM.out
          have hki : (k : Int) < (m : Int) + 1 := by omega
          have hk0 : (0 : Int) ≤ (k : Int) := by omega
          clear h2 h4 hx
          rw [show ((k + 1 : Nat) : Int) - 1 = (k : Int) by omega]
          go_wp2_with fail
          refine (w_writeGroup (box w false (.slice (some ⟨b, off, none⟩) (m + 1) cap)).heap.size _ l n x wr h3 h1 hlw (by omega) hxl).mono ?_
          rintro e wn ⟨vn, rfl, hw⟩
          obtain ⟨g', cap', hvn, hstn⟩ := TxtSt.step h1 H2.out H4.out h5 (by omega) HX.out.symm hw
          have HStn := Hid.mk hstn
          subst hvn
          clear hw hstn
          go_wp2_with fail
          go_roundw
          case measure => simp [intOf]
          exact ⟨k, g', n + 9, cap', by omega, rfl, int_eq (by omega), HStn⟩
    · go_enter Tryd.func27, Tryd.ntmps27
      have hown0 := own_bytes (box w true (.slice (some ⟨b, off, none⟩) (m + 1) cap)) (9 * (m + 1) + 1) (by omega)
      rw [box_size] at hown0
      go_wp2_with (at_builtin; refine wpList_append_own _ rfl _ _ 57 rfl (w.heap.size + 1) 5 i0 (.int .u8 0) 1 1 Tryd.underlying57 hi0 hz0 hz1 hz2 rfl (by decide) _ _ _ rfl (hown0.alloc _) ⟨w.heap.size + 2, 0, none⟩ 1 1 [.int .u8 45] rfl rfl (World.news_of_block (cs := #[.int .u8 45]) (t := 5) (fr := (0, 0)) (by have h := heap_alloc_new ((box w true (.slice (some ⟨b, off, none⟩) (m + 1) cap)).alloc (brow (9 * (m + 1) + 1))) (.cells #[.int .u8 45] 5); rw [World.size_alloc, box_size] at h; exact h)) (by intro u hu; simp at hu; subst hu; rfl) (by unfold maxLen; omega) (by omega) (by simp [box]) ?_)
      intro v4 w4 hown4 hgrow4 _
      have hb4 : Below (w.heap.size + 1) (box w true (.slice (some ⟨b, off, none⟩) (m + 1) cap)) w4 := (((Below.refl (w.heap.size + 1) (box w true (.slice (some ⟨b, off, none⟩) (m + 1) cap))).alloc (by rw [box_size]; omega) (brow (9 * (m + 1) + 1))).alloc (by simp [box]) _).grown hgrow4 (by simp [box]) (own_base hown0)
      rw [← box_size w true (.slice (some ⟨b, off, none⟩) (m + 1) cap)] at hb4
      have HB4 := Hid.mk hb4
      have c4 : w4.cell? ⟨b, off + m, none⟩ = some (.int .u64 (u : Int)) := by
        rw [hb4.cell (p := ⟨b, off + m, none⟩) (by rw [box_size]; show b < _; omega), ← c0]
        exact World.cell?_alloc_lt _ _ _ hlt
      have cb4 : w4.cell? ⟨w.heap.size, 1, none⟩ = some (.slice (some ⟨b, off, none⟩) (m + 1) cap) := by
        rw [hb4.cell (p := ⟨w.heap.size, 1, none⟩) (by rw [box_size]; exact Nat.lt_succ_self _)]
        exact box_cell _ _ _
      have htb := (HT.out.keep (box_below w true (.slice (some ⟨b, off, none⟩) (m + 1) cap))).keep hb4
      have HTB := Hid.mk htb
      have hsz4 : w.heap.size + 1 ≤ w4.heap.size := by have := hb4.size; rw [box_size] at this; exact this
      obtain ⟨g4, cap4, hv4⟩ := own_some hown4 (by omega)
      have HO4 := Hid.mk hown4
      subst hv4
      clear hb4 htb hgrow4 hown4 hown0
      go_wp2_with fail
      refine (w_AppendUint (w.heap.size + 1) 1 u hul _ (Lib.byteCells [45]) _ HO4.out hsz4 (by omega) HTB.out).mono ?_
      rintro e w3 ⟨v3, rfl, hown3, hb3⟩
      rw [← box_size w true (.slice (some ⟨b, off, none⟩) (m + 1) cap)] at hown3 hb3
      obtain ⟨g, cap3, N, hv3, hst⟩ := TxtSt.start (w1 := (box w true (.slice (some ⟨b, off, none⟩) (m + 1) cap))) (w2 := w4) (bl := true) (zs := zs) (k := m) (l := [45]) (n := 1) rfl rfl HM.out HU.out.symm HG.out.2.2 HG.out.2.1 hown3 HB4.out hb3
      have HSt := Hid.mk hst
      subst hv3
      clear hown3 hb3 hst c0 hmk c4 cb4
      go_wp2_with fail
      go_loopw [3, 5] (fun o i wr => ∃ (k g n cp : Nat), k ≤ m ∧ o = .slice (some ⟨g, 0, none⟩) n cp ∧ i = .int .i64 ((k : Int) - 1) ∧ Hid (TxtSt (box w true (.slice (some ⟨b, off, none⟩) (m + 1) cap)) wr g n cp true zs k)) (fun _ i _ => (intOf i + 1).toNat)
      case atStart => exact ⟨m, g, N, cap3, Nat.le_refl _, rfl, int_eq (by omega), HSt⟩
      case round =>
        obtain ⟨k, g, n, cp, hk, rfl, rfl, HS⟩ := hrel
        cases k with
        | zero =>
          obtain ⟨r, hcv, hf, hi⟩ := HS.out.conv
          have HF : Hid (Pl.formed r.data.toList = true ∧ Pl.ival r.data.toList = sgn true (Pl.val 1000000000 zs) ∧ Below w.heap.size w wr) := by
            obtain ⟨l, h1, h2, h3, h4, h5⟩ := HS.out.out
            exact ⟨hf, hi, (box_below _ _ _).trans (h4.mono (by rw [box_size]; omega))⟩
          clear hf hi
          go_wp2_with fail
          go_ret
          exact ⟨r, rfl, HF.out⟩
        | succ k =>
          obtain ⟨l, h1, h2, h3, h4, h5⟩ := HS.out.out
          obtain ⟨x, hx⟩ : ∃ x, x = zs.getD k 0 := ⟨_, rfl⟩
          have hxl : x < 1000000000 := by rw [hx]; exact Pl.dig_getD (by decide) HG.out.2.1 k
          have cb : wr.cell? ⟨w.heap.size, 1, none⟩ = some (.slice (some ⟨b, off, none⟩) (m + 1) cap) := by
            rw [h4.cell (p := ⟨w.heap.size, 1, none⟩) (by rw [box_size]; exact Nat.lt_succ_self _)]
            exact box_cell _ _ _
          have cd : wr.cell? ⟨b, off + k, none⟩ = some (.int .u64 (x : Int)) := by
            rw [h4.cell (p := ⟨b, off + k, none⟩) (by rw [box_size]; show b < _; omega), hx, ← HCell.out k (by omega)]
            exact World.cell?_alloc_lt _ _ _ hlt
          have hlw : (box w true (.slice (some ⟨b, off, none⟩) (m + 1) cap)).heap.size ≤ wr.heap.size := h4.size
          have H2 := Hid.mk h2
          have H4 := Hid.mk h4
          have HX := Hid.mk hx
          have hml := HM.out
          have hki : (k : Int) < (m : Int) + 1 := by omega
          have hk0 : (0 : Int) ≤ (k : Int) := by omega
          clear h2 h4 hx
          rw [show ((k + 1 : Nat) : Int) - 1 = (k : Int) by omega]
          go_wp2_with fail
          refine (w_writeGroup (box w true (.slice (some ⟨b, off, none⟩) (m + 1) cap)).heap.size _ l n x wr h3 h1 hlw (by omega) hxl).mono ?_
          rintro e wn ⟨vn, rfl, hw⟩
          obtain ⟨g', cap', hvn, hstn⟩ := TxtSt.step h1 H2.out H4.out h5 (by omega) HX.out.symm hw
          have HStn := Hid.mk hstn
          subst hvn
          clear hw hstn
          go_wp2_with fail
          go_roundw
          case measure => simp [intOf]
          exact ⟨k, g', n + 9, cap', by omega, rfl, int_eq (by omega), HStn⟩
end Go.Proofs.YtgnaeddpdomgkabDoor
