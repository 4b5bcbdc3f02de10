import Derived.Test.YtdegoefedkidcacDoorV16
namespace Go.Proofs.YtdegoefedkidcacDoor
open Go.RowKit
set_option linter.unusedVariables false
set_option linter.unusedSimpArgs false

set_option maxRecDepth 100000 in
set_option maxHeartbeats 3200000 in
theorem w_UtfBack (v : Value) (xs : List Int) (w : World) (hv : Ints .i32 w v xs) (hr : ∀ i, i < xs.length → -2147483648 ≤ xs.getD i 0 ∧ xs.getD i 0 ≤ 2147483647) (hl : xs.length ≤ 35184372088832) :
    Calls Tryd.prog 5 #[v] w fun e w' => e = .returned (.bool true) ∧ Below w.heap.size w w' := by
  obtain ⟨n, hn⟩ : ∃ n, xs.length = n := ⟨_, rfl⟩
  have HTw : Hid (∀ u, Below w.heap.size w u → _) := fun u (hb : Below w.heap.size w u) => w_twin v xs n u (hv.keep hb) hn (by omega)
  obtain ⟨ao, cap0, rfl, hc, hx⟩ := hv
  have HX := Hid.mk hx
  have HN := Hid.mk hn
  have HR := Hid.mk hr
  obtain ⟨zs, hz⟩ : ∃ zs, zs = xs.map rn := ⟨_, rfl⟩
  have hR := map_rn_isR xs
  rw [← hz] at hR
  have hzn : zs.length = n := by rw [hz, List.length_map]; exact hn
  obtain ⟨t, ht⟩ : ∃ t : ByteArray, t = ⟨(txt zs).toArray⟩ := ⟨_, rfl⟩
  have htl : t.data.toList = txt zs := by rw [ht]
  have hts : t.size ≤ 4 * n := by
    have := txt_len zs; have e : t.size = (txt zs).length := by rw [ht]; simp [ByteArray.size]
    omega
  have HT : Hid (∀ {g cap : Nat} {u : World}, Head .i32 u g n cap xs → Calls Tryd.prog 12 #[.slice (some ⟨g, 0, none⟩) n cap] u fun e w' => e = .returned (.string t) ∧ w' = u) := by
    intro g cap u h
    have := w_Text g n cap xs u h.1 (fun j hj => h.2.2.2 j (by rw [← h.1]; exact hj))
    rw [txt_rn xs, ← hz, ← ht] at this
    exact this
  have HVT : Hid (∀ u, Calls Tryd.prog 14 #[.string t] u fun e w' => e = .returned (.bool true) ∧ Below u.heap.size u w') := by
    intro u
    have h := w_Valid t u (by omega)
    rw [htl, ok_txt zs hR] at h
    exact h
  have HLT : Hid (∀ u, Calls Tryd.prog 13 #[.string t] u fun e w' => e = .returned (.int .i64 (n : Int)) ∧ Below u.heap.size u w') := by
    intro u
    have h := w_Len t u (by omega)
    rw [htl, runes_txt zs hR, hzn] at h
    exact h
  have HRT := Hid.mk (fun u => w_Runes2 t zs n u (by rw [htl]; exact runes_txt zs hR) hzn (by omega))
  have HG0 : Hid (∀ i, i < xs.length → (toI zs).getD i 0 = if Lib.validRune (xs.getD i 0) then xs.getD i 0 else 65533) := by
    intro i hi; rw [hz]; exact get_rn xs i hi
  have hnn : ((n : Int) != (n : Int)) = false := by simp
  rw [hn] at hc hl ⊢
  generalize toI zs = ys at *
  clear hx hn hr hz hR hzn ht htl hts
  go_enter Tryd.func5, Tryd.ntmps5
  go_wp2_with fail
  refine (w_fixed _).mono ?_
  rintro e w1 ⟨rfl, hb1⟩
  have HB1 := Hid.mk hb1
  clear hb1
  go_wp2_with fail
  have hst := HTw.out _ HB1.out
  rw [HN.out] at hst
  refine hst.mono ?_
  rintro e w2 ⟨g, cap, rfl, HG, hb2⟩
  have HB2 := Hid.mk (below_more HB1.out hb2)
  clear hb2 HB1 hst
  go_wp2_with fail
  refine (HT.out HG.out).mono ?_
  rintro e w3 ⟨rfl, hw⟩
  obtain rfl := hw.symm
  go_wp2_with fail
  refine (HVT.out _).mono ?_
  rintro e w4 ⟨rfl, hb4⟩
  have HB4 := Hid.mk (below_more HB2.out hb4)
  clear hb4
  go_wp2_with fail
  refine (HLT.out _).mono ?_
  rintro e w5 ⟨rfl, hb5⟩
  have HB5 := Hid.mk (below_more HB4.out hb5)
  clear hb5
  go_wp2_with fail
  refine (HRT.out _).mono ?_
  rintro e w6 ⟨g', cap', rfl, HG', hb6⟩
  have HB6 := Hid.mk (below_more HB5.out hb6)
  clear hb6 HB5 HB4 HB2 HG HT HVT HLT HRT HTw
  have hcap' := HG'.out.2.1
  go_wp2_with fail
  go_loopw [5, 6] (fun i _ wr => ∃ (k : Nat), k ≤ n ∧ i = .int .i64 k ∧ Hid (Below w6.heap.size w6 wr)) (fun i _ _ => n - (intOf i).toNat)
  case atStart => exact ⟨0, Nat.zero_le _, rfl, Below.refl _ _⟩
  case round =>
    obtain ⟨k, hk, rfl, HQ⟩ := hrel
    have HBW := Hid.mk (below_more HB6.out HQ.out)
    by_cases hlt : k < n
    · have hk1 : (k : Int) < (n : Int) := by omega
      have hkx : k < xs.length := by rw [HN.out]; exact hlt
      obtain ⟨b, off, rfl, hb, hcell⟩ := HX.out (by omega)
      have hc1 := (HBW.out.cell (p := ⟨b, off + k, none⟩) hb).trans (hcell k hkx)
      have hc2 := (HQ.out.cell (p := ⟨g', k, none⟩) HG'.out.2.2.1).trans (HG'.out.2.2.2 k hlt)
      rw [HG0.out k hkx] at hc2
      obtain ⟨hr1, hr2⟩ := HR.out k hkx
      generalize xs.getD k 0 = x at hc1 hc2 hr1 hr2
      clear hcell hkx
      cases hval : Lib.validRune x with
      | true =>
        rw [hval, if_pos rfl] at hc2
        have HI := Hid.mk (fun u => w_IsRune x u)
        rw [hval] at HI
        have hxx : (x != x) = false := by simp
        clear hval
        go_wp2_with fail
        refine (HI.out _).mono ?_
        rintro e w7 ⟨rfl, hw⟩
        obtain rfl := hw.symm
        go_wp2_with fail
        go_roundw
        case rel => exact ⟨k + 1, by omega, by go_num, HQ⟩
        case measure => simp [intOf]; omega
      | false =>
        rw [hval, if_neg (by simp)] at hc2
        have HI := Hid.mk (fun u => w_IsRune x u)
        rw [hval] at HI
        clear hval
        go_wp2_with fail
        refine (HI.out _).mono ?_
        rintro e w7 ⟨rfl, hw⟩
        obtain rfl := hw.symm
        go_wp2_with fail
        go_roundw
        case rel => exact ⟨k + 1, by omega, by go_num, HQ⟩
        case measure => simp [intOf]; omega
    · have hk1 : ¬ (k : Int) < (n : Int) := by omega
      go_wp2_with fail
      go_ret
      exact ⟨rfl, HBW.out⟩
end Go.Proofs.YtdegoefedkidcacDoor
