import Derived.Test.YtfcbeohkhljboacDoorK5
namespace Go.Proofs.YtfcbeohkhljboacDoor
open Go.RowKit
set_option linter.unusedVariables false
set_option linter.unusedSimpArgs false

theorem fnd_at (t : List UInt8) (X : List Nat) {i N : Nat} (hi : i < N) : (fnd t X N)[(fnd t X i).length]? = some i ↔ off t i ∈ X := by
  obtain ⟨m, rfl⟩ : ∃ m, N = (i + 1) + m := ⟨N - (i + 1), by omega⟩
  have hsp : fnd t X (i + 1 + m) = fnd t X (i + 1) ++ ((List.range m).map (i + 1 + ·)).filter fun j => decide (off t j ∈ X) := by
    unfold fnd
    rw [List.range_add, List.filter_append]
  rw [hsp, fnd_up]
  by_cases h : off t i ∈ X
  · rw [if_pos h]
    simp [h]
  · rw [if_neg h, List.append_nil, List.getElem?_append_right (Nat.le_refl _), Nat.sub_self]
    constructor
    · intro hx
      have hm := List.mem_of_getElem? hx
      have hm2 := (List.mem_filter.1 hm).1
      obtain ⟨a, _, ha⟩ := List.mem_map.1 hm2
      omega
    · intro h2; exact absurd h2 h
theorem fnd_le (t : List UInt8) (X : List Nat) {i N : Nat} (hi : i ≤ N) : (fnd t X i).length ≤ (fnd t X N).length := by
  obtain ⟨m, rfl⟩ : ∃ m, N = i + m := ⟨N - i, by omega⟩
  unfold fnd
  rw [List.range_add, List.filter_append, List.length_append]
  omega

/-- what is cut off behind a piece's beginning -/
theorem cut_rest (s : ByteArray) (i N : Nat) (hi : i < N) (hN : N = (runes s.data.toList).length) : cutS s (i : Int) (N : Int) = s.extract (off s.data.toList i) s.size := by
  unfold cutS
  rw [if_neg (by omega)]
  have e1 : ((max (i : Int) 0)).toNat = i := by omega
  have e2 : ((N : Int)).toNat = N := by omega
  rw [e1, e2, off_end N s.data.toList (by omega), size_len]

theorem rest_list (s : ByteArray) (o : Nat) (ho : o ≤ s.size) : (s.extract o s.size).data.toList = s.data.toList.drop o := by
  simp [ByteArray.data_extract]
  rw [List.take_of_length_le (by rw [List.length_drop, size_len]; omega)]
theorem rest_size (s : ByteArray) (o : Nat) (ho : o ≤ s.size) : (s.extract o s.size).size = s.size - o := by
  simp [ByteArray.size_extract]

theorem plcs_mem (s p : ByteArray) (o : Nat) (ho : o ≤ s.size) : o ∈ plcs s p ↔ 0 < p.size ∧ p.size ≤ (s.extract o s.size).size ∧ ((s.extract o s.size).extract 0 p.size).toList = p.toList := by
  rw [rest_size s o ho, Lib.toList_data, Lib.toList_data]
  have hx : ((s.extract o s.size).extract 0 p.size).data.toList = (s.data.toList.drop o).take p.size := by
    rw [ByteArray.data_extract, Array.toList_extract]
    simp only [List.extract_eq_take_drop, List.drop_zero, Nat.sub_zero]
    rw [rest_list s o ho]
  rw [hx]
  unfold plcs
  split
  · rename_i h0
    constructor
    · intro h; simp at h
    · intro h; omega
  · rename_i h0
    have hl : 0 < p.data.toList.length := by rw [size_len]; omega
    rw [occs_mem hl]
    unfold OccAt
    rw [size_len, size_len]
    constructor
    · rintro ⟨h1, h2, h3⟩; exact ⟨by omega, by omega, h3⟩
    · rintro ⟨h1, h2, h3⟩; exact ⟨by omega, by omega, h3⟩

theorem ints_cell {w : World} {so : Option Addr} {n sc c x : Nat} {F : List Nat} (h : Ints .i64 w (.slice so n sc) (natI F)) (hx : F[c]? = some x) : ∃ b o, so = some ⟨b, o, none⟩ ∧ w.cell? ⟨b, o + c, none⟩ = some (.int .i64 (x : Int)) := by
  obtain ⟨ao, cap, hv, hcp, hr⟩ := h
  have hl : c < (natI F).length := by
    have := (List.getElem?_eq_some_iff.1 hx).1
    simpa [natI] using this
  obtain ⟨b, o, ha, _, hcell⟩ := hr (by omega)
  cases hv
  refine ⟨b, o, ha, ?_⟩
  rw [hcell c hl]
  simp [natI, List.getD, hx]
theorem ints_cap {w : World} {so : Option Addr} {n sc : Nat} {xs : List Int} (h : Ints .i64 w (.slice so n sc) xs) : n ≤ sc := by
  obtain ⟨ao, cap, hv, hcp, hr⟩ := h
  cases hv; exact hcp

set_option maxRecDepth 100000 in
set_option maxHeartbeats 4000000 in
theorem w_UtfFinds (s p : ByteArray) (w : World) (ss : s.size ≤ 4294967296) (sp : p.size ≤ 4294967296) :
    Calls Tryd.prog 7 #[.string s, .string p] w fun e w' => e = .returned (.bool true) ∧ Below w.heap.size w w' := by
  have hrl := runes_len_le s.data.toList
  rw [size_len] at hrl
  go_enter Tryd.func7, Tryd.ntmps7
  go_wp2_with fail
  refine (w_fixed _).mono ?_
  rintro e w1 ⟨rfl, hb1⟩
  have HB1 := Hid.mk hb1
  clear hb1
  go_wp2_with fail
  refine (w_Find s p w1 ss).mono ?_
  rintro e w2 ⟨so, sc, n, rfl, HF, hb2⟩
  have HB2 := Hid.mk (below_more HB1.out hb2)
  clear hb2 HB1
  go_wp2_with fail
  refine (w_Len s w2 (by omega)).mono ?_
  rintro e w3 ⟨rfl, hb3⟩
  have HB3 := Hid.mk (below_more HB2.out hb3)
  have HI3 := Hid.mk (HF.out.2.keep hb3)
  have HFL := Hid.mk HF.out.1
  clear hb3 HB2 HF
  obtain ⟨N, hN⟩ : ∃ N, N = (runes s.data.toList).length := ⟨_, rfl⟩
  rw [← hN] at hrl HI3 HFL ⊢
  have HNN := Hid.mk hN
  clear hN
  obtain ⟨X, hX⟩ : ∃ X, X = plcs s p := ⟨_, rfl⟩
  rw [← hX] at HI3 HFL
  have HX := Hid.mk hX
  clear hX
  have hnN : n ≤ N := by have := fnd_len s.data.toList X N; have := HFL.out; omega
  go_wp2_with fail
  go_loopw [7, 8] (fun a i wr => ∃ k : Nat, k ≤ N ∧ i = .int .i64 (k : Int) ∧ (∃ c : Nat, c ≤ n ∧ a = .int .i64 (c : Int) ∧ Hid ((fnd s.data.toList X k).length = c)) ∧ Hid (Below w3.heap.size w3 wr)) (fun _ i _ => N - (intOf i).toNat)
  case atStart => exact ⟨0, by omega, rfl, ⟨0, by omega, rfl, rfl⟩, Below.refl _ _⟩
  case round =>
    obtain ⟨k, hk, rfl, ⟨c, hcn, rfl, HC⟩, HBr⟩ := hrel
    by_cases hlt : k < N
    · have hl1 : (k : Int) < (N : Int) := by omega
      have ho := off_size s k
      have HCut := Hid.mk (w_Cut s (k : Int) (N : Int) wr (by omega))
      rw [cut_rest s k N hlt HNN.out] at HCut
      go_wp2_with fail
      refine HCut.out.mono ?_
      rintro e w4 ⟨rfl, hb4⟩
      have HB4 := Hid.mk (below_more HBr.out hb4)
      clear hb4 HCut
      have HPM := Hid.mk (plcs_mem s p (off s.data.toList k) ho)
      rw [← HX.out] at HPM
      have HFA := Hid.mk (fnd_at s.data.toList X hlt)
      rw [HC.out] at HFA
      obtain ⟨R, hR⟩ : ∃ R, R = s.extract (off s.data.toList k) s.size := ⟨_, rfl⟩
      rw [← hR] at HPM ⊢
      have hRs : R.size ≤ 4294967296 := by rw [hR, rest_size s _ ho]; omega
      have HI4 := Hid.mk (HI3.out.keep HB4.out)
      have HBw : Hid (Below w.heap.size w w4) := below_more HB3.out HB4.out
      clear hR
      by_cases hmem : off s.data.toList k ∈ X
      · obtain ⟨m1, m2, m3⟩ := HPM.out.1 hmem
        have hfc := HFA.out.2 hmem
        have hcl : c < n := by
          have := (List.getElem?_eq_some_iff.1 hfc).1
          rw [HFL.out] at this
          exact this
        obtain ⟨b, o, hso, cX⟩ := ints_cell HI4.out hfc
        have q1 : (0 : Int) < (p.size : Int) := by omega
        have q2 : (p.size : Int) ≤ (R.size : Int) := by omega
        have q3 : ((R.extract 0 p.size).toList == p.toList) = true := by rw [m3]; simp
        have q4 : (c : Int) < (n : Int) := by omega
        have hcs := ints_cap HI4.out
        have HN : Hid ((fnd s.data.toList X (k + 1)).length = c + 1) := by show _ = _; rw [fnd_up, if_pos hmem, List.length_append, HC.out]; rfl
        subst hso
        clear hmem m3 hfc
        go_wp2_with fail
        go_roundw
        case rel => exact ⟨k + 1, by omega, by go_num, ⟨c + 1, by omega, by go_num, HN⟩, HB4⟩
        case measure => simp [intOf]; omega
      · have hbeg : ¬ (0 : Int) < (p.size : Int) ∨ ((0 : Int) < (p.size : Int) ∧ ¬ (p.size : Int) ≤ (R.size : Int)) ∨ ((0 : Int) < (p.size : Int) ∧ (p.size : Int) ≤ (R.size : Int) ∧ ((R.extract 0 p.size).toList == p.toList) = false) := by
          by_cases g1 : 0 < p.size
          · by_cases g2 : p.size ≤ R.size
            · refine .inr (.inr ⟨by omega, by omega, ?_⟩)
              cases hq : ((R.extract 0 p.size).toList == p.toList) with
              | false => rfl
              | true => exact absurd (HPM.out.2 ⟨g1, g2, eq_of_beq hq⟩) hmem
            · exact .inr (.inl ⟨by omega, by omega⟩)
          · exact .inl (by omega)
        have htold : ¬ (c : Int) < (n : Int) ∨ ((c : Int) < (n : Int) ∧ ∃ b o x, so = some ⟨b, o, none⟩ ∧ w4.cell? ⟨b, o + c, none⟩ = some (.int .i64 x) ∧ (x == (k : Int)) = false) := by
          by_cases g : c < n
          · right
            obtain ⟨x, hx⟩ : ∃ x, (fnd s.data.toList X N)[c]? = some x := ⟨_, List.getElem?_eq_getElem (by rw [HFL.out]; exact g)⟩
            obtain ⟨b, o, hso, cX⟩ := ints_cell HI4.out hx
            refine ⟨by omega, b, o, _, hso, cX, ?_⟩
            have hne : x ≠ k := by rintro rfl; exact hmem (HFA.out.1 hx)
            simp; omega
          · exact .inl (by omega)
        have HN : Hid ((fnd s.data.toList X (k + 1)).length = c) := by show _ = _; rw [fnd_up, if_neg hmem, List.append_nil]; exact HC.out
        have hcs := ints_cap HI4.out
        clear hmem
        rcases hbeg with q1 | ⟨q1, q2⟩ | ⟨q1, q2, q3⟩
        all_goals rcases htold with q4 | ⟨q4, b, o, x, hso, cX, hxk⟩
        all_goals try subst hso
        all_goals
          go_wp2_with fail
          go_roundw
          case rel => exact ⟨k + 1, by omega, by go_num, ⟨c, by omega, rfl, HN⟩, HB4⟩
          case measure => simp [intOf]; omega
    · have hl1 : ¬ (k : Int) < (N : Int) := by omega
      have hkN : k = N := by omega
      have hcn2 : c = n := by
        have h1 := HC.out
        have h2 := HFL.out
        rw [hkN] at h1
        omega
      have hq : ((c : Int) == (n : Int)) = true := by simp; omega
      have HBf : Hid (Below w.heap.size w wr) := below_more HB3.out HBr.out
      clear hkN hcn2
      go_wp2_with fail
      go_ret
      exact ⟨by simp [hq], HBf.out⟩
end Go.Proofs.YtfcbeohkhljboacDoor
