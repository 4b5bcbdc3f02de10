import Derived.Test.YtfcbeohkhljboadDoorP4
namespace Go.Proofs.YtfcbeohkhljboadDoor
open Go.RowKit
set_option linter.unusedVariables false
set_option linter.unusedSimpArgs false

theorem jl_up (p : List UInt8) (ts : List ByteArray) (k : Nat) (hk : k ≤ ts.length) : (jl p ts k).length ≤ (jp p (ts.take k)).length ∧ (jp p (ts.take k)).length + (ts.getD k .empty).size ≤ (jl p ts (k + 1)).length := by
  refine ⟨?_, ?_⟩
  · cases k with
    | zero => simp [jl]
    | succ k => rw [← jl_part p ts k (by omega), List.length_append]; omega
  · show _ ≤ (jp p (ts.take k) ++ (ts.getD k .empty).data.toList).length
    rw [List.length_append, size_len]; omega
theorem jl_mono (p : List UInt8) (ts : List ByteArray) {i k : Nat} (h : i ≤ k) (hk : k ≤ ts.length) : (jl p ts i).length ≤ (jl p ts k).length := by
  induction k with
  | zero => obtain rfl : i = 0 := by omega
            exact Nat.le_refl _
  | succ k ih =>
    rcases Nat.lt_or_ge i (k + 1) with g | g
    · have := ih (by omega) (by omega)
      have := jl_up p ts k (by omega)
      omega
    · obtain rfl : i = k + 1 := by omega
      exact Nat.le_refl _

/-- what a split is -/
structure SpR (s p : ByteArray) (L : List ByteArray) : Prop where
  nil : s.size = 0 → L = []
  ne : 0 < s.size → 0 < L.length
  join : 0 < s.size → jl p.data.toList L L.length = s.data.toList
  noin : 0 < p.size → ∀ t ∈ L, NoIn p.data.toList t
  cnt : 0 < s.size → p.size = 0 → L.length = (runes s.data.toList).length
  few : L.length ≤ s.size + 1

theorem w_Split (s p : ByteArray) (ss : s.size ≤ 1048576) (w : World) :
    Calls Tryd.prog 17 #[.string s, .string p] w fun e w' => ∃ so sc n L, e = .returned (.slice so n sc) ∧ n = L.length ∧ Hid (w'.ownsRow w.heap.size 9 1 (.slice so n sc) n (svals L)) ∧ Hid (SpR s p L) ∧ Below w.heap.size w w' := by
  by_cases h0 : s.size = 0
  · refine (w_Split_nil s p h0 w).mono ?_
    rintro e w' ⟨v, rfl, ho, hb⟩
    obtain ⟨so, sc, rfl⟩ := own_shape ho.out
    exact ⟨so, sc, 0, [], rfl, rfl, ho, ⟨fun _ => rfl, fun h => by omega, fun h => by omega, fun _ t ht => by simp at ht, fun h => by omega, by simp⟩, hb⟩
  · by_cases hp : p.size = 0
    · refine (w_Split_pieces s p ss hp (by omega) w).mono ?_
      rintro e w' ⟨v, rfl, ho, hb⟩
      obtain ⟨so, sc, rfl⟩ := own_shape ho.out
      have hN := runes_len_le s.data.toList
      rw [size_len] at hN
      have hpe : p.data.toList = [] := List.length_eq_zero_iff.1 (by rw [size_len]; exact hp)
      have hN0 : 0 < (runes s.data.toList).length := by
        have : s.data.toList ≠ [] := fun e => by have := size_len s; rw [e] at this; simp at this; omega
        rw [runes_cons this]; simp
      refine ⟨so, sc, _, pcl s (runes s.data.toList).length, rfl, (pcl_len _ _).symm, ho, ⟨fun h => absurd h h0, fun _ => ?_, fun _ => ?_, fun h => by omega, fun _ _ => pcl_len _ _, ?_⟩, hb⟩
      · rw [pcl_len]; exact hN0
      · rw [hpe, pcl_len]; exact pcl_join s
      · rw [pcl_len]; omega
    · refine (w_Split_part s p ss (by omega) (by omega) w).mono ?_
      rintro e w' ⟨v, rfl, ho, hb⟩
      obtain ⟨so, sc, rfl⟩ := own_shape ho.out
      have hok := splt_ok s p (by omega)
      have hpl : (plcs s p).length ≤ s.size := by
        unfold plcs
        rw [if_neg hp]
        exact occs_len s.size
      have hfw := spl_few s p.size (plcs s p)
      exact ⟨so, sc, _, splt s p, rfl, by simp [splt], ho, ⟨fun h => absurd h h0, fun _ => by simp [splt], fun _ => hok.2, fun _ => hok.1, fun _ h => absurd h hp, by simp [splt]; omega⟩, hb⟩

theorem own_cell {w : World} {B n sc : Nat} {so : Option Addr} {L : List ByteArray} (h : w.ownsRow B 9 1 (.slice so n sc) n (svals L)) (hn : n = L.length) {i : Nat} (hi : i < n) : ∃ g, so = some ⟨g, 0, none⟩ ∧ ∀ j, j < n → w.cell? ⟨g, j, none⟩ = some (.string (L.getD j .empty)) := by
  rcases h.2 with ⟨e, e2⟩ | ⟨g, cap, cur, e, _⟩
  · simp only [Value.slice.injEq] at e; omega
  · simp only [Value.slice.injEq] at e
    obtain ⟨rfl, _, rfl⟩ := e
    refine ⟨g, rfl, fun j hj => ?_⟩
    have := h.cellAt j (by omega)
    rw [this]
    have hjL : j < L.length := by omega
    simp [svals, List.getD, hjL]

theorem beq_self_str {a b : ByteArray} (h : a.data.toList = b.data.toList) : (a.toList == b.toList) = true := by rw [Lib.toList_data, Lib.toList_data, h]; simp
theorem empty_str {a : ByteArray} (h : a.size = 0) : a.toList.isEmpty = true := by
  rw [Lib.toList_data]
  have e := size_len a
  cases hh : a.data.toList with
  | nil => rfl
  | cons _ _ => rw [hh] at e; simp at e; omega
theorem nonempty_str {a : ByteArray} (h : 0 < a.size) : a.toList.isEmpty = false := by
  rw [Lib.toList_data]
  have e := size_len a
  cases hh : a.data.toList with
  | nil => rw [hh] at e; simp at e; omega
  | cons _ _ => rfl
theorem size_of {a : ByteArray} {l : List UInt8} (h : a.data.toList = l) : a.size = l.length := by rw [← h, size_len]

/-- the part does not stand there -/
theorem not_there {p t : ByteArray} (h : NoIn p.data.toList t) {m : Nat} (hm : m + p.size ≤ t.size) : ((t.extract m (m + p.size)).toList == p.toList) = false := by
  cases hq : ((t.extract m (m + p.size)).toList == p.toList) with
  | false => rfl
  | true =>
    have e := eq_of_beq hq
    rw [Lib.toList_data, Lib.toList_data, ext_list] at e
    refine absurd ⟨by rw [size_len, size_len]; exact hm, ?_⟩ (h m)
    rw [size_len]
    rw [List.drop_take, show m + p.size - m = p.size by omega] at e
    exact e

set_option maxRecDepth 100000 in
set_option maxHeartbeats 4000000 in
theorem w_UtfSplits_nil (s p : ByteArray) (w : World) (h0 : s.size = 0) :
    Calls Tryd.prog 5 #[.string s, .string p] w fun e w' => e = .returned (.bool true) ∧ Below w.heap.size w w' := by
  have hne1 := empty_str h0
  have HSp := Hid.mk (fun u => w_Split s p (by omega) u)
  go_enter Tryd.func5, Tryd.ntmps5
  go_wp2_with fail
  refine (w_fixed _).mono ?_
  rintro e w1 ⟨rfl, hb1⟩
  have HB1 := Hid.mk hb1
  clear hb1
  go_wp2_with fail
  refine (HSp.out w1).mono ?_
  rintro e w2 ⟨so, sc, n, L, rfl, hn, HO, HR, hb2⟩
  have HB2 := Hid.mk (below_more HB1.out hb2)
  have hn0 : n = 0 := by rw [hn, HR.out.nil h0]; rfl
  clear hb2 HB1 hn
  subst hn0
  go_wp2_with fail
  go_ret
  exact ⟨rfl, HB2.out⟩

set_option maxRecDepth 100000 in
set_option maxHeartbeats 4000000 in
theorem w_UtfSplits_part (s p : ByteArray) (w : World) (ss : s.size ≤ 1048576) (sp : p.size ≤ 1048576) (h0 : 0 < s.size) (hp : 0 < p.size) :
    Calls Tryd.prog 5 #[.string s, .string p] w fun e w' => e = .returned (.bool true) ∧ Below w.heap.size w w' := by
  have hne1 := nonempty_str h0
  have hne2 := nonempty_str hp
  have HSp := Hid.mk (fun u => w_Split s p ss u)
  go_enter Tryd.func5, Tryd.ntmps5
  go_wp2_with fail
  refine (w_fixed _).mono ?_
  rintro e w1 ⟨rfl, hb1⟩
  have HB1 := Hid.mk hb1
  clear hb1
  go_wp2_with fail
  refine (HSp.out w1).mono ?_
  rintro e w2 ⟨so, sc, n, L, rfl, hnL, HO, HR, hb2⟩
  have HB2 := Hid.mk (below_more HB1.out hb2)
  have hn0 : 0 < n := by rw [hnL]; exact HR.out.ne h0
  have hnb : n ≤ 1048577 := by rw [hnL]; have := HR.out.few; omega
  obtain ⟨g, rfl, hcell⟩ := own_cell HO.out hnL hn0
  have HC := Hid.mk hcell
  have HNL := Hid.mk hnL
  have HJN := Hid.mk (HR.out.join h0)
  have HLen : Hid (∀ k, k ≤ n → (jl p.data.toList L k).length ≤ s.size) := fun k hk => by
    have h := jl_mono p.data.toList L (i := k) (k := L.length) (by omega) (Nat.le_refl _)
    rw [HJN.out, size_len] at h
    exact h
  clear hb2 HB1 hnL hcell HO
  go_wp2_with fail
  go_loopw [6, 7, 8] (fun a i _ wr => ∃ (k : Nat) (J : ByteArray), k ≤ n ∧ a = .string J ∧ i = .int .i64 (k : Int) ∧ Hid (J.data.toList = jl p.data.toList L k) ∧ w2 = wr) (fun _ i _ _ => n - (intOf i).toNat)
  case atStart => exact ⟨0, _, Nat.zero_le _, rfl, rfl, rfl, rfl⟩
  case round =>
    obtain ⟨k, J, hk, rfl, rfl, HJ, rfl⟩ := hrel
    have hJ : J.size ≤ 1048576 := by rw [size_of HJ.out]; have := HLen.out k hk; omega
    by_cases hlt : k < n
    · have hl1 : (k : Int) < (n : Int) := by omega
      have cT := HC.out k hlt
      have hju := jl_up p.data.toList L k (by have := HNL.out; omega)
      have hjl := HLen.out (k + 1) hlt
      obtain ⟨t, ht⟩ : ∃ t, t = L.getD k .empty := ⟨_, rfl⟩
      rw [← ht] at cT hju
      have hts : t.size ≤ 1048576 := by omega
      have HT := Hid.mk ht
      have HNo : Hid (NoIn p.data.toList t) := by
        refine HR.out.noin hp t ?_
        have hkL : k < L.length := by have := HNL.out; omega
        rw [ht]
        simp [List.getD, hkL]
      clear ht hju hjl
      by_cases hk0 : k = 0
      · subst hk0
        have HN : Hid ((J ++ t).data.toList = jl p.data.toList L (0 + 1)) := by
          show _ = _
          rw [ByteArray.data_append, Array.toList_append, HJ.out, HT.out]
          rfl
        go_wp2_with fail
        go_loopw [8] (fun a wr' => ∃ m : Nat, m ≤ t.size + 1 ∧ a = .int .i64 (m : Int) ∧ w2 = wr') (fun a _ => t.size + 1 - (intOf a).toNat)
        case atStart => exact ⟨0, Nat.zero_le _, rfl, rfl⟩
        case round =>
          obtain ⟨m, hm, rfl, rfl⟩ := hrel
          by_cases hmp : m + p.size ≤ t.size
          · have q1 : (m : Int) + (p.size : Int) ≤ (t.size : Int) := by omega
            have q2 : (m : Int) ≤ (m : Int) + (p.size : Int) := by omega
            have q3 : (0 : Int) ≤ (m : Int) := by omega
            have q4 : ((m : Int) + (p.size : Int)).toNat = m + p.size := by omega
            have q5 := not_there HNo.out hmp
            go_wp2_with fail
            go_roundw
            case rel => exact ⟨m + 1, by omega, by go_num, trivial⟩
            case measure => simp [intOf]; omega
          · have q1 : ¬ (m : Int) + (p.size : Int) ≤ (t.size : Int) := by omega
            go_wp2_with fail
            go_roundw
            case rel => exact ⟨0 + 1, J ++ t, hlt, rfl, by go_num, HN, trivial⟩
            case measure => simp [intOf]; omega
      · have hk1 : (0 : Int) < (k : Int) := by omega
        have HN : Hid ((J ++ p ++ t).data.toList = jl p.data.toList L (k + 1)) := by
          show _ = _
          rw [ByteArray.data_append, Array.toList_append, ByteArray.data_append, Array.toList_append, HJ.out, HT.out]
          obtain ⟨i, rfl⟩ : ∃ i, k = i + 1 := ⟨k - 1, by omega⟩
          rw [jl_part p.data.toList L i (by have := HNL.out; omega)]
          rfl
        have hJp : (J ++ p).size ≤ 2097152 := by rw [ByteArray.size_append]; omega
        go_wp2_with fail
        go_loopw [8] (fun a wr' => ∃ m : Nat, m ≤ t.size + 1 ∧ a = .int .i64 (m : Int) ∧ w2 = wr') (fun a _ => t.size + 1 - (intOf a).toNat)
        case atStart => exact ⟨0, Nat.zero_le _, rfl, rfl⟩
        case round =>
          obtain ⟨m, hm, rfl, rfl⟩ := hrel
          by_cases hmp : m + p.size ≤ t.size
          · have q1 : (m : Int) + (p.size : Int) ≤ (t.size : Int) := by omega
            have q2 : (m : Int) ≤ (m : Int) + (p.size : Int) := by omega
            have q3 : (0 : Int) ≤ (m : Int) := by omega
            have q4 : ((m : Int) + (p.size : Int)).toNat = m + p.size := by omega
            have q5 := not_there HNo.out hmp
            go_wp2_with fail
            go_roundw
            case rel => exact ⟨m + 1, by omega, by go_num, trivial⟩
            case measure => simp [intOf]; omega
          · have q1 : ¬ (m : Int) + (p.size : Int) ≤ (t.size : Int) := by omega
            go_wp2_with fail
            go_roundw
            case rel => exact ⟨k + 1, J ++ p ++ t, hlt, rfl, by go_num, HN, trivial⟩
            case measure => simp [intOf]; omega
    · have hl1 : ¬ (k : Int) < (n : Int) := by omega
      have hkn : k = n := by omega
      have hJs : (J.toList == s.toList) = true := by
        refine beq_self_str ?_
        rw [HJ.out, hkn, HNL.out]
        exact HJN.out
      have hn1 : (0 : Int) < (n : Int) := by omega
      clear hkn
      go_wp2_with fail
      go_ret
      exact ⟨by simp, HB2.out⟩

set_option maxRecDepth 100000 in
set_option maxHeartbeats 4000000 in
theorem w_UtfSplits_pieces (s p : ByteArray) (w : World) (ss : s.size ≤ 1048576) (sp : p.size ≤ 1048576) (h0 : 0 < s.size) (hp : p.size = 0) :
    Calls Tryd.prog 5 #[.string s, .string p] w fun e w' => e = .returned (.bool true) ∧ Below w.heap.size w w' := by
  have hne1 := nonempty_str h0
  have hne2 := empty_str hp
  have HSp := Hid.mk (fun u => w_Split s p ss u)
  go_enter Tryd.func5, Tryd.ntmps5
  go_wp2_with fail
  refine (w_fixed _).mono ?_
  rintro e w1 ⟨rfl, hb1⟩
  have HB1 := Hid.mk hb1
  clear hb1
  go_wp2_with fail
  refine (HSp.out w1).mono ?_
  rintro e w2 ⟨so, sc, n, L, rfl, hnL, HO, HR, hb2⟩
  have HB2 := Hid.mk (below_more HB1.out hb2)
  have hn0 : 0 < n := by rw [hnL]; exact HR.out.ne h0
  have hnb : n ≤ 1048577 := by rw [hnL]; have := HR.out.few; omega
  obtain ⟨g, rfl, hcell⟩ := own_cell HO.out hnL hn0
  have HC := Hid.mk hcell
  have HNL := Hid.mk hnL
  have HJN := Hid.mk (HR.out.join h0)
  have HLen : Hid (∀ k, k ≤ n → (jl p.data.toList L k).length ≤ s.size) := fun k hk => by
    have h := jl_mono p.data.toList L (i := k) (k := L.length) (by omega) (Nat.le_refl _)
    rw [HJN.out, size_len] at h
    exact h
  clear hb2 HB1 hnL hcell HO
  go_wp2_with fail
  go_loopw [6, 7, 8] (fun a i _ wr => ∃ (k : Nat) (J : ByteArray), k ≤ n ∧ a = .string J ∧ i = .int .i64 (k : Int) ∧ Hid (J.data.toList = jl p.data.toList L k) ∧ w2 = wr) (fun _ i _ _ => n - (intOf i).toNat)
  case atStart => exact ⟨0, _, Nat.zero_le _, rfl, rfl, rfl, rfl⟩
  case round =>
    obtain ⟨k, J, hk, rfl, rfl, HJ, rfl⟩ := hrel
    have hJ : J.size ≤ 1048576 := by rw [size_of HJ.out]; have := HLen.out k hk; omega
    by_cases hlt : k < n
    · have hl1 : (k : Int) < (n : Int) := by omega
      have cT := HC.out k hlt
      have hju := jl_up p.data.toList L k (by have := HNL.out; omega)
      have hjl := HLen.out (k + 1) hlt
      obtain ⟨t, ht⟩ : ∃ t, t = L.getD k .empty := ⟨_, rfl⟩
      rw [← ht] at cT hju
      have hts : t.size ≤ 1048576 := by omega
      have HT := Hid.mk ht
      clear ht hju hjl
      by_cases hk0 : k = 0
      · subst hk0
        have HN : Hid ((J ++ t).data.toList = jl p.data.toList L (0 + 1)) := by
          show _ = _
          rw [ByteArray.data_append, Array.toList_append, HJ.out, HT.out]
          rfl
        go_wp2_with fail
        refine wp_loop_rounds 1 ?_
        rw [rounds_succ]
        have q1 : (0 : Int) + (p.size : Int) ≤ (t.size : Int) := by omega
        have q2 : (p.size : Int) ≤ (t.size : Int) := by omega
        go_wp2_with fail
        go_roundw
        case rel => exact ⟨0 + 1, J ++ t, hlt, rfl, by go_num, HN, trivial⟩
        case measure => simp [intOf]; omega
      · have hk1 : (0 : Int) < (k : Int) := by omega
        have HN : Hid ((J ++ p ++ t).data.toList = jl p.data.toList L (k + 1)) := by
          show _ = _
          rw [ByteArray.data_append, Array.toList_append, ByteArray.data_append, Array.toList_append, HJ.out, HT.out]
          obtain ⟨i, rfl⟩ : ∃ i, k = i + 1 := ⟨k - 1, by omega⟩
          rw [jl_part p.data.toList L i (by have := HNL.out; omega)]
          rfl
        have hJp : (J ++ p).size ≤ 2097152 := by rw [ByteArray.size_append]; omega
        go_wp2_with fail
        refine wp_loop_rounds 1 ?_
        rw [rounds_succ]
        have q1 : (0 : Int) + (p.size : Int) ≤ (t.size : Int) := by omega
        have q2 : (p.size : Int) ≤ (t.size : Int) := by omega
        go_wp2_with fail
        go_roundw
        case rel => exact ⟨k + 1, J ++ p ++ t, hlt, rfl, by go_num, HN, trivial⟩
        case measure => simp [intOf]; omega
    · have hl1 : ¬ (k : Int) < (n : Int) := by omega
      have hkn : k = n := by omega
      have hJs : (J.toList == s.toList) = true := by
        refine beq_self_str ?_
        rw [HJ.out, hkn, HNL.out]
        exact HJN.out
      have hn1 : (0 : Int) < (n : Int) := by omega
      clear hkn
      go_wp2_with fail
      refine (w_Len s w2 (by omega)).mono ?_
      rintro e w3 ⟨rfl, hb3⟩
      have HB3 := Hid.mk (below_more HB2.out hb3)
      have hq : ((n : Int) == ((runes s.data.toList).length : Int)) = true := by
        have := HR.out.cnt h0 hp
        have := HNL.out
        simp; omega
      clear hb3
      go_wp2_with fail
      go_ret
      exact ⟨by simp [hq], HB3.out⟩

theorem w_UtfSplits (s p : ByteArray) (w : World) (ss : s.size ≤ 1048576) (sp : p.size ≤ 1048576) :
    Calls Tryd.prog 5 #[.string s, .string p] w fun e w' => e = .returned (.bool true) ∧ Below w.heap.size w w' := by
  by_cases h0 : s.size = 0
  · exact w_UtfSplits_nil s p w h0
  · by_cases hp : p.size = 0
    · exact w_UtfSplits_pieces s p w ss sp (by omega) hp
    · exact w_UtfSplits_part s p w ss sp (by omega) (by omega)
end Go.Proofs.YtfcbeohkhljboadDoor
