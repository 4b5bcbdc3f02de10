import Derived.Test.YtdegoefedkidcacDoorV21
import Derived.Test.YtdegoefedkidcacDoorV15
namespace Go.Proofs.YtdegoefedkidcacDoor
open Go.RowKit
set_option linter.unusedVariables false
set_option linter.unusedSimpArgs false

theorem ok_ascii (c : UInt8) (l : List UInt8) (h : c.toNat < 128) : okB (c :: l) = okB l := by
  have e : enc c.toNat = [c] := by unfold enc; rw [if_pos h, u8_of rfl]
  have := ok_enc c.toNat (by unfold isR; omega) l
  rw [e] at this
  exact this
theorem ok_asciis (ms l : List UInt8) (h : ∀ c ∈ ms, c.toNat < 128) : okB (ms ++ l) = okB l := by
  induction ms with
  | nil => rfl
  | cons c r ih =>
    rw [List.cons_append, ok_ascii c _ (h c (List.mem_cons_self ..)), ih fun x hx => h x (List.mem_cons_of_mem _ hx)]
theorem ok_qd (z : Nat) (hz : isR z) (l : List UInt8) : okB (qd z ++ l) = okB l := by
  unfold qd
  cases hs : sgn z with
  | some c =>
    exact ok_asciis [92, c] l (by
      intro x hx
      simp only [List.mem_cons, List.not_mem_nil, or_false] at hx
      rcases hx with rfl | rfl
      · decide
      · exact sgn_ascii hs)
  | none =>
    by_cases h : z < 32 ∨ z = 127
    · show okB ((if z < 32 ∨ z = 127 then unit z else enc z) ++ l) = okB l
      rw [if_pos h]
      exact ok_asciis _ l (unit_ascii z (by omega))
    · show okB ((if z < 32 ∨ z = 127 then unit z else enc z) ++ l) = okB l
      rw [if_neg h]
      exact ok_enc z hz l
theorem ok_qb (zs : List Nat) (h : ∀ z ∈ zs, isR z) (l : List UInt8) : okB (qb zs ++ l) = okB l := by
  induction zs with
  | nil => rfl
  | cons z r ih =>
    rw [qb_cons, List.append_assoc, ok_qd z (h z (List.mem_cons_self ..)), ih fun x hx => h x (List.mem_cons_of_mem _ hx)]
theorem ok_lit (zs : List Nat) (h : ∀ z ∈ zs, isR z) : okB (34 :: (qb zs ++ [34])) = true := by
  rw [ok_ascii 34 _ (by decide), ok_qb zs h, ok_ascii 34 _ (by decide)]; exact ok_nil

def fair (c : UInt8) : Prop := 32 ≤ c.toNat ∧ c.toNat ≠ 127
theorem fair_enc (z : Nat) (hz : isR z) (h1 : ¬ (z < 32 ∨ z = 127)) : ∀ c ∈ enc z, fair c := by
  unfold isR at hz
  intro c hc
  unfold enc at hc
  unfold fair
  by_cases a1 : z < 0x80
  · rw [if_pos a1] at hc
    simp only [List.mem_cons, List.not_mem_nil, or_false] at hc
    subst hc
    rw [ofNat_small (by omega)]; omega
  · rw [if_neg a1] at hc
    by_cases a2 : z < 0x800
    · rw [if_pos a2] at hc
      simp only [List.mem_cons, List.not_mem_nil, or_false] at hc
      rcases hc with rfl | rfl <;> rw [ofNat_small (by omega)] <;> omega
    · rw [if_neg a2] at hc
      by_cases a3 : z < 0x10000
      · rw [if_pos a3] at hc
        simp only [List.mem_cons, List.not_mem_nil, or_false] at hc
        rcases hc with rfl | rfl | rfl <;> rw [ofNat_small (by omega)] <;> omega
      · rw [if_neg a3] at hc
        simp only [List.mem_cons, List.not_mem_nil, or_false] at hc
        rcases hc with rfl | rfl | rfl | rfl <;> rw [ofNat_small (by omega)] <;> omega
theorem fair_unit (n : Nat) (h : n < 65536) : ∀ c ∈ unit n, fair c := by
  have hh : ∀ i, i < 16 → 32 ≤ (hx i).toNat ∧ (hx i).toNat ≠ 127 := by decide
  intro c hc
  unfold unit at hc
  simp only [List.mem_cons, List.not_mem_nil, or_false] at hc
  unfold fair
  rcases hc with rfl | rfl | rfl | rfl | rfl | rfl
  · decide
  · decide
  · exact hh _ (by omega)
  · exact hh _ (by omega)
  · exact hh _ (by omega)
  · exact hh _ (by omega)
theorem fair_sgn {z : Nat} {c : UInt8} (h : sgn z = some c) : fair c := by
  unfold sgn at h
  unfold fair
  repeat' split at h
  all_goals first | cases h; decide | cases h
theorem fair_qd (z : Nat) (hz : isR z) : ∀ c ∈ qd z, fair c := by
  intro x hx
  unfold qd at hx
  cases hs : sgn z with
  | some c =>
    rw [hs] at hx
    simp only [List.mem_cons, List.not_mem_nil, or_false] at hx
    rcases hx with rfl | rfl
    · unfold fair; decide
    · exact fair_sgn hs
  | none =>
    rw [hs] at hx
    by_cases h : z < 32 ∨ z = 127
    · simp only [if_pos h] at hx
      exact fair_unit z (by omega) x hx
    · simp only [if_neg h] at hx
      exact fair_enc z hz h x hx
theorem fair_lit (zs : List Nat) (h : ∀ z ∈ zs, isR z) : ∀ c ∈ 34 :: (qb zs ++ [34]), fair c := by
  intro c hc
  rcases List.mem_cons.1 hc with rfl | hc
  · unfold fair; decide
  · rcases List.mem_append.1 hc with hc | hc
    · unfold qb at hc
      obtain ⟨z, hz, hc⟩ := List.mem_flatMap.1 hc
      exact fair_qd z (h z hz) c hc
    · simp only [List.mem_cons, List.not_mem_nil, or_false] at hc
      subst hc; unfold fair; decide

set_option maxRecDepth 100000 in
set_option maxHeartbeats 6400000 in
theorem w_UtfLiteral (s ahead behind : ByteArray) (w : World) (hs : s.size ≤ 1048576) (ha : ahead.size ≤ 1048576) (hb : behind.size ≤ 1048576) :
    Calls Tryd.prog 8 #[.string s, .string ahead, .string behind] w fun e w' => e = .returned (.bool true) ∧ Below w.heap.size w w' := by
  have hnl := runes_len_le s.data.toList
  have hsl : s.data.toList.length = s.size := by rw [Array.length_toList]; rfl
  have hR := runes_isR s.data.toList
  have HQ1 := Hid.mk (fun u => w_Quote s u (by omega))
  obtain ⟨zs, hz⟩ : ∃ zs, runes s.data.toList = zs := ⟨_, rfl⟩
  rw [hz] at hnl hR HQ1
  obtain ⟨n, hn⟩ : ∃ n, zs.length = n := ⟨_, rfl⟩
  rw [hn, hsl] at hnl
  have HRu := Hid.mk (fun u => w_Runes2 s zs n u hz hn (by omega))
  obtain ⟨q, hq⟩ : ∃ q : ByteArray, q = ⟨(34 :: (qb zs ++ [34])).toArray⟩ := ⟨_, rfl⟩
  rw [← hq] at HQ1
  have hql : q.data.toList = 34 :: (qb zs ++ [34]) := by rw [hq]
  have hqs : q.size = (qb zs).length + 2 := by rw [hq]; simp [ByteArray.size]
  have hqb := qb_len zs
  rw [hn] at hqb
  obtain ⟨t, ht⟩ : ∃ t : ByteArray, t = ⟨(txt zs).toArray⟩ := ⟨_, rfl⟩
  have htl : t.data.toList = txt zs := by rw [ht]
  have hts : t.size ≤ 4 * n := by
    have := txt_len zs; have e : t.size = (txt zs).length := by rw [ht]; simp [ByteArray.size]
    omega
  have HT : Hid (∀ {g cap : Nat} {u : World}, Head .i32 u g n cap (toI zs) → Calls Tryd.prog 12 #[.slice (some ⟨g, 0, none⟩) n cap] u fun e w' => e = .returned (.string t) ∧ w' = u) := by
    intro g cap u h
    rw [ht]; exact w_Text2 h hR
  have HQ2 : Hid (∀ u, Calls Tryd.prog 21 #[.string t] u fun e w' => e = .returned (.string q) ∧ Below u.heap.size u w') := by
    intro u
    have h := w_Quote t u (by omega)
    rw [htl, runes_txt zs hR, ← hq] at h
    exact h
  have HV : Hid (∀ u, Calls Tryd.prog 14 #[.string q] u fun e w' => e = .returned (.bool true) ∧ Below u.heap.size u w') := by
    intro u
    have h := w_Valid q u (by omega)
    rw [hql, ok_lit zs hR] at h
    exact h
  have HUn : Hid (∀ u, Calls Tryd.prog 22 #[.string (ahead ++ q ++ behind), .int .i64 (ahead.size : Int)] u fun e w' => e = .returned (.tuple #[.string t, .int .i64 ((ahead.size : Int) + (q.size : Int)), .int .i64 0]) ∧ Below u.heap.size u w') := by
    intro u
    have h := w_Unquote_lit (ahead ++ q ++ behind) ahead.data.toList behind.data.toList zs u hR (by rw [ByteArray.data_append, ByteArray.data_append, Array.toList_append, Array.toList_append, hql]; simp) (by rw [ByteArray.size_append, ByteArray.size_append]; omega)
    have hal : ahead.data.toList.length = ahead.size := by rw [Array.length_toList]; rfl
    rw [hal, ← ht] at h
    rw [show (ahead.size : Int) + 2 + ((qb zs).length : Int) = (ahead.size : Int) + (q.size : Int) by omega] at h
    exact h
  have HFair : Hid (∀ k (h : k < q.size), 32 ≤ (q[k]).toNat ∧ (q[k]).toNat ≠ 127) := by
    intro k h
    have hl : k < q.data.toList.length := by rw [Array.length_toList]; exact h
    have e : q[k] = q.data.toList[k]'hl := rfl
    have hm : q[k] ∈ 34 :: (qb zs ++ [34]) := by rw [e, ← hql]; exact List.getElem_mem hl
    exact fair_lit zs hR _ hm
  have hp1 : (ahead ++ q).size = ahead.size + q.size := ByteArray.size_append
  have hq30 : q.size ≤ 1073741824 := by omega
  have e1 : (t.toList == t.toList) = true := by simp
  have e2 : (q.toList == q.toList) = true := by simp
  generalize toI zs = xs at *
  clear hz hn hR hq hql hqs hqb ht htl hts hsl
  go_enter Tryd.func8, Tryd.ntmps8
  go_wp2_with fail
  refine (w_fixed _).mono ?_
  rintro e w1 ⟨rfl, hb1⟩
  have HB1 := Hid.mk hb1
  clear hb1
  go_wp2_with fail
  refine (HQ1.out _).mono ?_
  rintro e w2 ⟨rfl, hb2⟩
  have HB2 := Hid.mk (below_more HB1.out hb2)
  clear hb2
  go_wp2_with fail
  refine (HRu.out _).mono ?_
  rintro e w3 ⟨g, cap, rfl, HG, hb3⟩
  have HB3 := Hid.mk (below_more HB2.out hb3)
  clear hb3
  go_wp2_with fail
  refine (HT.out HG.out).mono ?_
  rintro e w4 ⟨rfl, hw⟩
  obtain rfl := hw.symm
  go_wp2_with fail
  refine (HUn.out _).mono ?_
  rintro e w5 ⟨rfl, hb5⟩
  have HB5 := Hid.mk (below_more HB3.out hb5)
  clear hb5
  go_wp2_with fail
  refine (HV.out _).mono ?_
  rintro e w6 ⟨rfl, hb6⟩
  have HB6 := Hid.mk (below_more HB5.out hb6)
  clear hb6
  go_wp2_with fail
  refine (HQ2.out _).mono ?_
  rintro e w7 ⟨rfl, hb7⟩
  have HB7 := Hid.mk (below_more HB6.out hb7)
  clear hb7
  go_wp2_with fail
  go_loopw [12] (fun i wr => ∃ k : Nat, k ≤ q.size ∧ i = .int .i64 k ∧ Hid (Below w.heap.size w wr)) (fun i _ => q.size - (intOf i).toNat)
  case atStart => exact ⟨0, Nat.zero_le _, rfl, HB7⟩
  case round =>
    obtain ⟨k, hk, rfl, HQ⟩ := hrel
    by_cases hlt : k < q.size
    · have hk1 : (k : Int) < (q.size : Int) := by omega
      obtain ⟨f1, f2⟩ := HFair.out k hlt
      have i1 : ¬ (((q[k]).toNat : Nat) : Int) < 32 := by omega
      have i2 : ((((q[k]).toNat : Nat) : Int) == 127) = false := by rw [beq_eq_false_iff_ne]; omega
      clear f1 f2
      go_wp2_with fail
      go_roundw
      case rel => exact ⟨k + 1, by omega, by go_num, HQ⟩
      case measure => simp [intOf]; omega
    · have hk1 : ¬ (k : Int) < (q.size : Int) := by omega
      go_wp2_with fail
      go_ret
      exact ⟨rfl, HQ.out⟩
end Go.Proofs.YtdegoefedkidcacDoor
