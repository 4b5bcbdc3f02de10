import Derived.Test.YtdegoefedkidcadDoorV8
import Derived.Test.YtdegoefedkidcadDoorV6
namespace Go.Proofs.YtdegoefedkidcadDoor
open Go.RowKit
set_option linter.unusedVariables false
set_option linter.unusedSimpArgs false

theorem hx_hex : ∀ i, i < 16 → isHex (hx i) = true := by decide
theorem hx_val : ∀ i, i < 16 → hexd (hx i) = i := by decide

/-- the four digits of a number -/
def four (n : Nat) : List UInt8 := [hx (n / 4096), hx (n / 256 % 16), hx (n / 16 % 16), hx (n % 16)]
theorem unit_four (n : Nat) : unit n = 92 :: 117 :: four n := rfl
theorem four_hex (n : Nat) (h : n < 65536) : (four n).all isHex = true := by
  unfold four
  simp only [List.all_cons, List.all_nil, Bool.and_true, Bool.and_eq_true]
  exact ⟨hx_hex _ (by omega), hx_hex _ (by omega), hx_hex _ (by omega), hx_hex _ (by omega)⟩
theorem four_val (n : Nat) (h : n < 65536) : hexN (four n) = n := by
  unfold four hexN
  simp only [List.foldl_cons, List.foldl_nil]
  rw [hx_val _ (by omega), hx_val _ (by omega), hx_val _ (by omega), hx_val _ (by omega)]
  omega

theorem num_at (s : ByteArray) (pre post : List UInt8) (n : Nat) (h : n < 65536) (e : s.data.toList = pre ++ unit n ++ post) : NumAt s pre.length (four n) :=
  ⟨rfl, four_hex n h, pre, post, e, rfl⟩

theorem esc_len (n : Nat) : (esc n).length = 6 ∨ (esc n).length = 12 := by
  unfold esc
  split
  · left; rfl
  · right; rfl

theorem w_Escape_of (s : ByteArray) (pre post : List UInt8) (n : Nat) (w : World) (hr : isR n) (e : s.data.toList = pre ++ esc n ++ post) (hs : s.size ≤ 4611686018427387904) :
    Calls Tryd.prog 14 #[.string s, .int .i64 (pre.length : Int)] w fun e w' => e = .returned (.tuple #[.int .i32 ((n : Nat) : Int), .int .i64 ((pre.length : Int) + (((esc n).length : Nat) : Int)), .int .i64 0]) ∧ Below w.heap.size w w' := by
  unfold isR at hr
  by_cases h : n < 65536
  · have ee : esc n = unit n := by unfold esc; rw [if_pos h]
    rw [ee] at e ⊢
    have := w_Escape_one s pre.length (four n) w (num_at s pre post n h e) hs (by rw [four_val n h]; omega)
    rw [four_val n h] at this
    exact this
  · have ee : esc n = unit (55296 + (n - 65536) / 1024) ++ unit (56320 + (n - 65536) % 1024) := by unfold esc; rw [if_neg h]
    rw [ee] at e ⊢
    have hlt : n ≤ 1114111 := by omega
    have a1 : 55296 + (n - 65536) / 1024 < 65536 := by omega
    have a2 : 56320 + (n - 65536) % 1024 < 65536 := by omega
    have n1 := num_at s pre (unit (56320 + (n - 65536) % 1024) ++ post) _ a1 (by rw [e]; simp)
    have n2 := num_at s (pre ++ unit (55296 + (n - 65536) / 1024)) post _ a2 (by rw [e]; simp)
    have el : (pre ++ unit (55296 + (n - 65536) / 1024)).length = pre.length + 6 := by rw [List.length_append]; rfl
    rw [el] at n2
    have := w_Escape_two s pre.length _ _ w n1 n2 hs (by rw [four_val _ a1]; omega) (by rw [four_val _ a2]; omega)
    rw [four_val _ a1, four_val _ a2] at this
    rw [show 65536 + (55296 + (n - 65536) / 1024 - 55296) * 1024 + (56320 + (n - 65536) % 1024 - 56320) = n by omega] at this
    exact this

set_option maxRecDepth 100000 in
set_option maxHeartbeats 1600000 in
theorem w_UtfEscapes (r : Int) (ahead behind : ByteArray) (w : World) (ha : ahead.size ≤ 1152921504606846976) (hb : behind.size ≤ 1152921504606846976) :
    Calls Tryd.prog 4 #[.int .i32 r, .string ahead, .string behind] w fun e w' => e = .returned (.bool true) ∧ Below w.heap.size w w' := by
  have HE := Hid.mk (fun u => w_Escaped r u)
  have hR := rn_isR r
  have hl := esc_len (rn r)
  obtain ⟨x, hx⟩ : ∃ x : ByteArray, x = ⟨(esc (rn r)).toArray⟩ := ⟨_, rfl⟩
  rw [← hx] at HE
  have hxs : x.size = (esc (rn r)).length := by rw [hx]; simp [ByteArray.size]
  have HES : Hid (∀ u, Calls Tryd.prog 14 #[.string (ahead ++ x ++ behind), .int .i64 (ahead.size : Int)] u fun e w' => e = .returned (.tuple #[.int .i32 ((rn r : Nat) : Int), .int .i64 ((ahead.size : Int) + (x.size : Int)), .int .i64 0]) ∧ Below u.heap.size u w') := by
    intro u
    have h := w_Escape_of (ahead ++ x ++ behind) ahead.data.toList behind.data.toList (rn r) u hR (by rw [hx]; simp [ByteArray.data_append]) (by rw [ByteArray.size_append, ByteArray.size_append]; omega)
    rw [← hxs] at h
    rw [show ahead.data.toList.length = ahead.size by simp] at h
    exact h
  have HT : Hid (∀ g cap u, u.cell? ⟨g, 0, none⟩ = some (.int .i32 r) → Calls Tryd.prog 16 #[.slice (some ⟨g, 0, none⟩) 1 cap] u fun e w' => e = .returned (.string ⟨(enc (rn r)).toArray⟩) ∧ w' = u) := by
    intro g cap u hu
    have := w_Text g 1 cap [r] u rfl (fun j hj => by
      have : j = 0 := by simpa using hj
      subst this; exact hu)
    rw [List.flatMap_cons, List.flatMap_nil, List.append_nil] at this
    exact this
  have HRu : Hid (∀ u, Calls Tryd.prog 15 #[.string ⟨(enc (rn r)).toArray⟩] u fun e w' => ∃ g cap, e = .returned (.slice (some ⟨g, 0, none⟩) 1 cap) ∧ Hid (1 ≤ cap ∧ g < w'.heap.size ∧ w'.cell? ⟨g, 0, none⟩ = some (.int .i32 ((rn r : Nat) : Int))) ∧ Below u.heap.size u w') := by
    intro u
    have h := w_Runes ⟨(enc (rn r)).toArray⟩ u (by have := (enc_len (rn r)).2; simp [ByteArray.size]; omega)
    have e1 : (ByteArray.mk (enc (rn r)).toArray).data.toList = enc (rn r) := rfl
    rw [e1, runes_one _ hR] at h
    refine h.mono ?_
    rintro e w' ⟨g, cap, he, hrs, _, hbl⟩
    obtain ⟨g', cap', hv, hc, hg, hcell⟩ := hrs.out
    have e2 := Value.slice.inj hv
    have e3 : g = g' := by have := Option.some.inj e2.1; injection this
    obtain rfl := e3
    refine ⟨g, cap, he, ⟨?_, hg, ?_⟩, hbl⟩
    · rw [e2.2.2]; exact hc
    · exact hcell 0 Nat.zero_lt_one
  generalize ((rn r : Nat) : Int) = z at *
  generalize (ByteArray.mk (enc (rn r)).toArray) = t at *
  have hx12 : x.size ≤ 12 := by omega
  have hp1 : (ahead ++ x).size = ahead.size + x.size := ByteArray.size_append
  clear hR hl hx hxs
  go_enter Tryd.func4, Tryd.ntmps4
  go_wp2_with fail
  refine (HE.out _).mono ?_
  rintro e w1 ⟨rfl, hb1⟩
  have HB1 := Hid.mk hb1
  clear hb1
  go_wp2_with fail
  refine (HES.out _).mono ?_
  rintro e w2 ⟨rfl, hb2⟩
  have HB2 := Hid.mk (below_more HB1.out hb2)
  clear hb2
  go_wp2_with fail
  refine (HT.out _ _ _ (by
    have h := heap_alloc_new w2 (.cells #[.int .i32 r] 21)
    rw [cell_of_row _ _ _ _ _ _ h]; rfl)).mono ?_
  rintro e w3 ⟨rfl, hw⟩
  obtain rfl := hw.symm
  go_wp2_with fail
  refine (HRu.out _).mono ?_
  rintro e w4 ⟨g, cap, rfl, HG, hb4⟩
  have HB4 := Hid.mk (below_more (below_more HB2.out (below1 w2 _)) hb4)
  clear hb4
  go_wp2_with fail
  refine (w_fixed _).mono ?_
  rintro e w5 ⟨rfl, hb5⟩
  have HB5 := Hid.mk (below_more HB4.out hb5)
  have hcell : w5.cell? ⟨g, 0, none⟩ = some (.int .i32 z) := (hb5.cell (p := ⟨g, 0, none⟩) HG.out.2.1).trans HG.out.2.2
  have hcap := HG.out.1
  clear hb5
  go_wp2_with fail
  go_ret
  exact ⟨by first | rfl | simp, HB5.out⟩
end Go.Proofs.YtdegoefedkidcadDoor
