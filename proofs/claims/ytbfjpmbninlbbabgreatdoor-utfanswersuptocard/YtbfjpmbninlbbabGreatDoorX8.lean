import Derived.Test.YtbfjpmbninlbbabGreatDoorX7
import Derived.Test.YtbfjpmbninlbbabGreatDoorV6
namespace Go.Proofs.YtbfjpmbninlbbabGreatDoor
open Go.RowKit
set_option linter.unusedVariables false
set_option linter.unusedSimpArgs false

set_option maxHeartbeats 400000 in
theorem w_isPlace_out (s : ByteArray) (z : Int) (w : World) (h : z < 0 ∨ (s.size : Int) ≤ z) :
    Calls Tryz.prog 36 #[.string s, .int .i64 z] w fun e w' => e = .returned (.bool false) ∧ w' = w := by
  rcases h with h | h
  · have h1 : ¬ 0 ≤ z := by omega
    go_enter Tryz.func36, Tryz.ntmps36
    go_wp2_with fail
    go_ret
    exact ⟨by first | rfl | simp, rfl⟩
  · have h1 : 0 ≤ z := by omega
    have h2 : ¬ z < (s.size : Int) := by omega
    go_enter Tryz.func36, Tryz.ntmps36
    go_wp2_with fail
    go_ret
    exact ⟨by first | rfl | simp, rfl⟩

set_option maxRecDepth 100000 in
set_option maxHeartbeats 1600000 in
theorem w_Unquote_out (s : ByteArray) (z : Int) (w : World) (h : z < 0 ∨ (s.size : Int) ≤ z) :
    Calls Tryz.prog 6 #[.string s, .int .i64 z] w fun e w' => UnqX ([], 0, 2) w w' e := by
  have HP := Hid.mk (fun u => w_isPlace_out s z u h)
  clear h
  go_enter Tryz.func6, Tryz.ntmps6
  go_wp2_with fail
  refine (HP.out _).mono ?_
  rintro e w1 ⟨rfl, hw⟩
  obtain rfl := hw.symm
  go_wp2_with fail
  refine bodyPost_ret (v := .tuple #[.string .empty, .int .i64 0, .int .i64 2]) (by simp [results, Tryz.results6, go_sem]; try rfl) rfl ?_
  exact unqX_mk rfl rfl rfl rfl (Below.refl _ _)

set_option maxRecDepth 100000 in
set_option maxHeartbeats 1600000 in
theorem w_Unquote_not (s : ByteArray) (k : Nat) (w : World) (hk : k < s.size) (hq : s[k] ≠ 34) :
    Calls Tryz.prog 6 #[.string s, .int .i64 (k : Int)] w fun e w' => UnqX ([], k, 21) w w' e := by
  have HP := Hid.mk (fun u => w_isPlace s k u hk)
  have hi0 : (k : Int) < (s.size : Int) := by omega
  have hq' : ((((s[k]).toNat : Nat) : Int) != 34) = true := by
    rw [bne_iff_ne]
    intro e
    apply hq
    apply UInt8.toNat_inj.1
    have : (34 : UInt8).toNat = 34 := rfl
    omega
  clear hq
  go_enter Tryz.func6, Tryz.ntmps6
  go_wp2_with fail
  refine (HP.out _).mono ?_
  rintro e w1 ⟨rfl, hw⟩
  obtain rfl := hw.symm
  go_wp2_with fail
  refine bodyPost_ret (v := .tuple #[.string .empty, .int .i64 (k : Int), .int .i64 21]) (by simp [results, Tryz.results6, go_sem]; try rfl) rfl ?_
  exact unqX_mk rfl rfl rfl rfl (Below.refl _ _)

set_option maxRecDepth 100000 in
set_option maxHeartbeats 1600000 in
theorem w_rUnquote_out (s : ByteArray) (z : Int) (w : World) (h : z < 0 ∨ (s.size : Int) ≤ z) :
    Calls Tryz.prog 56 #[.string s, .int .i64 z] w fun e w' => UnqX ([], 0, 2) w w' e := by
  rcases h with h | h
  · go_enter Tryz.func56, Tryz.ntmps56
    go_wp2_with fail
    refine bodyPost_ret (v := .tuple #[.string .empty, .int .i64 0, .int .i64 2]) (by simp [results, Tryz.results56, go_sem]; try rfl) rfl ?_
    exact unqX_mk rfl rfl rfl rfl (Below.refl _ _)
  · have h1 : ¬ z < 0 := by omega
    go_enter Tryz.func56, Tryz.ntmps56
    go_wp2_with fail
    refine bodyPost_ret (v := .tuple #[.string .empty, .int .i64 0, .int .i64 2]) (by simp [results, Tryz.results56, go_sem]; try rfl) rfl ?_
    exact unqX_mk rfl rfl rfl rfl (Below.refl _ _)

set_option maxRecDepth 100000 in
set_option maxHeartbeats 1600000 in
theorem w_rUnquote_not (s : ByteArray) (k : Nat) (w : World) (hk : k < s.size) (hq : s[k] ≠ 34) :
    Calls Tryz.prog 56 #[.string s, .int .i64 (k : Int)] w fun e w' => UnqX ([], k, 21) w w' e := by
  have hi0 : (k : Int) < (s.size : Int) := by omega
  have hi1 : ¬ (s.size : Int) ≤ (k : Int) := by omega
  have hq' : ((((s[k]).toNat : Nat) : Int) != 34) = true := by
    rw [bne_iff_ne]
    intro e
    apply hq
    apply UInt8.toNat_inj.1
    have : (34 : UInt8).toNat = 34 := rfl
    omega
  clear hq
  go_enter Tryz.func56, Tryz.ntmps56
  go_wp2_with fail
  refine bodyPost_ret (v := .tuple #[.string .empty, .int .i64 (k : Int), .int .i64 21]) (by simp [results, Tryz.results56, go_sem]; try rfl) rfl ?_
  exact unqX_mk rfl rfl rfl rfl (Below.refl _ _)

/-- the answer to any call of Unquote -/
def unqZ (s : ByteArray) (z : Int) : List Nat × Nat × Nat := if h : 0 ≤ z ∧ z < (s.size : Int) then (if s[z.toNat]'(by omega) = 34 then unqL s.data.toList (z.toNat + 1) [] else ([], z.toNat, 21)) else ([], 0, 2)

theorem w_Unquote_z (s : ByteArray) (z : Int) (w : World) (hs : s.size ≤ 1048576) (hE : ErrIn w) :
    Calls Tryz.prog 6 #[.string s, .int .i64 z] w fun e w' => UnqX (unqZ s z) w w' e := by
  by_cases h : 0 ≤ z ∧ z < (s.size : Int)
  · obtain ⟨k, rfl⟩ : ∃ k : Nat, z = (k : Int) := ⟨z.toNat, by omega⟩
    have hk : k < s.size := by omega
    by_cases hq : s[k] = 34
    · have e : unqZ s (k : Int) = unqL s.data.toList (k + 1) [] := by
        unfold unqZ; rw [dif_pos h]; simp only [Int.toNat_natCast]; rw [if_pos hq]
      rw [e]; exact w_Unquote_ex s k w hk (by omega) hq hE
    · have e : unqZ s (k : Int) = ([], k, 21) := by
        unfold unqZ; rw [dif_pos h]; simp only [Int.toNat_natCast]; rw [if_neg hq]
      rw [e]; exact w_Unquote_not s k w hk hq
  · have e : unqZ s z = ([], 0, 2) := by unfold unqZ; rw [dif_neg h]
    rw [e]; exact w_Unquote_out s z w (by omega)
theorem w_rUnquote_z (s : ByteArray) (z : Int) (w : World) (hs : s.size ≤ 1048576) :
    Calls Tryz.prog 56 #[.string s, .int .i64 z] w fun e w' => UnqX (unqZ s z) w w' e := by
  by_cases h : 0 ≤ z ∧ z < (s.size : Int)
  · obtain ⟨k, rfl⟩ : ∃ k : Nat, z = (k : Int) := ⟨z.toNat, by omega⟩
    have hk : k < s.size := by omega
    by_cases hq : s[k] = 34
    · have e : unqZ s (k : Int) = unqL s.data.toList (k + 1) [] := by
        unfold unqZ; rw [dif_pos h]; simp only [Int.toNat_natCast]; rw [if_pos hq]
      rw [e]; exact w_rUnquote s k w hk (by omega) hq
    · have e : unqZ s (k : Int) = ([], k, 21) := by
        unfold unqZ; rw [dif_pos h]; simp only [Int.toNat_natCast]; rw [if_neg hq]
      rw [e]; exact w_rUnquote_not s k w hk hq
  · have e : unqZ s z = ([], 0, 2) := by unfold unqZ; rw [dif_neg h]
    rw [e]; exact w_rUnquote_out s z w (by omega)

set_option maxRecDepth 100000 in
set_option maxHeartbeats 1600000 in
theorem w_reads (s : ByteArray) (z : Int) (w : World) (hs : s.size ≤ 1048576) (hE : ErrIn w) :
    Calls Tryz.prog 34 #[.string s, .int .i64 z] w fun e w' => e = .returned (.bool true) ∧ Below w.heap.size w w' := by
  have HU := Hid.mk (w_Unquote_z s z w hs hE)
  have HR := Hid.mk (fun u => w_rUnquote_z s z u hs)
  unfold UnqX at HU HR
  generalize unqZ s z = R at HU HR
  obtain ⟨A, p, c⟩ := R
  have HU1 : Hid (Calls Tryz.prog 6 #[.string s, .int .i64 z] w fun e w' => e = .returned (.tuple #[.string ⟨(txt A).toArray⟩, .int .i64 (p : Int), .int .i64 (c : Int)]) ∧ Below w.heap.size w w') := HU.out
  have HR1 : Hid (∀ u, Calls Tryz.prog 56 #[.string s, .int .i64 z] u fun e w' => e = .returned (.tuple #[.string ⟨(txt A).toArray⟩, .int .i64 (p : Int), .int .i64 (c : Int)]) ∧ Below u.heap.size u w') := HR.out
  generalize (ByteArray.mk (txt A).toArray) = t at HU1 HR1
  generalize (p : Int) = P at HU1 HR1
  generalize (c : Int) = C at HU1 HR1
  clear HU HR hE
  have ht : (t.toList == t.toList) = true := by simp
  have hP : (P == P) = true := by simp
  have hC : (C == C) = true := by simp
  go_enter Tryz.func34, Tryz.ntmps34
  go_wp2_with fail
  refine HU1.out.mono ?_
  rintro e w1 ⟨rfl, hb1⟩
  have HB1 := Hid.mk hb1
  clear hb1
  go_wp2_with fail
  refine (HR1.out _).mono ?_
  rintro e w2 ⟨rfl, hb2⟩
  have HB2 := Hid.mk (below_more HB1.out hb2)
  clear hb2
  go_wp2_with fail
  go_ret
  exact ⟨by first | rfl | simp, HB2.out⟩
end Go.Proofs.YtbfjpmbninlbbabGreatDoor
