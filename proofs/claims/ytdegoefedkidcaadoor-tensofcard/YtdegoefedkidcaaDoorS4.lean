import Derived.Test.YtdegoefedkidcaaDoorS3
import Derived.Lib.LaidTab
namespace Go.Proofs.YtdegoefedkidcaaDoor
open Go.RowKit
set_option linter.unusedVariables false
set_option linter.unusedSimpArgs false

/-- Small, Digits: both answer alike -/
def SDoes (f : Nat) (s : ByteArray) (w : World) (v : Value) : Prop := Calls Tryd.prog f #[.string s] w fun e w' => e = .returned v ∧ Below w.heap.size w w'

set_option maxRecDepth 100000 in
set_option maxHeartbeats 3200000 in
theorem w_TensFormed_at (s : ByteArray) (w : World) (hs : s.size ≤ 281474976710656) (n d : Int) (ok : Bool) (e : Int) (h1 : SDoes 8 s w (.tuple #[.int .i64 n, .bool ok])) (h2 : ∀ u, SDoes 9 s u (.tuple #[.int .i64 n, .bool ok]))
    (h3 : ∀ u, SDoes 10 s u (.tuple #[.int .i64 d, .int .i64 e])) (h4 : ∀ u, SDoes 11 s u (.tuple #[.int .i64 d, .int .i64 e])) :
    Calls Tryd.prog 3 #[.string s] w fun e w' => e = .returned (.bool true) ∧ Below w.heap.size w w' := by
  have hm : s.size ≤ maxLen := by unfold maxLen; omega
  have H1 := Hid.mk h1
  have H2 := Hid.mk h2
  have H3 := Hid.mk h3
  have H4 := Hid.mk h4
  have e1 : (n == n) = true := by simp
  have e2 : (d == d) = true := by simp
  have e3 : (e == e) = true := by simp
  have e4 : (ok == ok) = true := by simp
  have e5 : (Pl.formed s.data.toList == Pl.formed s.data.toList) = true := by simp
  clear h1 h2 h3 h4
  go_enter Tryd.func3, Tryd.ntmps3
  go_wp2_with fail
  refine (show Calls _ _ _ _ _ from H1.out).mono ?_
  rintro _ w1 ⟨rfl, hb1⟩
  have HB1 := Hid.mk hb1
  clear hb1
  go_wp2_with fail
  refine (show Calls _ _ _ _ _ from H2.out _).mono ?_
  rintro _ w2 ⟨rfl, hb2⟩
  have HB2 := Hid.mk (s_below_more HB1.out hb2)
  clear hb2
  go_wp2_with fail
  refine (show Calls _ _ _ _ _ from H3.out _).mono ?_
  rintro _ w3 ⟨rfl, hb3⟩
  have HB3 := Hid.mk (s_below_more HB2.out hb3)
  clear hb3
  go_wp2_with fail
  refine (show Calls _ _ _ _ _ from H4.out _).mono ?_
  rintro _ w4 ⟨rfl, hb4⟩
  have HB4 := Hid.mk (s_below_more HB3.out hb4)
  clear hb4
  go_wp2_with fail
  refine (w_Formed s _ hm).mono ?_
  rintro _ w5 ⟨rfl, hb5⟩
  have HB5 := Hid.mk (s_below_more HB4.out hb5)
  clear hb5
  go_wp2_with fail
  refine (w_rFormed s _ hm).mono ?_
  rintro _ w6 ⟨rfl, hw⟩
  obtain rfl := hw.symm
  go_wp2_with fail
  refine (w_Formed ⟨#[48]⟩ _ (by decide)).mono ?_
  rintro _ w7 ⟨rfl, hb7⟩
  have HB7 := Hid.mk (s_below_more HB5.out hb7)
  clear hb7
  rw [show Pl.formed (ByteArray.mk #[48]).data.toList = true by decide]
  go_wp2_with fail
  go_ret
  exact ⟨rfl, HB7.out⟩

theorem w_TensFormed (s : ByteArray) (w : World) (hs : s.size ≤ 281474976710656) (tp : TypeId) (p : Value) (hvar : w.cell? ⟨1, 0, none⟩ = some (.iface tp p)) :
    Calls Tryd.prog 3 #[.string s] w fun e w' => e = .returned (.bool true) ∧ Below w.heap.size w w' := by
  have hm : s.size ≤ maxLen := by unfold maxLen; omega
  cases hf : Pl.formed s.data.toList with
  | false => exact w_TensFormed_at s w hs 0 0 false 1 (w_Small_no s w hm hf) (fun u => w_rSmall_no s u hm hf) (fun u => w_Digits_no s u hm hf) (fun u => w_rDigits_no s u hm hf)
  | true =>
    by_cases hi : inI s.data.toList
    · exact w_TensFormed_at s w hs _ _ true 0 (w_Small_in s w hs hf hi) (fun u => w_rSmall_in s u hm hf hi) (fun u => w_Digits s u hm hf) (fun u => w_rDigits s u hm hf)
    · exact w_TensFormed_at s w hs _ _ false 0 (w_Small_out s w hs hf hi tp p hvar) (fun u => w_rSmall_out s u hm hf hi) (fun u => w_Digits s u hm hf) (fun u => w_rDigits s u hm hf)

def Tab2 (w : World) : Prop := Lib.TabIs Tryd.prog w "internal/strconv.uint64pow10" .u64 Lib.pow10Tab

theorem grow_below (w : World) (k : Nat) (os : Array Obj) : Below w.heap.size w (Sort.grow (w.drewN k) os) :=
  ⟨rfl, rfl, rfl, by simp [Sort.grow, World.drewN], fun j hj => by show (w.heap ++ os)[j]? = _; rw [Array.getElem?_append_left hj]⟩

set_option maxRecDepth 100000 in
set_option maxHeartbeats 800000 in
theorem w_tOf (n : Int) (h0 : -9223372036854775808 ≤ n) (h1 : n ≤ 9223372036854775807) (w : World) (htab : Tab2 w) :
    Calls Tryd.prog 14 #[.int .i64 n] w fun e w' => e = .returned (.string ⟨(Lib.itoa n).toArray⟩) ∧ Below w.heap.size w w' := by
  have HT := Hid.mk htab
  have HI := Hid.mk (And.intro h0 h1)
  clear htab h0 h1
  go_enter Tryd.func14, Tryd.ntmps14
  go_wp2_with fail
  refine (Tryd.strconv_Itoa n HI.out.1 HI.out.2 _ HT.out).mono ?_
  rintro e w1 ⟨rfl, k, os, rfl⟩
  have HB := Hid.mk (grow_below w k os)
  generalize Sort.grow (w.drewN k) os = u at *
  go_wp2_with fail
  go_ret
  exact ⟨rfl, HB.out⟩

set_option maxRecDepth 100000 in
set_option maxHeartbeats 800000 in
theorem w_rOf (n : Int) (h0 : -9223372036854775808 ≤ n) (h1 : n ≤ 9223372036854775807) (w : World) (htab : Tab2 w) :
    Calls Tryd.prog 15 #[.int .i64 n] w fun e w' => e = .returned (.string ⟨(Lib.itoa n).toArray⟩) ∧ Below w.heap.size w w' := by
  have HT := Hid.mk htab
  have HI := Hid.mk (And.intro h0 h1)
  clear htab h0 h1
  go_enter Tryd.func15, Tryd.ntmps15
  go_wp2_with fail
  refine (Tryd.strconv_Itoa n HI.out.1 HI.out.2 _ HT.out).mono ?_
  rintro e w1 ⟨rfl, k, os, rfl⟩
  have HB := Hid.mk (grow_below w k os)
  generalize Sort.grow (w.drewN k) os = u at *
  go_wp2_with fail
  go_ret
  exact ⟨rfl, HB.out⟩

set_option maxRecDepth 100000 in
set_option maxHeartbeats 1600000 in
theorem w_TensOf (n : Int) (h0 : -9223372036854775808 ≤ n) (h1 : n ≤ 9223372036854775807) (w : World) (htab : Tab2 w) :
    Calls Tryd.prog 4 #[.int .i64 n] w fun e w' => e = .returned (.bool true) ∧ Below w.heap.size w w' := by
  have HT := Hid.mk htab
  obtain ⟨hf, hv⟩ := itoa_formed n
  obtain ⟨t, ht⟩ : ∃ t : ByteArray, t = ⟨(Lib.itoa n).toArray⟩ := ⟨_, rfl⟩
  have hd : t.data.toList = Lib.itoa n := by rw [ht]
  have hsz : t.size ≤ 281474976710656 := by
    have h20 : ¬ 20 < t.size := fun h => long_out (by rw [hd]; exact hf) h (by rw [hd, hv]; exact ⟨h0, h1⟩)
    omega
  have HO := Hid.mk (fun (u : World) (hu : Tab2 u) => w_tOf n h0 h1 u hu)
  have HR := Hid.mk (fun (u : World) (hu : Tab2 u) => w_rOf n h0 h1 u hu)
  rw [← ht] at HO HR
  have HS := Hid.mk (fun (u : World) => w_Small_in t u hsz (by rw [hd]; exact hf) (show inI t.data.toList by unfold inI; rw [hd, hv]; exact ⟨h0, h1⟩))
  rw [hd, hv] at HS
  have e1 : (n == n) = true := by simp
  have e2 : (t.toList == t.toList) = true := by simp
  clear htab hf hv ht hd hsz h0 h1
  go_enter Tryd.func4, Tryd.ntmps4
  go_wp2_with fail
  refine (HO.out _ HT.out).mono ?_
  rintro _ w1 ⟨rfl, hb1⟩
  have HB1 := Hid.mk hb1
  clear hb1
  go_wp2_with fail
  refine (HS.out _).mono ?_
  rintro _ w2 ⟨rfl, hb2⟩
  have HB2 := Hid.mk (s_below_more HB1.out hb2)
  clear hb2
  go_wp2_with fail
  refine (HR.out _ (Lib.tabBelow_of_tabIs HT.out _ HB2.out)).mono ?_
  rintro _ w3 ⟨rfl, hb3⟩
  have HB3 := Hid.mk (s_below_more HB2.out hb3)
  clear hb3
  go_wp2_with fail
  go_ret
  exact ⟨rfl, HB3.out⟩
end Go.Proofs.YtdegoefedkidcaaDoor
