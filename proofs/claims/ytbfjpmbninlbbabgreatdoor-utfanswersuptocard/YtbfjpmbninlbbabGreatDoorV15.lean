import Derived.Test.YtbfjpmbninlbbabGreatDoorV11
import Derived.Test.YtbfjpmbninlbbabGreatDoorV14
namespace Go.Proofs.YtbfjpmbninlbbabGreatDoor
open Go.RowKit
set_option linter.unusedVariables false
set_option linter.unusedSimpArgs false

def toI (zs : List Nat) : List Int := zs.map fun (n : Nat) => (n : Int)
theorem toI_len (zs : List Nat) : (toI zs).length = zs.length := List.length_map ..
theorem toI_get (zs : List Nat) (i : Nat) : (toI zs).getD i 0 = ((zs.getD i 0 : Nat) : Int) := by
  unfold toI
  by_cases h : i < zs.length
  · simp [h]
  · simp [List.getElem?_eq_none (Nat.le_of_not_lt h)]
theorem toI_range (zs : List Nat) (h : ∀ z ∈ zs, isR z) (i : Nat) : -2147483648 ≤ (toI zs).getD i 0 ∧ (toI zs).getD i 0 ≤ 2147483647 := by
  rw [toI_get]
  by_cases hi : i < zs.length
  · have hz : isR (zs.getD i 0) := by
      apply h
      rw [List.getD_eq_getElem?_getD, List.getElem?_eq_getElem hi]
      exact List.getElem_mem hi
    unfold isR at hz
    omega
  · rw [List.getD_eq_getElem?_getD, List.getElem?_eq_none (Nat.le_of_not_lt hi)]
    simp
theorem txt_toI (zs : List Nat) (h : ∀ z ∈ zs, isR z) : ((toI zs).flatMap fun z => enc (rn z)) = txt zs := by
  induction zs with
  | nil => rfl
  | cons z r ih =>
    have e1 : toI (z :: r) = (z : Int) :: toI r := rfl
    have e2 : txt (z :: r) = enc z ++ txt r := rfl
    rw [e1, e2, List.flatMap_cons, rn_nat (h z (List.mem_cons_self ..)), ih fun y hy => h y (List.mem_cons_of_mem _ hy)]

/-- a list at the head of its block -/
def Head (k : IntKind) (w : World) (g n cap : Nat) (xs : List Int) : Prop := xs.length = n ∧ n ≤ cap ∧ g < w.heap.size ∧ ∀ i, i < n → w.cell? ⟨g, i, none⟩ = some (.int k (xs.getD i 0))
theorem Head.ints {k : IntKind} {w : World} {g n cap : Nat} {xs : List Int} (h : Head k w g n cap xs) : Ints k w (.slice (some ⟨g, 0, none⟩) n cap) xs := by
  obtain ⟨h1, h2, h3, h4⟩ := h
  subst h1
  exact ⟨_, cap, rfl, h2, fun _ => ⟨g, 0, rfl, h3, fun i hi => by rw [Nat.zero_add]; exact h4 i hi⟩⟩
theorem Head.keep {k : IntKind} {w w' : World} {g n cap : Nat} {xs : List Int} (h : Head k w g n cap xs) (hb : Below w.heap.size w w') : Head k w' g n cap xs :=
  ⟨h.1, h.2.1, Nat.lt_of_lt_of_le h.2.2.1 hb.size, fun i hi => (hb.cell (p := ⟨g, i, none⟩) h.2.2.1).trans (h.2.2.2 i hi)⟩

set_option maxRecDepth 100000 in
set_option maxHeartbeats 800000 in
theorem w_Runes2 (s : ByteArray) (zs : List Nat) (n : Nat) (w : World) (hz : runes s.data.toList = zs) (hn : zs.length = n) (hs : n ≤ 70368744177664) :
    Calls Tryz.prog 14 #[.string s] w fun e w' => ∃ g cap, e = .returned (.slice (some ⟨g, 0, none⟩) n cap) ∧ Hid (Head .i32 w' g n cap (toI zs)) ∧ Below w.heap.size w w' := by
  subst hz
  have hrf := runesFrom_eq s s.size 0 #[] (Nat.zero_le _) (by omega)
  rw [List.drop_zero] at hrf
  have hsz : (Conv.runesFrom s s.size 0 #[]).size = n := by rw [hrf]; simp [hn]
  have hcv := run_runes_of_string (P := Tryz.prog) w 9 25 21 s Tryz.underlying9 Tryz.underlying25 Tryz.underlying21 (by rw [hsz]; omega)
  have hcap := grownCap_ge w n 0 21
  rw [hsz] at hcv
  obtain ⟨cap, hc⟩ : ∃ cap, cap = grownCap w n 0 21 := ⟨_, rfl⟩
  rw [← hc] at hcv hcap
  obtain ⟨W1, hW1⟩ : ∃ W1, W1 = (w.drew.alloc (.cells (Conv.runesFrom s s.size 0 #[] ++ Array.replicate (cap - n) (.int .i32 0)) 21)) := ⟨_, rfl⟩
  rw [← hW1] at hcv
  have HB : Hid (Below w.heap.size w W1) := by show Below _ _ _; rw [hW1]; exact ((Below.refl _ _).drew).alloc (Nat.le_refl _) _
  have HR : Hid (Head .i32 W1 w.heap.size n cap (toI (runes s.data.toList))) := by
    refine ⟨by rw [toI_len, hn], hcap, by rw [hW1]; simp, fun i hi => ?_⟩
    rw [hW1]
    have h : (w.drew.alloc (.cells (Conv.runesFrom s s.size 0 #[] ++ Array.replicate (cap - n) (.int .i32 0)) 21)).heap[w.heap.size]? = _ := heap_alloc_new w.drew _
    rw [cell_of_row _ _ _ _ _ _ h, hrf, Array.getElem?_append_left (by simp; omega), toI_get]
    have hi2 : i < (runes s.data.toList).length := by omega
    simp [hi2]
  clear hW1 hc hcap hrf hsz hn
  generalize toI (runes s.data.toList) = xs at *
  go_enter Tryz.func14, Tryz.ntmps14
  go_wp2_with fail
  go_ret
  exact ⟨_, _, rfl, HR, HB.out⟩

theorem w_Text2 {g n cap : Nat} {zs : List Nat} {w : World} (h : Head .i32 w g n cap (toI zs)) (hr : ∀ z ∈ zs, isR z) :
    Calls Tryz.prog 19 #[.slice (some ⟨g, 0, none⟩) n cap] w fun e w' => e = .returned (.string ⟨(txt zs).toArray⟩) ∧ w' = w := by
  have := w_Text g n cap (toI zs) w h.1 (fun j hj => h.2.2.2 j (by rw [← h.1]; exact hj))
  rw [txt_toI zs hr] at this
  exact this

theorem beq_lists (s t : ByteArray) : (s.toList == t.toList) = (s.data.toList == t.data.toList) := by
  rw [Lib.toList_data, Lib.toList_data]
theorem txt_len (zs : List Nat) : (txt zs).length ≤ 4 * zs.length := by
  induction zs with
  | nil => exact Nat.le_refl _
  | cons z r ih =>
    have e2 : txt (z :: r) = enc z ++ txt r := rfl
    have := (enc_len z).2
    rw [e2, List.length_append, List.length_cons]; omega
end Go.Proofs.YtbfjpmbninlbbabGreatDoor
