import Derived.Test.YtkoednenjnnjoaaDoorM27
import Derived.Test.YtkoednenjnnjoaaDoorZW13
namespace Go.Proofs.YtkoednenjnnjoaaDoor
open Go.RowKit
set_option linter.unusedVariables false
set_option linter.unusedSimpArgs false

def ll5 : VT := .mk 5 ⟨#[]⟩ ⟨#[]⟩ [lw0] []
theorem ll_form : formN 2 ll5 = true := by
  have f0 : formN 1 lw0 = true := by
    show bareB ⟨#[]⟩ ⟨#[]⟩ 0 0 = true
    unfold bareB; rw [emW]; decide
  show ([lw0].all (formN 1) && bareB ⟨#[]⟩ ⟨#[]⟩ 0 0) = true
  simp only [List.all_cons, List.all_nil, f0, Bool.and_self, Bool.true_and]
  unfold bareB; rw [emW]; decide
theorem ll_text : wrV (some 1) 2 0 ll5 = [91, 10, 32, 110, 117, 108, 108, 10, 93] := by decide +kernel
theorem ll_sh : ShV 2 ll5 := by
  refine ⟨by decide, by decide, by simp [ll5, VT.keys], ?_⟩
  intro t ht
  obtain rfl : t = lw0 := by simpa [ll5, VT.items] using ht
  exact ⟨by decide, by decide, by simp [lw0, VT.keys], by simp [lw0, VT.items]⟩
theorem ll_in (w : World) (o : Obj) (ho : o = .cells #[.int .i64 0, .string ⟨#[]⟩, .string ⟨#[]⟩, .slice none 0 0, .slice none 0 0] 25) : InH (w.alloc o) 2 ll5 (.agg #[.int .i64 5, .string ⟨#[]⟩, .string ⟨#[]⟩, .slice (some ⟨w.heap.size, 0, none⟩) 1 1, .slice none 0 0]) := by
  subst ho
  have hb := heap_alloc_new w (.cells #[.int .i64 0, .string ⟨#[]⟩, .string ⟨#[]⟩, .slice none 0 0, .slice none 0 0] 25)
  refine ⟨some ⟨w.heap.size, 0, none⟩, 1, none, 0, rfl, by decide, by decide, by decide, by decide, by decide, by decide, by simp [ll5, VT.keys], ⟨fun h => by simp [ll5, VT.keys] at h⟩, fun _ => ⟨w.heap.size, 0, rfl, heap_lt hb, fun i hi => ?_⟩⟩
  have hi2 : i < 1 := hi
  obtain rfl : i = 0 := by omega
  exact ⟨_, _, _, _, _, ⟨by rw [Lib.cell_of_heap hb]; rfl, by rw [Lib.cell_of_heap hb]; rfl, by rw [Lib.cell_of_heap hb]; rfl, by rw [Lib.cell_of_heap hb]; rfl, by rw [Lib.cell_of_heap hb]; rfl⟩, nilI _ 0 0 ⟨#[]⟩ ⟨#[]⟩ (by decide) (by decide)⟩

set_option maxRecDepth 100000 in
set_option maxHeartbeats 800000 in
theorem w_Laid_bad (w : World) (kd : Int) (nm tx : ByteArray) (io ko : Value) (sp : Int) (hsp : sp < 0 ∨ 8 < sp) :
    Calls Tryd.prog 13 #[.agg #[.int .i64 kd, .string nm, .string tx, io, ko], .int .i64 sp] w fun e w' => e = .returned (.tuple #[.string ⟨#[]⟩, .int .i64 2]) ∧ Below w.heap.size w w' := by
  have HX := Hid.mk (vbx_new w (.int .i64 kd) (.string nm) (.string tx) io ko)
  by_cases h0 : sp < 0
  · clear hsp
    go_enter Tryd.func13, Tryd.ntmps13
    go_wp2_with fail
    go_ret2
    exact ⟨rfl, HX.out.below⟩
  · have h8 : 8 < sp := by omega
    clear hsp
    go_enter Tryd.func13, Tryd.ntmps13
    go_wp2_with fail
    go_ret2
    exact ⟨rfl, HX.out.below⟩

set_option maxRecDepth 100000 in
set_option maxHeartbeats 800000 in
theorem w_rLaid_bad (w : World) (kd : Int) (nm tx : ByteArray) (io ko : Value) (sp : Int) (hsp : sp < 0 ∨ 8 < sp) :
    Calls Tryd.prog 14 #[.agg #[.int .i64 kd, .string nm, .string tx, io, ko], .int .i64 sp] w fun e w' => e = .returned (.tuple #[.string ⟨#[]⟩, .int .i64 2]) ∧ Below w.heap.size w w' := by
  have HX := Hid.mk (vbx_new w (.int .i64 kd) (.string nm) (.string tx) io ko)
  by_cases h0 : sp < 0
  · clear hsp
    go_enter Tryd.func14, Tryd.ntmps14
    go_wp2_with fail
    go_ret2
    exact ⟨rfl, HX.out.below⟩
  · have h8 : 8 < sp := by omega
    clear hsp
    go_enter Tryd.func14, Tryd.ntmps14
    go_wp2_with fail
    go_ret2
    exact ⟨rfl, HX.out.below⟩

/-- what Laid answers, of any step -/
theorem laid_both (h : Nat) (T : VT) (sp : Int) (hsh : ShV h T) (hsz : szN h T ≤ 20000) : ∃ (A : ByteArray) (er : Int), (∀ (u : World) (kd : Int) (nm tx : ByteArray) (io : Option Addr) (N icap : Nat) (ko : Option Addr) (K kcap : Nat), InH u h T (.agg #[.int .i64 kd, .string nm, .string tx, .slice io N icap, .slice ko K kcap]) → WordsAt u → Calls Tryd.prog 13 #[.agg #[.int .i64 kd, .string nm, .string tx, .slice io N icap, .slice ko K kcap], .int .i64 sp] u fun e w' => e = .returned (.tuple #[.string A, .int .i64 er]) ∧ Below u.heap.size u w') ∧
    (∀ (u : World) (kd : Int) (nm tx : ByteArray) (io : Option Addr) (N icap : Nat) (ko : Option Addr) (K kcap : Nat), InH u h T (.agg #[.int .i64 kd, .string nm, .string tx, .slice io N icap, .slice ko K kcap]) → Calls Tryd.prog 14 #[.agg #[.int .i64 kd, .string nm, .string tx, .slice io N icap, .slice ko K kcap], .int .i64 sp] u fun e w' => e = .returned (.tuple #[.string A, .int .i64 er]) ∧ Below u.heap.size u w') := by
  by_cases hb : sp < 0 ∨ 8 < sp
  · exact ⟨⟨#[]⟩, 2, fun u _ _ _ _ _ _ _ _ _ _ _ => w_Laid_bad u _ _ _ _ _ sp hb, fun u _ _ _ _ _ _ _ _ _ _ => w_rLaid_bad u _ _ _ _ _ sp hb⟩
  · obtain ⟨s, rfl⟩ : ∃ s : Nat, sp = (s : Int) := ⟨sp.toNat, by omega⟩
    exact ⟨_, _, fun u _ _ _ _ _ _ _ _ _ hI hw => w_Laid h T u _ _ _ _ _ _ _ _ _ s (by omega) hI hsh hsz hw, fun u _ _ _ _ _ _ _ _ _ hI => w_rLaid h T u _ _ _ _ _ _ _ _ _ s (by omega) hI hsh hsz⟩

set_option maxRecDepth 100000 in
set_option maxHeartbeats 3200000 in
theorem w_WriterLaid (h : Nat) (T : VT) (w : World) (k : Int) (n t : ByteArray) (io : Option Addr) (N icap : Nat) (ko : Option Addr) (K kcap : Nat) (sp : Int) (hI : InH w h T (.agg #[.int .i64 k, .string n, .string t, .slice io N icap, .slice ko K kcap])) (hsh : ShV h T) (hwd : WordsAt w) :
    Calls Tryd.prog 4 #[.agg #[.int .i64 k, .string n, .string t, .slice io N icap, .slice ko K kcap], .int .i64 sp] w fun e w' => e = .returned (.bool true) ∧ Below w.heap.size w w' := by
  have HX := Hid.mk (vbx_new w (.int .i64 k) (.string n) (.string t) (.slice io N icap) (.slice ko K kcap))
  obtain ⟨W0, hW0⟩ : ∃ W0, W0 = (w.alloc (.cells #[.int .i64 k, .string n, .string t, .slice io N icap, .slice ko K kcap] 25)).alloc (.cells #[.int .i64 0, .string ⟨#[]⟩, .string ⟨#[]⟩, .slice none 0 0, .slice none 0 0] 25) := ⟨_, rfl⟩
  have HX0 := Hid.mk (HX.out.keep ((Below.refl _ _).alloc (Nat.le_refl _) (.cells #[.int .i64 0, .string ⟨#[]⟩, .string ⟨#[]⟩, .slice none 0 0, .slice none 0 0] 25)))
  have HL0 : Calls Tryd.prog 13 #[.agg #[.int .i64 5, .string ⟨#[]⟩, .string ⟨#[]⟩, .slice (some ⟨w.heap.size + 1, 0, none⟩) 1 1, .slice none 0 0], .int .i64 1] W0 fun e w' => e = .returned (.tuple #[.string ⟨#[91, 10, 32, 110, 117, 108, 108, 10, 93]⟩, .int .i64 0]) ∧ Hid (VBx w w' (.int .i64 k) (.string n) (.string t) (.slice io N icap) (.slice ko K kcap)) := by
    have hi := ll_in (w.alloc (.cells #[.int .i64 k, .string n, .string t, .slice io N icap, .slice ko K kcap] 25)) _ rfl
    rw [World.size_alloc, ← hW0] at hi
    rw [← hW0] at HX0
    have h1 := w_Laid 2 ll5 W0 _ _ _ _ _ _ _ _ _ 1 (by decide) hi ll_sh (by decide) (hwd.keep HX0.out.below)
    rw [ll_form] at h1
    simp only [if_true] at h1
    rw [ll_text] at h1
    exact h1.mono fun e w' ⟨he, hb⟩ => ⟨he, HX0.out.keep hb⟩
  have HLH := Hid.mk HL0
  have HW0 := Hid.mk hW0
  have HSm : Hid (∀ u, VBx w u (.int .i64 k) (.string n) (.string t) (.slice io N icap) (.slice ko K kcap) → Calls Tryd.prog 9 #[.agg #[.int .i64 k, .string n, .string t, .slice io N icap, .slice ko K kcap]] u fun e w' => e = .returned (.bool (decide (szN h T ≤ 20000))) ∧ Hid (VBx w w' (.int .i64 k) (.string n) (.string t) (.slice io N icap) (.slice ko K kcap))) := fun u hu => (w_small6 h T u _ _ _ _ _ _ _ _ _ (hI.keep hu.below)).mono fun e w' ⟨he, hb⟩ => ⟨he, hu.keep hb⟩
  clear hW0 HL0
  cases hd : decide (szN h T ≤ 20000) with
  | false =>
    rw [hd] at HSm
    clear hd hI hsh hwd
    go_enter Tryd.func4, Tryd.ntmps4
    go_wp2_with fail
    rw [← HW0.out]
    refine HLH.out.mono ?_
    rintro e w1 ⟨rfl, HX1⟩
    obtain ⟨_, c0, c1, c2, c3, c4, _⟩ := HX1.out
    go_wp2_with fail
    refine (HSm.out _ HX1.out).mono ?_
    rintro e w2 ⟨rfl, HX2⟩
    clear c0 c1 c2 c3 c4
    go_wp2_with fail
    go_ret
    exact ⟨rfl, HX2.out.below⟩
  | true =>
    have hsz : szN h T ≤ 20000 := of_decide_eq_true hd
    rw [hd] at HSm
    obtain ⟨A, er, hP, hR⟩ := laid_both h T sp hsh hsz
    have HTx : Hid (∀ u, VBx w u (.int .i64 k) (.string n) (.string t) (.slice io N icap) (.slice ko K kcap) → Calls Tryd.prog 13 #[.agg #[.int .i64 k, .string n, .string t, .slice io N icap, .slice ko K kcap], .int .i64 sp] u fun e w' => e = .returned (.tuple #[.string A, .int .i64 er]) ∧ Hid (VBx w w' (.int .i64 k) (.string n) (.string t) (.slice io N icap) (.slice ko K kcap))) := fun u hu => (hP u _ _ _ _ _ _ _ _ _ (hI.keep hu.below) (hwd.keep hu.below)).mono fun e w' ⟨he, hb⟩ => ⟨he, hu.keep hb⟩
    have HRx : Hid (∀ u, VBx w u (.int .i64 k) (.string n) (.string t) (.slice io N icap) (.slice ko K kcap) → Calls Tryd.prog 14 #[.agg #[.int .i64 k, .string n, .string t, .slice io N icap, .slice ko K kcap], .int .i64 sp] u fun e w' => e = .returned (.tuple #[.string A, .int .i64 er]) ∧ Hid (VBx w w' (.int .i64 k) (.string n) (.string t) (.slice io N icap) (.slice ko K kcap))) := fun u hu => (hR u _ _ _ _ _ _ _ _ _ (hI.keep hu.below)).mono fun e w' ⟨he, hb⟩ => ⟨he, hu.keep hb⟩
    clear hd hI hsh hwd hsz hP hR
    go_enter Tryd.func4, Tryd.ntmps4
    go_wp2_with fail
    rw [← HW0.out]
    refine HLH.out.mono ?_
    rintro e w1 ⟨rfl, HX1⟩
    obtain ⟨_, c0, c1, c2, c3, c4, _⟩ := HX1.out
    go_wp2_with fail
    refine (HSm.out _ HX1.out).mono ?_
    rintro e w2 ⟨rfl, HX2⟩
    clear c0 c1 c2 c3 c4
    obtain ⟨_, c0, c1, c2, c3, c4, _⟩ := HX2.out
    go_wp2_with fail
    refine (HTx.out _ HX2.out).mono ?_
    rintro e w3 ⟨rfl, HX3⟩
    clear c0 c1 c2 c3 c4
    obtain ⟨_, c0, c1, c2, c3, c4, _⟩ := HX3.out
    go_wp2_with fail
    refine (HRx.out _ HX3.out).mono ?_
    rintro e w5 ⟨rfl, HX5⟩
    clear c0 c1 c2 c3 c4
    go_wp2_with fail
    go_ret
    exact ⟨by first | rfl | simp, HX5.out.below⟩
end Go.Proofs.YtkoednenjnnjoaaDoor
