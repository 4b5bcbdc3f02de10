import Derived.Test.YtfjmgccbpiolhaaGreatDoorMW30
import Derived.Test.YtfjmgccbpiolhaaGreatDoorMW29
import Derived.Laws.EntriesVeiled
namespace Go.Proofs.YtfjmgccbpiolhaaGreatDoor
open Go.RowKit
set_option linter.unusedVariables false
set_option linter.unusedSimpArgs false

def lw3 : VT := .mk 3 ⟨#[45, 55]⟩ ⟨#[]⟩ [] []
def lw0 : VT := .mk 0 ⟨#[]⟩ ⟨#[]⟩ [] []
def lw5 : VT := .mk 5 ⟨#[]⟩ ⟨#[]⟩ [lw3, lw0] []
def lw6 : VT := .mk 6 ⟨#[]⟩ ⟨#[]⟩ [lw5] [⟨#[97]⟩]
theorem emW : (⟨#[]⟩ : ByteArray).toList.isEmpty = true := by rw [Lib.toList_data]; rfl
theorem emW2 : ByteArray.empty.toList.isEmpty = true := by rw [Lib.toList_data]; rfl
theorem lw_form : formN 3 lw6 = true := by
  have f3 : formN 1 lw3 = true := by
    show (Pl.formed [45, 55] && bareB .empty ⟨#[]⟩ 0 0) = true
    unfold bareB; rw [emW, emW2]; decide
  have f0 : formN 1 lw0 = true := by
    show bareB ⟨#[]⟩ ⟨#[]⟩ 0 0 = true
    unfold bareB; rw [emW]; decide
  have f5 : formN 2 lw5 = true := by
    show ([lw3, lw0].all (formN 1) && bareB ⟨#[]⟩ ⟨#[]⟩ 0 0) = true
    simp only [List.all_cons, List.all_nil, f3, f0, Bool.and_self, Bool.true_and]
    unfold bareB; rw [emW]; decide
  show (decide (1 = 1) && (rK [⟨#[97]⟩] 1 && oK [⟨#[97]⟩] 1) && [lw5].all (formN 2) && bareB ⟨#[]⟩ ⟨#[]⟩ 0 0) = true
  simp only [List.all_cons, List.all_nil, f5, Bool.and_self, Bool.true_and, Bool.and_true]
  unfold bareB; rw [emW]; decide
theorem lw_text : wrV none 3 0 lw6 = [123, 34, 97, 34, 58, 91, 45, 55, 44, 110, 117, 108, 108, 93, 125] := by decide +kernel
theorem lw_sz : szN 3 lw6 ≤ 20000 := by decide
theorem lw_sh : ShV 3 lw6 := by
  refine ⟨by decide, by decide, ?_, ?_⟩
  · intro k hk
    obtain rfl : k = ⟨#[97]⟩ := by simpa [lw6, VT.keys] using hk
    decide
  · intro t ht
    obtain rfl : t = lw5 := by simpa [lw6, VT.items] using ht
    refine ⟨by decide, by decide, by simp [lw5, VT.keys], ?_⟩
    intro t ht
    rcases (show t = lw3 ∨ t = lw0 by simpa [lw5, VT.items] using ht) with rfl | rfl
    · exact ⟨by decide, by decide, by simp [lw3, VT.keys], by simp [lw3, VT.items]⟩
    · exact ⟨by decide, by decide, by simp [lw0, VT.keys], by simp [lw0, VT.items]⟩
def lwW (w : World) : World := ((w.alloc (.cells #[.string ⟨#[97]⟩] 9)).alloc (.cells #[.int .i64 3, .string ⟨#[45, 55]⟩, .string ⟨#[]⟩, .slice none 0 0, .slice none 0 0, .int .i64 0, .string ⟨#[]⟩, .string ⟨#[]⟩, .slice none 0 0, .slice none 0 0] 49)).alloc (.cells #[.int .i64 5, .string ⟨#[]⟩, .string ⟨#[]⟩, .slice (some ⟨w.heap.size + 1, 0, none⟩) 2 2, .slice none 0 0] 49)
theorem lwW_below (w : World) : Below w.heap.size w (lwW w) := (((Below.refl _ _).alloc (Nat.le_refl _) _).alloc (by simp) _).alloc (by simp; omega) _
theorem lwW_0 (w : World) : (lwW w).heap[w.heap.size]? = some (.cells #[.string ⟨#[97]⟩] 9 (0, 0)) := by
  unfold lwW
  rw [Lib.alloc_old _ _ _ (by simp; omega), Lib.alloc_old _ _ _ (by simp)]
  exact heap_alloc_new w _
theorem lwW_1 (w : World) : (lwW w).heap[w.heap.size + 1]? = some (.cells #[.int .i64 3, .string ⟨#[45, 55]⟩, .string ⟨#[]⟩, .slice none 0 0, .slice none 0 0, .int .i64 0, .string ⟨#[]⟩, .string ⟨#[]⟩, .slice none 0 0, .slice none 0 0] 49 (0, 0)) := by
  unfold lwW
  rw [Lib.alloc_old _ _ _ (by simp)]
  have e := heap_alloc_new (w.alloc (.cells #[.string ⟨#[97]⟩] 9)) (.cells #[.int .i64 3, .string ⟨#[45, 55]⟩, .string ⟨#[]⟩, .slice none 0 0, .slice none 0 0, .int .i64 0, .string ⟨#[]⟩, .string ⟨#[]⟩, .slice none 0 0, .slice none 0 0] 49)
  rw [World.size_alloc] at e
  exact e
theorem lwW_2 (w : World) : (lwW w).heap[w.heap.size + 1 + 1]? = some (.cells #[.int .i64 5, .string ⟨#[]⟩, .string ⟨#[]⟩, .slice (some ⟨w.heap.size + 1, 0, none⟩) 2 2, .slice none 0 0] 49 (0, 0)) := by
  unfold lwW
  have e := heap_alloc_new ((w.alloc (.cells #[.string ⟨#[97]⟩] 9)).alloc (.cells #[.int .i64 3, .string ⟨#[45, 55]⟩, .string ⟨#[]⟩, .slice none 0 0, .slice none 0 0, .int .i64 0, .string ⟨#[]⟩, .string ⟨#[]⟩, .slice none 0 0, .slice none 0 0] 49)) (.cells #[.int .i64 5, .string ⟨#[]⟩, .string ⟨#[]⟩, .slice (some ⟨w.heap.size + 1, 0, none⟩) 2 2, .slice none 0 0] 49)
  rw [World.size_alloc, World.size_alloc] at e
  exact e
theorem nilI (W : World) (h : Nat) (k : Int) (n t : ByteArray) (hn : n.size ≤ 10) (ht : t.size ≤ 10) : InH W (h + 1) (.mk k n t [] []) (.agg #[.int .i64 k, .string n, .string t, .slice none 0 0, .slice none 0 0]) :=
  ⟨none, 0, none, 0, rfl, by show n.size ≤ _; omega, by show t.size ≤ _; omega, Nat.zero_le _, Nat.zero_le _, Nat.le_refl _, Nat.le_refl _, by simp [VT.keys], ⟨fun h => by simp [VT.keys] at h⟩, fun h => by simp [VT.items] at h⟩
theorem lw_in (w : World) : InH (lwW w) 3 lw6 (.agg #[.int .i64 6, .string ⟨#[]⟩, .string ⟨#[]⟩, .slice (some ⟨w.heap.size + 1 + 1, 0, none⟩) 1 1, .slice (some ⟨w.heap.size, 0, none⟩) 1 1]) := by
  have h5 : InH (lwW w) 2 lw5 (.agg #[.int .i64 5, .string ⟨#[]⟩, .string ⟨#[]⟩, .slice (some ⟨w.heap.size + 1, 0, none⟩) 2 2, .slice none 0 0]) := by
    refine ⟨some ⟨w.heap.size + 1, 0, none⟩, 2, none, 0, rfl, by decide, by decide, by decide, by decide, by decide, by decide, by simp [lw5, VT.keys], ⟨fun h => by simp [lw5, VT.keys] at h⟩, fun _ => ⟨w.heap.size + 1, 0, rfl, heap_lt (lwW_1 w), fun i hi => ?_⟩⟩
    have hi2 : i < 2 := hi
    match i, hi2 with
    | 0, _ => exact ⟨_, _, _, _, _, ⟨by rw [Lib.cell_of_heap (lwW_1 w)]; rfl, by rw [Lib.cell_of_heap (lwW_1 w)]; rfl, by rw [Lib.cell_of_heap (lwW_1 w)]; rfl, by rw [Lib.cell_of_heap (lwW_1 w)]; rfl, by rw [Lib.cell_of_heap (lwW_1 w)]; rfl⟩, nilI _ 0 3 ⟨#[45, 55]⟩ ⟨#[]⟩ (by decide) (by decide)⟩
    | 1, _ => exact ⟨_, _, _, _, _, ⟨by rw [Lib.cell_of_heap (lwW_1 w)]; rfl, by rw [Lib.cell_of_heap (lwW_1 w)]; rfl, by rw [Lib.cell_of_heap (lwW_1 w)]; rfl, by rw [Lib.cell_of_heap (lwW_1 w)]; rfl, by rw [Lib.cell_of_heap (lwW_1 w)]; rfl⟩, nilI _ 0 0 ⟨#[]⟩ ⟨#[]⟩ (by decide) (by decide)⟩
  refine ⟨some ⟨w.heap.size + 1 + 1, 0, none⟩, 1, some ⟨w.heap.size, 0, none⟩, 1, rfl, by decide, by decide, by decide, by decide, by decide, by decide, ?_, ⟨fun _ => ⟨w.heap.size, 0, rfl, heap_lt (lwW_0 w), fun i hi => ?_⟩⟩, fun _ => ⟨w.heap.size + 1 + 1, 0, rfl, heap_lt (lwW_2 w), fun i hi => ?_⟩⟩
  · intro k hk
    obtain rfl : k = ⟨#[97]⟩ := by simpa [lw6, VT.keys] using hk
    decide
  · have hi2 : i < 1 := hi
    obtain rfl : i = 0 := by omega
    rw [Lib.cell_of_heap (lwW_0 w)]; rfl
  · have hi2 : i < 1 := hi
    obtain rfl : i = 0 := by omega
    exact ⟨_, _, _, _, _, ⟨by rw [Lib.cell_of_heap (lwW_2 w)]; rfl, by rw [Lib.cell_of_heap (lwW_2 w)]; rfl, by rw [Lib.cell_of_heap (lwW_2 w)]; rfl, by rw [Lib.cell_of_heap (lwW_2 w)]; rfl, by rw [Lib.cell_of_heap (lwW_2 w)]; rfl⟩, h5⟩

set_option maxRecDepth 100000 in
set_option maxHeartbeats 1600000 in
theorem w_lives6 (w : World) (hwd : WordsAt w) : Calls Tryz.prog 5 #[] w fun e w' => e = .returned (.bool true) ∧ Below w.heap.size w w' := by
  have HT := w_Text 3 lw6 (lwW w) _ _ _ _ _ _ _ _ _ (lw_in w) lw_sh lw_sz (hwd.keep (lwW_below w))
  rw [lw_form] at HT
  simp only [if_true] at HT
  rw [lw_text] at HT
  have HTH := Hid.mk HT
  have HW : Hid (lwW w = ((w.alloc (.cells #[.string ⟨#[97]⟩] 9)).alloc (.cells #[.int .i64 3, .string ⟨#[45, 55]⟩, .string ⟨#[]⟩, .slice none 0 0, .slice none 0 0, .int .i64 0, .string ⟨#[]⟩, .string ⟨#[]⟩, .slice none 0 0, .slice none 0 0] 49)).alloc (.cells #[.int .i64 5, .string ⟨#[]⟩, .string ⟨#[]⟩, .slice (some ⟨w.heap.size + 1, 0, none⟩) 2 2, .slice none 0 0] 49)) := rfl
  have HB := Hid.mk (lwW_below w)
  clear HT hwd
  go_enter Tryz.func5, Tryz.ntmps5
  go_wp2_with fail
  rw [← HW.out]
  refine HTH.out.mono ?_
  rintro e w1 ⟨rfl, hb⟩
  have HB1 := Hid.mk (HB.out.trans (hb.mono HB.out.size))
  clear hb
  go_wp2_with fail
  go_ret
  exact ⟨rfl, HB1.out⟩
end Go.Proofs.YtfjmgccbpiolhaaGreatDoor
namespace Go.Proofs.YtfjmgccbpiolhaaGreatDoor
open Go.RowKit Go.Sort
set_option linter.unusedVariables false
set_option linter.unusedSimpArgs false

set_option maxRecDepth 100000 in
set_option maxHeartbeats 1600000 in
theorem w_Laid (h : Nat) (T : VT) (w : World) (kd : Int) (nm tx : ByteArray) (io : Option Addr) (N icap : Nat) (ko : Option Addr) (K kcap : Nat) (sp : Nat) (hsp : sp ≤ 8) (hI : InH w h T (.agg #[.int .i64 kd, .string nm, .string tx, .slice io N icap, .slice ko K kcap])) (hsh : ShV h T) (hsz : szN h T ≤ 20000) (hwd : WordsAt w) :
    Calls Tryz.prog 9 #[(.agg #[.int .i64 kd, .string nm, .string tx, .slice io N icap, .slice ko K kcap]), .int .i64 (sp : Int)] w fun e w' => e = .returned (.tuple #[.string ⟨(if formN h T = true then wrV (some sp) h 0 T else []).toArray⟩, .int .i64 (if formN h T = true then 0 else 1)]) ∧ Below w.heap.size w w' := by
  have hmf : ∀ (fn : Fn) (first cap : Array Value) (w : World), (Instr.makeFunc fn first cap).run Tryz.prog w = .ok (.func fn first cap) w := fun _ _ _ _ => rfl
  have HX := Hid.mk (vbx_new w (.int .i64 kd) (.string nm) (.string tx) (.slice io N icap) (.slice ko K kcap))
  obtain ⟨W0, hW0⟩ : ∃ W0, W0 = w.alloc (.cells #[.int .i64 kd, .string nm, .string tx, .slice io N icap, .slice ko K kcap] 49) := ⟨_, rfl⟩
  rw [← hW0] at HX
  have b0 := HX.out.c0
  have b1 := HX.out.c1
  have b2 := HX.out.c2
  have b3 := HX.out.c3
  have b4 := HX.out.c4
  have HF := Hid.mk (w_vFormed h T _ W0 (hI.keep HX.out.below))
  have HW0 := Hid.mk hW0
  have hq1 : ¬ (sp : Int) < 0 := by omega
  have hq2 : ¬ (8 : Int) < (sp : Int) := by omega
  have hq3 : (sp : Int) ≤ 8 := by omega
  cases hf : formN h T with
  | false =>
    rw [hf] at HF
    simp only [Bool.false_eq_true, if_false]
    clear hW0 hf hI hsh hsz hwd
    go_enter Tryz.func9, Tryz.ntmps9
    go_wp2_with fail
    rw [← HW0.out]
    refine HF.out.mono ?_
    rintro e w1 ⟨rfl, hb⟩
    have HB := Hid.mk (HX.out.keep hb).below
    clear hb b0 b1 b2 b3 b4
    go_wp2_with fail
    go_ret2
    exact ⟨rfl, HB.out⟩
  | true =>
    rw [hf] at HF
    simp only [if_true]
    clear hW0
    go_enter Tryz.func9, Tryz.ntmps9
    go_wp2_with fail
    rw [← HW0.out]
    refine HF.out.mono ?_
    rintro e w1 ⟨rfl, hb⟩
    have HX1 := Hid.mk (HX.out.keep hb)
    clear hb b0 b1 b2 b3 b4
    have hlen := wrV_len (some sp) (fun s e => by cases e; exact hsp) h 0 T hf hsh (by omega)
    obtain ⟨W2, hW2⟩ : ∃ W2, W2 = (w1.alloc (.cells #[.pointer none, .slice none 0 0, .int .i64 0] 76)).alloc (.cells #[.func (.func 25) #[.pointer (some ⟨w1.heap.size, 0, none⟩)] #[], .bool true, .int .i64 (sp : Int), .int .i64 0] 79) := ⟨_, rfl⟩
    have hb2 : Below w1.heap.size w1 W2 := by rw [hW2]; exact ((Below.refl _ _).alloc (Nat.le_refl _) _).alloc (by simp) _
    have HX2 := Hid.mk (HX1.out.keep hb2)
    have hz2 : W2.heap.size = w1.heap.size + 1 + 1 := by rw [hW2]; simp
    have hWr : WrAt W2 (w1.heap.size + 1) 25 w1.heap.size (some sp) 0 := by
      rw [hW2]
      have e := heap_alloc_new (w1.alloc (.cells #[.pointer none, .slice none 0 0, .int .i64 0] 76)) (.cells #[.func (.func 25) #[.pointer (some ⟨w1.heap.size, 0, none⟩)] #[], .bool true, .int .i64 (sp : Int), .int .i64 0] 79)
      rw [World.size_alloc] at e
      exact e
    have hSh : Sheet w1.heap.size w1.heap.size W2 [] := by
      have e := sheet_new w1
      rw [hW2]
      exact (keep_ok w1.heap.size w1.heap.size).below e ((Below.refl _ _).alloc (Nat.le_refl _) _)
    have hI1 := hI.keep HX1.out.below
    have HV : Hid (Calls Tryz.prog 26 #[.pointer (some ⟨w1.heap.size + 1, 0, none⟩), (.agg #[.int .i64 kd, .string nm, .string tx, .slice io N icap, .slice ko K kcap])] W2 fun e w' => e = .returned (.tuple #[]) ∧ Sheet w1.heap.size w1.heap.size w' (wrV (some sp) h 0 T) ∧ Below w1.heap.size W2 w') := by
      refine (w_value (keep_ok w1.heap.size w1.heap.size) (w1.heap.size + 1) (some sp) w1 (Nat.le_refl _) (by omega) (by omega) (fun s e => by cases e; exact hsp) (hwd.keep HX1.out.below) h T _ W2 0 [] hI1 hf hsh hb2 hWr hSh (by omega) (by omega) (by omega) (by simp only [List.length_nil]; omega)).mono ?_
      rintro e w' ⟨he, h1, h2, h3⟩
      exact ⟨he, by simpa using h1, h2⟩
    have d0 := HX2.out.c0
    have d1 := HX2.out.c1
    have d2 := HX2.out.c2
    have d3 := HX2.out.c3
    have d4 := HX2.out.c4
    rw [hW2] at d0 d1 d2 d3 d4
    have HW2 := Hid.mk hW2
    have hbw := (HX1.out.below).trans (hb2.mono HX1.out.below.size)
    have HBW := Hid.mk hbw
    have HL1 := Hid.mk HX1.out.below.size
    clear hW2 hb2 hz2 hWr hSh hI1 hlen hsh hsz hI hf hwd hbw
    go_wp2_with fail
    rw [← HW2.out]
    refine HV.out.mono ?_
    rintro e w3 ⟨rfl, hS3, hb3⟩
    have HB3 := Hid.mk (HBW.out.trans (hb3.mono HL1.out))
    have HSt := Hid.mk (w_String w1.heap.size w1.heap.size _ w3 hS3)
    clear hS3 hb3 d0 d1 d2 d3 d4
    go_wp2_with fail
    refine HSt.out.mono ?_
    rintro e w4 ⟨rfl, hb4⟩
    have HB4 := Hid.mk (HB3.out.trans (hb4.mono HL1.out))
    clear hb4
    go_wp2_with fail
    go_ret2
    exact ⟨rfl, HB4.out⟩
end Go.Proofs.YtfjmgccbpiolhaaGreatDoor
namespace Go.Proofs.YtfjmgccbpiolhaaGreatDoor
open Go.RowKit
set_option linter.unusedVariables false
set_option linter.unusedSimpArgs false

set_option maxRecDepth 100000 in
set_option maxHeartbeats 800000 in
theorem w_Laid_bad (w : World) (kd : Int) (nm tx : ByteArray) (io ko : Value) (sp : Int) (hsp : sp < 0 ∨ 8 < sp) :
    Calls Tryz.prog 9 #[.agg #[.int .i64 kd, .string nm, .string tx, io, ko], .int .i64 sp] w fun e w' => e = .returned (.tuple #[.string ⟨#[]⟩, .int .i64 2]) ∧ Below w.heap.size w w' := by
  have HX := Hid.mk (vbx_new w (.int .i64 kd) (.string nm) (.string tx) io ko)
  by_cases h0 : sp < 0
  · clear hsp
    go_enter Tryz.func9, Tryz.ntmps9
    go_wp2_with fail
    go_ret2
    exact ⟨rfl, HX.out.below⟩
  · have h8 : 8 < sp := by omega
    clear hsp
    go_enter Tryz.func9, Tryz.ntmps9
    go_wp2_with fail
    go_ret2
    exact ⟨rfl, HX.out.below⟩

set_option maxRecDepth 100000 in
set_option maxHeartbeats 800000 in
theorem w_rLaid_bad (w : World) (kd : Int) (nm tx : ByteArray) (io ko : Value) (sp : Int) (hsp : sp < 0 ∨ 8 < sp) :
    Calls Tryz.prog 15 #[.agg #[.int .i64 kd, .string nm, .string tx, io, ko], .int .i64 sp] w fun e w' => e = .returned (.tuple #[.string ⟨#[]⟩, .int .i64 2]) ∧ Below w.heap.size w w' := by
  have HX := Hid.mk (vbx_new w (.int .i64 kd) (.string nm) (.string tx) io ko)
  by_cases h0 : sp < 0
  · clear hsp
    go_enter Tryz.func15, Tryz.ntmps15
    go_wp2_with fail
    go_ret2
    exact ⟨rfl, HX.out.below⟩
  · have h8 : 8 < sp := by omega
    clear hsp
    go_enter Tryz.func15, Tryz.ntmps15
    go_wp2_with fail
    go_ret2
    exact ⟨rfl, HX.out.below⟩

theorem laid_both (h : Nat) (T : VT) (sp : Int) (hsh : ShV h T) (hsz : szN h T ≤ 20000) : ∃ (A : ByteArray) (er : Int), (∀ (u : World) (kd : Int) (nm tx : ByteArray) (io : Option Addr) (N icap : Nat) (ko : Option Addr) (K kcap : Nat), InH u h T (.agg #[.int .i64 kd, .string nm, .string tx, .slice io N icap, .slice ko K kcap]) → WordsAt u → Calls Tryz.prog 9 #[.agg #[.int .i64 kd, .string nm, .string tx, .slice io N icap, .slice ko K kcap], .int .i64 sp] u fun e w' => e = .returned (.tuple #[.string A, .int .i64 er]) ∧ Below u.heap.size u w') ∧
    (∀ (u : World) (kd : Int) (nm tx : ByteArray) (io : Option Addr) (N icap : Nat) (ko : Option Addr) (K kcap : Nat), InH u h T (.agg #[.int .i64 kd, .string nm, .string tx, .slice io N icap, .slice ko K kcap]) → Calls Tryz.prog 15 #[.agg #[.int .i64 kd, .string nm, .string tx, .slice io N icap, .slice ko K kcap], .int .i64 sp] u fun e w' => e = .returned (.tuple #[.string A, .int .i64 er]) ∧ Below u.heap.size u w') := by
  by_cases hb : sp < 0 ∨ 8 < sp
  · exact ⟨⟨#[]⟩, 2, fun u _ _ _ _ _ _ _ _ _ _ _ => w_Laid_bad u _ _ _ _ _ sp hb, fun u _ _ _ _ _ _ _ _ _ _ => w_rLaid_bad u _ _ _ _ _ sp hb⟩
  · obtain ⟨s, rfl⟩ : ∃ s : Nat, sp = (s : Int) := ⟨sp.toNat, by omega⟩
    exact ⟨_, _, fun u _ _ _ _ _ _ _ _ _ hI hw => w_Laid h T u _ _ _ _ _ _ _ _ _ s (by omega) hI hsh hsz hw, fun u _ _ _ _ _ _ _ _ _ hI => w_rLaid h T u _ _ _ _ _ _ _ _ _ s (by omega) hI hsh hsz⟩
end Go.Proofs.YtfjmgccbpiolhaaGreatDoor
namespace Go.Proofs.YtfjmgccbpiolhaaGreatDoor
open Go.RowKit
set_option linter.unusedVariables false
set_option linter.unusedSimpArgs false

def lnsG (h : Nat) (ts : List VT) (i : Nat) : List UInt8 := (ts[i]?.map (wrV none h 0)).getD [] ++ [10]
def lnsW (h : Nat) (ts : List VT) (k : Nat) : List UInt8 := joinR (lnsG h ts) k
theorem lnsG_at {h : Nat} {ts : List VT} {i : Nat} (hi : i < ts.length) : lnsG h ts i = wrV none h 0 ts[i] ++ [10] := by unfold lnsG; rw [List.getElem?_eq_getElem hi]; rfl
theorem lnsW_len (h : Nat) (ts : List VT) (hf : ∀ t ∈ ts, formN h t = true) (hsh : ∀ t ∈ ts, ShV h t) (hsz : sumL (ts.map (szN h)) ≤ 20000) : (lnsW h ts ts.length).length ≤ 33554432 * sumL (ts.map (szN h)) := by
  have hb := joinR_len (lnsG h ts) (fun i => 33554432 * (ts[i]?.map (szN h)).getD 0) ts.length (by
    intro i hil
    have hm := List.getElem_mem hil
    have h1 : szN h ts[i] ≤ sumL (ts.map (szN h)) := sumL_mem (List.mem_map.2 ⟨_, hm, rfl⟩)
    have h2 := wrV_len none (fun s e => by cases e) h 0 ts[i] (hf _ hm) (hsh _ hm) (by omega)
    rw [lnsG_at hil, List.getElem?_eq_getElem hil]
    simp only [List.length_append, List.length_cons, List.length_nil, Option.map_some, Option.getD_some]
    omega)
  rw [sum_rng (szN h) 33554432 _ (fun i hil => by rw [List.getElem?_eq_getElem hil]; rfl)] at hb
  exact hb
theorem all_at {h : Nat} {ts : List VT} (hf : ts.all (formN h) = true) : ∀ t ∈ ts, formN h t = true := fun t ht => List.all_eq_true.1 hf t ht

set_option maxRecDepth 100000 in
set_option maxHeartbeats 1600000 in
theorem w_rLines (h : Nat) (io : Option Addr) (N icap : Nat) (ts : List VT) (w : World) (hts : ts.length = N) (hI : IIn w h io ts) (hN : N ≤ icap) (hN2 : N ≤ 140737488355328) (hsh : ∀ t ∈ ts, ShV h t) (hsz : sumL (ts.map (szN h)) ≤ 20000) :
    Calls Tryz.prog 16 #[.slice io N icap] w fun e w' => e = .returned (.tuple #[.string ⟨(if ts.all (formN h) = true then lnsW h ts N else []).toArray⟩, .int .i64 (if ts.all (formN h) = true then 0 else 1)]) ∧ Below w.heap.size w w' := by
  have HAll := Hid.mk (w_All h (w_rFormed h) io N icap ts w hI hts hN hN2)
  cases hf : ts.all (formN h) with
  | false =>
    rw [hf] at HAll
    simp only [Bool.false_eq_true, if_false]
    clear hf hI hsh hsz hts
    go_enter Tryz.func16, Tryz.ntmps16
    go_wp2_with fail
    refine HAll.out.mono ?_
    rintro e w1 ⟨rfl, hb⟩
    have HB := Hid.mk hb
    clear hb
    go_wp2_with fail
    go_ret2
    exact ⟨rfl, HB.out⟩
  | true =>
    rw [hf] at HAll
    simp only [if_true]
    have hfa := all_at hf
    have hll := lnsW_len h ts hfa hsh hsz
    rw [hts] at hll
    have HI := Hid.mk hI
    have HNN := Hid.mk hts
    clear hf hI
    go_enter Tryz.func16, Tryz.ntmps16
    go_wp2_with fail
    refine HAll.out.mono ?_
    rintro e w1 ⟨rfl, hb⟩
    have HB1 := Hid.mk hb
    clear hb hts
    go_wp2_with fail
    go_loopw [4, 5] (fun sv iv wr => ∃ (k : Nat) (a : ByteArray), k ≤ N ∧ sv = .string a ∧ iv = .int .i64 (k : Int) ∧ Hid (a.data.toList = lnsW h ts k) ∧ Hid (Below w.heap.size w wr)) (fun _ iv _ => N - (intOf iv).toNat)
    case atStart => exact ⟨0, ⟨#[]⟩, Nat.zero_le _, rfl, rfl, rfl, HB1⟩
    case round =>
      obtain ⟨k, a, hk, rfl, rfl, HA, HB⟩ := hrel
      by_cases hlt : k < N
      · have hl1 : (k : Int) < (N : Int) := by omega
        have hkt : k < ts.length := by rw [HNN.out]; exact hlt
        obtain ⟨b, off, hio, hbl, hrow⟩ := (HI.out.keep HB.out).row (by omega)
        subst hio
        obtain ⟨v0, v1, v2, v3, v4, ⟨c0, c1, c2, c3, c4⟩, ht⟩ := hrow k hkt
        have hm := List.getElem_mem hkt
        have h1 : szN h ts[k] ≤ sumL (ts.map (szN h)) := sumL_mem (List.mem_map.2 ⟨_, hm, rfl⟩)
        have hjl : (lnsW h ts (k + 1)).length ≤ (lnsW h ts N).length := joinR_le _ (by omega)
        have hjk : lnsW h ts (k + 1) = lnsW h ts k ++ (wrV none h 0 ts[k] ++ [10]) := by unfold lnsW; rw [joinR, lnsG_at hkt]
        have hjz := congrArg List.length hjk
        simp only [List.length_append, List.length_cons, List.length_nil] at hjz
        obtain ⟨ts_, hts_⟩ : ∃ ts_ : ByteArray, ts_ = ⟨(wrV none h 0 ts[k]).toArray⟩ := ⟨_, rfl⟩
        have htsl : ts_.data.toList = wrV none h 0 ts[k] := by rw [hts_]
        have htz := bsz htsl
        have haz := bsz HA.out
        have HC : Hid (Calls Tryz.prog 46 #[.agg #[v0, v1, v2, v3, v4], .int .i64 0, .int .i64 (-1)] wr fun e w' => e = .returned (.string ts_) ∧ Below wr.heap.size wr w') := by
          have h2 := w_write_p h ts[k] _ wr 0 ht (hfa _ hm) (hsh _ hm) (by omega) (by omega)
          rw [← hts_] at h2
          exact h2
        have hp1 : ¬ 9223372036854775807 < a.size + ts_.size := by omega
        have hp2 : ¬ 9223372036854775807 < (a ++ ts_).size + 1 := by rw [ByteArray.size_append]; omega
        have hp2e : ¬ 9223372036854775807 < a.size + ts_.size + 1 := by omega
        have HFin : Hid ((a ++ ts_ ++ ⟨#[10]⟩).data.toList = lnsW h ts (k + 1)) := by
          show _ = _
          rw [hjk]; simp [HA.out, htsl]
        clear ht hrow hbl hm h1 hjl hjk hjz hts_ htsl htz haz
        go_wp2_with fail
        refine HC.out.mono ?_
        rintro e w2 ⟨rfl, hb2⟩
        have HB2 := Hid.mk (HB.out.trans (hb2.mono HB.out.size))
        clear hb2 c0 c1 c2 c3 c4
        go_wp2_with fail
        go_roundw
        case rel => exact ⟨k + 1, _, hlt, rfl, by go_num, HFin, HB2⟩
        case measure => simp [intOf]; omega
      · have hl1 : ¬ (k : Int) < (N : Int) := by omega
        obtain rfl : k = N := by omega
        have HFin : Hid (a = ⟨(lnsW h ts k).toArray⟩) := bmk HA.out
        go_wp2_with fail
        go_ret2
        exact ⟨by rw [HFin.out]; rfl, HB.out⟩
end Go.Proofs.YtfjmgccbpiolhaaGreatDoor
namespace Go.Proofs.YtfjmgccbpiolhaaGreatDoor
open Go.RowKit
set_option linter.unusedVariables false
set_option linter.unusedSimpArgs false

structure LsSt (w0 W : World) (S : Nat) (wr : World) (l : List UInt8) : Prop where
  st : Sheet S S wr l
  wr_ : WrAt wr (S + 1) 25 S none 0
  below : Below w0.heap.size w0 wr
  bS : Below S w0 wr

set_option maxRecDepth 100000 in
set_option maxHeartbeats 3200000 in
theorem w_Lines (h : Nat) (io : Option Addr) (N icap : Nat) (ts : List VT) (w : World) (hts : ts.length = N) (hI : IIn w h io ts) (hN : N ≤ icap) (hN2 : N ≤ 140737488355328) (hsh : ∀ t ∈ ts, ShV h t) (hsz : sumL (ts.map (szN h)) ≤ 20000) (hwd : WordsAt w) :
    Calls Tryz.prog 10 #[.slice io N icap] w fun e w' => e = .returned (.tuple #[.string ⟨(if ts.all (formN h) = true then lnsW h ts N else []).toArray⟩, .int .i64 (if ts.all (formN h) = true then 0 else 1)]) ∧ Below w.heap.size w w' := by
  have hmf : ∀ (fn : Fn) (first cap : Array Value) (w : World), (Instr.makeFunc fn first cap).run Tryz.prog w = .ok (.func fn first cap) w := fun _ _ _ _ => rfl
  obtain ⟨A, hA⟩ : ∃ A : ByteArray, A = ⟨(if ts.all (formN h) = true then lnsW h ts N else []).toArray⟩ := ⟨_, rfl⟩
  obtain ⟨er, her⟩ : ∃ er : Int, er = (if ts.all (formN h) = true then 0 else 1) := ⟨_, rfl⟩
  have HNoA : Hid (ts.all (formN h) = false → A = ⟨#[]⟩ ∧ er = 1) := fun hf => by rw [hA, her, hf]; exact ⟨rfl, rfl⟩
  have HYes : Hid (ts.all (formN h) = true → A = ⟨(lnsW h ts N).toArray⟩ ∧ er = 0) := fun hf => by rw [hA, her, hf]; exact ⟨rfl, rfl⟩
  rw [← hA, ← her]
  clear hA her
  obtain ⟨W2, hW2⟩ : ∃ W2, W2 = (w.alloc (.cells #[.pointer none, .slice none 0 0, .int .i64 0] 76)).alloc (.cells #[.func (.func 25) #[.pointer (some ⟨w.heap.size, 0, none⟩)] #[], .bool false, .int .i64 0, .int .i64 0] 79) := ⟨_, rfl⟩
  have hb2 : Below w.heap.size w W2 := by rw [hW2]; exact ((Below.refl _ _).alloc (Nat.le_refl _) _).alloc (by simp) _
  have hWr : WrAt W2 (w.heap.size + 1) 25 w.heap.size none 0 := by
    rw [hW2]
    have e := heap_alloc_new (w.alloc (.cells #[.pointer none, .slice none 0 0, .int .i64 0] 76)) (.cells #[.func (.func 25) #[.pointer (some ⟨w.heap.size, 0, none⟩)] #[], .bool false, .int .i64 0, .int .i64 0] 79)
    rw [World.size_alloc] at e
    exact e
  have hSh : Sheet w.heap.size w.heap.size W2 [] := by
    have e := sheet_new w
    rw [hW2]
    exact (keep_ok w.heap.size w.heap.size).below e ((Below.refl _ _).alloc (Nat.le_refl _) _)
  have HS0 : Hid (LsSt w W2 w.heap.size W2 []) := ⟨hSh, hWr, hb2, hb2⟩
  have HW2 := Hid.mk hW2
  have HI := Hid.mk hI
  have HNN := Hid.mk hts
  have hll : ts.all (formN h) = true → (lnsW h ts N).length ≤ 33554432 * sumL (ts.map (szN h)) := fun hf => by have := lnsW_len h ts (all_at hf) hsh hsz; rwa [hts] at this
  have HLL := Hid.mk hll
  have hent := (keep_ok w.heap.size w.heap.size).ent
  clear hW2 hSh hWr hb2 hI hts hll
  go_enter Tryz.func10, Tryz.ntmps10
  go_wp2_with fail
  rw [← HW2.out]
  go_loopw [12] (fun iv wr => ∃ (k : Nat), k ≤ N ∧ iv = .int .i64 (k : Int) ∧ Hid (∀ t ∈ ts.take k, formN h t = true) ∧ Hid (LsSt w W2 w.heap.size wr (lnsW h ts k))) (fun iv _ => N - (intOf iv).toNat)
  case atStart => exact ⟨0, Nat.zero_le _, rfl, fun t ht => by simp at ht, HS0⟩
  case round =>
    obtain ⟨k, hk, rfl, HF, HS⟩ := hrel
    by_cases hlt : k < N
    · have hl1 : (k : Int) < (N : Int) := by omega
      have hkt : k < ts.length := by rw [HNN.out]; exact hlt
      obtain ⟨b, off, hio, hbl, hrow⟩ := (HI.out.keep HS.out.below).row (by omega)
      subst hio
      obtain ⟨v0, v1, v2, v3, v4, ⟨c0, c1, c2, c3, c4⟩, ht⟩ := hrow k hkt
      obtain ⟨ik, inm, itx, iio, iN, iicap, iko, iK, ikcap, rfl, rfl, rfl, rfl, rfl⟩ := ht.shape
      obtain ⟨W3, hW3⟩ : ∃ W3, W3 = wr.alloc (.cells #[.int .i64 ik, .string inm, .string itx, .slice iio iN iicap, .slice iko iK ikcap] 49) := ⟨_, rfl⟩
      have HX := Hid.mk (vbx_new wr (.int .i64 ik) (.string inm) (.string itx) (.slice iio iN iicap) (.slice iko iK ikcap))
      rw [← hW3] at HX
      have HW3 := Hid.mk hW3
      have hm := List.getElem_mem hkt
      have h1 : szN h ts[k] ≤ sumL (ts.map (szN h)) := sumL_mem (List.mem_map.2 ⟨_, hm, rfl⟩)
      have HFo := Hid.mk (w_vFormed h ts[k] _ W3 (ht.keep HX.out.below))
      have b0 := HX.out.c0
      have b1 := HX.out.c1
      have b2 := HX.out.c2
      have b3 := HX.out.c3
      have b4 := HX.out.c4
      have HTk := Hid.mk (List.take_succ_eq_append_getElem hkt)
      cases hf : formN h ts[k] with
      | false =>
        rw [hf] at HFo
        have HNo : Hid (A = ⟨#[]⟩ ∧ er = 1) := by
          refine HNoA.out ?_
          rw [List.all_eq_false]
          exact ⟨_, hm, by rw [hf]; simp⟩
        have HBL := Hid.mk HS.out.below
        clear hW3 ht hrow hbl hm h1 hf HTk hkt
        go_wp2_with fail
        rw [← HW3.out]
        refine HFo.out.mono ?_
        rintro e w1 ⟨rfl, hb⟩
        have HB := Hid.mk (HBL.out.trans ((HX.out.keep hb).below.mono HBL.out.size))
        clear hb b0 b1 b2 b3 b4 c0 c1 c2 c3 c4
        go_wp2_with fail
        go_ret2
        exact ⟨by rw [HNo.out.1, HNo.out.2]; rfl, HB.out⟩
      | true =>
        rw [hf] at HFo
        have HF2 : Hid (∀ t ∈ ts.take (k + 1), formN h t = true) := by
          intro t ht2
          rw [HTk.out] at ht2
          rcases List.mem_append.1 ht2 with h2 | h2
          · exact HF.out t h2
          · obtain rfl := List.mem_singleton.1 h2
            exact hf
        have hwl := wrV_len none (fun s e => by cases e) h 0 ts[k] hf (hsh _ hm) (by omega)
        have hjk : lnsW h ts (k + 1) = lnsW h ts k ++ (wrV none h 0 ts[k] ++ [10]) := by unfold lnsW; rw [joinR, lnsG_at hkt]
        have hkl : (lnsW h ts k).length ≤ 33554432 * 20000 := by
          have e1 := lnsW_len h (ts.take k) HF.out (fun t ht2 => hsh t (List.mem_of_mem_take ht2)) (Nat.le_trans (sum_take_le (szN h) ts k) hsz)
          have e2 := sum_take_le (szN h) ts k
          have e3 : lnsW h (ts.take k) (ts.take k).length = lnsW h ts k := by
            rw [List.length_take, Nat.min_eq_left (by omega)]
            unfold lnsW
            refine joinR_congr (fun i hi => ?_)
            unfold lnsG
            rw [List.getElem?_take_of_lt hi]
          rw [e3] at e1
          have e4 : 33554432 * sumL ((ts.take k).map (szN h)) ≤ 33554432 * 20000 := Nat.mul_le_mul_left _ (Nat.le_trans e2 hsz)
          omega
        have hzz : szN h ts[k] ≤ 20000 := by omega
        have hwl2 : (wrV none h 0 ts[k]).length ≤ 33554432 * 20000 := by
          have : 33554432 * szN h ts[k] ≤ 33554432 * 20000 := Nat.mul_le_mul_left _ hzz
          omega
        have HVal : Hid (∀ u, Below wr.heap.size wr u → Calls Tryz.prog 26 #[.pointer (some ⟨w.heap.size + 1, 0, none⟩), .agg #[.int .i64 ik, .string inm, .string itx, .slice iio iN iicap, .slice iko iK ikcap]] u fun e w' => e = .returned (.tuple #[]) ∧ Hid (LsSt w W2 w.heap.size w' (lnsW h ts k ++ wrV none h 0 ts[k]))) := fun u hu => by
          have hIw : IIn w h (some ⟨b, off, none⟩) ts := HI.out
          obtain ⟨b', off', e', hbl', hrow'⟩ := hIw.row (by omega)
          cases e'
          obtain ⟨x0, x1, x2, x3, x4, ⟨y0, y1, y2, y3, y4⟩, ht'⟩ := hrow' k hkt
          have z0 := (HS.out.below.cell (p := ⟨_, _, _⟩) hbl').trans y0
          have z1 := (HS.out.below.cell (p := ⟨_, _, _⟩) hbl').trans y1
          have z2 := (HS.out.below.cell (p := ⟨_, _, _⟩) hbl').trans y2
          have z3 := (HS.out.below.cell (p := ⟨_, _, _⟩) hbl').trans y3
          have z4 := (HS.out.below.cell (p := ⟨_, _, _⟩) hbl').trans y4
          obtain rfl := Option.some.inj (z0.symm.trans c0)
          obtain rfl := Option.some.inj (z1.symm.trans c1)
          obtain rfl := Option.some.inj (z2.symm.trans c2)
          obtain rfl := Option.some.inj (z3.symm.trans c3)
          obtain rfl := Option.some.inj (z4.symm.trans c4)
          have hsu : w.heap.size < u.heap.size := Nat.lt_of_lt_of_le (Nat.lt_trans (Nat.lt_succ_self _) (heap_lt HS.out.wr_)) hu.size
          refine (w_value (keep_ok w.heap.size w.heap.size) (w.heap.size + 1) none w (Nat.le_refl _) (by omega) (by omega) (fun s e => by cases e) hwd h ts[k] _ u 0 (lnsW h ts k) ht' hf (hsh _ hm) (HS.out.below.trans (hu.mono HS.out.below.size)) (HS.out.wr_.below hu) ((keep_ok w.heap.size w.heap.size).below HS.out.st hu) (by omega) hsu (by omega) (by omega)).mono ?_
          rintro e w' ⟨he, h2, h3, h4⟩
          exact ⟨he, h2, (HS.out.wr_.below hu).others h4 (by omega), (HS.out.below.trans (hu.mono HS.out.below.size)).trans h3, (HS.out.bS.trans (hu.mono HS.out.below.size)).trans h3⟩
        have HPut : Hid (∀ u, LsSt w W2 w.heap.size u (lnsW h ts k ++ wrV none h 0 ts[k]) → Calls Tryz.prog 25 #[.pointer (some ⟨w.heap.size, 0, none⟩), .string ⟨#[10]⟩] u fun e w' => e = .returned (.tuple #[]) ∧ Hid (LsSt w W2 w.heap.size w' (lnsW h ts (k + 1)))) := fun u hu => by
          refine (w_keep w.heap.size w.heap.size _ ⟨#[10]⟩ u hu.st (by rw [List.length_append]; show _ + 1 ≤ _; omega) hu.below.size).mono ?_
          rintro e w' ⟨he, h2, h3, h4⟩
          rw [hjk, ← List.append_assoc]
          exact ⟨he, h2, hu.wr_.others h4 (by omega), hu.below.trans h3, hu.bS.trans h3⟩
        clear hW3 ht hrow hbl hm h1 hf HTk hwl hjk hkl hzz hwl2
        go_wp2_with fail
        rw [← HW3.out]
        refine HFo.out.mono ?_
        rintro e w1 ⟨rfl, hb⟩
        have HX1 := Hid.mk (HX.out.keep hb)
        clear hb b0 b1 b2 b3 b4 c0 c1 c2 c3 c4
        have b0 := HX1.out.c0
        have b1 := HX1.out.c1
        have b2 := HX1.out.c2
        have b3 := HX1.out.c3
        have b4 := HX1.out.c4
        go_wp2_with fail
        refine (HVal.out _ HX1.out.below).mono ?_
        rintro e w3 ⟨rfl, HS3⟩
        have cW := HS3.out.wr_.c0
        clear b0 b1 b2 b3 b4
        go_wp2_with fail
        refine (HPut.out _ HS3.out).mono ?_
        rintro e w4 ⟨rfl, HS4⟩
        clear cW
        go_wp2_with fail
        go_roundw
        case rel => exact ⟨k + 1, hlt, by go_num, HF2, HS4⟩
        case measure => simp [intOf]; omega
    · have hl1 : ¬ (k : Int) < (N : Int) := by omega
      obtain rfl : k = N := by omega
      have HAll : Hid (A = ⟨(lnsW h ts k).toArray⟩ ∧ er = 0) := by
        refine HYes.out ?_
        rw [List.all_eq_true]
        intro t ht
        have e := HF.out t
        rw [← HNN.out, List.take_length] at e
        exact e ht
      have HSt := Hid.mk (w_String w.heap.size w.heap.size _ wr HS.out.st)
      go_wp2_with fail
      refine HSt.out.mono ?_
      rintro e w4 ⟨rfl, hb4⟩
      have HB4 := Hid.mk (HS.out.below.trans hb4)
      clear hb4
      go_wp2_with fail
      go_ret2
      exact ⟨by rw [HAll.out.1, HAll.out.2]; rfl, HB4.out⟩
end Go.Proofs.YtfjmgccbpiolhaaGreatDoor
