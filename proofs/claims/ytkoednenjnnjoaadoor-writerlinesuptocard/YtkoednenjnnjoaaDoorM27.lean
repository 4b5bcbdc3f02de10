import Derived.Test.YtkoednenjnnjoaaDoorM25
import Derived.Laws.EntriesVeiled
import Derived.Test.YtkoednenjnnjoaaDoorM26
namespace Go.Proofs.YtkoednenjnnjoaaDoor
open Go.RowKit Go.Sort
set_option linter.unusedVariables false
set_option linter.unusedSimpArgs false

set_option maxRecDepth 100000 in
set_option maxHeartbeats 1600000 in
theorem w_Text (h : Nat) (T : VT) (w : World) (kd : Int) (nm tx : ByteArray) (io : Option Addr) (N icap : Nat) (ko : Option Addr) (K kcap : Nat) (hI : InH w h T (.agg #[.int .i64 kd, .string nm, .string tx, .slice io N icap, .slice ko K kcap])) (hsh : ShV h T) (hsz : szN h T ≤ 20000) (hwd : WordsAt w) :
    Calls Tryd.prog 10 #[(.agg #[.int .i64 kd, .string nm, .string tx, .slice io N icap, .slice ko K kcap])] w fun e w' => e = .returned (.tuple #[.string ⟨(if formN h T = true then wrV none h 0 T else []).toArray⟩, .int .i64 (if formN h T = true then 0 else 1)]) ∧ Below w.heap.size w w' := by
  have hmf : ∀ (fn : Fn) (first cap : Array Value) (w : World), (Instr.makeFunc fn first cap).run Tryd.prog w = .ok (.func fn first cap) w := fun _ _ _ _ => rfl
  have HX := Hid.mk (vbx_new w (.int .i64 kd) (.string nm) (.string tx) (.slice io N icap) (.slice ko K kcap))
  obtain ⟨W0, hW0⟩ : ∃ W0, W0 = w.alloc (.cells #[.int .i64 kd, .string nm, .string tx, .slice io N icap, .slice ko K kcap] 25) := ⟨_, rfl⟩
  rw [← hW0] at HX
  have b0 := HX.out.c0
  have b1 := HX.out.c1
  have b2 := HX.out.c2
  have b3 := HX.out.c3
  have b4 := HX.out.c4
  have HF := Hid.mk (w_vFormed h T _ W0 (hI.keep HX.out.below))
  have HW0 := Hid.mk hW0
  cases hf : formN h T with
  | false =>
    rw [hf] at HF
    simp only [Bool.false_eq_true, if_false]
    clear hW0 hf hI hsh hsz hwd
    go_enter Tryd.func10, Tryd.ntmps10
    go_wp2_with fail
    rw [← HW0.out]
    refine HF.out.mono ?_
    rintro e w1 ⟨rfl, hb⟩
    have HB := Hid.mk (HX.out.keep hb).below
    clear hb b0 b1 b2 b3 b4
    go_wp2_with fail
    go_ret2
    exact ⟨rfl, HB.out⟩
  | true =>
    rw [hf] at HF
    simp only [if_true]
    clear hW0
    go_enter Tryd.func10, Tryd.ntmps10
    go_wp2_with fail
    rw [← HW0.out]
    refine HF.out.mono ?_
    rintro e w1 ⟨rfl, hb⟩
    have HX1 := Hid.mk (HX.out.keep hb)
    clear hb b0 b1 b2 b3 b4
    have hlen := wrV_len none (fun s e => by cases e) h 0 T hf hsh (by omega)
    obtain ⟨W2, hW2⟩ : ∃ W2, W2 = (w1.alloc (.cells #[.pointer none, .slice none 0 0, .int .i64 0] 50)).alloc (.cells #[.func (.func 23) #[.pointer (some ⟨w1.heap.size, 0, none⟩)] #[], .bool false, .int .i64 0, .int .i64 0] 53) := ⟨_, rfl⟩
    have hb2 : Below w1.heap.size w1 W2 := by rw [hW2]; exact ((Below.refl _ _).alloc (Nat.le_refl _) _).alloc (by simp) _
    have HX2 := Hid.mk (HX1.out.keep hb2)
    have hz2 : W2.heap.size = w1.heap.size + 1 + 1 := by rw [hW2]; simp
    have hWr : WrAt W2 (w1.heap.size + 1) 23 w1.heap.size none 0 := by
      rw [hW2]
      have e := heap_alloc_new (w1.alloc (.cells #[.pointer none, .slice none 0 0, .int .i64 0] 50)) (.cells #[.func (.func 23) #[.pointer (some ⟨w1.heap.size, 0, none⟩)] #[], .bool false, .int .i64 0, .int .i64 0] 53)
      rw [World.size_alloc] at e
      exact e
    have hSh : Sheet w1.heap.size w1.heap.size W2 [] := by
      have e := sheet_new w1
      rw [hW2]
      exact (keep_ok w1.heap.size w1.heap.size).below e ((Below.refl _ _).alloc (Nat.le_refl _) _)
    have hI1 := hI.keep HX1.out.below
    have HV : Hid (Calls Tryd.prog 24 #[.pointer (some ⟨w1.heap.size + 1, 0, none⟩), (.agg #[.int .i64 kd, .string nm, .string tx, .slice io N icap, .slice ko K kcap])] W2 fun e w' => e = .returned (.tuple #[]) ∧ Sheet w1.heap.size w1.heap.size w' (wrV none h 0 T) ∧ Below w1.heap.size W2 w') := by
      refine (w_value (keep_ok w1.heap.size w1.heap.size) (w1.heap.size + 1) none w1 (Nat.le_refl _) (by omega) (by omega) (fun s e => by cases e) (hwd.keep HX1.out.below) h T _ W2 0 [] hI1 hf hsh hb2 hWr hSh (by omega) (by omega) (by omega) (by simp only [List.length_nil]; omega)).mono ?_
      rintro e w' ⟨he, h1, h2, h3⟩
      exact ⟨he, by simpa using h1, h2⟩
    have d0 := HX2.out.c0
    have d1 := HX2.out.c1
    have d2 := HX2.out.c2
    have d3 := HX2.out.c3
    have d4 := HX2.out.c4
    rw [hW2] at d0 d1 d2 d3 d4
    have HW2 := Hid.mk hW2
    have hbw := (HX1.out.below).trans (hb2.mono HX1.out.below.size)
    have HBW := Hid.mk hbw
    have HL1 := Hid.mk HX1.out.below.size
    clear hW2 hb2 hz2 hWr hSh hI1 hlen hsh hsz hI hf hwd hbw
    go_wp2_with fail
    rw [← HW2.out]
    refine HV.out.mono ?_
    rintro e w3 ⟨rfl, hS3, hb3⟩
    have HB3 := Hid.mk (HBW.out.trans (hb3.mono HL1.out))
    have HSt := Hid.mk (w_String w1.heap.size w1.heap.size _ w3 hS3)
    clear hS3 hb3 d0 d1 d2 d3 d4
    go_wp2_with fail
    refine HSt.out.mono ?_
    rintro e w4 ⟨rfl, hb4⟩
    have HB4 := Hid.mk (HB3.out.trans (hb4.mono HL1.out))
    clear hb4
    go_wp2_with fail
    go_ret2
    exact ⟨rfl, HB4.out⟩
end Go.Proofs.YtkoednenjnnjoaaDoor
namespace Go.Proofs.YtkoednenjnnjoaaDoor
open Go.RowKit
set_option linter.unusedVariables false
set_option linter.unusedSimpArgs false

def lw3 : VT := .mk 3 ⟨#[45, 55]⟩ ⟨#[]⟩ [] []
def lw0 : VT := .mk 0 ⟨#[]⟩ ⟨#[]⟩ [] []
def lw5 : VT := .mk 5 ⟨#[]⟩ ⟨#[]⟩ [lw3, lw0] []
def lw6 : VT := .mk 6 ⟨#[]⟩ ⟨#[]⟩ [lw5] [⟨#[97]⟩]
theorem emW : (⟨#[]⟩ : ByteArray).toList.isEmpty = true := by rw [Lib.toList_data]; rfl
theorem emW2 : ByteArray.empty.toList.isEmpty = true := by rw [Lib.toList_data]; rfl
theorem lw_form : formN 3 lw6 = true := by
  have f3 : formN 1 lw3 = true := by
    show (Pl.formed [45, 55] && bareB .empty ⟨#[]⟩ 0 0) = true
    unfold bareB; rw [emW, emW2]; decide
  have f0 : formN 1 lw0 = true := by
    show bareB ⟨#[]⟩ ⟨#[]⟩ 0 0 = true
    unfold bareB; rw [emW]; decide
  have f5 : formN 2 lw5 = true := by
    show ([lw3, lw0].all (formN 1) && bareB ⟨#[]⟩ ⟨#[]⟩ 0 0) = true
    simp only [List.all_cons, List.all_nil, f3, f0, Bool.and_self, Bool.true_and]
    unfold bareB; rw [emW]; decide
  show (decide (1 = 1) && (rK [⟨#[97]⟩] 1 && oK [⟨#[97]⟩] 1) && [lw5].all (formN 2) && bareB ⟨#[]⟩ ⟨#[]⟩ 0 0) = true
  simp only [List.all_cons, List.all_nil, f5, Bool.and_self, Bool.true_and, Bool.and_true]
  unfold bareB; rw [emW]; decide
theorem lw_text : wrV none 3 0 lw6 = [123, 34, 97, 34, 58, 91, 45, 55, 44, 110, 117, 108, 108, 93, 125] := by decide +kernel
theorem lw_sz : szN 3 lw6 ≤ 20000 := by decide
theorem lw_sh : ShV 3 lw6 := by
  refine ⟨by decide, by decide, ?_, ?_⟩
  · intro k hk
    obtain rfl : k = ⟨#[97]⟩ := by simpa [lw6, VT.keys] using hk
    decide
  · intro t ht
    obtain rfl : t = lw5 := by simpa [lw6, VT.items] using ht
    refine ⟨by decide, by decide, by simp [lw5, VT.keys], ?_⟩
    intro t ht
    rcases (show t = lw3 ∨ t = lw0 by simpa [lw5, VT.items] using ht) with rfl | rfl
    · exact ⟨by decide, by decide, by simp [lw3, VT.keys], by simp [lw3, VT.items]⟩
    · exact ⟨by decide, by decide, by simp [lw0, VT.keys], by simp [lw0, VT.items]⟩
/-- the memory of the call that lives makes -/
def lwW (w : World) : World := ((w.alloc (.cells #[.string ⟨#[97]⟩] 9)).alloc (.cells #[.int .i64 3, .string ⟨#[45, 55]⟩, .string ⟨#[]⟩, .slice none 0 0, .slice none 0 0, .int .i64 0, .string ⟨#[]⟩, .string ⟨#[]⟩, .slice none 0 0, .slice none 0 0] 25)).alloc (.cells #[.int .i64 5, .string ⟨#[]⟩, .string ⟨#[]⟩, .slice (some ⟨w.heap.size + 1, 0, none⟩) 2 2, .slice none 0 0] 25)
theorem lwW_below (w : World) : Below w.heap.size w (lwW w) := (((Below.refl _ _).alloc (Nat.le_refl _) _).alloc (by simp) _).alloc (by simp; omega) _
theorem lwW_0 (w : World) : (lwW w).heap[w.heap.size]? = some (.cells #[.string ⟨#[97]⟩] 9 (0, 0)) := by
  unfold lwW
  rw [Lib.alloc_old _ _ _ (by simp; omega), Lib.alloc_old _ _ _ (by simp)]
  exact heap_alloc_new w _
theorem lwW_1 (w : World) : (lwW w).heap[w.heap.size + 1]? = some (.cells #[.int .i64 3, .string ⟨#[45, 55]⟩, .string ⟨#[]⟩, .slice none 0 0, .slice none 0 0, .int .i64 0, .string ⟨#[]⟩, .string ⟨#[]⟩, .slice none 0 0, .slice none 0 0] 25 (0, 0)) := by
  unfold lwW
  rw [Lib.alloc_old _ _ _ (by simp)]
  have e := heap_alloc_new (w.alloc (.cells #[.string ⟨#[97]⟩] 9)) (.cells #[.int .i64 3, .string ⟨#[45, 55]⟩, .string ⟨#[]⟩, .slice none 0 0, .slice none 0 0, .int .i64 0, .string ⟨#[]⟩, .string ⟨#[]⟩, .slice none 0 0, .slice none 0 0] 25)
  rw [World.size_alloc] at e
  exact e
theorem lwW_2 (w : World) : (lwW w).heap[w.heap.size + 1 + 1]? = some (.cells #[.int .i64 5, .string ⟨#[]⟩, .string ⟨#[]⟩, .slice (some ⟨w.heap.size + 1, 0, none⟩) 2 2, .slice none 0 0] 25 (0, 0)) := by
  unfold lwW
  have e := heap_alloc_new ((w.alloc (.cells #[.string ⟨#[97]⟩] 9)).alloc (.cells #[.int .i64 3, .string ⟨#[45, 55]⟩, .string ⟨#[]⟩, .slice none 0 0, .slice none 0 0, .int .i64 0, .string ⟨#[]⟩, .string ⟨#[]⟩, .slice none 0 0, .slice none 0 0] 25)) (.cells #[.int .i64 5, .string ⟨#[]⟩, .string ⟨#[]⟩, .slice (some ⟨w.heap.size + 1, 0, none⟩) 2 2, .slice none 0 0] 25)
  rw [World.size_alloc, World.size_alloc] at e
  exact e
theorem nilI (W : World) (h : Nat) (k : Int) (n t : ByteArray) (hn : n.size ≤ 10) (ht : t.size ≤ 10) : InH W (h + 1) (.mk k n t [] []) (.agg #[.int .i64 k, .string n, .string t, .slice none 0 0, .slice none 0 0]) :=
  ⟨none, 0, none, 0, rfl, by show n.size ≤ _; omega, by show t.size ≤ _; omega, Nat.zero_le _, Nat.zero_le _, Nat.le_refl _, Nat.le_refl _, by simp [VT.keys], ⟨fun h => by simp [VT.keys] at h⟩, fun h => by simp [VT.items] at h⟩
theorem lw_in (w : World) : InH (lwW w) 3 lw6 (.agg #[.int .i64 6, .string ⟨#[]⟩, .string ⟨#[]⟩, .slice (some ⟨w.heap.size + 1 + 1, 0, none⟩) 1 1, .slice (some ⟨w.heap.size, 0, none⟩) 1 1]) := by
  have h5 : InH (lwW w) 2 lw5 (.agg #[.int .i64 5, .string ⟨#[]⟩, .string ⟨#[]⟩, .slice (some ⟨w.heap.size + 1, 0, none⟩) 2 2, .slice none 0 0]) := by
    refine ⟨some ⟨w.heap.size + 1, 0, none⟩, 2, none, 0, rfl, by decide, by decide, by decide, by decide, by decide, by decide, by simp [lw5, VT.keys], ⟨fun h => by simp [lw5, VT.keys] at h⟩, fun _ => ⟨w.heap.size + 1, 0, rfl, heap_lt (lwW_1 w), fun i hi => ?_⟩⟩
    have hi2 : i < 2 := hi
    match i, hi2 with
    | 0, _ => exact ⟨_, _, _, _, _, ⟨by rw [Lib.cell_of_heap (lwW_1 w)]; rfl, by rw [Lib.cell_of_heap (lwW_1 w)]; rfl, by rw [Lib.cell_of_heap (lwW_1 w)]; rfl, by rw [Lib.cell_of_heap (lwW_1 w)]; rfl, by rw [Lib.cell_of_heap (lwW_1 w)]; rfl⟩, nilI _ 0 3 ⟨#[45, 55]⟩ ⟨#[]⟩ (by decide) (by decide)⟩
    | 1, _ => exact ⟨_, _, _, _, _, ⟨by rw [Lib.cell_of_heap (lwW_1 w)]; rfl, by rw [Lib.cell_of_heap (lwW_1 w)]; rfl, by rw [Lib.cell_of_heap (lwW_1 w)]; rfl, by rw [Lib.cell_of_heap (lwW_1 w)]; rfl, by rw [Lib.cell_of_heap (lwW_1 w)]; rfl⟩, nilI _ 0 0 ⟨#[]⟩ ⟨#[]⟩ (by decide) (by decide)⟩
  refine ⟨some ⟨w.heap.size + 1 + 1, 0, none⟩, 1, some ⟨w.heap.size, 0, none⟩, 1, rfl, by decide, by decide, by decide, by decide, by decide, by decide, ?_, ⟨fun _ => ⟨w.heap.size, 0, rfl, heap_lt (lwW_0 w), fun i hi => ?_⟩⟩, fun _ => ⟨w.heap.size + 1 + 1, 0, rfl, heap_lt (lwW_2 w), fun i hi => ?_⟩⟩
  · intro k hk
    obtain rfl : k = ⟨#[97]⟩ := by simpa [lw6, VT.keys] using hk
    decide
  · have hi2 : i < 1 := hi
    obtain rfl : i = 0 := by omega
    rw [Lib.cell_of_heap (lwW_0 w)]; rfl
  · have hi2 : i < 1 := hi
    obtain rfl : i = 0 := by omega
    exact ⟨_, _, _, _, _, ⟨by rw [Lib.cell_of_heap (lwW_2 w)]; rfl, by rw [Lib.cell_of_heap (lwW_2 w)]; rfl, by rw [Lib.cell_of_heap (lwW_2 w)]; rfl, by rw [Lib.cell_of_heap (lwW_2 w)]; rfl, by rw [Lib.cell_of_heap (lwW_2 w)]; rfl⟩, h5⟩

set_option maxRecDepth 100000 in
set_option maxHeartbeats 1600000 in
theorem w_lives6 (w : World) (hwd : WordsAt w) : Calls Tryd.prog 8 #[] w fun e w' => e = .returned (.bool true) ∧ Below w.heap.size w w' := by
  have HT := w_Text 3 lw6 (lwW w) _ _ _ _ _ _ _ _ _ (lw_in w) lw_sh lw_sz (hwd.keep (lwW_below w))
  rw [lw_form] at HT
  simp only [if_true] at HT
  rw [lw_text] at HT
  have HTH := Hid.mk HT
  have HW : Hid (lwW w = ((w.alloc (.cells #[.string ⟨#[97]⟩] 9)).alloc (.cells #[.int .i64 3, .string ⟨#[45, 55]⟩, .string ⟨#[]⟩, .slice none 0 0, .slice none 0 0, .int .i64 0, .string ⟨#[]⟩, .string ⟨#[]⟩, .slice none 0 0, .slice none 0 0] 25)).alloc (.cells #[.int .i64 5, .string ⟨#[]⟩, .string ⟨#[]⟩, .slice (some ⟨w.heap.size + 1, 0, none⟩) 2 2, .slice none 0 0] 25)) := rfl
  have HB := Hid.mk (lwW_below w)
  clear HT hwd
  go_enter Tryd.func8, Tryd.ntmps8
  go_wp2_with fail
  rw [← HW.out]
  refine HTH.out.mono ?_
  rintro e w1 ⟨rfl, hb⟩
  have HB1 := Hid.mk (HB.out.trans (hb.mono HB.out.size))
  clear hb
  go_wp2_with fail
  go_ret
  exact ⟨rfl, HB1.out⟩
end Go.Proofs.YtkoednenjnnjoaaDoor
