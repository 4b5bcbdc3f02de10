import Derived.Test.YtfjmgccbpiolhaaGreatDoorMW29
import Derived.Laws.EntriesVeiled
namespace Go.Proofs.YtfjmgccbpiolhaaGreatDoor
open Go.RowKit Go.Sort
set_option linter.unusedVariables false
set_option linter.unusedSimpArgs false

set_option maxRecDepth 100000 in
set_option maxHeartbeats 1600000 in
theorem w_Size (h : Nat) (T : VT) (w : World) (kd : Int) (nm tx : ByteArray) (io : Option Addr) (N icap : Nat) (ko : Option Addr) (K kcap : Nat) (hI : InH w h T (.agg #[.int .i64 kd, .string nm, .string tx, .slice io N icap, .slice ko K kcap])) (hsh : ShV h T) (hsz : szN h T ≤ 20000) (hwd : WordsAt w) :
    Calls Tryz.prog 11 #[(.agg #[.int .i64 kd, .string nm, .string tx, .slice io N icap, .slice ko K kcap])] w fun e w' => e = .returned (.tuple #[.int .i64 (if formN h T = true then ((wrV none h 0 T).length : Int) else 0), .int .i64 (if formN h T = true then 0 else 1)]) ∧ Below w.heap.size w w' := by
  have hmf : ∀ (fn : Fn) (first cap : Array Value) (w : World), (Instr.makeFunc fn first cap).run Tryz.prog w = .ok (.func fn first cap) w := fun _ _ _ _ => rfl
  have HX := Hid.mk (vbx_new w (.int .i64 kd) (.string nm) (.string tx) (.slice io N icap) (.slice ko K kcap))
  obtain ⟨W0, hW0⟩ : ∃ W0, W0 = w.alloc (.cells #[.int .i64 kd, .string nm, .string tx, .slice io N icap, .slice ko K kcap] 49) := ⟨_, rfl⟩
  rw [← hW0] at HX
  have b0 := HX.out.c0
  have b1 := HX.out.c1
  have b2 := HX.out.c2
  have b3 := HX.out.c3
  have b4 := HX.out.c4
  have HF := Hid.mk (w_vFormed h T _ W0 (hI.keep HX.out.below))
  have HW0 := Hid.mk hW0
  cases hf : formN h T with
  | false =>
    rw [hf] at HF
    simp only [Bool.false_eq_true, if_false]
    clear hW0 hf hI hsh hsz hwd
    go_enter Tryz.func11, Tryz.ntmps11
    go_wp2_with fail
    rw [← HW0.out]
    refine HF.out.mono ?_
    rintro e w1 ⟨rfl, hb⟩
    have HB := Hid.mk (HX.out.keep hb).below
    clear hb b0 b1 b2 b3 b4
    go_wp2_with fail
    go_ret2
    exact ⟨rfl, HB.out⟩
  | true =>
    rw [hf] at HF
    simp only [if_true]
    clear hW0
    go_enter Tryz.func11, Tryz.ntmps11
    go_wp2_with fail
    rw [← HW0.out]
    refine HF.out.mono ?_
    rintro e w1 ⟨rfl, hb⟩
    have HX1 := Hid.mk (HX.out.keep hb)
    clear hb b0 b1 b2 b3 b4
    have hlen := wrV_len none (fun s e => by cases e) h 0 T hf hsh (by omega)
    obtain ⟨W2, hW2⟩ : ∃ W2, W2 = (w1.alloc (.cells #[.pointer none, .slice none 0 0, .int .i64 0] 76)).alloc (.cells #[.func (.func 28) #[.pointer (some ⟨w1.heap.size, 0, none⟩)] #[], .bool false, .int .i64 0, .int .i64 0] 79) := ⟨_, rfl⟩
    have hb2 : Below w1.heap.size w1 W2 := by rw [hW2]; exact ((Below.refl _ _).alloc (Nat.le_refl _) _).alloc (by simp) _
    have HX2 := Hid.mk (HX1.out.keep hb2)
    have hz2 : W2.heap.size = w1.heap.size + 1 + 1 := by rw [hW2]; simp
    have hWr : WrAt W2 (w1.heap.size + 1) 28 w1.heap.size none 0 := by
      rw [hW2]
      have e := heap_alloc_new (w1.alloc (.cells #[.pointer none, .slice none 0 0, .int .i64 0] 76)) (.cells #[.func (.func 28) #[.pointer (some ⟨w1.heap.size, 0, none⟩)] #[], .bool false, .int .i64 0, .int .i64 0] 79)
      rw [World.size_alloc] at e
      exact e
    have hSh : SheetN w1.heap.size w1.heap.size W2 [] := by
      have e := sheetN_new w1
      rw [hW2]
      exact (count_ok w1.heap.size w1.heap.size).below e ((Below.refl _ _).alloc (Nat.le_refl _) _)
    have hI1 := hI.keep HX1.out.below
    have HV : Hid (Calls Tryz.prog 26 #[.pointer (some ⟨w1.heap.size + 1, 0, none⟩), (.agg #[.int .i64 kd, .string nm, .string tx, .slice io N icap, .slice ko K kcap])] W2 fun e w' => e = .returned (.tuple #[]) ∧ SheetN w1.heap.size w1.heap.size w' (wrV none h 0 T) ∧ Below w1.heap.size W2 w') := by
      refine (w_value (count_ok w1.heap.size w1.heap.size) (w1.heap.size + 1) none w1 (Nat.le_refl _) (by omega) (by omega) (fun s e => by cases e) (hwd.keep HX1.out.below) h T _ W2 0 [] hI1 hf hsh hb2 hWr hSh (by omega) (by omega) (by omega) (by simp only [List.length_nil]; omega)).mono ?_
      rintro e w' ⟨he, h1, h2, h3⟩
      exact ⟨he, by simpa using h1, h2⟩
    have d0 := HX2.out.c0
    have d1 := HX2.out.c1
    have d2 := HX2.out.c2
    have d3 := HX2.out.c3
    have d4 := HX2.out.c4
    rw [hW2] at d0 d1 d2 d3 d4
    have HW2 := Hid.mk hW2
    have hbw := (HX1.out.below).trans (hb2.mono HX1.out.below.size)
    have HBW := Hid.mk hbw
    have HL1 := Hid.mk HX1.out.below.size
    clear hW2 hb2 hz2 hWr hSh hI1 hlen hsh hsz hI hf hwd hbw
    go_wp2_with fail
    rw [← HW2.out]
    refine HV.out.mono ?_
    rintro e w3 ⟨rfl, hS3, hb3⟩
    have HB3 := Hid.mk (HBW.out.trans (hb3.mono HL1.out))
    have c2 : w3.cell? ⟨w1.heap.size, 2, none⟩ = some (.int .i64 ((wrV none h 0 T).length : Int)) := by rw [Lib.cell_of_heap hS3.at_]; rfl
    clear hS3 hb3 d0 d1 d2 d3 d4
    go_wp2_with fail
    go_ret2
    exact ⟨rfl, HB3.out⟩
end Go.Proofs.YtfjmgccbpiolhaaGreatDoor
