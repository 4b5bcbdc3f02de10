import Derived.Test.YtfjmgccbpiolhaaGreatDoorM31
import Derived.Test.YtfjmgccbpiolhaaGreatDoorM14
import Derived.Test.YtfjmgccbpiolhaaGreatDoorM18
import Derived.Laws.EntriesVeiled
namespace Go.Proofs.YtfjmgccbpiolhaaGreatDoor
open Go.RowKit Go.Sort
set_option linter.unusedVariables false
set_option linter.unusedSimpArgs false

theorem sum_rng {ts : List VT} (f : VT → Nat) (c : Nat) (b : Nat → Nat) (hb : ∀ i, (hi : i < ts.length) → b i = c * f ts[i]) : sumL ((List.range ts.length).map b) = c * sumL (ts.map f) := by
  have e : (List.range ts.length).map b = ts.map (fun t => c * f t) := by
    refine List.ext_getElem (by simp) fun i h1 h2 => ?_
    simp only [List.getElem_map, List.getElem_range]
    exact hb i (by simpa using h2)
  rw [e]
  clear e hb
  induction ts with
  | nil => simp [sumL]
  | cons a r ih => simp only [List.map_cons, sumL, ih, Nat.mul_add]
theorem wrV_len (st : Option Nat) (hst : ∀ s, st = some s → s ≤ 8) : ∀ (h d : Nat) (T : VT), formN h T = true → ShV h T → d + szN h T ≤ 1048577 → (wrV st h d T).length + 16777216 ≤ 33554432 * szN h T
  | 0, d, T, hf, _, _ => by cases hf
  | h + 1, d, T, hf, hsh, hd => by
    obtain ⟨s1, s2, s3, s4⟩ := hsh
    have hsz : szN (h + 1) T = 1 + T.keys.length + sumL (T.items.map (szN h)) := rfl
    have e1 : T.num.data.toList.length = T.num.size := by rw [Array.length_toList]; rfl
    have e2 : T.text.data.toList.length = T.text.size := by rw [Array.length_toList]; rfl
    have e3 := wQ_len T.text.data.toList
    by_cases k0 : T.kind = 0
    · have hw : wrV st (h + 1) d T = [110, 117, 108, 108] := by unfold wrV; rw [if_pos k0]
      rw [hw]; simp only [List.length_cons, List.length_nil]; omega
    by_cases k1 : T.kind = 1
    · have hw : wrV st (h + 1) d T = [102, 97, 108, 115, 101] := by unfold wrV; rw [if_neg k0, if_pos k1]
      rw [hw]; simp only [List.length_cons, List.length_nil]; omega
    by_cases k2 : T.kind = 2
    · have hw : wrV st (h + 1) d T = [116, 114, 117, 101] := by unfold wrV; rw [if_neg k0, if_neg k1, if_pos k2]
      rw [hw]; simp only [List.length_cons, List.length_nil]; omega
    by_cases k3 : T.kind = 3
    · have hw : wrV st (h + 1) d T = T.num.data.toList := by unfold wrV; rw [if_neg k0, if_neg k1, if_neg k2, if_pos k3]
      rw [hw]; omega
    by_cases k4 : T.kind = 4
    · have hw : wrV st (h + 1) d T = wQ T.text.data.toList := by unfold wrV; rw [if_neg k0, if_neg k1, if_neg k2, if_neg k3, if_pos k4]
      rw [hw]; omega
    have hk56 : T.kind = 5 ∨ T.kind = 6 := by rcases form_kind hf with h1 | h1 <;> omega
    obtain ⟨o, c, hw⟩ : ∃ o c, wrV st (h + 1) d T = rowW o c (lnW st (d + 1)) (lnW st d) (nmV T st) (fun i => (T.items[i]?.map (wrV st h (d + 1))).getD []) T.items.length := by
      unfold wrV; rw [if_neg k0, if_neg k1, if_neg k2, if_neg k3, if_neg k4]; exact ⟨_, _, rfl⟩
    rw [hw]
    unfold rowW
    split
    · simp only [List.length_cons, List.length_nil]; omega
    · have l1 := lnW_len st (d + 1) hst
      have l0 := lnW_len st d hst
      have hb := joinR_len (pcW o (lnW st (d + 1)) (nmV T st) (fun i => (T.items[i]?.map (wrV st h (d + 1))).getD [])) (fun i => 33554432 * (T.items[i]?.map (szN h)).getD 0) T.items.length (by
        intro i hil
        have hgi : T.items[i]? = some T.items[i] := List.getElem?_eq_getElem hil
        have hs1 := szN_item (h := h) hil
        have ihi := wrV_len st hst h (d + 1) T.items[i] (form_items hf hk56 i hil) (s4 _ (List.getElem_mem hil)) (by omega)
        have hnm : (nmV T st i).length ≤ 6 * 1048576 + 4 := by
          unfold nmV
          split
          · have q1 := wQ_len (T.keys.getD i .empty).data.toList
            have q2 := clW_len st
            have q3 : (T.keys.getD i .empty).data.toList.length = (T.keys.getD i .empty).size := by rw [Array.length_toList]; rfl
            have q4 : (T.keys.getD i .empty).size ≤ 1048576 := by
              by_cases hik : i < T.keys.length
              · have e : T.keys.getD i .empty = T.keys[i] := by simp [List.getD, hik]
                rw [e]; exact s3 _ (List.getElem_mem _)
              · have e : T.keys.getD i .empty = .empty := by simp [List.getD, hik]
                rw [e]; decide
            rw [List.length_append]; omega
          · simp
        simp only [pcW, List.length_append, sepW_len, hgi, Option.map_some, Option.getD_some]
        omega)
      rw [sum_rng (szN h) 33554432 _ (fun i hil => by rw [List.getElem?_eq_getElem hil]; rfl)] at hb
      simp only [List.length_append, List.length_cons, List.length_nil]
      omega
theorem sheet_new (w : World) : Sheet w.heap.size w.heap.size (w.alloc (.cells #[.pointer none, .slice none 0 0, .int .i64 0] 76)) [] :=
  ⟨Nat.le_refl _, _, _, heap_alloc_new w _, .inl rfl, World.ownsRow_nil _ _ _ _, fun _ => rfl⟩
end Go.Proofs.YtfjmgccbpiolhaaGreatDoor
namespace Go.Proofs.YtfjmgccbpiolhaaGreatDoor
open Go.RowKit Go.Sort
set_option linter.unusedVariables false
set_option linter.unusedSimpArgs false

set_option maxRecDepth 100000 in
set_option maxHeartbeats 1600000 in
theorem w_TextB (h : Nat) (T : VT) (w : World) (kd : Int) (nm tx : ByteArray) (io : Option Addr) (N icap : Nat) (ko : Option Addr) (K kcap : Nat) (hI : InH w h T (.agg #[.int .i64 kd, .string nm, .string tx, .slice io N icap, .slice ko K kcap])) (hsh : ShV h T) (hsz : szN h T ≤ 1048576) (hwd : WordsAt w) :
    Calls Tryz.prog 8 #[(.agg #[.int .i64 kd, .string nm, .string tx, .slice io N icap, .slice ko K kcap])] w fun e w' => e = .returned (.tuple #[.string ⟨(if formN h T = true then wrV none h 0 T else []).toArray⟩, .int .i64 (if formN h T = true then 0 else 1)]) ∧ Below w.heap.size w w' := by
  have hmf : ∀ (fn : Fn) (first cap : Array Value) (w : World), (Instr.makeFunc fn first cap).run Tryz.prog w = .ok (.func fn first cap) w := fun _ _ _ _ => rfl
  have HX := Hid.mk (vbx_new w (.int .i64 kd) (.string nm) (.string tx) (.slice io N icap) (.slice ko K kcap))
  obtain ⟨W0, hW0⟩ : ∃ W0, W0 = w.alloc (.cells #[.int .i64 kd, .string nm, .string tx, .slice io N icap, .slice ko K kcap] 49) := ⟨_, rfl⟩
  rw [← hW0] at HX
  have b0 := HX.out.c0
  have b1 := HX.out.c1
  have b2 := HX.out.c2
  have b3 := HX.out.c3
  have b4 := HX.out.c4
  have HF := Hid.mk (w_vFormed h T _ W0 (hI.keep HX.out.below))
  have HW0 := Hid.mk hW0
  cases hf : formN h T with
  | false =>
    rw [hf] at HF
    simp only [Bool.false_eq_true, if_false]
    clear hW0 hf hI hsh hsz hwd
    go_enter Tryz.func8, Tryz.ntmps8
    go_wp2_with fail
    rw [← HW0.out]
    refine HF.out.mono ?_
    rintro e w1 ⟨rfl, hb⟩
    have HB := Hid.mk (HX.out.keep hb).below
    clear hb b0 b1 b2 b3 b4
    go_wp2_with fail
    go_ret2
    exact ⟨rfl, HB.out⟩
  | true =>
    rw [hf] at HF
    simp only [if_true]
    clear hW0
    go_enter Tryz.func8, Tryz.ntmps8
    go_wp2_with fail
    rw [← HW0.out]
    refine HF.out.mono ?_
    rintro e w1 ⟨rfl, hb⟩
    have HX1 := Hid.mk (HX.out.keep hb)
    clear hb b0 b1 b2 b3 b4
    have hlen := wrV_len none (fun s e => by cases e) h 0 T hf hsh (by omega)
    obtain ⟨W2, hW2⟩ : ∃ W2, W2 = (w1.alloc (.cells #[.pointer none, .slice none 0 0, .int .i64 0] 76)).alloc (.cells #[.func (.func 25) #[.pointer (some ⟨w1.heap.size, 0, none⟩)] #[], .bool false, .int .i64 0, .int .i64 0] 79) := ⟨_, rfl⟩
    have hb2 : Below w1.heap.size w1 W2 := by rw [hW2]; exact ((Below.refl _ _).alloc (Nat.le_refl _) _).alloc (by simp) _
    have HX2 := Hid.mk (HX1.out.keep hb2)
    have hz2 : W2.heap.size = w1.heap.size + 1 + 1 := by rw [hW2]; simp
    have hWr : WrAt W2 (w1.heap.size + 1) 25 w1.heap.size none 0 := by
      rw [hW2]
      have e := heap_alloc_new (w1.alloc (.cells #[.pointer none, .slice none 0 0, .int .i64 0] 76)) (.cells #[.func (.func 25) #[.pointer (some ⟨w1.heap.size, 0, none⟩)] #[], .bool false, .int .i64 0, .int .i64 0] 79)
      rw [World.size_alloc] at e
      exact e
    have hSh : Sheet w1.heap.size w1.heap.size W2 [] := by
      have e := sheet_new w1
      rw [hW2]
      exact (keep_ok w1.heap.size w1.heap.size).below e ((Below.refl _ _).alloc (Nat.le_refl _) _)
    have hI1 := hI.keep HX1.out.below
    have HV : Hid (Calls Tryz.prog 26 #[.pointer (some ⟨w1.heap.size + 1, 0, none⟩), (.agg #[.int .i64 kd, .string nm, .string tx, .slice io N icap, .slice ko K kcap])] W2 fun e w' => e = .returned (.tuple #[]) ∧ Sheet w1.heap.size w1.heap.size w' (wrV none h 0 T) ∧ Below w1.heap.size W2 w') := by
      refine (w_value (keep_ok w1.heap.size w1.heap.size) (w1.heap.size + 1) none w1 (Nat.le_refl _) (by omega) (by omega) (fun s e => by cases e) (hwd.keep HX1.out.below) h T _ W2 0 [] hI1 hf hsh hb2 hWr hSh (by omega) (by omega) (by omega) (by simp only [List.length_nil]; omega)).mono ?_
      rintro e w' ⟨he, h1, h2, h3⟩
      exact ⟨he, by simpa using h1, h2⟩
    have d0 := HX2.out.c0
    have d1 := HX2.out.c1
    have d2 := HX2.out.c2
    have d3 := HX2.out.c3
    have d4 := HX2.out.c4
    rw [hW2] at d0 d1 d2 d3 d4
    have HW2 := Hid.mk hW2
    have hbw := (HX1.out.below).trans (hb2.mono HX1.out.below.size)
    have HBW := Hid.mk hbw
    have HL1 := Hid.mk HX1.out.below.size
    clear hW2 hb2 hz2 hWr hSh hI1 hlen hsh hsz hI hf hwd hbw
    go_wp2_with fail
    rw [← HW2.out]
    refine HV.out.mono ?_
    rintro e w3 ⟨rfl, hS3, hb3⟩
    have HB3 := Hid.mk (HBW.out.trans (hb3.mono HL1.out))
    have HSt := Hid.mk (w_String w1.heap.size w1.heap.size _ w3 hS3)
    clear hS3 hb3 d0 d1 d2 d3 d4
    go_wp2_with fail
    refine HSt.out.mono ?_
    rintro e w4 ⟨rfl, hb4⟩
    have HB4 := Hid.mk (HB3.out.trans (hb4.mono HL1.out))
    clear hb4
    go_wp2_with fail
    go_ret2
    exact ⟨rfl, HB4.out⟩
end Go.Proofs.YtfjmgccbpiolhaaGreatDoor
