import Derived.Test.YtcpnodkcnblkdaaGreatDoorM30
import Derived.Test.YtcpnodkcnblkdaaGreatDoorM14
import Derived.Test.YtcpnodkcnblkdaaGreatDoorM18
import Derived.Laws.EntriesVeiled
import Derived.Test.YtcpnodkcnblkdaaGreatDoorM26
namespace Go.Proofs.YtcpnodkcnblkdaaGreatDoor
open Go.RowKit Go.Sort
set_option linter.unusedVariables false
set_option linter.unusedSimpArgs false

theorem sum_rng {ts : List VT} (f : VT → Nat) (c : Nat) (b : Nat → Nat) (hb : ∀ i, (hi : i < ts.length) → b i = c * f ts[i]) : sumL ((List.range ts.length).map b) = c * sumL (ts.map f) := by
  have e : (List.range ts.length).map b = ts.map (fun t => c * f t) := by
    refine List.ext_getElem (by simp) fun i h1 h2 => ?_
    simp only [List.getElem_map, List.getElem_range]
    exact hb i (by simpa using h2)
  rw [e]
  clear e hb
  induction ts with
  | nil => simp [sumL]
  | cons a r ih => simp only [List.map_cons, sumL, ih, Nat.mul_add]
theorem wrV_len (st : Option Nat) (hst : ∀ s, st = some s → s ≤ 8) : ∀ (h d : Nat) (T : VT), formN h T = true → ShV h T → d + szN h T ≤ 20001 → (wrV st h d T).length + 16777216 ≤ 33554432 * szN h T
  | 0, d, T, hf, _, _ => by cases hf
  | h + 1, d, T, hf, hsh, hd => by
    obtain ⟨s1, s2, s3, s4⟩ := hsh
    have hsz : szN (h + 1) T = 1 + T.keys.length + sumL (T.items.map (szN h)) := rfl
    have e1 : T.num.data.toList.length = T.num.size := by rw [Array.length_toList]; rfl
    have e2 : T.text.data.toList.length = T.text.size := by rw [Array.length_toList]; rfl
    have e3 := wQ_len T.text.data.toList
    by_cases k0 : T.kind = 0
    · have hw : wrV st (h + 1) d T = [110, 117, 108, 108] := by unfold wrV; rw [if_pos k0]
      rw [hw]; simp only [List.length_cons, List.length_nil]; omega
    by_cases k1 : T.kind = 1
    · have hw : wrV st (h + 1) d T = [102, 97, 108, 115, 101] := by unfold wrV; rw [if_neg k0, if_pos k1]
      rw [hw]; simp only [List.length_cons, List.length_nil]; omega
    by_cases k2 : T.kind = 2
    · have hw : wrV st (h + 1) d T = [116, 114, 117, 101] := by unfold wrV; rw [if_neg k0, if_neg k1, if_pos k2]
      rw [hw]; simp only [List.length_cons, List.length_nil]; omega
    by_cases k3 : T.kind = 3
    · have hw : wrV st (h + 1) d T = T.num.data.toList := by unfold wrV; rw [if_neg k0, if_neg k1, if_neg k2, if_pos k3]
      rw [hw]; omega
    by_cases k4 : T.kind = 4
    · have hw : wrV st (h + 1) d T = wQ T.text.data.toList := by unfold wrV; rw [if_neg k0, if_neg k1, if_neg k2, if_neg k3, if_pos k4]
      rw [hw]; omega
    have hk56 : T.kind = 5 ∨ T.kind = 6 := by rcases form_kind hf with h1 | h1 <;> omega
    obtain ⟨o, c, hw⟩ : ∃ o c, wrV st (h + 1) d T = rowW o c (lnW st (d + 1)) (lnW st d) (nmV T st) (fun i => (T.items[i]?.map (wrV st h (d + 1))).getD []) T.items.length := by
      unfold wrV; rw [if_neg k0, if_neg k1, if_neg k2, if_neg k3, if_neg k4]; exact ⟨_, _, rfl⟩
    rw [hw]
    unfold rowW
    split
    · simp only [List.length_cons, List.length_nil]; omega
    · have l1 := lnW_len st (d + 1) hst
      have l0 := lnW_len st d hst
      have hb := joinR_len (pcW o (lnW st (d + 1)) (nmV T st) (fun i => (T.items[i]?.map (wrV st h (d + 1))).getD [])) (fun i => 33554432 * (T.items[i]?.map (szN h)).getD 0) T.items.length (by
        intro i hil
        have hgi : T.items[i]? = some T.items[i] := List.getElem?_eq_getElem hil
        have hs1 := szN_item (h := h) hil
        have ihi := wrV_len st hst h (d + 1) T.items[i] (form_items hf hk56 i hil) (s4 _ (List.getElem_mem hil)) (by omega)
        have hnm : (nmV T st i).length ≤ 6 * 1048576 + 4 := by
          unfold nmV
          split
          · have q1 := wQ_len (T.keys.getD i .empty).data.toList
            have q2 := clW_len st
            have q3 : (T.keys.getD i .empty).data.toList.length = (T.keys.getD i .empty).size := by rw [Array.length_toList]; rfl
            have q4 : (T.keys.getD i .empty).size ≤ 1048576 := by
              by_cases hik : i < T.keys.length
              · have e : T.keys.getD i .empty = T.keys[i] := by simp [List.getD, hik]
                rw [e]; exact s3 _ (List.getElem_mem _)
              · have e : T.keys.getD i .empty = .empty := by simp [List.getD, hik]
                rw [e]; decide
            rw [List.length_append]; omega
          · simp
        simp only [pcW, List.length_append, sepW_len, hgi, Option.map_some, Option.getD_some]
        omega)
      rw [sum_rng (szN h) 33554432 _ (fun i hil => by rw [List.getElem?_eq_getElem hil]; rfl)] at hb
      simp only [List.length_append, List.length_cons, List.length_nil]
      omega
theorem sheet_new (w : World) : Sheet w.heap.size w.heap.size (w.alloc (.cells #[.pointer none, .slice none 0 0, .int .i64 0] 47)) [] :=
  ⟨Nat.le_refl _, _, _, heap_alloc_new w _, .inl rfl, World.ownsRow_nil _ _ _ _, fun _ => rfl⟩
end Go.Proofs.YtcpnodkcnblkdaaGreatDoor
namespace Go.Proofs.YtcpnodkcnblkdaaGreatDoor
open Go.RowKit Go.Sort
set_option linter.unusedVariables false
set_option linter.unusedSimpArgs false

set_option maxRecDepth 100000 in
set_option maxHeartbeats 1600000 in
theorem w_Laid (h : Nat) (T : VT) (w : World) (kd : Int) (nm tx : ByteArray) (io : Option Addr) (N icap : Nat) (ko : Option Addr) (K kcap : Nat) (sp : Nat) (hsp : sp ≤ 8) (hI : InH w h T (.agg #[.int .i64 kd, .string nm, .string tx, .slice io N icap, .slice ko K kcap])) (hsh : ShV h T) (hsz : szN h T ≤ 20000) (hwd : WordsAt w) :
    Calls Tryz.prog 11 #[(.agg #[.int .i64 kd, .string nm, .string tx, .slice io N icap, .slice ko K kcap]), .int .i64 (sp : Int)] w fun e w' => e = .returned (.tuple #[.string ⟨(if formN h T = true then wrV (some sp) h 0 T else []).toArray⟩, .int .i64 (if formN h T = true then 0 else 1)]) ∧ Below w.heap.size w w' := by
  have hmf : ∀ (fn : Fn) (first cap : Array Value) (w : World), (Instr.makeFunc fn first cap).run Tryz.prog w = .ok (.func fn first cap) w := fun _ _ _ _ => rfl
  have HX := Hid.mk (vbx_new w (.int .i64 kd) (.string nm) (.string tx) (.slice io N icap) (.slice ko K kcap))
  obtain ⟨W0, hW0⟩ : ∃ W0, W0 = w.alloc (.cells #[.int .i64 kd, .string nm, .string tx, .slice io N icap, .slice ko K kcap] 25) := ⟨_, rfl⟩
  rw [← hW0] at HX
  have b0 := HX.out.c0
  have b1 := HX.out.c1
  have b2 := HX.out.c2
  have b3 := HX.out.c3
  have b4 := HX.out.c4
  have HF := Hid.mk (w_vFormed h T _ W0 (hI.keep HX.out.below))
  have HW0 := Hid.mk hW0
  have hq1 : ¬ (sp : Int) < 0 := by omega
  have hq2 : ¬ (8 : Int) < (sp : Int) := by omega
  have hq3 : (sp : Int) ≤ 8 := by omega
  cases hf : formN h T with
  | false =>
    rw [hf] at HF
    simp only [Bool.false_eq_true, if_false]
    clear hW0 hf hI hsh hsz hwd
    go_enter Tryz.func11, Tryz.ntmps11
    go_wp2_with fail
    rw [← HW0.out]
    refine HF.out.mono ?_
    rintro e w1 ⟨rfl, hb⟩
    have HB := Hid.mk (HX.out.keep hb).below
    clear hb b0 b1 b2 b3 b4
    go_wp2_with fail
    go_ret2
    exact ⟨rfl, HB.out⟩
  | true =>
    rw [hf] at HF
    simp only [if_true]
    clear hW0
    go_enter Tryz.func11, Tryz.ntmps11
    go_wp2_with fail
    rw [← HW0.out]
    refine HF.out.mono ?_
    rintro e w1 ⟨rfl, hb⟩
    have HX1 := Hid.mk (HX.out.keep hb)
    clear hb b0 b1 b2 b3 b4
    have hlen := wrV_len (some sp) (fun s e => by cases e; exact hsp) h 0 T hf hsh (by omega)
    obtain ⟨W2, hW2⟩ : ∃ W2, W2 = (w1.alloc (.cells #[.pointer none, .slice none 0 0, .int .i64 0] 47)).alloc (.cells #[.func (.func 22) #[.pointer (some ⟨w1.heap.size, 0, none⟩)] #[], .bool true, .int .i64 (sp : Int), .int .i64 0] 50) := ⟨_, rfl⟩
    have hb2 : Below w1.heap.size w1 W2 := by rw [hW2]; exact ((Below.refl _ _).alloc (Nat.le_refl _) _).alloc (by simp) _
    have HX2 := Hid.mk (HX1.out.keep hb2)
    have hz2 : W2.heap.size = w1.heap.size + 1 + 1 := by rw [hW2]; simp
    have hWr : WrAt W2 (w1.heap.size + 1) 22 w1.heap.size (some sp) 0 := by
      rw [hW2]
      have e := heap_alloc_new (w1.alloc (.cells #[.pointer none, .slice none 0 0, .int .i64 0] 47)) (.cells #[.func (.func 22) #[.pointer (some ⟨w1.heap.size, 0, none⟩)] #[], .bool true, .int .i64 (sp : Int), .int .i64 0] 50)
      rw [World.size_alloc] at e
      exact e
    have hSh : Sheet w1.heap.size w1.heap.size W2 [] := by
      have e := sheet_new w1
      rw [hW2]
      exact (keep_ok w1.heap.size w1.heap.size).below e ((Below.refl _ _).alloc (Nat.le_refl _) _)
    have hI1 := hI.keep HX1.out.below
    have HV : Hid (Calls Tryz.prog 23 #[.pointer (some ⟨w1.heap.size + 1, 0, none⟩), (.agg #[.int .i64 kd, .string nm, .string tx, .slice io N icap, .slice ko K kcap])] W2 fun e w' => e = .returned (.tuple #[]) ∧ Sheet w1.heap.size w1.heap.size w' (wrV (some sp) h 0 T) ∧ Below w1.heap.size W2 w') := by
      refine (w_value (keep_ok w1.heap.size w1.heap.size) (w1.heap.size + 1) (some sp) w1 (Nat.le_refl _) (by omega) (by omega) (fun s e => by cases e; exact hsp) (hwd.keep HX1.out.below) h T _ W2 0 [] hI1 hf hsh hb2 hWr hSh (by omega) (by omega) (by omega) (by simp only [List.length_nil]; omega)).mono ?_
      rintro e w' ⟨he, h1, h2, h3⟩
      exact ⟨he, by simpa using h1, h2⟩
    have d0 := HX2.out.c0
    have d1 := HX2.out.c1
    have d2 := HX2.out.c2
    have d3 := HX2.out.c3
    have d4 := HX2.out.c4
    rw [hW2] at d0 d1 d2 d3 d4
    have HW2 := Hid.mk hW2
    have hbw := (HX1.out.below).trans (hb2.mono HX1.out.below.size)
    have HBW := Hid.mk hbw
    have HL1 := Hid.mk HX1.out.below.size
    clear hW2 hb2 hz2 hWr hSh hI1 hlen hsh hsz hI hf hwd hbw
    go_wp2_with fail
    rw [← HW2.out]
    refine HV.out.mono ?_
    rintro e w3 ⟨rfl, hS3, hb3⟩
    have HB3 := Hid.mk (HBW.out.trans (hb3.mono HL1.out))
    have HSt := Hid.mk (w_String w1.heap.size w1.heap.size _ w3 hS3)
    clear hS3 hb3 d0 d1 d2 d3 d4
    go_wp2_with fail
    refine HSt.out.mono ?_
    rintro e w4 ⟨rfl, hb4⟩
    have HB4 := Hid.mk (HB3.out.trans (hb4.mono HL1.out))
    clear hb4
    go_wp2_with fail
    go_ret2
    exact ⟨rfl, HB4.out⟩
end Go.Proofs.YtcpnodkcnblkdaaGreatDoor
namespace Go.Proofs.YtcpnodkcnblkdaaGreatDoor
open Go.RowKit Go.Sort
set_option linter.unusedVariables false
set_option linter.unusedSimpArgs false

set_option maxRecDepth 100000 in
set_option maxHeartbeats 1600000 in
theorem w_Text (h : Nat) (T : VT) (w : World) (kd : Int) (nm tx : ByteArray) (io : Option Addr) (N icap : Nat) (ko : Option Addr) (K kcap : Nat) (hI : InH w h T (.agg #[.int .i64 kd, .string nm, .string tx, .slice io N icap, .slice ko K kcap])) (hsh : ShV h T) (hsz : szN h T ≤ 20000) (hwd : WordsAt w) :
    Calls Tryz.prog 10 #[(.agg #[.int .i64 kd, .string nm, .string tx, .slice io N icap, .slice ko K kcap])] w fun e w' => e = .returned (.tuple #[.string ⟨(if formN h T = true then wrV none h 0 T else []).toArray⟩, .int .i64 (if formN h T = true then 0 else 1)]) ∧ Below w.heap.size w w' := by
  have hmf : ∀ (fn : Fn) (first cap : Array Value) (w : World), (Instr.makeFunc fn first cap).run Tryz.prog w = .ok (.func fn first cap) w := fun _ _ _ _ => rfl
  have HX := Hid.mk (vbx_new w (.int .i64 kd) (.string nm) (.string tx) (.slice io N icap) (.slice ko K kcap))
  obtain ⟨W0, hW0⟩ : ∃ W0, W0 = w.alloc (.cells #[.int .i64 kd, .string nm, .string tx, .slice io N icap, .slice ko K kcap] 25) := ⟨_, rfl⟩
  rw [← hW0] at HX
  have b0 := HX.out.c0
  have b1 := HX.out.c1
  have b2 := HX.out.c2
  have b3 := HX.out.c3
  have b4 := HX.out.c4
  have HF := Hid.mk (w_vFormed h T _ W0 (hI.keep HX.out.below))
  have HW0 := Hid.mk hW0
  cases hf : formN h T with
  | false =>
    rw [hf] at HF
    simp only [Bool.false_eq_true, if_false]
    clear hW0 hf hI hsh hsz hwd
    go_enter Tryz.func10, Tryz.ntmps10
    go_wp2_with fail
    rw [← HW0.out]
    refine HF.out.mono ?_
    rintro e w1 ⟨rfl, hb⟩
    have HB := Hid.mk (HX.out.keep hb).below
    clear hb b0 b1 b2 b3 b4
    go_wp2_with fail
    go_ret2
    exact ⟨rfl, HB.out⟩
  | true =>
    rw [hf] at HF
    simp only [if_true]
    clear hW0
    go_enter Tryz.func10, Tryz.ntmps10
    go_wp2_with fail
    rw [← HW0.out]
    refine HF.out.mono ?_
    rintro e w1 ⟨rfl, hb⟩
    have HX1 := Hid.mk (HX.out.keep hb)
    clear hb b0 b1 b2 b3 b4
    have hlen := wrV_len none (fun s e => by cases e) h 0 T hf hsh (by omega)
    obtain ⟨W2, hW2⟩ : ∃ W2, W2 = (w1.alloc (.cells #[.pointer none, .slice none 0 0, .int .i64 0] 47)).alloc (.cells #[.func (.func 22) #[.pointer (some ⟨w1.heap.size, 0, none⟩)] #[], .bool false, .int .i64 0, .int .i64 0] 50) := ⟨_, rfl⟩
    have hb2 : Below w1.heap.size w1 W2 := by rw [hW2]; exact ((Below.refl _ _).alloc (Nat.le_refl _) _).alloc (by simp) _
    have HX2 := Hid.mk (HX1.out.keep hb2)
    have hz2 : W2.heap.size = w1.heap.size + 1 + 1 := by rw [hW2]; simp
    have hWr : WrAt W2 (w1.heap.size + 1) 22 w1.heap.size none 0 := by
      rw [hW2]
      have e := heap_alloc_new (w1.alloc (.cells #[.pointer none, .slice none 0 0, .int .i64 0] 47)) (.cells #[.func (.func 22) #[.pointer (some ⟨w1.heap.size, 0, none⟩)] #[], .bool false, .int .i64 0, .int .i64 0] 50)
      rw [World.size_alloc] at e
      exact e
    have hSh : Sheet w1.heap.size w1.heap.size W2 [] := by
      have e := sheet_new w1
      rw [hW2]
      exact (keep_ok w1.heap.size w1.heap.size).below e ((Below.refl _ _).alloc (Nat.le_refl _) _)
    have hI1 := hI.keep HX1.out.below
    have HV : Hid (Calls Tryz.prog 23 #[.pointer (some ⟨w1.heap.size + 1, 0, none⟩), (.agg #[.int .i64 kd, .string nm, .string tx, .slice io N icap, .slice ko K kcap])] W2 fun e w' => e = .returned (.tuple #[]) ∧ Sheet w1.heap.size w1.heap.size w' (wrV none h 0 T) ∧ Below w1.heap.size W2 w') := by
      refine (w_value (keep_ok w1.heap.size w1.heap.size) (w1.heap.size + 1) none w1 (Nat.le_refl _) (by omega) (by omega) (fun s e => by cases e) (hwd.keep HX1.out.below) h T _ W2 0 [] hI1 hf hsh hb2 hWr hSh (by omega) (by omega) (by omega) (by simp only [List.length_nil]; omega)).mono ?_
      rintro e w' ⟨he, h1, h2, h3⟩
      exact ⟨he, by simpa using h1, h2⟩
    have d0 := HX2.out.c0
    have d1 := HX2.out.c1
    have d2 := HX2.out.c2
    have d3 := HX2.out.c3
    have d4 := HX2.out.c4
    rw [hW2] at d0 d1 d2 d3 d4
    have HW2 := Hid.mk hW2
    have hbw := (HX1.out.below).trans (hb2.mono HX1.out.below.size)
    have HBW := Hid.mk hbw
    have HL1 := Hid.mk HX1.out.below.size
    clear hW2 hb2 hz2 hWr hSh hI1 hlen hsh hsz hI hf hwd hbw
    go_wp2_with fail
    rw [← HW2.out]
    refine HV.out.mono ?_
    rintro e w3 ⟨rfl, hS3, hb3⟩
    have HB3 := Hid.mk (HBW.out.trans (hb3.mono HL1.out))
    have HSt := Hid.mk (w_String w1.heap.size w1.heap.size _ w3 hS3)
    clear hS3 hb3 d0 d1 d2 d3 d4
    go_wp2_with fail
    refine HSt.out.mono ?_
    rintro e w4 ⟨rfl, hb4⟩
    have HB4 := Hid.mk (HB3.out.trans (hb4.mono HL1.out))
    clear hb4
    go_wp2_with fail
    go_ret2
    exact ⟨rfl, HB4.out⟩
end Go.Proofs.YtcpnodkcnblkdaaGreatDoor
namespace Go.Proofs.YtcpnodkcnblkdaaGreatDoor
open Go.RowKit
set_option linter.unusedVariables false
set_option linter.unusedSimpArgs false

def PtK (h : Nat) (T : VT) (most : Int) (w w' : World) (e : Ending) : Prop := ∃ p : Int, e = .returned (.int .i64 p) ∧ 0 ≤ p ∧ p ≤ most + (most + 1) * 140737488355329 ∧ ((p ≤ most → p = (szN h T : Int)) ∧ (most < p → most < (szN h T : Int))) ∧ Below w.heap.size w w'

set_option maxRecDepth 100000 in
set_option maxHeartbeats 3200000 in
theorem w_PartsK : ∀ (h : Nat) (T : VT) (v : Value) (w : World) (most : Int), InH w h T v → 0 ≤ most → most ≤ 20000 → Calls Tryz.prog 27 #[v, .int .i64 most] w fun e w' => PtK h T most w w' e := by
  intro h
  induction h with
  | zero => intro T v w most hI; exact hI.elim
  | succ h ih =>
    intro T v w most hI h0 h1
    obtain ⟨io, icap, ko, kcap, rfl, a1, a2, a3, a4, a5, a6, a7, hk, hi⟩ := hI.open
    have HX := Hid.mk (vbx_new w (.int .i64 T.kind) (.string T.num) (.string T.text) (.slice io T.items.length icap) (.slice ko T.keys.length kcap))
    have HI := Hid.mk (hi.keep HX.out.below)
    have HIh := Hid.mk ih
    have HSZ : Hid (szN (h + 1) T = 1 + T.keys.length + sumL (T.items.map (szN h))) := rfl
    unfold PtK
    generalize szN (h + 1) T = SZ at HSZ ⊢
    generalize T.kind = kd at *
    generalize T.num = nm at *
    generalize T.text = tx at *
    obtain ⟨ts, hts⟩ : ∃ ts, T.items = ts := ⟨_, rfl⟩
    rw [hts] at HI HX a3 a5 HSZ ⊢
    obtain ⟨N, hN⟩ : ∃ N, ts.length = N := ⟨_, rfl⟩
    have HNN := Hid.mk hN
    rw [hN] at HX HI a3 a5 ⊢
    obtain ⟨K, hK⟩ : ∃ K, T.keys.length = K := ⟨_, rfl⟩
    rw [hK] at HX HI a4 a6 HSZ ⊢
    clear hi hk hI ih a7 hts hN hK
    obtain ⟨W0, hW0⟩ : ∃ W0, W0 = w.alloc (.cells #[.int .i64 kd, .string nm, .string tx, .slice io N icap, .slice ko K kcap] 25) := ⟨_, rfl⟩
    go_enter Tryz.func27, Tryz.ntmps27
    go_wp2_with fail
    rw [← hW0] at HX HI ⊢
    clear hW0
    go_loopw [5, 6] (fun nn i wr => ∃ (n : Int) (k : Nat), 1 ≤ n ∧ n ≤ most + most * 140737488355329 + 1 ∧ k ≤ N ∧ nn = .int .i64 n ∧ i = .int .i64 (k : Int) ∧ Hid (Below W0.heap.size W0 wr) ∧ Hid ((n ≤ most → n = 1 + ((sumL ((ts.take k).map (szN h)) : Nat) : Int)) ∧ (most < n → most < 1 + ((sumL ((ts.take k).map (szN h)) : Nat) : Int)))) (fun _ i _ => N - (intOf i).toNat)
    case atStart => exact ⟨1, 0, by omega, by omega, Nat.zero_le _, rfl, rfl, Below.refl _ _, fun _ => by simp [sumL], fun hh => by simp [sumL]; omega⟩
    case round =>
      obtain ⟨n, k, hn0, hn1, hk, rfl, rfl, HB, HS⟩ := hrel
      have HXw := Hid.mk (HX.out.keep HB.out)
      have g3 := HXw.out.c3
      have g4 := HXw.out.c4
      by_cases hlt : k < N
      · have hl1 : (k : Int) < (N : Int) := by omega
        by_cases hm : n ≤ most
        · obtain ⟨b, off, hio, hbl, hrow⟩ := (HI.out.keep HB.out).row (by rw [HNN.out]; omega)
          subst hio
          have hkt : k < ts.length := by rw [HNN.out]; exact hlt
          obtain ⟨v0, v1, v2, v3, v4, ⟨c0, c1, c2, c3, c4⟩, ht⟩ := hrow k hkt
          have HC := Hid.mk (HIh.out _ _ wr (most - n) ht (by omega) (by omega))
          unfold PtK at HC
          have HU := Hid.mk (sum_take_up (szN h) hkt)
          clear ht hrow hbl
          go_wp2_with fail
          refine HC.out.mono ?_
          rintro e w2 ⟨p, rfl, hp0, hp1, hp2, hb2⟩
          have HB2 := Hid.mk (below_more HB.out hb2)
          have HS2 : Hid ((n + p ≤ most → n + p = 1 + ((sumL ((ts.take (k + 1)).map (szN h)) : Nat) : Int)) ∧ (most < n + p → most < 1 + ((sumL ((ts.take (k + 1)).map (szN h)) : Nat) : Int))) := by
            have e2 := HS.out.1 hm
            have e3 := HU.out
            refine ⟨fun hle => ?_, fun hle => ?_⟩
            · have e1 := hp2.1 (by omega)
              omega
            · have e1 := hp2.2 (by omega)
              omega
          have hpb : n + p ≤ most + most * 140737488355329 + 1 := by omega
          clear hb2 c0 c1 c2 c3 c4 HC g3 g4 hp2 HU hkt
          go_wp2_with fail
          go_roundw
          case rel => exact ⟨n + p, k + 1, by omega, hpb, hlt, by go_num, by go_num, HB2, HS2⟩
          case measure => simp [intOf]; omega
        · have hm1 : ¬ n ≤ most := hm
          have HF0 : Hid ((n + (K : Int) ≤ most → n + (K : Int) = (SZ : Int)) ∧ (most < n + (K : Int) → most < (SZ : Int))) := by
            refine ⟨fun hh => by omega, fun hh => ?_⟩
            have e1 := HS.out.2 (by omega)
            have e2 := sum_take_le (szN h) ts k
            have e3 := HSZ.out
            omega
          go_wp2_with fail
          go_ret
          exact ⟨n + (K : Int), by go_num, by omega, by omega, HF0.out, HXw.out.below⟩
      · have hl1 : ¬ (k : Int) < (N : Int) := by omega
        have HF : Hid ((n + (K : Int) ≤ most → n + (K : Int) = (SZ : Int)) ∧ (most < n + (K : Int) → most < (SZ : Int))) := by
          have e2 := HNN.out
          have hkN : k = ts.length := by omega
          have e3 := HSZ.out
          by_cases hm : n ≤ most
          · have e1 := HS.out.1 hm
            rw [hkN, List.take_length] at e1
            refine ⟨fun hh => ?_, fun hh => ?_⟩ <;> omega
          · have e1 := HS.out.2 (by omega)
            rw [hkN, List.take_length] at e1
            refine ⟨fun hh => ?_, fun hh => ?_⟩ <;> omega
        go_wp2_with fail
        go_ret
        exact ⟨n + (K : Int), by go_num, by omega, by omega, HF.out, HXw.out.below⟩

set_option maxRecDepth 100000 in
set_option maxHeartbeats 1600000 in
theorem w_Fit (h : Nat) (io : Option Addr) (N icap : Nat) (ts : List VT) (w : World) (hts : ts.length = N) (hI : IIn w h io ts) (hN : N ≤ icap) (hN2 : N ≤ 140737488355328) :
    Calls Tryz.prog 14 #[.slice io N icap] w fun e w' => e = .returned (.bool (decide (sumL (ts.map (szN h)) ≤ 20000))) ∧ Below w.heap.size w w' := by
  have HNN := Hid.mk hts
  have HI := Hid.mk hI
  obtain ⟨SM, hSM⟩ : ∃ SM, sumL (ts.map (szN h)) = SM := ⟨_, rfl⟩
  have HSM := Hid.mk hSM
  rw [hSM]
  clear hts hI hSM
  go_enter Tryz.func14, Tryz.ntmps14
  go_wp2_with fail
  go_loopw [3, 4] (fun nn i wr => ∃ (n : Int) (k : Nat), 0 ≤ n ∧ n ≤ 20000 ∧ k ≤ N ∧ nn = .int .i64 n ∧ i = .int .i64 (k : Int) ∧ Hid (Below w.heap.size w wr) ∧ Hid (n = ((sumL ((ts.take k).map (szN h)) : Nat) : Int))) (fun _ i _ => N - (intOf i).toNat)
  case atStart => exact ⟨0, 0, by omega, by omega, Nat.zero_le _, rfl, rfl, Below.refl _ _, by show _ = _; simp [sumL]⟩
  case round =>
    obtain ⟨n, k, hn0, hn1, hk, rfl, rfl, HB, HS⟩ := hrel
    by_cases hlt : k < N
    · have hl1 : (k : Int) < (N : Int) := by omega
      obtain ⟨b, off, hio, hbl, hrow⟩ := (HI.out.keep HB.out).row (by rw [HNN.out]; omega)
      subst hio
      have hkt : k < ts.length := by rw [HNN.out]; exact hlt
      obtain ⟨v0, v1, v2, v3, v4, ⟨c0, c1, c2, c3, c4⟩, ht⟩ := hrow k hkt
      have HC := Hid.mk (w_PartsK _ _ _ wr (20000 - n) ht (by omega) (by omega))
      unfold PtK at HC
      have HU := Hid.mk (sum_take_up (szN h) hkt)
      have hle := sum_take_le (szN h) ts (k + 1)
      have HLe := Hid.mk hle
      clear ht hrow hbl hle
      go_wp2_with fail
      refine HC.out.mono ?_
      rintro e w2 ⟨p, rfl, hp0, hp1, hp2, hb2⟩
      have HB2 := Hid.mk (HB.out.trans (hb2.mono HB.out.size))
      have HP2 := Hid.mk hp2
      clear hb2 c0 c1 c2 c3 c4 HC hp2
      by_cases hgt : n + p ≤ 20000
      · have hg1 : ¬ 20000 < n + p := by omega
        have HS2 : Hid (n + p = ((sumL ((ts.take (k + 1)).map (szN h)) : Nat) : Int)) := by
          have e1 := HP2.out.1 (by omega)
          have e2 := HS.out
          have e3 := HU.out
          show _ = _
          omega
        go_wp2_with fail
        go_roundw
        case rel => exact ⟨n + p, k + 1, by omega, by omega, hlt, by go_num, by go_num, HB2, HS2⟩
        case measure => simp [intOf]; omega
      · have hg1 : 20000 < n + p := by omega
        have HF : Hid (decide (SM ≤ 20000) = false) := by
          have e1 := HP2.out.2 (by omega)
          have e2 := HS.out
          have e3 := HU.out
          have e4 := HLe.out
          have e5 := HSM.out
          show _ = _
          rw [decide_eq_false_iff_not]
          omega
        go_wp2_with fail
        go_ret
        exact ⟨by rw [HF.out]; rfl, HB2.out⟩
    · have hl1 : ¬ (k : Int) < (N : Int) := by omega
      have HF : Hid (decide (SM ≤ 20000) = true) := by
        have e2 := HNN.out
        have hkN : k = ts.length := by omega
        have e3 := HS.out
        rw [hkN, List.take_length, HSM.out] at e3
        show _ = _
        rw [decide_eq_true_iff]
        omega
      go_wp2_with fail
      go_ret
      exact ⟨by rw [HF.out]; rfl, HB.out⟩

theorem iin_one {W : World} {h b : Nat} {T : VT} {v0 v1 v2 v3 v4 : Value} (hb : W.heap[b]? = some (.cells #[v0, v1, v2, v3, v4] 25 (0, 0))) (hI : InH W h T (.agg #[v0, v1, v2, v3, v4])) : IIn W h (some ⟨b, 0, none⟩) [T] := by
  refine ⟨fun _ => ⟨b, 0, rfl, heap_lt hb, fun i hi => ?_⟩⟩
  obtain rfl : i = 0 := by simpa using hi
  exact ⟨v0, v1, v2, v3, v4, ⟨by rw [Lib.cell_of_heap hb]; rfl, by rw [Lib.cell_of_heap hb]; rfl, by rw [Lib.cell_of_heap hb]; rfl, by rw [Lib.cell_of_heap hb]; rfl, by rw [Lib.cell_of_heap hb]; rfl⟩, hI⟩

set_option maxRecDepth 100000 in
set_option maxHeartbeats 800000 in
theorem w_small6 (h : Nat) (T : VT) (w : World) (kd : Int) (nm tx : ByteArray) (io : Option Addr) (N icap : Nat) (ko : Option Addr) (K kcap : Nat) (hI : InH w h T (.agg #[.int .i64 kd, .string nm, .string tx, .slice io N icap, .slice ko K kcap])) :
    Calls Tryz.prog 7 #[.agg #[.int .i64 kd, .string nm, .string tx, .slice io N icap, .slice ko K kcap]] w fun e w' => e = .returned (.bool (decide (szN h T ≤ 20000))) ∧ Below w.heap.size w w' := by
  have HX := Hid.mk (vbx_new w (.int .i64 kd) (.string nm) (.string tx) (.slice io N icap) (.slice ko K kcap))
  obtain ⟨W2, hW2⟩ : ∃ W2, W2 = (w.alloc (.cells #[.int .i64 kd, .string nm, .string tx, .slice io N icap, .slice ko K kcap] 25)).alloc (.cells #[.int .i64 kd, .string nm, .string tx, .slice io N icap, .slice ko K kcap] 25) := ⟨_, rfl⟩
  have hb2 : Below w.heap.size w W2 := by rw [hW2]; exact ((Below.refl _ _).alloc (Nat.le_refl _) _).alloc (by simp) _
  have hx2 : W2.heap[w.heap.size + 1]? = some (.cells #[.int .i64 kd, .string nm, .string tx, .slice io N icap, .slice ko K kcap] 25 (0, 0)) := by
    rw [hW2]
    have e := heap_alloc_new (w.alloc (.cells #[.int .i64 kd, .string nm, .string tx, .slice io N icap, .slice ko K kcap] 25)) (.cells #[.int .i64 kd, .string nm, .string tx, .slice io N icap, .slice ko K kcap] 25)
    rw [World.size_alloc] at e
    exact e
  have HF := w_Fit h (some ⟨w.heap.size + 1, 0, none⟩) 1 1 [T] W2 rfl (iin_one hx2 (hI.keep hb2)) (Nat.le_refl _) (by decide)
  have hs : sumL ([T].map (szN h)) = szN h T := by simp [sumL]
  rw [hs] at HF
  have HFH := Hid.mk HF
  have HW2 := Hid.mk hW2
  have HB2 := Hid.mk hb2
  clear hW2 hb2 hx2 HF hs hI
  go_enter Tryz.func7, Tryz.ntmps7
  go_wp2_with fail
  rw [← HW2.out]
  refine HFH.out.mono ?_
  rintro e w1 ⟨rfl, hb⟩
  have HB := Hid.mk (HB2.out.trans (hb.mono HB2.out.size))
  clear hb
  go_wp2_with fail
  go_ret
  exact ⟨rfl, HB.out⟩
end Go.Proofs.YtcpnodkcnblkdaaGreatDoor
namespace Go.Proofs.YtcpnodkcnblkdaaGreatDoor
open Go.RowKit
set_option linter.unusedVariables false
set_option linter.unusedSimpArgs false

def lw3 : VT := .mk 3 ⟨#[45, 55]⟩ ⟨#[]⟩ [] []
def lw0 : VT := .mk 0 ⟨#[]⟩ ⟨#[]⟩ [] []
def lw5 : VT := .mk 5 ⟨#[]⟩ ⟨#[]⟩ [lw3, lw0] []
def lw6 : VT := .mk 6 ⟨#[]⟩ ⟨#[]⟩ [lw5] [⟨#[97]⟩]
theorem emW : (⟨#[]⟩ : ByteArray).toList.isEmpty = true := by rw [Lib.toList_data]; rfl
theorem emW2 : ByteArray.empty.toList.isEmpty = true := by rw [Lib.toList_data]; rfl
theorem lw_form : formN 3 lw6 = true := by
  have f3 : formN 1 lw3 = true := by
    show (Pl.formed [45, 55] && bareB .empty ⟨#[]⟩ 0 0) = true
    unfold bareB; rw [emW, emW2]; decide
  have f0 : formN 1 lw0 = true := by
    show bareB ⟨#[]⟩ ⟨#[]⟩ 0 0 = true
    unfold bareB; rw [emW]; decide
  have f5 : formN 2 lw5 = true := by
    show ([lw3, lw0].all (formN 1) && bareB ⟨#[]⟩ ⟨#[]⟩ 0 0) = true
    simp only [List.all_cons, List.all_nil, f3, f0, Bool.and_self, Bool.true_and]
    unfold bareB; rw [emW]; decide
  show (decide (1 = 1) && (rK [⟨#[97]⟩] 1 && oK [⟨#[97]⟩] 1) && [lw5].all (formN 2) && bareB ⟨#[]⟩ ⟨#[]⟩ 0 0) = true
  simp only [List.all_cons, List.all_nil, f5, Bool.and_self, Bool.true_and, Bool.and_true]
  unfold bareB; rw [emW]; decide
theorem lw_text : wrV none 3 0 lw6 = [123, 34, 97, 34, 58, 91, 45, 55, 44, 110, 117, 108, 108, 93, 125] := by decide +kernel
theorem lw_sz : szN 3 lw6 ≤ 20000 := by decide
theorem lw_sh : ShV 3 lw6 := by
  refine ⟨by decide, by decide, ?_, ?_⟩
  · intro k hk
    obtain rfl : k = ⟨#[97]⟩ := by simpa [lw6, VT.keys] using hk
    decide
  · intro t ht
    obtain rfl : t = lw5 := by simpa [lw6, VT.items] using ht
    refine ⟨by decide, by decide, by simp [lw5, VT.keys], ?_⟩
    intro t ht
    rcases (show t = lw3 ∨ t = lw0 by simpa [lw5, VT.items] using ht) with rfl | rfl
    · exact ⟨by decide, by decide, by simp [lw3, VT.keys], by simp [lw3, VT.items]⟩
    · exact ⟨by decide, by decide, by simp [lw0, VT.keys], by simp [lw0, VT.items]⟩
def lwW (w : World) : World := ((w.alloc (.cells #[.string ⟨#[97]⟩] 9)).alloc (.cells #[.int .i64 3, .string ⟨#[45, 55]⟩, .string ⟨#[]⟩, .slice none 0 0, .slice none 0 0, .int .i64 0, .string ⟨#[]⟩, .string ⟨#[]⟩, .slice none 0 0, .slice none 0 0] 25)).alloc (.cells #[.int .i64 5, .string ⟨#[]⟩, .string ⟨#[]⟩, .slice (some ⟨w.heap.size + 1, 0, none⟩) 2 2, .slice none 0 0] 25)
theorem lwW_below (w : World) : Below w.heap.size w (lwW w) := (((Below.refl _ _).alloc (Nat.le_refl _) _).alloc (by simp) _).alloc (by simp; omega) _
theorem lwW_0 (w : World) : (lwW w).heap[w.heap.size]? = some (.cells #[.string ⟨#[97]⟩] 9 (0, 0)) := by
  unfold lwW
  rw [Lib.alloc_old _ _ _ (by simp; omega), Lib.alloc_old _ _ _ (by simp)]
  exact heap_alloc_new w _
theorem lwW_1 (w : World) : (lwW w).heap[w.heap.size + 1]? = some (.cells #[.int .i64 3, .string ⟨#[45, 55]⟩, .string ⟨#[]⟩, .slice none 0 0, .slice none 0 0, .int .i64 0, .string ⟨#[]⟩, .string ⟨#[]⟩, .slice none 0 0, .slice none 0 0] 25 (0, 0)) := by
  unfold lwW
  rw [Lib.alloc_old _ _ _ (by simp)]
  have e := heap_alloc_new (w.alloc (.cells #[.string ⟨#[97]⟩] 9)) (.cells #[.int .i64 3, .string ⟨#[45, 55]⟩, .string ⟨#[]⟩, .slice none 0 0, .slice none 0 0, .int .i64 0, .string ⟨#[]⟩, .string ⟨#[]⟩, .slice none 0 0, .slice none 0 0] 25)
  rw [World.size_alloc] at e
  exact e
theorem lwW_2 (w : World) : (lwW w).heap[w.heap.size + 1 + 1]? = some (.cells #[.int .i64 5, .string ⟨#[]⟩, .string ⟨#[]⟩, .slice (some ⟨w.heap.size + 1, 0, none⟩) 2 2, .slice none 0 0] 25 (0, 0)) := by
  unfold lwW
  have e := heap_alloc_new ((w.alloc (.cells #[.string ⟨#[97]⟩] 9)).alloc (.cells #[.int .i64 3, .string ⟨#[45, 55]⟩, .string ⟨#[]⟩, .slice none 0 0, .slice none 0 0, .int .i64 0, .string ⟨#[]⟩, .string ⟨#[]⟩, .slice none 0 0, .slice none 0 0] 25)) (.cells #[.int .i64 5, .string ⟨#[]⟩, .string ⟨#[]⟩, .slice (some ⟨w.heap.size + 1, 0, none⟩) 2 2, .slice none 0 0] 25)
  rw [World.size_alloc, World.size_alloc] at e
  exact e
theorem nilI (W : World) (h : Nat) (k : Int) (n t : ByteArray) (hn : n.size ≤ 10) (ht : t.size ≤ 10) : InH W (h + 1) (.mk k n t [] []) (.agg #[.int .i64 k, .string n, .string t, .slice none 0 0, .slice none 0 0]) :=
  ⟨none, 0, none, 0, rfl, by show n.size ≤ _; omega, by show t.size ≤ _; omega, Nat.zero_le _, Nat.zero_le _, Nat.le_refl _, Nat.le_refl _, by simp [VT.keys], ⟨fun h => by simp [VT.keys] at h⟩, fun h => by simp [VT.items] at h⟩
theorem lw_in (w : World) : InH (lwW w) 3 lw6 (.agg #[.int .i64 6, .string ⟨#[]⟩, .string ⟨#[]⟩, .slice (some ⟨w.heap.size + 1 + 1, 0, none⟩) 1 1, .slice (some ⟨w.heap.size, 0, none⟩) 1 1]) := by
  have h5 : InH (lwW w) 2 lw5 (.agg #[.int .i64 5, .string ⟨#[]⟩, .string ⟨#[]⟩, .slice (some ⟨w.heap.size + 1, 0, none⟩) 2 2, .slice none 0 0]) := by
    refine ⟨some ⟨w.heap.size + 1, 0, none⟩, 2, none, 0, rfl, by decide, by decide, by decide, by decide, by decide, by decide, by simp [lw5, VT.keys], ⟨fun h => by simp [lw5, VT.keys] at h⟩, fun _ => ⟨w.heap.size + 1, 0, rfl, heap_lt (lwW_1 w), fun i hi => ?_⟩⟩
    have hi2 : i < 2 := hi
    match i, hi2 with
    | 0, _ => exact ⟨_, _, _, _, _, ⟨by rw [Lib.cell_of_heap (lwW_1 w)]; rfl, by rw [Lib.cell_of_heap (lwW_1 w)]; rfl, by rw [Lib.cell_of_heap (lwW_1 w)]; rfl, by rw [Lib.cell_of_heap (lwW_1 w)]; rfl, by rw [Lib.cell_of_heap (lwW_1 w)]; rfl⟩, nilI _ 0 3 ⟨#[45, 55]⟩ ⟨#[]⟩ (by decide) (by decide)⟩
    | 1, _ => exact ⟨_, _, _, _, _, ⟨by rw [Lib.cell_of_heap (lwW_1 w)]; rfl, by rw [Lib.cell_of_heap (lwW_1 w)]; rfl, by rw [Lib.cell_of_heap (lwW_1 w)]; rfl, by rw [Lib.cell_of_heap (lwW_1 w)]; rfl, by rw [Lib.cell_of_heap (lwW_1 w)]; rfl⟩, nilI _ 0 0 ⟨#[]⟩ ⟨#[]⟩ (by decide) (by decide)⟩
  refine ⟨some ⟨w.heap.size + 1 + 1, 0, none⟩, 1, some ⟨w.heap.size, 0, none⟩, 1, rfl, by decide, by decide, by decide, by decide, by decide, by decide, ?_, ⟨fun _ => ⟨w.heap.size, 0, rfl, heap_lt (lwW_0 w), fun i hi => ?_⟩⟩, fun _ => ⟨w.heap.size + 1 + 1, 0, rfl, heap_lt (lwW_2 w), fun i hi => ?_⟩⟩
  · intro k hk
    obtain rfl : k = ⟨#[97]⟩ := by simpa [lw6, VT.keys] using hk
    decide
  · have hi2 : i < 1 := hi
    obtain rfl : i = 0 := by omega
    rw [Lib.cell_of_heap (lwW_0 w)]; rfl
  · have hi2 : i < 1 := hi
    obtain rfl : i = 0 := by omega
    exact ⟨_, _, _, _, _, ⟨by rw [Lib.cell_of_heap (lwW_2 w)]; rfl, by rw [Lib.cell_of_heap (lwW_2 w)]; rfl, by rw [Lib.cell_of_heap (lwW_2 w)]; rfl, by rw [Lib.cell_of_heap (lwW_2 w)]; rfl, by rw [Lib.cell_of_heap (lwW_2 w)]; rfl⟩, h5⟩

set_option maxRecDepth 100000 in
set_option maxHeartbeats 1600000 in
theorem w_lives6 (w : World) (hwd : WordsAt w) : Calls Tryz.prog 6 #[] w fun e w' => e = .returned (.bool true) ∧ Below w.heap.size w w' := by
  have HT := w_Text 3 lw6 (lwW w) _ _ _ _ _ _ _ _ _ (lw_in w) lw_sh lw_sz (hwd.keep (lwW_below w))
  rw [lw_form] at HT
  simp only [if_true] at HT
  rw [lw_text] at HT
  have HTH := Hid.mk HT
  have HW : Hid (lwW w = ((w.alloc (.cells #[.string ⟨#[97]⟩] 9)).alloc (.cells #[.int .i64 3, .string ⟨#[45, 55]⟩, .string ⟨#[]⟩, .slice none 0 0, .slice none 0 0, .int .i64 0, .string ⟨#[]⟩, .string ⟨#[]⟩, .slice none 0 0, .slice none 0 0] 25)).alloc (.cells #[.int .i64 5, .string ⟨#[]⟩, .string ⟨#[]⟩, .slice (some ⟨w.heap.size + 1, 0, none⟩) 2 2, .slice none 0 0] 25)) := rfl
  have HB := Hid.mk (lwW_below w)
  clear HT hwd
  go_enter Tryz.func6, Tryz.ntmps6
  go_wp2_with fail
  rw [← HW.out]
  refine HTH.out.mono ?_
  rintro e w1 ⟨rfl, hb⟩
  have HB1 := Hid.mk (HB.out.trans (hb.mono HB.out.size))
  clear hb
  go_wp2_with fail
  go_ret
  exact ⟨rfl, HB1.out⟩
end Go.Proofs.YtcpnodkcnblkdaaGreatDoor
