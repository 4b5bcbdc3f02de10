import Derived.Test.YtkoednenjnnjoaaDoorZW22
import Derived.Laws.EntriesVeiled
namespace Go.Proofs.YtkoednenjnnjoaaDoor
open Go.RowKit
set_option linter.unusedVariables false
set_option linter.unusedSimpArgs false

/-- while the lines are written -/
structure LsSt (w0 W : World) (S : Nat) (wr : World) (l : List UInt8) : Prop where
  st : Sheet S S wr l
  wr_ : WrAt wr (S + 1) 23 S none 0
  below : Below w0.heap.size w0 wr
  bS : Below S w0 wr

set_option maxRecDepth 100000 in
set_option maxHeartbeats 3200000 in
theorem w_Lines (h : Nat) (io : Option Addr) (N icap : Nat) (ts : List VT) (w : World) (hts : ts.length = N) (hI : IIn w h io ts) (hN : N ≤ icap) (hN2 : N ≤ 140737488355328) (hsh : ∀ t ∈ ts, ShV h t) (hsz : sumL (ts.map (szN h)) ≤ 20000) (hwd : WordsAt w) :
    Calls Tryd.prog 16 #[.slice io N icap] w fun e w' => e = .returned (.tuple #[.string ⟨(if ts.all (formN h) = true then lnsW h ts N else []).toArray⟩, .int .i64 (if ts.all (formN h) = true then 0 else 1)]) ∧ Below w.heap.size w w' := by
  have hmf : ∀ (fn : Fn) (first cap : Array Value) (w : World), (Instr.makeFunc fn first cap).run Tryd.prog w = .ok (.func fn first cap) w := fun _ _ _ _ => rfl
  obtain ⟨A, hA⟩ : ∃ A : ByteArray, A = ⟨(if ts.all (formN h) = true then lnsW h ts N else []).toArray⟩ := ⟨_, rfl⟩
  obtain ⟨er, her⟩ : ∃ er : Int, er = (if ts.all (formN h) = true then 0 else 1) := ⟨_, rfl⟩
  have HNoA : Hid (ts.all (formN h) = false → A = ⟨#[]⟩ ∧ er = 1) := fun hf => by rw [hA, her, hf]; exact ⟨rfl, rfl⟩
  have HYes : Hid (ts.all (formN h) = true → A = ⟨(lnsW h ts N).toArray⟩ ∧ er = 0) := fun hf => by rw [hA, her, hf]; exact ⟨rfl, rfl⟩
  rw [← hA, ← her]
  clear hA her
  obtain ⟨W2, hW2⟩ : ∃ W2, W2 = (w.alloc (.cells #[.pointer none, .slice none 0 0, .int .i64 0] 50)).alloc (.cells #[.func (.func 23) #[.pointer (some ⟨w.heap.size, 0, none⟩)] #[], .bool false, .int .i64 0, .int .i64 0] 53) := ⟨_, rfl⟩
  have hb2 : Below w.heap.size w W2 := by rw [hW2]; exact ((Below.refl _ _).alloc (Nat.le_refl _) _).alloc (by simp) _
  have hWr : WrAt W2 (w.heap.size + 1) 23 w.heap.size none 0 := by
    rw [hW2]
    have e := heap_alloc_new (w.alloc (.cells #[.pointer none, .slice none 0 0, .int .i64 0] 50)) (.cells #[.func (.func 23) #[.pointer (some ⟨w.heap.size, 0, none⟩)] #[], .bool false, .int .i64 0, .int .i64 0] 53)
    rw [World.size_alloc] at e
    exact e
  have hSh : Sheet w.heap.size w.heap.size W2 [] := by
    have e := sheet_new w
    rw [hW2]
    exact (keep_ok w.heap.size w.heap.size).below e ((Below.refl _ _).alloc (Nat.le_refl _) _)
  have HS0 : Hid (LsSt w W2 w.heap.size W2 []) := ⟨hSh, hWr, hb2, hb2⟩
  have HW2 := Hid.mk hW2
  have HI := Hid.mk hI
  have HNN := Hid.mk hts
  have hll : ts.all (formN h) = true → (lnsW h ts N).length ≤ 33554432 * sumL (ts.map (szN h)) := fun hf => by have := lnsW_len h ts (all_at hf) hsh hsz; rwa [hts] at this
  have HLL := Hid.mk hll
  have hent := (keep_ok w.heap.size w.heap.size).ent
  clear hW2 hSh hWr hb2 hI hts hll
  go_enter Tryd.func16, Tryd.ntmps16
  go_wp2_with fail
  rw [← HW2.out]
  go_loopw [12] (fun iv wr => ∃ (k : Nat), k ≤ N ∧ iv = .int .i64 (k : Int) ∧ Hid (∀ t ∈ ts.take k, formN h t = true) ∧ Hid (LsSt w W2 w.heap.size wr (lnsW h ts k))) (fun iv _ => N - (intOf iv).toNat)
  case atStart => exact ⟨0, Nat.zero_le _, rfl, fun t ht => by simp at ht, HS0⟩
  case round =>
    obtain ⟨k, hk, rfl, HF, HS⟩ := hrel
    by_cases hlt : k < N
    · have hl1 : (k : Int) < (N : Int) := by omega
      have hkt : k < ts.length := by rw [HNN.out]; exact hlt
      obtain ⟨b, off, hio, hbl, hrow⟩ := (HI.out.keep HS.out.below).row (by omega)
      subst hio
      obtain ⟨v0, v1, v2, v3, v4, ⟨c0, c1, c2, c3, c4⟩, ht⟩ := hrow k hkt
      obtain ⟨ik, inm, itx, iio, iN, iicap, iko, iK, ikcap, rfl, rfl, rfl, rfl, rfl⟩ := ht.shape
      obtain ⟨W3, hW3⟩ : ∃ W3, W3 = wr.alloc (.cells #[.int .i64 ik, .string inm, .string itx, .slice iio iN iicap, .slice iko iK ikcap] 25) := ⟨_, rfl⟩
      have HX := Hid.mk (vbx_new wr (.int .i64 ik) (.string inm) (.string itx) (.slice iio iN iicap) (.slice iko iK ikcap))
      rw [← hW3] at HX
      have HW3 := Hid.mk hW3
      have hm := List.getElem_mem hkt
      have h1 : szN h ts[k] ≤ sumL (ts.map (szN h)) := sumL_mem (List.mem_map.2 ⟨_, hm, rfl⟩)
      have HFo := Hid.mk (w_vFormed h ts[k] _ W3 (ht.keep HX.out.below))
      have b0 := HX.out.c0
      have b1 := HX.out.c1
      have b2 := HX.out.c2
      have b3 := HX.out.c3
      have b4 := HX.out.c4
      have HTk := Hid.mk (List.take_succ_eq_append_getElem hkt)
      cases hf : formN h ts[k] with
      | false =>
        rw [hf] at HFo
        have HNo : Hid (A = ⟨#[]⟩ ∧ er = 1) := by
          refine HNoA.out ?_
          rw [List.all_eq_false]
          exact ⟨_, hm, by rw [hf]; simp⟩
        have HBL := Hid.mk HS.out.below
        clear hW3 ht hrow hbl hm h1 hf HTk hkt
        go_wp2_with fail
        rw [← HW3.out]
        refine HFo.out.mono ?_
        rintro e w1 ⟨rfl, hb⟩
        have HB := Hid.mk (HBL.out.trans ((HX.out.keep hb).below.mono HBL.out.size))
        clear hb b0 b1 b2 b3 b4 c0 c1 c2 c3 c4
        go_wp2_with fail
        go_ret2
        exact ⟨by rw [HNo.out.1, HNo.out.2]; rfl, HB.out⟩
      | true =>
        rw [hf] at HFo
        have HF2 : Hid (∀ t ∈ ts.take (k + 1), formN h t = true) := by
          intro t ht2
          rw [HTk.out] at ht2
          rcases List.mem_append.1 ht2 with h2 | h2
          · exact HF.out t h2
          · obtain rfl := List.mem_singleton.1 h2
            exact hf
        have hwl := wrV_len none (fun s e => by cases e) h 0 ts[k] hf (hsh _ hm) (by omega)
        have hjk : lnsW h ts (k + 1) = lnsW h ts k ++ (wrV none h 0 ts[k] ++ [10]) := by unfold lnsW; rw [joinR, lnsG_at hkt]
        have hkl : (lnsW h ts k).length ≤ 33554432 * 20000 := by
          have e1 := lnsW_len h (ts.take k) HF.out (fun t ht2 => hsh t (List.mem_of_mem_take ht2)) (Nat.le_trans (sum_take_le (szN h) ts k) hsz)
          have e2 := sum_take_le (szN h) ts k
          have e3 : lnsW h (ts.take k) (ts.take k).length = lnsW h ts k := by
            rw [List.length_take, Nat.min_eq_left (by omega)]
            unfold lnsW
            refine joinR_congr (fun i hi => ?_)
            unfold lnsG
            rw [List.getElem?_take_of_lt hi]
          rw [e3] at e1
          have e4 : 33554432 * sumL ((ts.take k).map (szN h)) ≤ 33554432 * 20000 := Nat.mul_le_mul_left _ (Nat.le_trans e2 hsz)
          omega
        have hzz : szN h ts[k] ≤ 20000 := by omega
        have hwl2 : (wrV none h 0 ts[k]).length ≤ 33554432 * 20000 := by
          have : 33554432 * szN h ts[k] ≤ 33554432 * 20000 := Nat.mul_le_mul_left _ hzz
          omega
        have HVal : Hid (∀ u, Below wr.heap.size wr u → Calls Tryd.prog 24 #[.pointer (some ⟨w.heap.size + 1, 0, none⟩), .agg #[.int .i64 ik, .string inm, .string itx, .slice iio iN iicap, .slice iko iK ikcap]] u fun e w' => e = .returned (.tuple #[]) ∧ Hid (LsSt w W2 w.heap.size w' (lnsW h ts k ++ wrV none h 0 ts[k]))) := fun u hu => by
          have hIw : IIn w h (some ⟨b, off, none⟩) ts := HI.out
          obtain ⟨b', off', e', hbl', hrow'⟩ := hIw.row (by omega)
          cases e'
          obtain ⟨x0, x1, x2, x3, x4, ⟨y0, y1, y2, y3, y4⟩, ht'⟩ := hrow' k hkt
          have z0 := (HS.out.below.cell (p := ⟨_, _, _⟩) hbl').trans y0
          have z1 := (HS.out.below.cell (p := ⟨_, _, _⟩) hbl').trans y1
          have z2 := (HS.out.below.cell (p := ⟨_, _, _⟩) hbl').trans y2
          have z3 := (HS.out.below.cell (p := ⟨_, _, _⟩) hbl').trans y3
          have z4 := (HS.out.below.cell (p := ⟨_, _, _⟩) hbl').trans y4
          obtain rfl := Option.some.inj (z0.symm.trans c0)
          obtain rfl := Option.some.inj (z1.symm.trans c1)
          obtain rfl := Option.some.inj (z2.symm.trans c2)
          obtain rfl := Option.some.inj (z3.symm.trans c3)
          obtain rfl := Option.some.inj (z4.symm.trans c4)
          have hsu : w.heap.size < u.heap.size := Nat.lt_of_lt_of_le (Nat.lt_trans (Nat.lt_succ_self _) (heap_lt HS.out.wr_)) hu.size
          refine (w_value (keep_ok w.heap.size w.heap.size) (w.heap.size + 1) none w (Nat.le_refl _) (by omega) (by omega) (fun s e => by cases e) hwd h ts[k] _ u 0 (lnsW h ts k) ht' hf (hsh _ hm) (HS.out.below.trans (hu.mono HS.out.below.size)) (HS.out.wr_.below hu) ((keep_ok w.heap.size w.heap.size).below HS.out.st hu) (by omega) hsu (by omega) (by omega)).mono ?_
          rintro e w' ⟨he, h2, h3, h4⟩
          exact ⟨he, h2, (HS.out.wr_.below hu).others h4 (by omega), (HS.out.below.trans (hu.mono HS.out.below.size)).trans h3, (HS.out.bS.trans (hu.mono HS.out.below.size)).trans h3⟩
        have HPut : Hid (∀ u, LsSt w W2 w.heap.size u (lnsW h ts k ++ wrV none h 0 ts[k]) → Calls Tryd.prog 23 #[.pointer (some ⟨w.heap.size, 0, none⟩), .string ⟨#[10]⟩] u fun e w' => e = .returned (.tuple #[]) ∧ Hid (LsSt w W2 w.heap.size w' (lnsW h ts (k + 1)))) := fun u hu => by
          refine (w_keep w.heap.size w.heap.size _ ⟨#[10]⟩ u hu.st (by rw [List.length_append]; show _ + 1 ≤ _; omega) hu.below.size).mono ?_
          rintro e w' ⟨he, h2, h3, h4⟩
          rw [hjk, ← List.append_assoc]
          exact ⟨he, h2, hu.wr_.others h4 (by omega), hu.below.trans h3, hu.bS.trans h3⟩
        clear hW3 ht hrow hbl hm h1 hf HTk hwl hjk hkl hzz hwl2
        go_wp2_with fail
        rw [← HW3.out]
        refine HFo.out.mono ?_
        rintro e w1 ⟨rfl, hb⟩
        have HX1 := Hid.mk (HX.out.keep hb)
        clear hb b0 b1 b2 b3 b4 c0 c1 c2 c3 c4
        have b0 := HX1.out.c0
        have b1 := HX1.out.c1
        have b2 := HX1.out.c2
        have b3 := HX1.out.c3
        have b4 := HX1.out.c4
        go_wp2_with fail
        refine (HVal.out _ HX1.out.below).mono ?_
        rintro e w3 ⟨rfl, HS3⟩
        have cW := HS3.out.wr_.c0
        clear b0 b1 b2 b3 b4
        go_wp2_with fail
        refine (HPut.out _ HS3.out).mono ?_
        rintro e w4 ⟨rfl, HS4⟩
        clear cW
        go_wp2_with fail
        go_roundw
        case rel => exact ⟨k + 1, hlt, by go_num, HF2, HS4⟩
        case measure => simp [intOf]; omega
    · have hl1 : ¬ (k : Int) < (N : Int) := by omega
      obtain rfl : k = N := by omega
      have HAll : Hid (A = ⟨(lnsW h ts k).toArray⟩ ∧ er = 0) := by
        refine HYes.out ?_
        rw [List.all_eq_true]
        intro t ht
        have e := HF.out t
        rw [← HNN.out, List.take_length] at e
        exact e ht
      have HSt := Hid.mk (w_String w.heap.size w.heap.size _ wr HS.out.st)
      go_wp2_with fail
      refine HSt.out.mono ?_
      rintro e w4 ⟨rfl, hb4⟩
      have HB4 := Hid.mk (HS.out.below.trans hb4)
      clear hb4
      go_wp2_with fail
      go_ret2
      exact ⟨by rw [HAll.out.1, HAll.out.2]; rfl, HB4.out⟩
end Go.Proofs.YtkoednenjnnjoaaDoor
