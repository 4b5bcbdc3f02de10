import Derived.Test.YtcadknhedfnaoaaGreatDoorM35
import Derived.Test.YtcadknhedfnaoaaGreatDoorM52
namespace Go.Proofs.YtcadknhedfnaoaaGreatDoor
open Go.RowKit Go.Shelf Go.Sort
set_option linter.unusedVariables false
set_option linter.unusedSimpArgs false
attribute [local go_sem] Oper.semAt_some

/-- parts counted one by one, as long as there are not too many -/
def paL {α : Type} (f : α → Int → Int) (most : Int) : List α → Int → Int
  | [], n => n
  | T :: r, n => if n ≤ most then paL f most r (n + f T (most - n)) else n
def paV : Nat → VT → Int → Int
  | 0, _, _ => 0
  | h + 1, T, most => paL (paV h) most T.items 1 + (T.keys.length : Int)
def paN : Nat → NT → Int → Int
  | 0, _, _ => 0
  | h + 1, A, most => paL (paN h) most A.kids (1 + (A.names.length : Int) + paV (h + 1) A.value most)
theorem paL_up {α : Type} {f : α → Int → Int} {most n : Int} {l : List α} {k : Nat} (hk : k < l.length) (hm : n ≤ most) : paL f most (l.drop k) n = paL f most (l.drop (k + 1)) (n + f l[k] (most - n)) := by
  rw [List.drop_eq_getElem_cons hk, paL, if_pos hm]
theorem paL_stop {α : Type} {f : α → Int → Int} {most n : Int} {l : List α} {k : Nat} (hk : k < l.length) (hm : ¬ n ≤ most) : paL f most (l.drop k) n = n := by
  rw [List.drop_eq_getElem_cons hk, paL, if_neg hm]

set_option maxRecDepth 100000 in
set_option maxHeartbeats 3200000 in
theorem w_PartsV : ∀ (h : Nat) (T : VT) (v : Value) (w : World) (most : Int), InH w h T v → 0 ≤ most → most ≤ 20000 → Calls Tryz.prog 23 #[v, .int .i64 most] w fun e w' => e = .returned (.int .i64 (paV h T most)) ∧ (0 ≤ paV h T most ∧ paV h T most ≤ most + (most + 1) * 140737488355329) ∧ Below w.heap.size w w' := by
  intro h
  induction h with
  | zero => intro T v w most hI; exact hI.elim
  | succ h ih =>
    intro T v w most hI h0 h1
    obtain ⟨io, icap, ko, kcap, rfl, a1, a2, a3, a4, a5, a6, a7, hk, hi⟩ := hI.open
    have HX := Hid.mk (vbx_new w (.int .i64 T.kind) (.string T.num) (.string T.text) (.slice io T.items.length icap) (.slice ko T.keys.length kcap))
    have HI := Hid.mk (hi.keep HX.out.below)
    have HIh := Hid.mk ih
    obtain ⟨R, hR⟩ : ∃ R, paV (h + 1) T most = R := ⟨_, rfl⟩
    have HSZ : Hid (R = paL (paV h) most T.items 1 + (T.keys.length : Int)) := hR.symm
    rw [hR]
    clear hR
    generalize T.kind = kd at *
    generalize T.num = nm at *
    generalize T.text = tx at *
    obtain ⟨ts, hts⟩ : ∃ ts, T.items = ts := ⟨_, rfl⟩
    rw [hts] at HI HX a3 a5 HSZ ⊢
    obtain ⟨N, hN⟩ : ∃ N, ts.length = N := ⟨_, rfl⟩
    have HNN := Hid.mk hN
    rw [hN] at HX HI a3 a5 ⊢
    obtain ⟨K, hK⟩ : ∃ K, T.keys.length = K := ⟨_, rfl⟩
    rw [hK] at HX HI a4 a6 HSZ ⊢
    clear hi hk hI ih a7 hts hN hK
    obtain ⟨W0, hW0⟩ : ∃ W0, W0 = w.alloc (.cells #[.int .i64 kd, .string nm, .string tx, .slice io N icap, .slice ko K kcap] 25) := ⟨_, rfl⟩
    go_enter Tryz.func23, Tryz.ntmps23
    go_wp2_with fail
    rw [← hW0] at HX HI ⊢
    clear hW0
    go_loopw [5, 6] (fun nn i wr => ∃ (n : Int) (k : Nat), 1 ≤ n ∧ n ≤ most + most * 140737488355329 + 1 ∧ k ≤ N ∧ nn = .int .i64 n ∧ i = .int .i64 (k : Int) ∧ Hid (Below W0.heap.size W0 wr) ∧ Hid (paL (paV h) most ts 1 = paL (paV h) most (ts.drop k) n)) (fun _ i _ => N - (intOf i).toNat)
    case atStart => exact ⟨1, 0, by omega, by omega, Nat.zero_le _, rfl, rfl, Below.refl _ _, rfl⟩
    case round =>
      obtain ⟨n, k, hn0, hn1, hk, rfl, rfl, HB, HS⟩ := hrel
      have HXw := Hid.mk (HX.out.keep HB.out)
      have g3 := HXw.out.c3
      have g4 := HXw.out.c4
      by_cases hlt : k < N
      · have hl1 : (k : Int) < (N : Int) := by omega
        by_cases hm : n ≤ most
        · obtain ⟨b, off, hio, hbl, hrow⟩ := (HI.out.keep HB.out).row (by rw [HNN.out]; omega)
          subst hio
          have hkt : k < ts.length := by rw [HNN.out]; exact hlt
          obtain ⟨v0, v1, v2, v3, v4, ⟨c0, c1, c2, c3, c4⟩, ht⟩ := hrow k hkt
          have HC := Hid.mk (HIh.out _ _ wr (most - n) ht (by omega) (by omega))
          have HS2 : Hid (paL (paV h) most ts 1 = paL (paV h) most (ts.drop (k + 1)) (n + paV h ts[k] (most - n))) := HS.out.trans (paL_up hkt hm)
          generalize paV h ts[k] (most - n) = p at *
          clear ht hrow hbl
          go_wp2_with fail
          refine HC.out.mono ?_
          rintro e w2 ⟨rfl, ⟨hp0, hp1⟩, hb2⟩
          have HB2 := Hid.mk (below_more HB.out hb2)
          have hpb : n + p ≤ most + most * 140737488355329 + 1 := by omega
          clear hb2 c0 c1 c2 c3 c4 HC g3 g4 hkt
          go_wp2_with fail
          go_roundw
          case rel => exact ⟨n + p, k + 1, by omega, hpb, hlt, by go_num, by go_num, HB2, HS2⟩
          case measure => simp [intOf]; omega
        · have hm1 : ¬ n ≤ most := hm
          have HF : Hid (R = n + (K : Int)) := HSZ.out.trans (by rw [HS.out, paL_stop (by rw [HNN.out]; exact hlt) hm])
          go_wp2_with fail
          go_ret
          exact ⟨by rw [HF.out]; go_num, by rw [HF.out]; omega, HXw.out.below⟩
      · have hl1 : ¬ (k : Int) < (N : Int) := by omega
        have HF : Hid (R = n + (K : Int)) := HSZ.out.trans (by rw [HS.out, List.drop_of_length_le (by rw [HNN.out]; omega)]; rfl)
        go_wp2_with fail
        go_ret
        exact ⟨by rw [HF.out]; go_num, by rw [HF.out]; omega, HXw.out.below⟩
end Go.Proofs.YtcadknhedfnaoaaGreatDoor
namespace Go.Proofs.YtcadknhedfnaoaaGreatDoor
open Go.RowKit Go.Shelf Go.Sort
set_option linter.unusedVariables false
set_option linter.unusedSimpArgs false
attribute [local go_sem] Oper.semAt_some

def PaOk (h : Nat) : Prop := ∀ (A : NT) (va : Value) (w : World) (most : Int), InA w h A va → 0 ≤ most → most ≤ 20000 → Calls Tryz.prog 11 #[va, .int .i64 most] w fun e w' => e = .returned (.int .i64 (paN h A most)) ∧ (0 ≤ paN h A most ∧ paN h A most ≤ (most + 1) * 281474976710660) ∧ Below w.heap.size w w'

set_option maxRecDepth 100000 in
set_option maxHeartbeats 3200000 in
theorem pa_step (h : Nat) (ih : PaOk h) : PaOk (h + 1) := by
  intro A va w most hA h0 h1
  obtain ⟨io, ic, yo, yc, no, nc, ko, kc, e, htx, hval, hnm, hkl, hnr, hkr⟩ := hA
  subst e
  obtain ⟨W1, hW1⟩ : ∃ W1, w.alloc (.cells #[.int .i64 A.op, .int .i64 A.at_, .string A.text, .int .i64 A.value.kind, .string A.value.num, .string A.value.text, .slice io A.value.items.length ic, .slice yo A.value.keys.length yc, .slice no A.names.length nc, .slice ko A.kids.length kc] 28) = W1 := ⟨_, rfl⟩
  have HX1 := Hid.mk (B1.new hW1)
  have hVb : 0 ≤ paV (h + 1) A.value most ∧ paV (h + 1) A.value most ≤ most + (most + 1) * 140737488355329 := by
    obtain ⟨e, w', fr, ⟨_, hb, _⟩, _⟩ := w_PartsV (h + 1) A.value _ w most hval.toH h0 h1 []
    exact hb
  have HG : Hid (∀ d os, Calls Tryz.prog 23 #[.agg #[.int .i64 A.value.kind, .string A.value.num, .string A.value.text, .slice io A.value.items.length ic, .slice yo A.value.keys.length yc], .int .i64 most] (grow (redrawn W1 d) os) fun e w' => e = .returned (.int .i64 (paV (h + 1) A.value most)) ∧ Below (grow (redrawn W1 d) os).heap.size (grow (redrawn W1 d) os) w') := fun d os => (w_PartsV (h + 1) A.value _ _ most ((hval.keep (D' := fun _ => True) (HX1.out.below.trans ((below_regrown W1 d os).mono HX1.out.below.size)).size (fun b _ hl => (HX1.out.below.trans ((below_regrown W1 d os).mono HX1.out.below.size)).block b hl) (fun _ _ _ => trivial)).toH) h0 h1).mono (by rintro e w' ⟨rfl, _, hb⟩; exact ⟨rfl, hb⟩)
  have HIh := Hid.mk ih
  obtain ⟨R, hR⟩ : ∃ R, paN (h + 1) A most = R := ⟨_, rfl⟩
  have HSZ : Hid (R = paL (paN h) most A.kids (1 + (A.names.length : Int) + paV (h + 1) A.value most)) := hR.symm
  rw [hR]
  have hnb := hnm.2.1
  have hcap := hkl.1
  have hbig := hkl.2
  have HKR := Hid.mk hkr
  clear hR hval hnm hkl hnr hkr ih htx
  generalize paV (h + 1) A.value most = pv at *
  obtain ⟨ts, hts⟩ : ∃ ts, A.kids = ts := ⟨_, rfl⟩
  have HTS := Hid.mk hts
  rw [hts] at HX1 HSZ hW1 hcap hbig ⊢
  clear hts
  obtain ⟨N, hN⟩ : ∃ N, ts.length = N := ⟨_, rfl⟩
  have HNN := Hid.mk hN
  rw [hN] at HX1 hW1 hcap hbig ⊢
  clear hN
  generalize A.names.length = Nn at *
  generalize A.op = aop at *
  generalize A.at_ = aat at *
  generalize A.text = atx at *
  generalize A.value.kind = avk at *
  generalize A.value.num = avn at *
  generalize A.value.text = avx at *
  generalize A.value.items.length = avi at *
  generalize A.value.keys.length = avy at *
  obtain ⟨x0, x1, x2, x3, x4, x5, x6, x7, x8, x9⟩ := nd_cells HX1.out.a
  have hw1 : IntKind.i64.wrap (1 + (Nn : Int)) = 1 + (Nn : Int) := by rw [IntKind.wrap_i64]; omega
  have hw2 : IntKind.i64.wrap (1 + (Nn : Int) + pv) = 1 + (Nn : Int) + pv := by rw [IntKind.wrap_i64]; omega
  go_enter Tryz.func11, Tryz.ntmps11
  go_wp2_with fail
  have R3 := fun d os => cell_regrown x3 d os
  have R4 := fun d os => cell_regrown x4 d os
  have R5 := fun d os => cell_regrown x5 d os
  have R6 := fun d os => cell_regrown x6 d os
  have R7 := fun d os => cell_regrown x7 d os
  have R8 := fun d os => cell_regrown x8 d os
  refine wp_region_quiet_below (by kernel_rfl) (by kernel_rfl) ?_
  iterate 8 (go_big_quiet_step (exact Calls.regrown_of (HG.out _ _)))
  repeat (go_big_quiet_step (fail))
  refine wpQuiet_nil ?_
  intro w2 hw'
  have HX2 := Hid.mk (by obtain ⟨⟨dq, osq⟩, rfl⟩ := hw'; exact HX1.out.keep (below_regrown W1 dq osq) : B1 w _ _ w2)
  clear hw' R3 R4 R5 R6 R7 R8 HG hW1 x0 x1 x2 x3 x4 x5 x6 x7 x8 x9
  go_wp2_with fail
  go_loopw [5, 6] (fun nn i wr => ∃ (n : Int) (k : Nat), 1 ≤ n ∧ n ≤ (most + 1) * 281474976710660 ∧ k ≤ N ∧ nn = .int .i64 n ∧ i = .int .i64 (k : Int) ∧ Hid (B1 w #[.int .i64 aop, .int .i64 aat, .string atx, .int .i64 avk, .string avn, .string avx, .slice io avi ic, .slice yo avy yc, .slice no Nn nc, .slice ko N kc] 28 wr) ∧ Hid (paL (paN h) most ts (1 + (Nn : Int) + pv) = paL (paN h) most (ts.drop k) n)) (fun _ i _ => N - (intOf i).toNat)
  case atStart => exact ⟨1 + (Nn : Int) + pv, 0, by omega, by omega, Nat.zero_le _, by first | rfl | go_num, rfl, HX2, rfl⟩
  case round =>
    obtain ⟨n, k, hn0, hn1, hk, rfl, rfl, HX3, HS⟩ := hrel
    obtain ⟨x0, x1, x2, x3, x4, x5, x6, x7, x8, x9⟩ := nd_cells HX3.out.a
    by_cases hlt : k < N
    · have hl1 : (k : Int) < (N : Int) := by omega
      by_cases hm : n ≤ most
      · have hkt : k < ts.length := by rw [HNN.out]; exact hlt
        obtain ⟨b, off, hio, c, hc, hin⟩ : ∃ b off, ko = some ⟨b, off, none⟩ ∧ ∃ c : Fin 10 → Value, (∀ j : Fin 10, w.cell? ⟨b, off + k * 10 + j.1, none⟩ = some (c j)) ∧ InA w h ts[k] (ndV c) := by
          have hkr := HKR.out
          rw [HTS.out] at hkr
          obtain ⟨b, off, e, _, _, hr⟩ := hkr (by omega)
          obtain ⟨c, hc, hin⟩ := hr k hkt
          exact ⟨b, off, e, c, hc, hin⟩
        subst hio
        have cc : ∀ j : Fin 10, wr.cell? ⟨b, off + k * 10 + j.1, none⟩ = some (c j) := fun j => (HX3.out.below.cell (p := ⟨b, off + k * 10 + j.1, none⟩) (block_lt_of_cell (hc j))).trans (hc j)
        obtain ⟨y0, y1, y2, y3, y4, y5, y6, y7, y8, y9⟩ : wr.cell? ⟨b, off + k * 10, none⟩ = some (c 0) ∧ wr.cell? ⟨b, off + k * 10 + 1, none⟩ = some (c 1) ∧ wr.cell? ⟨b, off + k * 10 + 2, none⟩ = some (c 2) ∧ wr.cell? ⟨b, off + k * 10 + 3, none⟩ = some (c 3) ∧ wr.cell? ⟨b, off + k * 10 + 4, none⟩ = some (c 4) ∧ wr.cell? ⟨b, off + k * 10 + 5, none⟩ = some (c 5) ∧ wr.cell? ⟨b, off + k * 10 + 6, none⟩ = some (c 6) ∧ wr.cell? ⟨b, off + k * 10 + 7, none⟩ = some (c 7) ∧ wr.cell? ⟨b, off + k * 10 + 8, none⟩ = some (c 8) ∧ wr.cell? ⟨b, off + k * 10 + 9, none⟩ = some (c 9) := ⟨cc 0, cc 1, cc 2, cc 3, cc 4, cc 5, cc 6, cc 7, cc 8, cc 9⟩
        have HC : Hid (Calls Tryz.prog 11 #[.agg #[c 0, c 1, c 2, c 3, c 4, c 5, c 6, c 7, c 8, c 9], .int .i64 (most - n)] wr fun e w' => e = .returned (.int .i64 (paN h ts[k] (most - n))) ∧ (0 ≤ paN h ts[k] (most - n) ∧ paN h ts[k] (most - n) ≤ (most - n + 1) * 281474976710660) ∧ Below wr.heap.size wr w') := HIh.out ts[k] _ wr (most - n) (InN.low hin HX3.out.below) (by omega) (by omega)
        have HS2 : Hid (paL (paN h) most ts (1 + (Nn : Int) + pv) = paL (paN h) most (ts.drop (k + 1)) (n + paN h ts[k] (most - n))) := HS.out.trans (paL_up hkt hm)
        generalize paN h ts[k] (most - n) = p at *
        clear hc hin cc hkt
        go_wp2_with fail
        refine HC.out.mono ?_
        rintro e w4 ⟨rfl, ⟨hp0, hp1⟩, hb4⟩
        have HX4 := Hid.mk (HX3.out.keep hb4)
        have hpb : n + p ≤ (most + 1) * 281474976710660 := by omega
        clear hb4 HC y0 y1 y2 y3 y4 y5 y6 y7 y8 y9 x0 x1 x2 x3 x4 x5 x6 x7 x8 x9
        go_wp2_with fail
        go_roundw
        case rel => exact ⟨n + p, k + 1, by omega, hpb, hlt, by go_num, by go_num, HX4, HS2⟩
        case measure => simp [intOf]; omega
      · have hm1 : ¬ n ≤ most := hm
        have HF : Hid (R = n) := HSZ.out.trans (by rw [HS.out, paL_stop (by rw [HNN.out]; exact hlt) hm])
        go_wp2_with fail
        go_ret
        exact ⟨by rw [HF.out]; rfl, by rw [HF.out]; omega, HX3.out.below⟩
    · have hl1 : ¬ (k : Int) < (N : Int) := by omega
      have HF : Hid (R = n) := HSZ.out.trans (by rw [HS.out, List.drop_of_length_le (by rw [HNN.out]; omega)]; rfl)
      go_wp2_with fail
      go_ret
      exact ⟨by rw [HF.out]; rfl, by rw [HF.out]; omega, HX3.out.below⟩
theorem w_nodeParts : ∀ h, PaOk h
  | 0 => fun _ _ _ _ hA => hA.elim
  | h + 1 => pa_step h (w_nodeParts h)

set_option maxRecDepth 100000 in
set_option maxHeartbeats 1600000 in
theorem w_FitNode (h : Nat) (A : NT) (va : Value) (w : World) (hA : InA w h A va) : Calls Tryz.prog 5 #[va] w fun e w' => e = .returned (.bool (decide (paN h A 20000 ≤ 20000))) ∧ Below w.heap.size w w' := by
  obtain ⟨aop, aat, avk, atx, avn, avx, aio, ayo, ano, ako, avi, aic, avy, ayc, ann, anc, akn, akc, rfl⟩ := inA_shape hA
  obtain ⟨W1, hW1⟩ : ∃ W1, w.alloc (.cells #[.int .i64 aop, .int .i64 aat, .string atx, .int .i64 avk, .string avn, .string avx, .slice aio avi aic, .slice ayo avy ayc, .slice ano ann anc, .slice ako akn akc] 28) = W1 := ⟨_, rfl⟩
  have HX1 := Hid.mk (B1.new hW1)
  have HP := Hid.mk (w_nodeParts h A _ W1 20000 (hA.low HX1.out.below) (by omega) (by omega))
  generalize paN h A 20000 = p at *
  clear hA
  obtain ⟨x0, x1, x2, x3, x4, x5, x6, x7, x8, x9⟩ := nd_cells HX1.out.a
  go_enter Tryz.func5, Tryz.ntmps5
  go_wp2_with fail
  refine HP.out.mono ?_
  rintro e w2 ⟨rfl, hb, hb2⟩
  have HX2 := Hid.mk (HX1.out.keep hb2)
  clear hb hb2 x0 x1 x2 x3 x4 x5 x6 x7 x8 x9
  go_wp2_with fail
  go_ret
  exact ⟨rfl, HX2.out.below⟩
end Go.Proofs.YtcadknhedfnaoaaGreatDoor
namespace Go.Proofs.YtcadknhedfnaoaaGreatDoor
open Go.RowKit Go.Shelf Go.Sort
set_option linter.unusedVariables false
set_option linter.unusedSimpArgs false
attribute [local go_sem] Oper.semAt_some

def kdL (op : Int) : Int := if op = 1 ∨ op = 2 ∨ op = 6 ∨ op = 35 then 0 else if op = 3 then 3 else if op = 4 then 0 else if op = 5 ∨ op = 33 then 0 else if op = 8 ∨ op = 28 ∨ op = 30 then 3 else if op = 9 ∨ op = 11 ∨ op = 34 then 1 else if op = 10 then 1 else if op = 31 then 3 else if op = 7 ∨ op = 29 ∨ op = 32 ∨ op = 12 ∨ op = 13 ∨ op = 25 ∨ op = 26 ∨ op = 27 then 2 else 2
def kdM (op : Int) : Int := if op = 1 ∨ op = 2 ∨ op = 6 ∨ op = 35 then (0) else if op = 3 then (-1) else if op = 4 then (1) else if op = 5 ∨ op = 33 then (-1) else if op = 8 ∨ op = 28 ∨ op = 30 then (3) else if op = 9 ∨ op = 11 ∨ op = 34 then (1) else if op = 10 then (2) else if op = 31 then (4) else if op = 7 ∨ op = 29 ∨ op = 32 ∨ op = 12 ∨ op = 13 ∨ op = 25 ∨ op = 26 ∨ op = 27 then (2) else 2
def kdO (op : Int) : Bool := if op = 1 ∨ op = 2 ∨ op = 6 ∨ op = 35 then true else if op = 3 then true else if op = 4 then true else if op = 5 ∨ op = 33 then true else if op = 8 ∨ op = 28 ∨ op = 30 then true else if op = 9 ∨ op = 11 ∨ op = 34 then true else if op = 10 then true else if op = 31 then true else if op = 7 ∨ op = 29 ∨ op = 32 ∨ op = 12 ∨ op = 13 ∨ op = 25 ∨ op = 26 ∨ op = 27 then true else ((decide (14 ≤ op) && decide (op ≤ 24)) || (decide (36 ≤ op) && decide (op ≤ 43)))

set_option maxRecDepth 100000 in
set_option maxHeartbeats 6400000 in
theorem w_kidsR (op : Int) (w : World) : Calls Tryz.prog 24 #[.int .i64 op] w fun e w' => e = .returned (.tuple #[.int .i64 (kdL op), .int .i64 (kdM op), .bool (kdO op)]) ∧ w' = w := by
  by_cases h1 : op = 1
  · subst h1
    go_enter Tryz.func24, Tryz.ntmps24
    go_wp2_with fail
    refine bodyPost_ret (v := .tuple #[.int .i64 (0), .int .i64 (0), .bool true]) (by simp [results, Tryz.results24, go_sem]) rfl ⟨rfl, rfl⟩
  have b1 : (op == 1) = false := by rw [beq_eq_false_iff_ne]; exact h1
  by_cases h2 : op = 2
  · subst h2
    go_enter Tryz.func24, Tryz.ntmps24
    go_wp2_with fail
    refine bodyPost_ret (v := .tuple #[.int .i64 (0), .int .i64 (0), .bool true]) (by simp [results, Tryz.results24, go_sem]) rfl ⟨rfl, rfl⟩
  have b2 : (op == 2) = false := by rw [beq_eq_false_iff_ne]; exact h2
  by_cases h6 : op = 6
  · subst h6
    go_enter Tryz.func24, Tryz.ntmps24
    go_wp2_with fail
    refine bodyPost_ret (v := .tuple #[.int .i64 (0), .int .i64 (0), .bool true]) (by simp [results, Tryz.results24, go_sem]) rfl ⟨rfl, rfl⟩
  have b6 : (op == 6) = false := by rw [beq_eq_false_iff_ne]; exact h6
  by_cases h35 : op = 35
  · subst h35
    go_enter Tryz.func24, Tryz.ntmps24
    go_wp2_with fail
    refine bodyPost_ret (v := .tuple #[.int .i64 (0), .int .i64 (0), .bool true]) (by simp [results, Tryz.results24, go_sem]) rfl ⟨rfl, rfl⟩
  have b35 : (op == 35) = false := by rw [beq_eq_false_iff_ne]; exact h35
  by_cases h3 : op = 3
  · subst h3
    go_enter Tryz.func24, Tryz.ntmps24
    go_wp2_with fail
    refine bodyPost_ret (v := .tuple #[.int .i64 (3), .int .i64 (-1), .bool true]) (by simp [results, Tryz.results24, go_sem]) rfl ⟨rfl, rfl⟩
  have b3 : (op == 3) = false := by rw [beq_eq_false_iff_ne]; exact h3
  by_cases h4 : op = 4
  · subst h4
    go_enter Tryz.func24, Tryz.ntmps24
    go_wp2_with fail
    refine bodyPost_ret (v := .tuple #[.int .i64 (0), .int .i64 (1), .bool true]) (by simp [results, Tryz.results24, go_sem]) rfl ⟨rfl, rfl⟩
  have b4 : (op == 4) = false := by rw [beq_eq_false_iff_ne]; exact h4
  by_cases h5 : op = 5
  · subst h5
    go_enter Tryz.func24, Tryz.ntmps24
    go_wp2_with fail
    refine bodyPost_ret (v := .tuple #[.int .i64 (0), .int .i64 (-1), .bool true]) (by simp [results, Tryz.results24, go_sem]) rfl ⟨rfl, rfl⟩
  have b5 : (op == 5) = false := by rw [beq_eq_false_iff_ne]; exact h5
  by_cases h33 : op = 33
  · subst h33
    go_enter Tryz.func24, Tryz.ntmps24
    go_wp2_with fail
    refine bodyPost_ret (v := .tuple #[.int .i64 (0), .int .i64 (-1), .bool true]) (by simp [results, Tryz.results24, go_sem]) rfl ⟨rfl, rfl⟩
  have b33 : (op == 33) = false := by rw [beq_eq_false_iff_ne]; exact h33
  by_cases h8 : op = 8
  · subst h8
    go_enter Tryz.func24, Tryz.ntmps24
    go_wp2_with fail
    refine bodyPost_ret (v := .tuple #[.int .i64 (3), .int .i64 (3), .bool true]) (by simp [results, Tryz.results24, go_sem]) rfl ⟨rfl, rfl⟩
  have b8 : (op == 8) = false := by rw [beq_eq_false_iff_ne]; exact h8
  by_cases h28 : op = 28
  · subst h28
    go_enter Tryz.func24, Tryz.ntmps24
    go_wp2_with fail
    refine bodyPost_ret (v := .tuple #[.int .i64 (3), .int .i64 (3), .bool true]) (by simp [results, Tryz.results24, go_sem]) rfl ⟨rfl, rfl⟩
  have b28 : (op == 28) = false := by rw [beq_eq_false_iff_ne]; exact h28
  by_cases h30 : op = 30
  · subst h30
    go_enter Tryz.func24, Tryz.ntmps24
    go_wp2_with fail
    refine bodyPost_ret (v := .tuple #[.int .i64 (3), .int .i64 (3), .bool true]) (by simp [results, Tryz.results24, go_sem]) rfl ⟨rfl, rfl⟩
  have b30 : (op == 30) = false := by rw [beq_eq_false_iff_ne]; exact h30
  by_cases h9 : op = 9
  · subst h9
    go_enter Tryz.func24, Tryz.ntmps24
    go_wp2_with fail
    refine bodyPost_ret (v := .tuple #[.int .i64 (1), .int .i64 (1), .bool true]) (by simp [results, Tryz.results24, go_sem]) rfl ⟨rfl, rfl⟩
  have b9 : (op == 9) = false := by rw [beq_eq_false_iff_ne]; exact h9
  by_cases h11 : op = 11
  · subst h11
    go_enter Tryz.func24, Tryz.ntmps24
    go_wp2_with fail
    refine bodyPost_ret (v := .tuple #[.int .i64 (1), .int .i64 (1), .bool true]) (by simp [results, Tryz.results24, go_sem]) rfl ⟨rfl, rfl⟩
  have b11 : (op == 11) = false := by rw [beq_eq_false_iff_ne]; exact h11
  by_cases h34 : op = 34
  · subst h34
    go_enter Tryz.func24, Tryz.ntmps24
    go_wp2_with fail
    refine bodyPost_ret (v := .tuple #[.int .i64 (1), .int .i64 (1), .bool true]) (by simp [results, Tryz.results24, go_sem]) rfl ⟨rfl, rfl⟩
  have b34 : (op == 34) = false := by rw [beq_eq_false_iff_ne]; exact h34
  by_cases h10 : op = 10
  · subst h10
    go_enter Tryz.func24, Tryz.ntmps24
    go_wp2_with fail
    refine bodyPost_ret (v := .tuple #[.int .i64 (1), .int .i64 (2), .bool true]) (by simp [results, Tryz.results24, go_sem]) rfl ⟨rfl, rfl⟩
  have b10 : (op == 10) = false := by rw [beq_eq_false_iff_ne]; exact h10
  by_cases h31 : op = 31
  · subst h31
    go_enter Tryz.func24, Tryz.ntmps24
    go_wp2_with fail
    refine bodyPost_ret (v := .tuple #[.int .i64 (3), .int .i64 (4), .bool true]) (by simp [results, Tryz.results24, go_sem]) rfl ⟨rfl, rfl⟩
  have b31 : (op == 31) = false := by rw [beq_eq_false_iff_ne]; exact h31
  by_cases h7 : op = 7
  · subst h7
    go_enter Tryz.func24, Tryz.ntmps24
    go_wp2_with fail
    refine bodyPost_ret (v := .tuple #[.int .i64 (2), .int .i64 (2), .bool true]) (by simp [results, Tryz.results24, go_sem]) rfl ⟨rfl, rfl⟩
  have b7 : (op == 7) = false := by rw [beq_eq_false_iff_ne]; exact h7
  by_cases h29 : op = 29
  · subst h29
    go_enter Tryz.func24, Tryz.ntmps24
    go_wp2_with fail
    refine bodyPost_ret (v := .tuple #[.int .i64 (2), .int .i64 (2), .bool true]) (by simp [results, Tryz.results24, go_sem]) rfl ⟨rfl, rfl⟩
  have b29 : (op == 29) = false := by rw [beq_eq_false_iff_ne]; exact h29
  by_cases h32 : op = 32
  · subst h32
    go_enter Tryz.func24, Tryz.ntmps24
    go_wp2_with fail
    refine bodyPost_ret (v := .tuple #[.int .i64 (2), .int .i64 (2), .bool true]) (by simp [results, Tryz.results24, go_sem]) rfl ⟨rfl, rfl⟩
  have b32 : (op == 32) = false := by rw [beq_eq_false_iff_ne]; exact h32
  by_cases h12 : op = 12
  · subst h12
    go_enter Tryz.func24, Tryz.ntmps24
    go_wp2_with fail
    refine bodyPost_ret (v := .tuple #[.int .i64 (2), .int .i64 (2), .bool true]) (by simp [results, Tryz.results24, go_sem]) rfl ⟨rfl, rfl⟩
  have b12 : (op == 12) = false := by rw [beq_eq_false_iff_ne]; exact h12
  by_cases h13 : op = 13
  · subst h13
    go_enter Tryz.func24, Tryz.ntmps24
    go_wp2_with fail
    refine bodyPost_ret (v := .tuple #[.int .i64 (2), .int .i64 (2), .bool true]) (by simp [results, Tryz.results24, go_sem]) rfl ⟨rfl, rfl⟩
  have b13 : (op == 13) = false := by rw [beq_eq_false_iff_ne]; exact h13
  by_cases h25 : op = 25
  · subst h25
    go_enter Tryz.func24, Tryz.ntmps24
    go_wp2_with fail
    refine bodyPost_ret (v := .tuple #[.int .i64 (2), .int .i64 (2), .bool true]) (by simp [results, Tryz.results24, go_sem]) rfl ⟨rfl, rfl⟩
  have b25 : (op == 25) = false := by rw [beq_eq_false_iff_ne]; exact h25
  by_cases h26 : op = 26
  · subst h26
    go_enter Tryz.func24, Tryz.ntmps24
    go_wp2_with fail
    refine bodyPost_ret (v := .tuple #[.int .i64 (2), .int .i64 (2), .bool true]) (by simp [results, Tryz.results24, go_sem]) rfl ⟨rfl, rfl⟩
  have b26 : (op == 26) = false := by rw [beq_eq_false_iff_ne]; exact h26
  by_cases h27 : op = 27
  · subst h27
    go_enter Tryz.func24, Tryz.ntmps24
    go_wp2_with fail
    refine bodyPost_ret (v := .tuple #[.int .i64 (2), .int .i64 (2), .bool true]) (by simp [results, Tryz.results24, go_sem]) rfl ⟨rfl, rfl⟩
  have b27 : (op == 27) = false := by rw [beq_eq_false_iff_ne]; exact h27
  have HL : Hid (kdL op = 2) := by show _ = _; simp [kdL, h1, h2, h6, h35, h3, h4, h5, h33, h8, h28, h30, h9, h11, h34, h10, h31, h7, h29, h32, h12, h13, h25, h26, h27]
  have HM : Hid (kdM op = 2) := by show _ = _; simp [kdM, h1, h2, h6, h35, h3, h4, h5, h33, h8, h28, h30, h9, h11, h34, h10, h31, h7, h29, h32, h12, h13, h25, h26, h27]
  have HO : Hid (kdO op = ((decide (14 ≤ op) && decide (op ≤ 24)) || (decide (36 ≤ op) && decide (op ≤ 43)))) := by show _ = _; simp [kdO, h1, h2, h6, h35, h3, h4, h5, h33, h8, h28, h30, h9, h11, h34, h10, h31, h7, h29, h32, h12, h13, h25, h26, h27]
  clear h1 h2 h6 h35 h3 h4 h5 h33 h8 h28 h30 h9 h11 h34 h10 h31 h7 h29 h32 h12 h13 h25 h26 h27
  by_cases c1 : (14 : Int) ≤ op
  · have d1 : decide ((14 : Int) ≤ op) = true := by rw [decide_eq_true_iff]; omega
    have d1' : decide (op ≥ (14 : Int)) = true := d1
    by_cases c2 : op ≤ (24 : Int)
    · have d2 : decide (op ≤ (24 : Int)) = true := by rw [decide_eq_true_iff]; omega
      go_enter Tryz.func24, Tryz.ntmps24
      go_wp2_with fail
      refine bodyPost_ret (v := .tuple #[.int .i64 (2), .int .i64 (2), .bool true]) (by simp [results, Tryz.results24, go_sem]) rfl ⟨by rw [HL.out, HM.out, HO.out, d1, d2]; rfl, rfl⟩
    · have d2 : decide (op ≤ (24 : Int)) = false := by rw [decide_eq_false_iff_not]; omega
      by_cases c3 : (36 : Int) ≤ op
      · have d3 : decide ((36 : Int) ≤ op) = true := by rw [decide_eq_true_iff]; omega
        have d3' : decide (op ≥ (36 : Int)) = true := d3
        by_cases c4 : op ≤ (43 : Int)
        · have d4 : decide (op ≤ (43 : Int)) = true := by rw [decide_eq_true_iff]; omega
          go_enter Tryz.func24, Tryz.ntmps24
          go_wp2_with fail
          refine bodyPost_ret (v := .tuple #[.int .i64 (2), .int .i64 (2), .bool true]) (by simp [results, Tryz.results24, go_sem]) rfl ⟨by rw [HL.out, HM.out, HO.out, d1, d2, d3, d4]; rfl, rfl⟩
        · have d4 : decide (op ≤ (43 : Int)) = false := by rw [decide_eq_false_iff_not]; omega
          go_enter Tryz.func24, Tryz.ntmps24
          go_wp2_with fail
          refine bodyPost_ret (v := .tuple #[.int .i64 (2), .int .i64 (2), .bool false]) (by simp [results, Tryz.results24, go_sem]) rfl ⟨by rw [HL.out, HM.out, HO.out, d1, d2, d3, d4]; rfl, rfl⟩
      · have d3 : decide ((36 : Int) ≤ op) = false := by rw [decide_eq_false_iff_not]; omega
        have d3' : decide (op ≥ (36 : Int)) = false := d3
        go_enter Tryz.func24, Tryz.ntmps24
        go_wp2_with fail
        refine bodyPost_ret (v := .tuple #[.int .i64 (2), .int .i64 (2), .bool false]) (by simp [results, Tryz.results24, go_sem]) rfl ⟨by rw [HL.out, HM.out, HO.out, d1, d2, d3]; rfl, rfl⟩
  · have d1 : decide ((14 : Int) ≤ op) = false := by rw [decide_eq_false_iff_not]; omega
    have d1' : decide (op ≥ (14 : Int)) = false := d1
    have d3 : decide ((36 : Int) ≤ op) = false := by rw [decide_eq_false_iff_not]; omega
    have d3' : decide (op ≥ (36 : Int)) = false := d3
    go_enter Tryz.func24, Tryz.ntmps24
    go_wp2_with fail
    refine bodyPost_ret (v := .tuple #[.int .i64 (2), .int .i64 (2), .bool false]) (by simp [results, Tryz.results24, go_sem]) rfl ⟨by rw [HL.out, HM.out, HO.out, d1, d3]; rfl, rfl⟩

set_option maxRecDepth 100000 in
set_option maxHeartbeats 3200000 in
theorem w_namedR (op : Int) (w : World) : Calls Tryz.prog 26 #[.int .i64 op] w fun e w' => e = .returned (.bool (nmO op)) ∧ w' = w := by
  by_cases h6 : op = 6
  · subst h6
    go_enter Tryz.func26, Tryz.ntmps26
    go_wp2_with fail
    go_ret
    exact ⟨rfl, rfl⟩
  have b6 : (op == 6) = false := by rw [beq_eq_false_iff_ne]; exact h6
  by_cases h35 : op = 35
  · subst h35
    go_enter Tryz.func26, Tryz.ntmps26
    go_wp2_with fail
    go_ret
    exact ⟨rfl, rfl⟩
  have b35 : (op == 35) = false := by rw [beq_eq_false_iff_ne]; exact h35
  by_cases h29 : op = 29
  · subst h29
    go_enter Tryz.func26, Tryz.ntmps26
    go_wp2_with fail
    go_ret
    exact ⟨rfl, rfl⟩
  have b29 : (op == 29) = false := by rw [beq_eq_false_iff_ne]; exact h29
  by_cases h30 : op = 30
  · subst h30
    go_enter Tryz.func26, Tryz.ntmps26
    go_wp2_with fail
    go_ret
    exact ⟨rfl, rfl⟩
  have b30 : (op == 30) = false := by rw [beq_eq_false_iff_ne]; exact h30
  by_cases h31 : op = 31
  · subst h31
    go_enter Tryz.func26, Tryz.ntmps26
    go_wp2_with fail
    go_ret
    exact ⟨rfl, rfl⟩
  have b31 : (op == 31) = false := by rw [beq_eq_false_iff_ne]; exact h31
  by_cases h32 : op = 32
  · subst h32
    go_enter Tryz.func26, Tryz.ntmps26
    go_wp2_with fail
    go_ret
    exact ⟨rfl, rfl⟩
  have b32 : (op == 32) = false := by rw [beq_eq_false_iff_ne]; exact h32
  by_cases h33 : op = 33
  · subst h33
    go_enter Tryz.func26, Tryz.ntmps26
    go_wp2_with fail
    go_ret
    exact ⟨rfl, rfl⟩
  have b33 : (op == 33) = false := by rw [beq_eq_false_iff_ne]; exact h33
  by_cases h34 : op = 34
  · subst h34
    go_enter Tryz.func26, Tryz.ntmps26
    go_wp2_with fail
    go_ret
    exact ⟨rfl, rfl⟩
  have b34 : (op == 34) = false := by rw [beq_eq_false_iff_ne]; exact h34
  have HT : Hid (nmO op = false) := by show _ = _; unfold nmO; rw [b6, b35, b29, b30, b31, b32, b33, b34]; rfl
  clear h6 h35 h29 h30 h31 h32 h33 h34
  go_enter Tryz.func26, Tryz.ntmps26
  go_wp2_with fail
  go_ret
  exact ⟨by rw [HT.out]; rfl, rfl⟩

set_option maxRecDepth 100000 in
set_option maxHeartbeats 3200000 in
theorem w_noneR (h : Nat) (A : NT) (va : Value) (w : World) (hA : InA w (h + 1) A va) : Calls Tryz.prog 30 #[va] w fun e w' => e = .returned (.bool (sq (noA A) (noA nn0))) ∧ Below w.heap.size w w' := by
  obtain ⟨aop, aat, atx, aV, aN, aI⟩ := A
  obtain ⟨aio, aic, ayo, ayc, ano, anc, ako, akc, rfl, a1, a2, a3, a4, hn, hk⟩ := hA
  simp only [NT.op, NT.at_, NT.text, NT.value, NT.names, NT.kids] at *
  have hS : noA (NT.mk aop aat atx aV aN aI) = noA (NT.mk aop 0 atx aV aN aI) := by rw [noA, noA]
  rw [hS]
  obtain ⟨W1, hW1⟩ : ∃ W1, w.alloc (.cells #[.int .i64 aop, .int .i64 aat, .string atx, .int .i64 aV.kind, .string aV.num, .string aV.text, .slice aio aV.items.length aic, .slice ayo aV.keys.length ayc, .slice ano aN.length anc, .slice ako aI.length akc] 28) = W1 := ⟨_, rfl⟩
  have HX := Hid.mk (B1.new hW1)
  obtain ⟨W2, hW2⟩ : ∃ W2, W1.setCell ⟨w.heap.size, 1, none⟩ (.int .i64 0) = W2 := ⟨_, rfl⟩
  have P2 : Put w.heap.size (.cells #[.int .i64 aop, .int .i64 0, .string atx, .int .i64 aV.kind, .string aV.num, .string aV.text, .slice aio aV.items.length aic, .slice ayo aV.keys.length ayc, .slice ano aN.length anc, .slice ako aI.length akc] 28 (0, 0)) W1 W2 := by
    subst hW2
    have h1 := rsetN (i := 1) (.int .i64 0) HX.out.a
    simp only [List.setIfInBounds_toArray, List.set_cons_zero, List.set_cons_succ] at h1
    exact ⟨h1, fun b hb => Below.heap_setCell _ _ _ _ hb, by simp, rfl, rfl, rfl⟩
  have HB2 : Hid (Below w.heap.size w W2) := HX.out.below.trans (P2.below (Nat.le_refl _))
  have HC : Hid (Calls Tryz.prog 54 #[.agg #[.int .i64 aop, .int .i64 0, .string atx, .int .i64 aV.kind, .string aV.num, .string aV.text, .slice aio aV.items.length aic, .slice ayo aV.keys.length ayc, .slice ano aN.length anc, .slice ako aI.length akc], .agg #[.int .i64 0, .int .i64 0, .string ⟨#[]⟩, .int .i64 0, .string ⟨#[]⟩, .string ⟨#[]⟩, .slice none 0 0, .slice none 0 0, .slice none 0 0, .slice none 0 0]] W2 fun e w' => e = .returned (.bool (sq (noA (NT.mk aop 0 atx aV aN aI)) (noA nn0))) ∧ Below W2.heap.size W2 w') := by
    refine w_rSameN (h + 1) _ _ _ _ W2 (InN.low (w := w) ⟨aio, aic, ayo, ayc, ano, anc, ako, akc, rfl, a1, a2, a3, a4, hn, hk⟩ HB2.out) ?_
    exact ⟨none, 0, none, 0, none, 0, none, 0, rfl, by decide, InV.ofH (inH_0 W2 h), ⟨Nat.le_refl _, Nat.zero_le _, fun k hk => (by cases hk)⟩, ⟨Nat.le_refl _, Nat.zero_le _⟩, fun h => absurd h (by show ¬ 0 < 0; omega), fun h => absurd h (by show ¬ 0 < 0; omega)⟩
  generalize sq (noA (NT.mk aop 0 atx aV aN aI)) (noA nn0) = r at *
  obtain ⟨x0, x1, x2, x3, x4, x5, x6, x7, x8, x9⟩ := nd_cells P2.new
  obtain ⟨f0, f1, f2, f3, f4, f5, f6, f7, f8, f9⟩ := nd_frozen HX.out.a
  have y1 := HX.out.ca (j := 1) rfl
  clear a1 a2 a3 a4 hn hk P2 hS
  generalize aV.kind = avk at *
  generalize aV.num = avn at *
  generalize aV.text = avx at *
  generalize aV.items.length = avi at *
  generalize aV.keys.length = avy at *
  go_enter Tryz.func30, Tryz.ntmps30
  go_wp2_with fail
  refine HC.out.mono ?_
  rintro e w3 ⟨rfl, hb3⟩
  have HB3 : Hid (Below w.heap.size w w3) := HB2.out.trans (hb3.mono HB2.out.size)
  clear hb3
  go_wp2_with fail
  go_ret
  exact ⟨rfl, HB3.out⟩

/-- may a value stand in a Const, as the document has it? -/
def coB (h : Nat) (V : VT) : Bool := formN h V && decide (V.kind ≤ 4) && (decide (V.kind ≠ 3) || decide (V.num.data.toList.getD 0 0 ≠ 45))
theorem form_num {h : Nat} {V : VT} (hf : formN (h + 1) V = true) (hk : V.kind = 3) : Pl.formed V.num.data.toList = true := by
  rw [formN] at hf
  unfold formV at hf
  rw [hk, if_neg (by decide), if_pos rfl] at hf
  exact (Bool.and_eq_true_iff.1 hf).1
end Go.Proofs.YtcadknhedfnaoaaGreatDoor
namespace Go.Proofs.YtcadknhedfnaoaaGreatDoor
open Go.RowKit Go.Shelf Go.Sort
set_option linter.unusedVariables false
set_option linter.unusedSimpArgs false
attribute [local go_sem] Oper.semAt_some

theorem formed_pos {s : ByteArray} (h : Pl.formed s.data.toList = true) : 0 < s.size := by
  rcases Nat.eq_zero_or_pos s.size with h0 | h0
  · have : s.data.toList = [] := List.length_eq_zero_iff.1 (by rw [size_lst]; exact h0)
    rw [this] at h
    exact absurd h (by decide)
  · exact h0

set_option maxRecDepth 100000 in
set_option maxHeartbeats 3200000 in
theorem w_constR (h : Nat) (V : VT) (v : Value) (w : World) (hV : InH w (h + 1) V v) : Calls Tryz.prog 28 #[v] w fun e w' => e = .returned (.bool (coB (h + 1) V)) ∧ Below w.heap.size w w' := by
  obtain ⟨io, icap, ko, kcap, rfl, a1, a2, a3, a4, a5, a6, a7, hk, hi⟩ := hV.open
  obtain ⟨W1, hW1⟩ : ∃ W1, w.alloc (.cells #[.int .i64 V.kind, .string V.num, .string V.text, .slice io V.items.length icap, .slice ko V.keys.length kcap] 25) = W1 := ⟨_, rfl⟩
  have HX := Hid.mk (B1.new hW1)
  have HF : Hid (Calls Tryz.prog 53 #[.agg #[.int .i64 V.kind, .string V.num, .string V.text, .slice io V.items.length icap, .slice ko V.keys.length kcap]] W1 fun e w' => e = .returned (.bool (formN (h + 1) V)) ∧ Below W1.heap.size W1 w') := w_rFormed (h + 1) _ _ W1 (hV.keep HX.out.below)
  obtain ⟨R, HR⟩ : ∃ R, Hid (coB (h + 1) V = R) := ⟨_, rfl⟩
  rw [HR.out]
  obtain ⟨vk, vn, vx, vI, vK⟩ := V
  simp only [VT.kind, VT.num, VT.text, VT.items, VT.keys] at *
  have HR2 : Hid (R = (formN (h + 1) (VT.mk vk vn vx vI vK) && decide (vk ≤ 4) && (decide (vk ≠ 3) || decide (vn.data.toList.getD 0 0 ≠ 45)))) := HR.out.symm
  have HP : Hid (formN (h + 1) (VT.mk vk vn vx vI vK) = true → vk = 3 → 0 < vn.size) := fun h1 h2 => formed_pos (form_num (V := VT.mk vk vn vx vI vK) h1 h2)
  have HG : Hid (∀ hp : 0 < vn.size, vn.data.toList.getD 0 0 = vn[0]) := fun hp => getD_byte hp
  clear hV hk hi a1 a2 a3 a4 a5 a6 a7 HR
  generalize vI.length = li at *
  generalize vK.length = lk at *
  generalize formN (h + 1) (VT.mk vk vn vx vI vK) = ff at *
  have x0 := HX.out.ca (j := 0) rfl
  have x1 := HX.out.ca (j := 1) rfl
  have x2 := HX.out.ca (j := 2) rfl
  have x3 := HX.out.ca (j := 3) rfl
  have x4 := HX.out.ca (j := 4) rfl
  go_enter Tryz.func28, Tryz.ntmps28
  go_wp2_with fail
  refine HF.out.mono ?_
  rintro e w2 ⟨rfl, hb2⟩
  have HX2 := Hid.mk (HX.out.keep hb2)
  have y0 := HX2.out.ca (j := 0) rfl
  have y1 := HX2.out.ca (j := 1) rfl
  clear hb2 hW1 x0 x1 x2 x3 x4
  cases ff with
  | false =>
    have HT : Hid (R = false) := HR2.out.trans rfl
    go_wp2_with fail
    go_ret
    exact ⟨by rw [HT.out]; rfl, HX2.out.below⟩
  | true =>
    by_cases k4 : vk ≤ 4
    · have d4 : decide (vk ≤ 4) = true := by rw [decide_eq_true_iff]; exact k4
      by_cases k3 : vk = 3
      · subst k3
        have hp := HP.out rfl rfl
        have hi : (0 : Int) < (vn.size : Int) := by omega
        have HG2 := Hid.mk (HG.out hp)
        by_cases hq : vn[0] = 45
        · have q1 : (vn[0] == 45) = true := by rw [hq]; rfl
          have q2 : (vn[0] != 45) = false := by rw [hq]; rfl
          have HT : Hid (R = false) := by
            show _ = _
            rw [HR2.out]
            have e := HG2.out
            rw [hq] at e
            simp only [e]
            decide
          go_wp2_with fail
          go_ret
          exact ⟨by rw [HT.out]; first | done | rfl, HX2.out.below⟩
        · have q1 : (vn[0] == 45) = false := by rw [beq_eq_false_iff_ne]; exact hq
          have q2 : (vn[0] != 45) = true := by simp [hq]
          have HT : Hid (R = true) := by
            show _ = _
            rw [HR2.out]
            have e := HG2.out
            simp only [e]
            simp [hq]
          have hn : ¬ (vn[0].toNat : Int) = 45 := fun e => hq (UInt8.toNat_inj.1 (by have : (45 : UInt8).toNat = 45 := rfl; omega))
          have hb : ((vn[0].toNat : Int) != 45) = true := by simpa using hn
          go_wp2_with fail
          go_ret
          exact ⟨by rw [HT.out]; first | done | rfl, HX2.out.below⟩
      · have b3 : (vk != 3) = true := by simpa using k3
        have b3' : (vk == 3) = false := by rw [beq_eq_false_iff_ne]; exact k3
        have HT : Hid (R = true) := by
          show _ = _
          rw [HR2.out, d4]
          simp [k3]
        go_wp2_with fail
        go_ret
        exact ⟨by rw [HT.out]; rfl, HX2.out.below⟩
    · have d4 : decide (vk ≤ 4) = false := by rw [decide_eq_false_iff_not]; exact k4
      have HT : Hid (R = false) := by
        show _ = _
        rw [HR2.out, d4]
        rfl
      go_wp2_with fail
      go_ret
      exact ⟨by rw [HT.out]; rfl, HX2.out.below⟩

end Go.Proofs.YtcadknhedfnaoaaGreatDoor
namespace Go.Proofs.YtcadknhedfnaoaaGreatDoor
open Go.RowKit Go.Shelf Go.Sort
set_option linter.unusedVariables false
set_option linter.unusedSimpArgs false
attribute [local go_sem] Oper.semAt_some

theorem pnB_drop {x : ByteArray} (hp : 0 < x.size) (h : x[0] = 36) : pnB x = plainW (x.extract 1 x.size).data.toList := by
  unfold pnB
  rw [extract_lst x 1 x.size (Nat.le_refl _)]
  have hl := Pl.toList_cons x hp
  congr 1
  rw [hl, h]
  unfold Lib.trimPrefix cut
  rw [if_pos (by simp [Lib.hasPrefix])]
  show (36 :: x.data.toList.tail).drop 1 = _
  rw [List.take_of_length_le (by have := size_lst x; rw [hl] at this; simp at this ⊢ <;> omega)]
theorem pnB_keep {x : ByteArray} (h : ∀ hp : 0 < x.size, x[0] ≠ 36) : pnB x = plainW x.data.toList := by
  unfold pnB Lib.trimPrefix
  congr 1
  rcases Nat.eq_zero_or_pos x.size with h0 | h0
  · have : x.data.toList = [] := List.length_eq_zero_iff.1 (by rw [size_lst]; exact h0)
    rw [this]
    rfl
  · have hl := Pl.toList_cons x h0
    have hn := h h0
    rw [hl, if_neg]
    intro hh
    simp [Lib.hasPrefix, List.isPrefixOf] at hh
    exact hn hh.symm

set_option maxRecDepth 100000 in
set_option maxHeartbeats 3200000 in
theorem w_paramR (h : Nat) (A : NT) (va : Value) (w : World) (hA : InA w (h + 1) A va) : Calls Tryz.prog 25 #[va] w fun e w' => e = .returned (.bool (nsB A.op A.names)) ∧ Below w.heap.size w w' := by
  obtain ⟨aop, aat, atx, aV, aN, aI⟩ := A
  obtain ⟨aio, aic, ayo, ayc, ano, anc, ako, akc, rfl, a1, a2, a3, a4, hn, hk⟩ := hA
  simp only [NT.op, NT.at_, NT.text, NT.value, NT.names, NT.kids] at *
  obtain ⟨W1, hW1⟩ : ∃ W1, w.alloc (.cells #[.int .i64 aop, .int .i64 aat, .string atx, .int .i64 aV.kind, .string aV.num, .string aV.text, .slice aio aV.items.length aic, .slice ayo aV.keys.length ayc, .slice ano aN.length anc, .slice ako aI.length akc] 28) = W1 := ⟨_, rfl⟩
  have HX := Hid.mk (B1.new hW1)
  have hcap := a3.1
  have hbig := a3.2.1
  have HS := Hid.mk a3.2.2
  have HK : Hid (0 < aN.length → ∃ b off, ano = some ⟨b, off, none⟩ ∧ ∀ i, i < aN.length → W1.cell? ⟨b, off + i, none⟩ = some (.string (aN.getD i .empty))) := fun h0 => by
    obtain ⟨b, off, q1, _, hl, hr⟩ := hn h0
    exact ⟨b, off, q1, fun i hi => (HX.out.below.cell (p := ⟨b, off + i, none⟩) hl).trans (hr i hi)⟩
  obtain ⟨R, HR⟩ : ∃ R, Hid (nsB aop aN = R) := ⟨_, rfl⟩
  rw [HR.out]
  obtain ⟨N, hN⟩ : ∃ N, N = aN.length := ⟨_, rfl⟩
  rw [← hN] at hcap hbig HX hW1
  have HN := Hid.mk hN
  clear a1 a2 a3 a4 hn hk hN
  generalize aV.kind = avk at *
  generalize aV.num = avn at *
  generalize aV.text = avx at *
  generalize aV.items.length = avi at *
  generalize aV.keys.length = avy at *
  generalize aI.length = akn at *
  rw [← HN.out] at ⊢
  have x0 := HX.out.ca (j := 0) rfl
  have x8 := HX.out.ca (j := 8) rfl
  by_cases hk : aop = 32
  · subst hk
    have HR2 : Hid (R = aN.all pnB) := HR.out.symm.trans (by unfold nsB; rw [if_pos rfl])
    clear HR
    go_enter Tryz.func25, Tryz.ntmps25
    go_wp2_with fail
    clear hW1 x0
    go_loopw [3, 4] (fun i _s wr => ∃ k : Nat, k ≤ N ∧ i = .int .i64 (k : Int) ∧ wr = W1 ∧ Hid ((aN.take k).all pnB = true)) (fun i _ _ => N - (intOf i).toNat)
    case atStart => exact ⟨0, Nat.zero_le _, rfl, rfl, rfl⟩
    case round =>
      obtain ⟨k, hk, rfl, hwr, HQ⟩ := hrel
      obtain rfl := hwr.symm
      by_cases hlt : k < N
      · have hl1 : (k : Int) < (N : Int) := by omega
        have hl0 : (0 : Int) ≤ (k : Int) := by omega
        have hkx : k < aN.length := by rw [← HN.out]; exact hlt
        obtain ⟨b, off, e1, hr⟩ := HK.out (by omega)
        subst e1
        have c := hr k hkx
        rw [getD_keyQ hkx] at c
        have hsz := HS.out _ (List.getElem_mem hkx)
        have HQ2 : Hid (pnB aN[k] = true → (aN.take (k + 1)).all pnB = true) := fun hp => by
          rw [List.take_succ_eq_append_getElem hkx, List.all_append, HQ.out]
          simp [hp]
        have HNo : Hid (pnB aN[k] = false → aN.all pnB = false) := fun hp => by
          rw [List.all_eq_false]
          exact ⟨aN[k], List.getElem_mem hkx, by rw [hp]; decide⟩
        generalize aN[k] = x at *
        clear hr hkx HK
        by_cases hp : 0 < x.size
        · have hg : (0 : Int) < (x.size : Int) := by omega
          by_cases hq : x[0] = 36
          · obtain ⟨z, hz⟩ : ∃ z, z = x.extract 1 x.size := ⟨_, rfl⟩
            have hz' : x.extract 1 x.size = z := hz.symm
            have hi1 : (1 : Int) ≤ (x.size : Int) := by omega
            have q1 : (x[0] == 36) = true := by rw [hq]; rfl
            have HPl : Hid (Calls Tryz.prog 27 #[.string z] W1 fun e w' => e = .returned (.bool (pnB x)) ∧ w' = W1) := by
              rw [pnB_drop hp hq, ← hz]
              refine w_rPlain z W1 ?_
              rw [hz, Pl.size_tail x _ (Pl.extract_tail x)]
              omega
            clear hz
            generalize pnB x = y at *
            go_wp2_with fail
            refine HPl.out.mono ?_
            rintro e w2 ⟨rfl, hw2⟩
            obtain rfl := hw2.symm
            cases hy : y with
            | true =>
              have HQ3 := Hid.mk (HQ2.out hy)
              subst hy
              go_wp2_with fail
              go_roundw
              case rel => exact ⟨k + 1, by omega, by go_num, by first | rfl | trivial, HQ3⟩
              case measure => simp [intOf]; omega
            | false =>
              have HT : Hid (R = false) := HR2.out.trans (HNo.out hy)
              subst hy
              go_wp2_with fail
              go_ret
              exact ⟨by rw [HT.out]; rfl, HX.out.below⟩
          · have q1 : (x[0] == 36) = false := by rw [beq_eq_false_iff_ne]; exact hq
            have hn : ¬ (x[0].toNat : Int) = 36 := fun e => hq (UInt8.toNat_inj.1 (by have : (36 : UInt8).toNat = 36 := rfl; omega))
            have hb : ((x[0].toNat : Int) == 36) = false := by rw [beq_eq_false_iff_ne]; exact hn
            have hn2 : ¬ x[0].toNat = 36 := fun e => hn (by rw [e]; rfl)
            have hb2 : (x[0].toNat == 36) = false := by rw [beq_eq_false_iff_ne]; exact hn2
            have HPl : Hid (Calls Tryz.prog 27 #[.string x] W1 fun e w' => e = .returned (.bool (pnB x)) ∧ w' = W1) := by
              rw [pnB_keep (fun _ => hq)]
              exact w_rPlain x W1 hsz
            generalize pnB x = y at *
            go_wp2_with fail
            refine HPl.out.mono ?_
            rintro e w2 ⟨rfl, hw2⟩
            obtain rfl := hw2.symm
            cases hy : y with
            | true =>
              have HQ3 := Hid.mk (HQ2.out hy)
              subst hy
              go_wp2_with fail
              go_roundw
              case rel => exact ⟨k + 1, by omega, by go_num, by first | rfl | trivial, HQ3⟩
              case measure => simp [intOf]; omega
            | false =>
              have HT : Hid (R = false) := HR2.out.trans (HNo.out hy)
              subst hy
              go_wp2_with fail
              go_ret
              exact ⟨by rw [HT.out]; rfl, HX.out.below⟩
        · have hg : ¬ (0 : Int) < (x.size : Int) := by omega
          have HPl : Hid (Calls Tryz.prog 27 #[.string x] W1 fun e w' => e = .returned (.bool (pnB x)) ∧ w' = W1) := by
            rw [pnB_keep (fun h => absurd h hp)]
            exact w_rPlain x W1 hsz
          generalize pnB x = y at *
          go_wp2_with fail
          refine HPl.out.mono ?_
          rintro e w2 ⟨rfl, hw2⟩
          obtain rfl := hw2.symm
          cases hy : y with
          | true =>
            have HQ3 := Hid.mk (HQ2.out hy)
            subst hy
            go_wp2_with fail
            go_roundw
            case rel => exact ⟨k + 1, by omega, by go_num, by first | rfl | trivial, HQ3⟩
            case measure => simp [intOf]; omega
          | false =>
            have HT : Hid (R = false) := HR2.out.trans (HNo.out hy)
            subst hy
            go_wp2_with fail
            go_ret
            exact ⟨by rw [HT.out]; rfl, HX.out.below⟩
      · have hl1 : ¬ (k : Int) < (N : Int) := by omega
        have HT : Hid (R = true) := by
          have e := HQ.out
          rw [List.take_of_length_le (by rw [← HN.out]; omega)] at e
          exact HR2.out.trans e
        go_wp2_with fail
        go_ret
        exact ⟨by rw [HT.out]; rfl, HX.out.below⟩
  · have g1 : (aop != 32) = true := by simpa using hk
    have HR2 : Hid (R = aN.isEmpty) := HR.out.symm.trans (by unfold nsB; rw [if_neg hk])
    by_cases h0 : N = 0
    · have g2 : ((N : Int) == 0) = true := by rw [h0]; rfl
      have g3 : (N : Int) = 0 := by omega
      have HT : Hid (R = true) := by
        have : aN = [] := List.length_eq_zero_iff.1 (by rw [← HN.out]; exact h0)
        rw [HR2.out, this]; rfl
      clear hk h0
      go_enter Tryz.func25, Tryz.ntmps25
      go_wp2_with fail
      go_ret
      exact ⟨by rw [HT.out]; first | done | rfl, HX.out.below⟩
    · have g2 : ((N : Int) == 0) = false := by rw [beq_eq_false_iff_ne]; omega
      have g3 : ¬ (N : Int) = 0 := by omega
      have HT : Hid (R = false) := by
        rw [HR2.out]
        cases aN with
        | nil => exact absurd HN.out h0
        | cons a l => rfl
      clear hk
      go_enter Tryz.func25, Tryz.ntmps25
      go_wp2_with fail
      go_ret
      exact ⟨by rw [HT.out]; first | done | rfl, HX.out.below⟩
end Go.Proofs.YtcadknhedfnaoaaGreatDoor
namespace Go.Proofs.YtcadknhedfnaoaaGreatDoor
open Go.RowKit Go.Shelf Go.Sort
set_option linter.unusedVariables false
set_option linter.unusedSimpArgs false
attribute [local go_sem] Oper.semAt_some

/-- an end of a slice that is not there -/
noncomputable def slB (op : Int) (i : Nat) (k : NT) : Bool := decide (op = 8) && decide (0 < i) && sq (noA k) (noA nn0)
noncomputable def rkB (fm : NT → Bool) (op : Int) (i : Nat) (k : NT) : Bool := slB op i k || (fm k && !(decide (op = 3) && decide (i % 2 = 0) && (!decide (k.op = 2) || !decide (k.value.kind = 4))))
noncomputable def emN (op : Int) (ks : List NT) : Nat → Nat
  | 0 => 0
  | n + 1 => emN op ks n + (if slB op n (ks.getD n nn0) then 1 else 0)
theorem emN_le (op : Int) (ks : List NT) : ∀ n, emN op ks n ≤ n
  | 0 => Nat.le_refl _
  | n + 1 => by
    rw [emN]
    have := emN_le op ks n
    split <;> omega
/-- the document's answer: is a filter well shaped? -/
noncomputable def frN : Nat → NT → Bool
  | 0, _ => false
  | h + 1, A => kdO A.op && !(decide ((A.kids.length : Int) < kdL A.op)) && !(decide (0 ≤ kdM A.op) && decide (kdM A.op < (A.kids.length : Int))) && nsB A.op A.names && (if nmO A.op then plainW A.text.data.toList else decide (A.text = .empty)) && (if A.op = 2 then coB (h + 1) A.value else sq A.value vt0) && !((decide (A.op = 3) && decide (A.kids.length % 2 = 0)) || (decide (A.op = 5) && decide (A.kids.length % 2 = 1))) && ((List.range A.kids.length).all fun i => rkB (frN h) A.op i (A.kids.getD i nn0)) && decide (emN A.op A.kids A.kids.length < 2)
def FrOk (h : Nat) : Prop := ∀ (A : NT) (va : Value) (w : World), InA w h A va → Calls Tryz.prog 12 #[va] w fun e w' => e = .returned (.bool (frN h A)) ∧ Below w.heap.size w w'
theorem mo_pos {op : Int} (h3 : op ≠ 3) (h5 : op ≠ 5) (h33 : op ≠ 33) : 0 ≤ kdM op := by
  unfold kdM
  repeat' split
  all_goals omega

end Go.Proofs.YtcadknhedfnaoaaGreatDoor
