import Derived.Test.YtcadknhedfnaoaaGreatDoorM53
import Derived.Test.YtcadknhedfnaoaaGreatDoorM54
namespace Go.Proofs.YtcadknhedfnaoaaGreatDoor
open Go.RowKit Go.Shelf Go.Sort
set_option linter.unusedVariables false
set_option linter.unusedSimpArgs false
attribute [local go_sem] Oper.semAt_some

def PtOk (h : Nat) : Prop := ∀ (A : NT) (va : Value) (w : World), InA w h A va → fpN h A = true → bkT h A ≤ 1048576 → Calls Tryz.prog 13 #[va] w fun e w' => e = .returned (.string (bs (shT h A))) ∧ Below w.heap.size w w'

set_option maxRecDepth 100000 in
set_option maxHeartbeats 3200000 in
theorem w_rk (h : Nat) (ih : PtOk h) (n : Int) (A : NT) (va : Value) (w : World) (hA : InA w h A va) (hf : fpN h A = true) (hbk : bkT h A ≤ 1048576) : Calls Tryz.prog 32 #[.int .i64 n, va] w fun e w' => e = .returned (.string (bs (pHd (shT h A) A n))) ∧ Below w.heap.size w w' := by
  have hl : (shT h A).length ≤ 140737488355328 := by have := shT_len h A hf; omega
  obtain ⟨aop, aat, avk, atx, avn, avx, aio, ayo, ano, ako, avi, aic, avy, ayc, ann, anc, akn, akc, rfl⟩ := inA_shape hA
  obtain ⟨W1, hW1⟩ : ∃ W1, w.alloc (.cells #[.int .i64 aop, .int .i64 aat, .string atx, .int .i64 avk, .string avn, .string avx, .slice aio avi aic, .slice ayo avy ayc, .slice ano ann anc, .slice ako akn akc] 28) = W1 := ⟨_, rfl⟩
  have HX1 := Hid.mk (B1.new hW1)
  have HLo := Hid.mk (w_rLoose h A _ W1 (hA.low HX1.out.below) hf)
  have HPt : Hid (∀ u, Below w.heap.size w u → Calls Tryz.prog 13 #[.agg #[.int .i64 aop, .int .i64 aat, .string atx, .int .i64 avk, .string avn, .string avx, .slice aio avi aic, .slice ayo avy ayc, .slice ano ann anc, .slice ako akn akc]] u fun e w' => e = .returned (.string (bs (shT h A))) ∧ Below u.heap.size u w') := fun u hu => ih A _ u (hA.low hu) hf hbk
  have hsz := bs_size (shT h A)
  have hY : (bs (shT h A)).size ≤ 140737488355328 := by omega
  clear hA hf hbk hl hsz
  unfold pHd
  generalize pLo A = lo at *
  generalize shT h A = X at *
  obtain ⟨x0, x1, x2, x3, x4, x5, x6, x7, x8, x9⟩ := nd_cells HX1.out.a
  by_cases hlo : lo < n
  · rw [decide_eq_true hlo]
    have HE : Hid (⟨#[40]⟩ ++ bs X ++ ⟨#[41]⟩ = bs (pBr true X)) := by
      show bs [40] ++ bs X ++ bs [41] = _
      rw [bs_app, bs_app]
      simp [pBr]
    generalize bs X = Y at *
    have f1 : ¬ 9223372036854775807 < 1 + Y.size := by omega
    have f2 : ¬ 9223372036854775807 < 1 + Y.size + 1 := by omega
    go_enter Tryz.func32, Tryz.ntmps32
    go_wp2_with fail
    refine HLo.out.mono ?_
    rintro e w2 ⟨rfl, hb2⟩
    have HX2 := Hid.mk (HX1.out.keep hb2)
    clear hb2 x0 x1 x2 x3 x4 x5 x6 x7 x8 x9 hW1
    obtain ⟨x0, x1, x2, x3, x4, x5, x6, x7, x8, x9⟩ := nd_cells HX2.out.a
    go_wp2_with fail
    refine (HPt.out _ HX2.out.below).mono ?_
    rintro e w3 ⟨rfl, hb3⟩
    have HX3 := Hid.mk (HX2.out.keep hb3)
    clear hb3 x0 x1 x2 x3 x4 x5 x6 x7 x8 x9
    go_wp2_with fail
    go_ret
    exact ⟨by rw [← HE.out]; rfl, HX3.out.below⟩
  · rw [decide_eq_false hlo]
    have HE : Hid (bs X = bs (pBr false X)) := by show _ = _; simp [pBr]
    generalize bs X = Y at *
    go_enter Tryz.func32, Tryz.ntmps32
    go_wp2_with fail
    refine HLo.out.mono ?_
    rintro e w2 ⟨rfl, hb2⟩
    have HX2 := Hid.mk (HX1.out.keep hb2)
    clear hb2 x0 x1 x2 x3 x4 x5 x6 x7 x8 x9 hW1
    obtain ⟨x0, x1, x2, x3, x4, x5, x6, x7, x8, x9⟩ := nd_cells HX2.out.a
    go_wp2_with fail
    refine (HPt.out _ HX2.out.below).mono ?_
    rintro e w3 ⟨rfl, hb3⟩
    have HX3 := Hid.mk (HX2.out.keep hb3)
    clear hb3 x0 x1 x2 x3 x4 x5 x6 x7 x8 x9
    go_wp2_with fail
    go_ret
    exact ⟨by rw [HE.out]; rfl, HX3.out.below⟩
end Go.Proofs.YtcadknhedfnaoaaGreatDoor
namespace Go.Proofs.YtcadknhedfnaoaaGreatDoor
open Go.RowKit Go.Shelf Go.Sort
set_option linter.unusedVariables false
set_option linter.unusedSimpArgs false
attribute [local go_sem] Oper.semAt_some

/-- what is known of a kid -/
structure RK (w : World) (b o : Nat) (c : Fin 10 → Value) (h : Nat) (K : NT) (t : List UInt8) : Prop where
  cell : ∀ j : Fin 10, w.cell? ⟨b, o + j.1, none⟩ = some (c j)
  in_ : InA w h K (ndV c)
  len : t.length ≤ 140737488355328
theorem RK.cells {w : World} {b o : Nat} {c : Fin 10 → Value} {h : Nat} {K : NT} {t : List UInt8} (r : RK w b o c h K t) {u : World} (hu : Below w.heap.size w u) :
    u.cell? ⟨b, o, none⟩ = some (c 0) ∧ u.cell? ⟨b, o + 1, none⟩ = some (c 1) ∧ u.cell? ⟨b, o + 2, none⟩ = some (c 2) ∧ u.cell? ⟨b, o + 3, none⟩ = some (c 3) ∧ u.cell? ⟨b, o + 4, none⟩ = some (c 4) ∧ u.cell? ⟨b, o + 5, none⟩ = some (c 5) ∧ u.cell? ⟨b, o + 6, none⟩ = some (c 6) ∧ u.cell? ⟨b, o + 7, none⟩ = some (c 7) ∧ u.cell? ⟨b, o + 8, none⟩ = some (c 8) ∧ u.cell? ⟨b, o + 9, none⟩ = some (c 9) := by
  have h : ∀ j : Fin 10, u.cell? ⟨b, o + j.1, none⟩ = some (c j) := fun j => (hu.cell (p := ⟨b, o + j.1, none⟩) (block_lt_of_cell (r.cell j))).trans (r.cell j)
  exact ⟨h 0, h 1, h 2, h 3, h 4, h 5, h 6, h 7, h 8, h 9⟩
/-- how the calls at a kid answer -/
def KdK (w : World) (c : Fin 10 → Value) (n : Int) (X : List UInt8) : Prop := ∀ u, Below w.heap.size w u → Calls Tryz.prog 32 #[.int .i64 n, .agg #[c 0, c 1, c 2, c 3, c 4, c 5, c 6, c 7, c 8, c 9]] u fun e w' => e = .returned (.string (bs X)) ∧ Below u.heap.size u w'
def KdB (w : World) (c : Fin 10 → Value) (X : List UInt8) : Prop := ∀ u, Below w.heap.size w u → Calls Tryz.prog 59 #[.agg #[c 0, c 1, c 2, c 3, c 4, c 5, c 6, c 7, c 8, c 9]] u fun e w' => e = .returned (.string (bs X)) ∧ Below u.heap.size u w'
theorem pLo_nn {h : Nat} {A : NT} (hf : fpN h A = true) : 0 ≤ pLo A := by
  cases h with
  | zero => cases hf
  | succ h =>
    have hm := (fp_open hf).1
    unfold pLo
    split
    · omega
    · split
      · omega
      · split
        · rename_i h10
          rw [h10] at hm
          simp [mfB] at hm
          omega
        · split <;> omega
theorem pHd0 {h : Nat} {A : NT} (hf : fpN h A = true) (t : List UInt8) : pHd t A 0 = t := by
  unfold pHd
  rw [decide_eq_false (by have := pLo_nn hf; omega)]
  rfl
theorem pHd_len (t : List UInt8) (A : NT) (n : Int) : (pHd t A n).length ≤ t.length + 2 := by
  unfold pHd pBr
  split <;> simp <;> omega

set_option maxRecDepth 100000 in
set_option maxHeartbeats 3200000 in
theorem w_rbase (h : Nat) (ih : PtOk h) (A : NT) (va : Value) (w : World) (hA : InA w h A va) (hf : fpN h A = true) (hbk : bkT h A ≤ 1048576) : Calls Tryz.prog 59 #[va] w fun e w' => e = .returned (.string (bs (pBs (shT h A) A))) ∧ Below w.heap.size w w' := by
  have HK0 : Hid (∀ u, Below w.heap.size w u → Calls Tryz.prog 32 #[.int .i64 10, va] u fun e w' => e = .returned (.string (bs (pHd (shT h A) A 10))) ∧ Below u.heap.size u w') := fun u hu => w_rk h ih 10 A va u (hA.low hu) hf hbk
  cases h with
  | zero => exact hA.elim
  | succ h =>
  have hsh := shT_up h A
  obtain ⟨io, ic, yo, yc, no, nc, ko, kc, e, -, hval, -, ⟨-, hbig⟩, -, -⟩ := hA
  subst e
  have hnum : A.value.num.size ≤ 140737488355328 := by
    obtain ⟨_, _, _, _, _, h1, _⟩ := hval
    exact h1
  obtain ⟨W1, hW1⟩ : ∃ W1, w.alloc (.cells #[.int .i64 A.op, .int .i64 A.at_, .string A.text, .int .i64 A.value.kind, .string A.value.num, .string A.value.text, .slice io A.value.items.length ic, .slice yo A.value.keys.length yc, .slice no A.names.length nc, .slice ko A.kids.length kc] 28) = W1 := ⟨_, rfl⟩
  have HX1 := Hid.mk (B1.new hW1)
  unfold pBs
  clear hf hbk hval
  by_cases h2 : A.op = 2
  · by_cases h3 : A.value.kind = 3
    · rw [if_pos ⟨h2, h3⟩]
      have HE : Hid (⟨#[40]⟩ ++ A.value.num ++ ⟨#[41]⟩ = bs (pHd (shT (h + 1) A) A 11)) := by
        have e1 : shT (h + 1) A = A.value.num.data.toList := by
          rw [hsh]
          simp only [h2]
          show pCn A.value = _
          unfold pCn
          rw [h3]
          rfl
        have e2 : pLo A = 10 := by
          unfold pLo
          rw [h2]
          rfl
        show bs [40] ++ bs A.value.num.data.toList ++ bs [41] = _
        rw [bs_app, bs_app, e1]
        unfold pHd
        rw [e2]
        simp [pBr]
      clear hsh HK0
      rw [h2, h3] at HX1 hW1
      rw [h2, h3]
      generalize A.value.num = nu at *
      have f1 : ¬ 9223372036854775807 < 1 + nu.size := by omega
      have f2 : ¬ 9223372036854775807 < 1 + nu.size + 1 := by omega
      go_enter Tryz.func59, Tryz.ntmps59
      obtain ⟨x0, x1, x2, x3, x4, x5, x6, x7, x8, x9⟩ := nd_cells HX1.out.a
      go_wp2_with fail
      go_ret
      exact ⟨congrArg (fun z => Ending.returned (.string z)) HE.out, HX1.out.below⟩
    · rw [if_neg (fun h => h3 h.2)]
      clear hsh
      rw [h2] at HX1 hW1 HK0 ⊢
      have b3 : (A.value.kind == 3) = false := by rw [beq_eq_false_iff_ne]; exact h3
      generalize A.value.kind = kd at *
      generalize bs (pHd (shT (h + 1) A) A 10) = Y at *
      go_enter Tryz.func59, Tryz.ntmps59
      obtain ⟨x0, x1, x2, x3, x4, x5, x6, x7, x8, x9⟩ := nd_cells HX1.out.a
      go_wp2_with fail
      refine (HK0.out _ HX1.out.below).mono ?_
      rintro e w2 ⟨rfl, hb⟩
      have HX2 := Hid.mk (HX1.out.keep hb)
      clear hb hW1
      clear x0 x1 x2 x3 x4 x5 x6 x7 x8 x9
      go_wp2_with fail
      go_ret
      exact ⟨rfl, HX2.out.below⟩
  · rw [if_neg (fun h => h2 h.1)]
    clear hsh
    have b2 : (A.op == 2) = false := by rw [beq_eq_false_iff_ne]; exact h2
    generalize A.op = op at *
    generalize bs (pHd (shT (h + 1) A) A 10) = Y at *
    go_enter Tryz.func59, Tryz.ntmps59
    obtain ⟨x0, x1, x2, x3, x4, x5, x6, x7, x8, x9⟩ := nd_cells HX1.out.a
    go_wp2_with fail
    refine (HK0.out _ HX1.out.below).mono ?_
    rintro e w2 ⟨rfl, hb⟩
    have HX2 := Hid.mk (HX1.out.keep hb)
    clear hb hW1
    clear x0 x1 x2 x3 x4 x5 x6 x7 x8 x9
    go_wp2_with fail
    go_ret
    exact ⟨rfl, HX2.out.below⟩

set_option maxRecDepth 100000 in
set_option maxHeartbeats 3200000 in
theorem w_rrow (w : World) (b off n cp h : Nat) (so : Option Addr) (K : Nat → NT) (t : Nat → List UInt8) (hso : 0 < n → so = some ⟨b, off, none⟩) (hcap : n ≤ cp) (hbig : n ≤ 140737488355328) (hK : ∀ i, i < n → ∃ c, RK w b (off + i * 10) c h (K i) (t i) ∧ KdK w c 0 (t i)) (hl : (pRw t n).length ≤ 140737488355328) : Calls Tryz.prog 35 #[.slice so n cp] w fun e w' => e = .returned (.string (bs (pRw t n))) ∧ Below w.heap.size w w' := by
  rw [pRw_fl] at hl ⊢
  obtain ⟨f, hf⟩ : ∃ f, f = (fun i => (if 0 < i then [59, 32] else []) ++ t i) := ⟨_, rfl⟩
  rw [← hf] at hl ⊢
  have HF := Hid.mk hf
  have HK := Hid.mk hK
  have HSO := Hid.mk hso
  have HL := Hid.mk hl
  clear hf hK hso hl
  go_enter Tryz.func35, Tryz.ntmps35
  go_wp2_with fail
  go_loopw [3, 4] (fun sv i wr => ∃ (Z : ByteArray) (k : Nat), k ≤ n ∧ sv = .string Z ∧ i = .int .i64 (k : Int) ∧ Hid (Z = bs (fl f k)) ∧ Hid (Below w.heap.size w wr)) (fun _ i _ => n - (intOf i).toNat)
  case atStart => exact ⟨_, 0, Nat.zero_le _, rfl, rfl, rfl, Below.refl _ _⟩
  case round =>
    obtain ⟨Z, k, hk, rfl, rfl, HZ, HB⟩ := hrel
    by_cases hlt : k < n
    · have hl1 : (k : Int) < (n : Int) := by omega
      have hl0 : (0 : Int) ≤ (k : Int) := by omega
      obtain rfl := HSO.out (by omega)
      obtain ⟨c, hrk, hkd⟩ := HK.out k hlt
      obtain ⟨y0, y1, y2, y3, y4, y5, y6, y7, y8, y9⟩ := hrk.cells HB.out
      have HKk := Hid.mk (hkd wr HB.out)
      have hYs : (bs (t k)).size ≤ 140737488355328 := by rw [bs_size]; exact hrk.len
      have hZs : Z.size ≤ 140737488355328 := by
        rw [HZ.out, bs_size]
        have h1 := fl_pre f hk
        have h2 := HL.out
        omega
      have HU := Hid.mk (fl_succ f k)
      clear hrk hkd
      by_cases hz : 0 < k
      · have hz1 : (0 : Int) < (k : Int) := by omega
        have HE : Hid (Z ++ ⟨#[59, 32]⟩ ++ bs (t k) = bs (fl f (k + 1))) := by
          show Z ++ bs [59, 32] ++ bs (t k) = _
          rw [HZ.out, bs_app, bs_app, HU.out, HF.out]
          simp only [if_pos hz, List.append_assoc]
        generalize bs (t k) = Y at *
        have f1 : ¬ 9223372036854775807 < Z.size + 2 := by omega
        have f2 : ¬ 9223372036854775807 < Z.size + 2 + Y.size := by omega
        go_wp2_with fail
        refine HKk.out.mono ?_
        rintro e w2 ⟨rfl, hb⟩
        have HB2 := Hid.mk (HB.out.trans (hb.mono HB.out.size))
        clear hb y0 y1 y2 y3 y4 y5 y6 y7 y8 y9
        go_wp2_with fail
        go_roundw
        case rel => exact ⟨_, k + 1, by omega, rfl, by go_num, HE, HB2⟩
        case measure => simp [intOf]; omega
      · obtain rfl : k = 0 := by omega
        have HE : Hid (Z ++ bs (t 0) = bs (fl f (0 + 1))) := by
          show _ = _
          rw [HZ.out, bs_app, HU.out, HF.out]
          simp
        generalize bs (t 0) = Y at *
        simp only [Nat.zero_mul, Nat.add_zero] at y0 y1 y2 y3 y4 y5 y6 y7 y8 y9
        have f2 : ¬ 9223372036854775807 < Z.size + Y.size := by omega
        go_wp2_with fail
        refine HKk.out.mono ?_
        rintro e w2 ⟨rfl, hb⟩
        have HB2 := Hid.mk (HB.out.trans (hb.mono HB.out.size))
        clear hb y0 y1 y2 y3 y4 y5 y6 y7 y8 y9
        go_wp2_with fail
        go_roundw
        case rel => exact ⟨_, 0 + 1, by omega, rfl, by go_num, HE, HB2⟩
        case measure => simp [intOf]; omega
    · have hl1 : ¬ (k : Int) < (n : Int) := by omega
      obtain rfl : k = n := by omega
      go_wp2_with fail
      go_ret
      exact ⟨by rw [← HZ.out]; rfl, HB.out⟩
end Go.Proofs.YtcadknhedfnaoaaGreatDoor
namespace Go.Proofs.YtcadknhedfnaoaaGreatDoor
open Go.RowKit Go.Shelf Go.Sort
set_option linter.unusedVariables false
set_option linter.unusedSimpArgs false
attribute [local go_sem] Oper.semAt_some

/-- a kid's text and op among its cells -/
theorem rk_parts {w : World} {b o : Nat} {c : Fin 10 → Value} {h : Nat} {K : NT} {t : List UInt8} (r : RK w b o c h K t) : c 0 = .int .i64 K.op ∧ c 5 = .string K.value.text := by
  have hi := r.in_
  cases h with
  | zero => exact hi.elim
  | succ h =>
    obtain ⟨io, ic, yo, yc, no, nc, ko, kc, e, _⟩ := hi
    unfold ndV at e
    simp only [Value.agg.injEq, Array.mk.injEq, List.cons.injEq, and_true] at e
    exact ⟨e.1, e.2.2.2.2.2.1⟩
theorem c10_0 (a b c d e f g h i j : Value) : c10 a b c d e f g h i j 0 = a := rfl
theorem c10_1 (a b c d e f g h i j : Value) : c10 a b c d e f g h i j 1 = b := rfl
theorem c10_2 (a b c d e f g h i j : Value) : c10 a b c d e f g h i j 2 = c := rfl
theorem c10_3 (a b c d e f g h i j : Value) : c10 a b c d e f g h i j 3 = d := rfl
theorem c10_4 (a b c d e f g h i j : Value) : c10 a b c d e f g h i j 4 = e := rfl
theorem c10_5 (a b c d e f g h i j : Value) : c10 a b c d e f g h i j 5 = f := rfl
theorem c10_6 (a b c d e f g h i j : Value) : c10 a b c d e f g h i j 6 = g := rfl
theorem c10_7 (a b c d e f g h i j : Value) : c10 a b c d e f g h i j 7 = h := rfl
theorem c10_8 (a b c d e f g h i j : Value) : c10 a b c d e f g h i j 8 = i := rfl
theorem c10_9 (a b c d e f g h i j : Value) : c10 a b c d e f g h i j 9 = j := rfl
theorem rk_shape {w : World} {b o : Nat} {c : Fin 10 → Value} {h : Nat} {K : NT} {t : List UInt8} (r : RK w b o c h K t) : ∃ (kat kvk : Int) (ktx kvn : ByteArray) (i1 i2 i3 i4 : Option Addr) (n1 m1 n2 m2 n3 m3 n4 m4 : Nat), c = c10 (.int .i64 K.op) (.int .i64 kat) (.string ktx) (.int .i64 kvk) (.string kvn) (.string K.value.text) (.slice i1 n1 m1) (.slice i2 n2 m2) (.slice i3 n3 m3) (.slice i4 n4 m4) := by
  have hi := r.in_
  cases h with
  | zero => exact hi.elim
  | succ h =>
    obtain ⟨io, ic, yo, yc, no, nc, ko, kc, e, _⟩ := hi
    unfold ndV at e
    simp only [Value.agg.injEq, Array.mk.injEq, List.cons.injEq, and_true] at e
    obtain ⟨e0, e1, e2, e3, e4, e5, e6, e7, e8, e9⟩ := e
    refine ⟨K.at_, K.value.kind, K.text, K.value.num, io, yo, no, ko, K.value.items.length, ic, K.value.keys.length, yc, K.names.length, nc, K.kids.length, kc, funext fun j => ?_⟩
    match j with
    | 0 => exact e0
    | 1 => exact e1
    | 2 => exact e2
    | 3 => exact e3
    | 4 => exact e4
    | 5 => exact e5
    | 6 => exact e6
    | 7 => exact e7
    | 8 => exact e8
    | 9 => exact e9
theorem RK.agg {w : World} {b o : Nat} {c : Fin 10 → Value} {h : Nat} {K : NT} {t : List UInt8} (r : RK w b o c h K t) : InA w h K (.agg #[c 0, c 1, c 2, c 3, c 4, c 5, c 6, c 7, c 8, c 9]) := r.in_

set_option maxRecDepth 100000 in
set_option maxHeartbeats 3200000 in
theorem w_rjoin (w : World) (aop aat avk : Int) (atx avn avx : ByteArray) (aio ayo ano ako : Option Addr) (avi aic avy ayc ann anc : Nat) (b off N kc h : Nat) (K : Nat → NT) (t : Nat → List UInt8) (hko : 0 < N → ako = some ⟨b, off, none⟩) (hcap : N ≤ kc) (hbig : N ≤ 140737488355328) (hK : ∀ i, i < N → ∃ c, RK w b (off + i * 10) c h (K i) (t i) ∧ (i % 2 = 1 → KdK w c 0 (t i))) (htx : ∀ i, i < N → (K i).value.text.size ≤ 1048576) (hl : (sJoin K t N).length ≤ 140737488355328) : Calls Tryz.prog 34 #[.agg #[.int .i64 aop, .int .i64 aat, .string atx, .int .i64 avk, .string avn, .string avx, .slice aio avi aic, .slice ayo avy ayc, .slice ano ann anc, .slice ako N kc]] w fun e w' => e = .returned (.string (bs (sJoin K t N))) ∧ Below w.heap.size w w' := by
  obtain ⟨f, hf⟩ : ∃ f, f = (fun i => if i % 2 = 0 then pPc (K i).value.text else [92, 40] ++ (t i ++ [41])) := ⟨_, rfl⟩
  have e0 : sJoin K t N = [34] ++ (fl f N ++ [34]) := by rw [hf]; rfl
  rw [e0] at hl ⊢
  have HF := Hid.mk hf
  have HK := Hid.mk hK
  have HKO := Hid.mk hko
  have HL := Hid.mk hl
  have HTX := Hid.mk htx
  clear e0 hf hK hko hl htx
  obtain ⟨W1, hW1⟩ : ∃ W1, w.alloc (.cells #[.int .i64 aop, .int .i64 aat, .string atx, .int .i64 avk, .string avn, .string avx, .slice aio avi aic, .slice ayo avy ayc, .slice ano ann anc, .slice ako N kc] 28) = W1 := ⟨_, rfl⟩
  have HX1 := Hid.mk (B1.new hW1)
  go_enter Tryz.func34, Tryz.ntmps34
  go_wp2_with fail
  go_loopw [3, 4] (fun sv i wr => ∃ (Z : ByteArray) (k : Nat), k ≤ N ∧ sv = .string Z ∧ i = .int .i64 (k : Int) ∧ Hid (Z = bs ([34] ++ fl f k)) ∧ Hid (B1 w #[.int .i64 aop, .int .i64 aat, .string atx, .int .i64 avk, .string avn, .string avx, .slice aio avi aic, .slice ayo avy ayc, .slice ano ann anc, .slice ako N kc] 28 wr)) (fun _ i _ => N - (intOf i).toNat)
  case atStart => exact ⟨_, 0, Nat.zero_le _, rfl, rfl, rfl, HX1⟩
  case round =>
    clear hW1 HX1
    obtain ⟨Z, k, hk, rfl, rfl, HZ, HX⟩ := hrel
    obtain ⟨x0, x1, x2, x3, x4, x5, x6, x7, x8, x9⟩ := nd_cells HX.out.a
    have hZs : Z.size ≤ 140737488355328 := by
      rw [HZ.out, bs_size]
      have h1 := fl_pre f hk
      have h2 := HL.out
      simp only [List.length_append, List.length_cons, List.length_nil] at h2 ⊢
      omega
    by_cases hlt : k < N
    · have hl1 : (k : Int) < (N : Int) := by omega
      have hl0 : (0 : Int) ≤ (k : Int) := by omega
      obtain rfl := HKO.out (by omega)
      obtain ⟨c, hrk, hkd⟩ := HK.out k hlt
      obtain ⟨y0, y1, y2, y3, y4, y5, y6, y7, y8, y9⟩ := hrk.cells HX.out.below
      have HU := Hid.mk (fl_succ f k)
      have HLk : Hid ((f k).length ≤ 140737488355328) := by
        have h1 := fl_pre f (show k + 1 ≤ N by omega)
        rw [HU.out] at h1
        have h2 := HL.out
        show _ ≤ _
        simp only [List.length_append, List.length_cons, List.length_nil] at h1 h2 ⊢
        omega
      by_cases hz : k % 2 = 0
      · have hz1 : ((k : Int) % 2 == 0) = true := by
          have : (k : Int) % 2 = 0 := by omega
          rw [this]; rfl
        have HE1 : Hid (f k = pPc (K k).value.text) := by show _ = _; rw [HF.out]; simp only [if_pos hz]
        rw [HE1.out] at HLk
        rw [(rk_parts hrk).2] at y5
        have HPc := Hid.mk (fun u => w_rpiece (K k).value.text u (HTX.out k hlt) HLk.out)
        have hYs : (bs (pPc (K k).value.text)).size ≤ 140737488355328 := by rw [bs_size]; exact HLk.out
        have HE : Hid (Z ++ bs (pPc (K k).value.text) = bs ([34] ++ fl f (k + 1))) := by
          show _ = _
          rw [HZ.out, bs_app, HU.out, HE1.out]
          simp only [List.append_assoc]
        clear hrk hkd HLk HE1 y0 y1 y2 y3 y4 y6 y7 y8 y9
        generalize bs (pPc (K k).value.text) = Y at *
        generalize (K k).value.text = tx at *
        have f2 : ¬ 9223372036854775807 < Z.size + Y.size := by omega
        go_wp2_with fail
        refine (HPc.out _).mono ?_
        rintro e w2 ⟨rfl, hb⟩
        have HX2 := Hid.mk (HX.out.keep hb)
        clear hb y5 x0 x1 x2 x3 x4 x5 x6 x7 x8 x9
        go_wp2_with fail
        go_roundw
        case rel => exact ⟨_, k + 1, by omega, rfl, by go_num, HE, HX2⟩
        case measure => simp [intOf]; omega
      · have hz1 : ((k : Int) % 2 == 0) = false := by rw [beq_eq_false_iff_ne]; omega
        have HE1 : Hid (f k = [92, 40] ++ (t k ++ [41])) := by show _ = _; rw [HF.out]; simp only [if_neg hz]
        have HKk := Hid.mk (hkd (by omega))
        have hYs : (bs (t k)).size ≤ 140737488355328 := by rw [bs_size]; exact hrk.len
        have HE : Hid (Z ++ ⟨#[92, 40]⟩ ++ bs (t k) ++ ⟨#[41]⟩ = bs ([34] ++ fl f (k + 1))) := by
          show Z ++ bs [92, 40] ++ bs (t k) ++ bs [41] = _
          rw [HZ.out, bs_app, bs_app, bs_app, HU.out, HE1.out]
          simp only [List.append_assoc]
        clear hrk hkd HLk HE1
        unfold KdK at HKk
        generalize bs (t k) = Y at *
        have f1 : ¬ 9223372036854775807 < Z.size + 2 := by omega
        have f2 : ¬ 9223372036854775807 < Z.size + 2 + Y.size := by omega
        have f3 : ¬ 9223372036854775807 < Z.size + 2 + Y.size + 1 := by omega
        go_wp2_with fail
        refine (HKk.out _ HX.out.below).mono ?_
        rintro e w2 ⟨rfl, hb⟩
        have HX2 := Hid.mk (HX.out.keep hb)
        clear hb y0 y1 y2 y3 y4 y5 y6 y7 y8 y9 x0 x1 x2 x3 x4 x5 x6 x7 x8 x9
        go_wp2_with fail
        go_roundw
        case rel => exact ⟨_, k + 1, by omega, rfl, by go_num, HE, HX2⟩
        case measure => simp [intOf]; omega
    · have hl1 : ¬ (k : Int) < (N : Int) := by omega
      obtain rfl : k = N := by omega
      have HE : Hid (Z ++ ⟨#[34]⟩ = bs ([34] ++ (fl f k ++ [34]))) := by
        show Z ++ bs [34] = _
        rw [HZ.out, bs_app]
        simp only [List.append_assoc]
      have f1 : ¬ 9223372036854775807 < Z.size + 1 := by omega
      go_wp2_with fail
      go_ret
      exact ⟨congrArg (fun z => Ending.returned (.string z)) HE.out, HX.out.below⟩
end Go.Proofs.YtcadknhedfnaoaaGreatDoor
namespace Go.Proofs.YtcadknhedfnaoaaGreatDoor
open Go.RowKit Go.Shelf Go.Sort
set_option linter.unusedVariables false
set_option linter.unusedSimpArgs false
attribute [local go_sem] Oper.semAt_some

set_option maxRecDepth 100000 in
set_option maxHeartbeats 3200000 in
theorem w_rrecord (w : World) (aop aat avk : Int) (atx avn avx : ByteArray) (aio ayo ano ako : Option Addr) (avi aic avy ayc ann anc : Nat) (b off N kc h : Nat) (K : Nat → NT) (t : Nat → List UInt8) (hko : 0 < N → ako = some ⟨b, off, none⟩) (hcap : N ≤ kc) (hbig : N ≤ 140737488355328) (M : Nat) (hM : N = 2 * M) (hK : ∀ i, i < N → ∃ c, RK w b (off + i * 10) c h (K i) (t i) ∧ KdK w c 0 (t i) ∧ KdK w c 3 (pHd (t i) (K i) 3) ∧ ((K i).op = 3 → ∀ u, Below w.heap.size w u → Calls Tryz.prog 34 #[.agg #[c 0, c 1, c 2, c 3, c 4, c 5, c 6, c 7, c 8, c 9]] u fun e w' => e = .returned (.string (bs (t i))) ∧ Below u.heap.size u w') ∧ pHd (t i) (K i) 11 = [40] ++ (t i ++ [41])) (htx : ∀ i, i < N → (K i).value.text.size ≤ 1048576) (hl : (sRecord K t M).length ≤ 140737488355328) : Calls Tryz.prog 36 #[.agg #[.int .i64 aop, .int .i64 aat, .string atx, .int .i64 avk, .string avn, .string avx, .slice aio avi aic, .slice ayo avy ayc, .slice ano ann anc, .slice ako N kc]] w fun e w' => e = .returned (.string (bs (sRecord K t M))) ∧ Below w.heap.size w w' := by
  obtain ⟨f, hf⟩ : ∃ f, f = (fun i => (if 0 < i then [44, 32] else []) ++ (pKe (t (2 * i)) (K (2 * i)) ++ ([58, 32] ++ pHd (t (2 * i + 1)) (K (2 * i + 1)) 3))) := ⟨_, rfl⟩
  have e0 : sRecord K t M = [123] ++ (fl f M ++ [125]) := by rw [hf]; rfl
  rw [e0] at hl ⊢
  have HF := Hid.mk hf
  have HK := Hid.mk hK
  have HKO := Hid.mk hko
  have HL := Hid.mk hl
  have HTX := Hid.mk htx
  have hM1 : N ≤ 2 * M := by omega
  have hM2 : 2 * M ≤ N := by omega
  have HM := Hid.mk hM
  clear e0 hf hK hko hl htx hM
  obtain ⟨W1, hW1⟩ : ∃ W1, w.alloc (.cells #[.int .i64 aop, .int .i64 aat, .string atx, .int .i64 avk, .string avn, .string avx, .slice aio avi aic, .slice ayo avy ayc, .slice ano ann anc, .slice ako N kc] 28) = W1 := ⟨_, rfl⟩
  have HX1 := Hid.mk (B1.new hW1)
  go_enter Tryz.func36, Tryz.ntmps36
  go_wp2_with fail
  go_loopw [3, 4] (fun sv i wr => ∃ (Z : ByteArray) (k : Nat), k ≤ M ∧ sv = .string Z ∧ i = .int .i64 (2 * (k : Int)) ∧ Hid (Z = bs ([123] ++ fl f k)) ∧ Hid (B1 w #[.int .i64 aop, .int .i64 aat, .string atx, .int .i64 avk, .string avn, .string avx, .slice aio avi aic, .slice ayo avy ayc, .slice ano ann anc, .slice ako N kc] 28 wr)) (fun _ i _ => N - (intOf i).toNat)
  case atStart => exact ⟨_, 0, Nat.zero_le _, rfl, rfl, rfl, HX1⟩
  case round =>
    clear hW1 HX1
    obtain ⟨Z, k, hk, rfl, rfl, HZ, HX⟩ := hrel
    obtain ⟨x0, x1, x2, x3, x4, x5, x6, x7, x8, x9⟩ := nd_cells HX.out.a
    have hZs : Z.size ≤ 140737488355328 := by
      rw [HZ.out, bs_size]
      have h1 := fl_pre f hk
      have h2 := HL.out
      simp only [List.length_append, List.length_cons, List.length_nil] at h2 ⊢
      omega
    have hwr : IntKind.i64.wrap (2 * (k : Int) + 1) = 2 * (k : Int) + 1 := by rw [IntKind.wrap_i64]; omega
    by_cases hlt : k < M
    · have hl1 : 2 * (k : Int) + 1 < (N : Int) := by omega
      have hl2 : 2 * (k : Int) < (N : Int) := by omega
      have hl0 : (0 : Int) ≤ 2 * (k : Int) := by omega
      have hl3 : (0 : Int) ≤ 2 * (k : Int) + 1 := by omega
      have hwr2 : IntKind.i64.wrap (2 * (k : Int) + 2) = 2 * (k : Int) + 2 := by rw [IntKind.wrap_i64]; omega
      have e1 : (2 * (k : Int)).toNat = 2 * k := by omega
      have e2 : (2 * (k : Int) + 1).toNat = 2 * k + 1 := by omega
      obtain rfl := HKO.out (by omega)
      obtain ⟨c, hrk, hk0, hk3, hkj, hk11⟩ := HK.out (2 * k) (by omega)
      obtain ⟨d, hrd, hd0, hd3, hdj, hd11⟩ := HK.out (2 * k + 1) (by omega)
      obtain ⟨kat, kvk, ktx, kvn, i1, i2, i3, i4, n1, m1, n2, m2, n3, m3, n4, m4, rfl⟩ := rk_shape hrk
      have hIx0 : ∀ u, Below w.heap.size w u → Calls Tryz.prog 58 #[.agg #[.int .i64 (K (2 * k)).op, .int .i64 kat, .string ktx, .int .i64 kvk, .string kvn, .string (K (2 * k)).value.text, .slice i1 n1 m1, .slice i2 n2 m2, .slice i3 n3 m3, .slice i4 n4 m4]] u fun e w' => e = .returned (.bool (pTx (K (2 * k)))) ∧ Below u.heap.size u w' := fun u hu => w_risText h (K (2 * k)) _ u (hrk.agg.low hu)
      unfold KdK at hk0
      simp only [c10_0, c10_1, c10_2, c10_3, c10_4, c10_5, c10_6, c10_7, c10_8, c10_9] at hk0 hkj
      have HRc := Hid.mk hrk
      have HRd := Hid.mk hrd
      have HU := Hid.mk (fl_succ f k)
      have HLk : Hid ((f k).length ≤ 140737488355328) := by
        have h1 := fl_pre f (show k + 1 ≤ M by omega)
        rw [HU.out] at h1
        have h2 := HL.out
        show _ ≤ _
        simp only [List.length_append, List.length_cons, List.length_nil] at h1 h2 ⊢
        omega
      have HFk : Hid (f k = (if 0 < k then [44, 32] else []) ++ (pKe (t (2 * k)) (K (2 * k)) ++ ([58, 32] ++ pHd (t (2 * k + 1)) (K (2 * k + 1)) 3))) := by show _ = _; rw [HF.out]
      obtain ⟨hP1, hP2⟩ : (pKe (t (2 * k)) (K (2 * k))).length ≤ 140737488355328 ∧ (pHd (t (2 * k + 1)) (K (2 * k + 1)) 3).length ≤ 140737488355328 := by
        have h1 := HLk.out
        rw [HFk.out] at h1
        simp only [List.length_append, List.length_cons, List.length_nil] at h1
        omega
      have hVs : (bs (pHd (t (2 * k + 1)) (K (2 * k + 1)) 3)).size ≤ 140737488355328 := by rw [bs_size]; exact hP2
      have hYs : (bs (t (2 * k))).size ≤ 140737488355328 := by rw [bs_size]; exact hrk.len
      have HD3 := Hid.mk hd3
      have HK0 := Hid.mk hk0
      have HKj := Hid.mk hkj
      have HK11 := Hid.mk hk11
      have HIx := Hid.mk hIx0
      have HKy := Hid.mk (fun u => w_rKey (K (2 * k)).value.text u (HTX.out (2 * k) (by omega)))
      unfold KdK at HD3
      clear hrk hrd hIx0 hk0 hk3 hkj hk11 hd0 hd3 hdj hd11 HLk
      obtain ⟨y0, y1, y2, y3, y4, y5, y6, y7, y8, y9⟩ := HRc.out.cells HX.out.below
      simp only [c10_0, c10_1, c10_2, c10_3, c10_4, c10_5, c10_6, c10_7, c10_8, c10_9] at y0 y1 y2 y3 y4 y5 y6 y7 y8 y9
      clear HRc
      by_cases hz : 0 < k
      · skip
        have hz1 : (0 : Int) < 2 * (k : Int) := by omega
        have f0 : ¬ 9223372036854775807 < Z.size + 2 := by omega
        rw [if_pos hz] at HFk
        go_wp2_with fail
        generalize hq : wr.alloc (.cells #[.int .i64 (K (2 * k)).op, .int .i64 kat, .string ktx, .int .i64 kvk, .string kvn, .string (K (2 * k)).value.text, .slice i1 n1 m1, .slice i2 n2 m2, .slice i3 n3 m3, .slice i4 n4 m4] 28) = wq
        have HQ := Hid.mk (B1.new hq)
        have HXq := Hid.mk (HX.out.keep HQ.out.below)
        clear hq y0 y1 y2 y3 y4 y5 y6 y7 y8 y9 x0 x1 x2 x3 x4 x5 x6 x7 x8 x9
        obtain ⟨z0, z1, z2, z3, z4, z5, z6, z7, z8, z9⟩ := nd_cells HQ.out.a
        try go_wp2_with fail
        refine (HIx.out _ HXq.out.below).mono ?_
        rintro e w2 ⟨rfl, hb⟩
        have HX2 := Hid.mk (HXq.out.keep hb)
        have HQ2 := Hid.mk (HQ.out.keep hb)
        clear hb z0 z1 z2 z3 z4 z5 z6 z7 z8 z9
        obtain ⟨z0, z1, z2, z3, z4, z5, z6, z7, z8, z9⟩ := nd_cells HQ2.out.a
        generalize hbt : pTx (K (2 * k)) = bt at *
        cases bt with
        | true =>
          have HKe : Hid (pKe (t (2 * k)) (K (2 * k)) = pKy (K (2 * k)).value.text) := by show _ = _; unfold pKe; rw [hbt, if_pos rfl]
          have hKs : (bs (pKy (K (2 * k)).value.text)).size ≤ 140737488355328 := by rw [bs_size, ← HKe.out]; exact hP1
          have HEnd : Hid ((Z ++ ⟨#[44, 32]⟩) ++ bs (pKy (K (2 * k)).value.text) ++ ⟨#[58, 32]⟩ ++ bs (pHd (t (2 * k + 1)) (K (2 * k + 1)) 3) = bs ([123] ++ fl f (k + 1))) := by
            show (Z ++ bs [44, 32]) ++ bs (pKy (K (2 * k)).value.text) ++ bs [58, 32] ++ bs (pHd (t (2 * k + 1)) (K (2 * k + 1)) 3) = _
            rw [HZ.out, HU.out, HFk.out, HKe.out]
            simp only [bs_app, List.append_assoc]
          have HKy2 : Hid (∀ u, Calls Tryz.prog 9 #[.string (K (2 * k)).value.text] u fun e w' => e = .returned (.tuple #[.string (bs (pKy (K (2 * k)).value.text)), .int .i64 (pKe1 (K (2 * k)).value.text)]) ∧ Below u.heap.size u w') := HKy.out
          clear HKy HKe hP1 hbt
          generalize bs (pKy (K (2 * k)).value.text) = Y1 at *
          generalize pKe1 (K (2 * k)).value.text = er at *
          have g0 : ¬ 9223372036854775807 < Z.size + 2 + Y1.size := by omega
          go_wp2_with fail
          refine (HKy2.out _).mono ?_
          rintro e w3 ⟨rfl, hb⟩
          have HX3 := Hid.mk (HX2.out.keep hb)
          clear hb z0 z1 z2 z3 z4 z5 z6 z7 z8 z9
          obtain ⟨x0, x1, x2, x3, x4, x5, x6, x7, x8, x9⟩ := nd_cells HX3.out.a
          obtain ⟨y0, y1, y2, y3, y4, y5, y6, y7, y8, y9⟩ := HRd.out.cells HX3.out.below
          generalize bs (pHd (t (2 * k + 1)) (K (2 * k + 1)) 3) = V at *
          have g1 : ¬ 9223372036854775807 < Z.size + 2 + Y1.size + 2 := by omega
          have g2 : ¬ 9223372036854775807 < Z.size + 2 + Y1.size + 2 + V.size := by omega
          go_wp2_with fail
          refine (HD3.out _ HX3.out.below).mono ?_
          rintro e w4 ⟨rfl, hb⟩
          have HX4 := Hid.mk (HX3.out.keep hb)
          clear hb y0 y1 y2 y3 y4 y5 y6 y7 y8 y9 x0 x1 x2 x3 x4 x5 x6 x7 x8 x9
          go_wp2_with fail
          go_roundw
          case rel => exact ⟨_, k + 1, by omega, rfl, by first | rfl | (congr 1; omega) | go_num, HEnd, HX4⟩
          case measure => simp [intOf]; omega
        | false =>
          clear HKy
          by_cases h3 : (K (2 * k)).op = 3
          · have HKe : Hid (pKe (t (2 * k)) (K (2 * k)) = t (2 * k)) := by show _ = _; unfold pKe; rw [hbt, if_neg (by decide), if_pos h3]
            have HEnd : Hid ((Z ++ ⟨#[44, 32]⟩) ++ bs (t (2 * k)) ++ ⟨#[58, 32]⟩ ++ bs (pHd (t (2 * k + 1)) (K (2 * k + 1)) 3) = bs ([123] ++ fl f (k + 1))) := by
              show (Z ++ bs [44, 32]) ++ bs (t (2 * k)) ++ bs [58, 32] ++ bs (pHd (t (2 * k + 1)) (K (2 * k + 1)) 3) = _
              rw [HZ.out, HU.out, HFk.out, HKe.out]
              simp only [bs_app, List.append_assoc]
            have HJ := Hid.mk (HKj.out h3)
            rw [h3] at z0 HJ
            clear HKe hP1 hbt HKj
            generalize bs (t (2 * k)) = Y1 at *
            have g0 : ¬ 9223372036854775807 < Z.size + 2 + Y1.size := by omega
            go_wp2_with fail
            refine (HJ.out _ HX2.out.below).mono ?_
            rintro e w3 ⟨rfl, hb⟩
            have HX3 := Hid.mk (HX2.out.keep hb)
            clear hb z0 z1 z2 z3 z4 z5 z6 z7 z8 z9
            obtain ⟨x0, x1, x2, x3, x4, x5, x6, x7, x8, x9⟩ := nd_cells HX3.out.a
            obtain ⟨y0, y1, y2, y3, y4, y5, y6, y7, y8, y9⟩ := HRd.out.cells HX3.out.below
            generalize bs (pHd (t (2 * k + 1)) (K (2 * k + 1)) 3) = V at *
            have g1 : ¬ 9223372036854775807 < Z.size + 2 + Y1.size + 2 := by omega
            have g2 : ¬ 9223372036854775807 < Z.size + 2 + Y1.size + 2 + V.size := by omega
            go_wp2_with fail
            refine (HD3.out _ HX3.out.below).mono ?_
            rintro e w4 ⟨rfl, hb⟩
            have HX4 := Hid.mk (HX3.out.keep hb)
            clear hb y0 y1 y2 y3 y4 y5 y6 y7 y8 y9 x0 x1 x2 x3 x4 x5 x6 x7 x8 x9
            go_wp2_with fail
            go_roundw
            case rel => exact ⟨_, k + 1, by omega, rfl, by first | rfl | (congr 1; omega) | go_num, HEnd, HX4⟩
            case measure => simp [intOf]; omega
          · have b3 : ((K (2 * k)).op == 3) = false := by rw [beq_eq_false_iff_ne]; exact h3
            have HKe : Hid (pKe (t (2 * k)) (K (2 * k)) = [40] ++ (t (2 * k) ++ [41])) := by show _ = _; unfold pKe; rw [hbt, if_neg (by decide), if_neg h3, HK11.out]
            have HEnd : Hid ((Z ++ ⟨#[44, 32]⟩) ++ ⟨#[40]⟩ ++ bs (t (2 * k)) ++ ⟨#[41]⟩ ++ ⟨#[58, 32]⟩ ++ bs (pHd (t (2 * k + 1)) (K (2 * k + 1)) 3) = bs ([123] ++ fl f (k + 1))) := by
              show (Z ++ bs [44, 32]) ++ bs [40] ++ bs (t (2 * k)) ++ bs [41] ++ bs [58, 32] ++ bs (pHd (t (2 * k + 1)) (K (2 * k + 1)) 3) = _
              rw [HZ.out, HU.out, HFk.out, HKe.out]
              simp only [bs_app, List.append_assoc]
            clear HKe hP1 hbt HKj
            generalize (K (2 * k)).op = op1 at *
            generalize bs (t (2 * k)) = Y1 at *
            have g0 : ¬ 9223372036854775807 < Z.size + 2 + 1 := by omega
            have g3 : ¬ 9223372036854775807 < Z.size + 2 + 1 + Y1.size := by omega
            have g4 : ¬ 9223372036854775807 < Z.size + 2 + 1 + Y1.size + 1 := by omega
            go_wp2_with fail
            refine (HK0.out _ HX2.out.below).mono ?_
            rintro e w3 ⟨rfl, hb⟩
            have HX3 := Hid.mk (HX2.out.keep hb)
            clear hb z0 z1 z2 z3 z4 z5 z6 z7 z8 z9
            obtain ⟨x0, x1, x2, x3, x4, x5, x6, x7, x8, x9⟩ := nd_cells HX3.out.a
            obtain ⟨y0, y1, y2, y3, y4, y5, y6, y7, y8, y9⟩ := HRd.out.cells HX3.out.below
            generalize bs (pHd (t (2 * k + 1)) (K (2 * k + 1)) 3) = V at *
            have g1 : ¬ 9223372036854775807 < Z.size + 2 + 1 + Y1.size + 1 + 2 := by omega
            have g2 : ¬ 9223372036854775807 < Z.size + 2 + 1 + Y1.size + 1 + 2 + V.size := by omega
            go_wp2_with fail
            refine (HD3.out _ HX3.out.below).mono ?_
            rintro e w4 ⟨rfl, hb⟩
            have HX4 := Hid.mk (HX3.out.keep hb)
            clear hb y0 y1 y2 y3 y4 y5 y6 y7 y8 y9 x0 x1 x2 x3 x4 x5 x6 x7 x8 x9
            go_wp2_with fail
            go_roundw
            case rel => exact ⟨_, k + 1, by omega, rfl, by first | rfl | (congr 1; omega) | go_num, HEnd, HX4⟩
            case measure => simp [intOf]; omega
      · skip
        have hz1 : ¬ (0 : Int) < 2 * (k : Int) := by omega
        rw [if_neg hz, List.nil_append] at HFk
        go_wp2_with fail
        generalize hq : wr.alloc (.cells #[.int .i64 (K (2 * k)).op, .int .i64 kat, .string ktx, .int .i64 kvk, .string kvn, .string (K (2 * k)).value.text, .slice i1 n1 m1, .slice i2 n2 m2, .slice i3 n3 m3, .slice i4 n4 m4] 28) = wq
        have HQ := Hid.mk (B1.new hq)
        have HXq := Hid.mk (HX.out.keep HQ.out.below)
        clear hq y0 y1 y2 y3 y4 y5 y6 y7 y8 y9 x0 x1 x2 x3 x4 x5 x6 x7 x8 x9
        obtain ⟨z0, z1, z2, z3, z4, z5, z6, z7, z8, z9⟩ := nd_cells HQ.out.a
        try go_wp2_with fail
        refine (HIx.out _ HXq.out.below).mono ?_
        rintro e w2 ⟨rfl, hb⟩
        have HX2 := Hid.mk (HXq.out.keep hb)
        have HQ2 := Hid.mk (HQ.out.keep hb)
        clear hb z0 z1 z2 z3 z4 z5 z6 z7 z8 z9
        obtain ⟨z0, z1, z2, z3, z4, z5, z6, z7, z8, z9⟩ := nd_cells HQ2.out.a
        generalize hbt : pTx (K (2 * k)) = bt at *
        cases bt with
        | true =>
          have HKe : Hid (pKe (t (2 * k)) (K (2 * k)) = pKy (K (2 * k)).value.text) := by show _ = _; unfold pKe; rw [hbt, if_pos rfl]
          have hKs : (bs (pKy (K (2 * k)).value.text)).size ≤ 140737488355328 := by rw [bs_size, ← HKe.out]; exact hP1
          have HEnd : Hid (Z ++ bs (pKy (K (2 * k)).value.text) ++ ⟨#[58, 32]⟩ ++ bs (pHd (t (2 * k + 1)) (K (2 * k + 1)) 3) = bs ([123] ++ fl f (k + 1))) := by
            show Z ++ bs (pKy (K (2 * k)).value.text) ++ bs [58, 32] ++ bs (pHd (t (2 * k + 1)) (K (2 * k + 1)) 3) = _
            rw [HZ.out, HU.out, HFk.out, HKe.out]
            simp only [bs_app, List.append_assoc]
          have HKy2 : Hid (∀ u, Calls Tryz.prog 9 #[.string (K (2 * k)).value.text] u fun e w' => e = .returned (.tuple #[.string (bs (pKy (K (2 * k)).value.text)), .int .i64 (pKe1 (K (2 * k)).value.text)]) ∧ Below u.heap.size u w') := HKy.out
          clear HKy HKe hP1 hbt
          generalize bs (pKy (K (2 * k)).value.text) = Y1 at *
          generalize pKe1 (K (2 * k)).value.text = er at *
          have g0 : ¬ 9223372036854775807 < Z.size + Y1.size := by omega
          go_wp2_with fail
          refine (HKy2.out _).mono ?_
          rintro e w3 ⟨rfl, hb⟩
          have HX3 := Hid.mk (HX2.out.keep hb)
          clear hb z0 z1 z2 z3 z4 z5 z6 z7 z8 z9
          obtain ⟨x0, x1, x2, x3, x4, x5, x6, x7, x8, x9⟩ := nd_cells HX3.out.a
          obtain ⟨y0, y1, y2, y3, y4, y5, y6, y7, y8, y9⟩ := HRd.out.cells HX3.out.below
          generalize bs (pHd (t (2 * k + 1)) (K (2 * k + 1)) 3) = V at *
          have g1 : ¬ 9223372036854775807 < Z.size + Y1.size + 2 := by omega
          have g2 : ¬ 9223372036854775807 < Z.size + Y1.size + 2 + V.size := by omega
          go_wp2_with fail
          refine (HD3.out _ HX3.out.below).mono ?_
          rintro e w4 ⟨rfl, hb⟩
          have HX4 := Hid.mk (HX3.out.keep hb)
          clear hb y0 y1 y2 y3 y4 y5 y6 y7 y8 y9 x0 x1 x2 x3 x4 x5 x6 x7 x8 x9
          go_wp2_with fail
          go_roundw
          case rel => exact ⟨_, k + 1, by omega, rfl, by first | rfl | (congr 1; omega) | go_num, HEnd, HX4⟩
          case measure => simp [intOf]; omega
        | false =>
          clear HKy
          by_cases h3 : (K (2 * k)).op = 3
          · have HKe : Hid (pKe (t (2 * k)) (K (2 * k)) = t (2 * k)) := by show _ = _; unfold pKe; rw [hbt, if_neg (by decide), if_pos h3]
            have HEnd : Hid (Z ++ bs (t (2 * k)) ++ ⟨#[58, 32]⟩ ++ bs (pHd (t (2 * k + 1)) (K (2 * k + 1)) 3) = bs ([123] ++ fl f (k + 1))) := by
              show Z ++ bs (t (2 * k)) ++ bs [58, 32] ++ bs (pHd (t (2 * k + 1)) (K (2 * k + 1)) 3) = _
              rw [HZ.out, HU.out, HFk.out, HKe.out]
              simp only [bs_app, List.append_assoc]
            have HJ := Hid.mk (HKj.out h3)
            rw [h3] at z0 HJ
            clear HKe hP1 hbt HKj
            generalize bs (t (2 * k)) = Y1 at *
            have g0 : ¬ 9223372036854775807 < Z.size + Y1.size := by omega
            go_wp2_with fail
            refine (HJ.out _ HX2.out.below).mono ?_
            rintro e w3 ⟨rfl, hb⟩
            have HX3 := Hid.mk (HX2.out.keep hb)
            clear hb z0 z1 z2 z3 z4 z5 z6 z7 z8 z9
            obtain ⟨x0, x1, x2, x3, x4, x5, x6, x7, x8, x9⟩ := nd_cells HX3.out.a
            obtain ⟨y0, y1, y2, y3, y4, y5, y6, y7, y8, y9⟩ := HRd.out.cells HX3.out.below
            generalize bs (pHd (t (2 * k + 1)) (K (2 * k + 1)) 3) = V at *
            have g1 : ¬ 9223372036854775807 < Z.size + Y1.size + 2 := by omega
            have g2 : ¬ 9223372036854775807 < Z.size + Y1.size + 2 + V.size := by omega
            go_wp2_with fail
            refine (HD3.out _ HX3.out.below).mono ?_
            rintro e w4 ⟨rfl, hb⟩
            have HX4 := Hid.mk (HX3.out.keep hb)
            clear hb y0 y1 y2 y3 y4 y5 y6 y7 y8 y9 x0 x1 x2 x3 x4 x5 x6 x7 x8 x9
            go_wp2_with fail
            go_roundw
            case rel => exact ⟨_, k + 1, by omega, rfl, by first | rfl | (congr 1; omega) | go_num, HEnd, HX4⟩
            case measure => simp [intOf]; omega
          · have b3 : ((K (2 * k)).op == 3) = false := by rw [beq_eq_false_iff_ne]; exact h3
            have HKe : Hid (pKe (t (2 * k)) (K (2 * k)) = [40] ++ (t (2 * k) ++ [41])) := by show _ = _; unfold pKe; rw [hbt, if_neg (by decide), if_neg h3, HK11.out]
            have HEnd : Hid (Z ++ ⟨#[40]⟩ ++ bs (t (2 * k)) ++ ⟨#[41]⟩ ++ ⟨#[58, 32]⟩ ++ bs (pHd (t (2 * k + 1)) (K (2 * k + 1)) 3) = bs ([123] ++ fl f (k + 1))) := by
              show Z ++ bs [40] ++ bs (t (2 * k)) ++ bs [41] ++ bs [58, 32] ++ bs (pHd (t (2 * k + 1)) (K (2 * k + 1)) 3) = _
              rw [HZ.out, HU.out, HFk.out, HKe.out]
              simp only [bs_app, List.append_assoc]
            clear HKe hP1 hbt HKj
            generalize (K (2 * k)).op = op1 at *
            generalize bs (t (2 * k)) = Y1 at *
            have g0 : ¬ 9223372036854775807 < Z.size + 1 := by omega
            have g3 : ¬ 9223372036854775807 < Z.size + 1 + Y1.size := by omega
            have g4 : ¬ 9223372036854775807 < Z.size + 1 + Y1.size + 1 := by omega
            go_wp2_with fail
            refine (HK0.out _ HX2.out.below).mono ?_
            rintro e w3 ⟨rfl, hb⟩
            have HX3 := Hid.mk (HX2.out.keep hb)
            clear hb z0 z1 z2 z3 z4 z5 z6 z7 z8 z9
            obtain ⟨x0, x1, x2, x3, x4, x5, x6, x7, x8, x9⟩ := nd_cells HX3.out.a
            obtain ⟨y0, y1, y2, y3, y4, y5, y6, y7, y8, y9⟩ := HRd.out.cells HX3.out.below
            generalize bs (pHd (t (2 * k + 1)) (K (2 * k + 1)) 3) = V at *
            have g1 : ¬ 9223372036854775807 < Z.size + 1 + Y1.size + 1 + 2 := by omega
            have g2 : ¬ 9223372036854775807 < Z.size + 1 + Y1.size + 1 + 2 + V.size := by omega
            go_wp2_with fail
            refine (HD3.out _ HX3.out.below).mono ?_
            rintro e w4 ⟨rfl, hb⟩
            have HX4 := Hid.mk (HX3.out.keep hb)
            clear hb y0 y1 y2 y3 y4 y5 y6 y7 y8 y9 x0 x1 x2 x3 x4 x5 x6 x7 x8 x9
            go_wp2_with fail
            go_roundw
            case rel => exact ⟨_, k + 1, by omega, rfl, by first | rfl | (congr 1; omega) | go_num, HEnd, HX4⟩
            case measure => simp [intOf]; omega
    · have hl1 : ¬ 2 * (k : Int) + 1 < (N : Int) := by omega
      obtain rfl : k = M := by omega
      have HE : Hid (Z ++ ⟨#[125]⟩ = bs ([123] ++ (fl f k ++ [125]))) := by
        show Z ++ bs [125] = _
        rw [HZ.out, bs_app]
        simp only [List.append_assoc]
      have f1 : ¬ 9223372036854775807 < Z.size + 1 := by omega
      go_wp2_with fail
      go_ret
      exact ⟨congrArg (fun z => Ending.returned (.string z)) HE.out, HX.out.below⟩
end Go.Proofs.YtcadknhedfnaoaaGreatDoor
namespace Go.Proofs.YtcadknhedfnaoaaGreatDoor
open Go.RowKit Go.Shelf Go.Sort
set_option linter.unusedVariables false
set_option linter.unusedSimpArgs false
attribute [local go_sem] Oper.semAt_some

theorem bs_nil (x : ByteArray) : x ++ bs [] = x := by
  apply ByteArray.ext
  apply Array.ext'
  simp [bs]

set_option maxRecDepth 100000 in
set_option maxHeartbeats 3200000 in
theorem w_reach (w : World) (aat avk : Int) (atx avn avx : ByteArray) (aio ayo ano : Option Addr) (avi aic avy ayc ann anc : Nat) (b off N kc h : Nat) (K : Nat → NT) (t : Nat → List UInt8) (hcap : N ≤ kc) (hbig : N ≤ 140737488355328) (hN : 1 ≤ N) (c0 : Fin 10 → Value) (r0 : RK w b (off) c0 h (K 0) (t 0)) (hb0 : KdB w c0 (pBs (t 0) (K 0))) (hl : (sEach K t).length ≤ 140737488355328) : Calls Tryz.prog 37 #[.agg #[.int .i64 9, .int .i64 aat, .string atx, .int .i64 avk, .string avn, .string avx, .slice aio avi aic, .slice ayo avy ayc, .slice ano ann anc, .slice (some ⟨b, off, none⟩) N kc]] w fun e w' => e = .returned (.string (bs (sEach K t))) ∧ Below w.heap.size w w' := by
  have q0 : ((0 : Int) < (N : Int)) := by omega
  have HC0 := Hid.mk (fun u (hu : Below w.heap.size w u) => r0.cells hu)
  have HB0 := Hid.mk hb0
  have s_A : (bs (pBs (t 0) (K 0))).size ≤ 140737488355328 := by rw [bs_size]; have := hl; simp only [sEach, List.length_append, List.length_cons, List.length_nil] at this; omega
  have HE : Hid (bs (pBs (t 0) (K 0)) ++ ⟨#[91, 93]⟩ = bs (sEach K t)) := by
    show bs (pBs (t 0) (K 0)) ++ bs [91, 93] = _
    rw [bs_app]
    rfl
  obtain ⟨W1, hW1⟩ : ∃ W1, w.alloc (.cells #[.int .i64 9, .int .i64 aat, .string atx, .int .i64 avk, .string avn, .string avx, .slice aio avi aic, .slice ayo avy ayc, .slice ano ann anc, .slice (some ⟨b, off, none⟩) N kc] 28) = W1 := ⟨_, rfl⟩
  have HX1 := Hid.mk (B1.new hW1)
  clear r0 hb0 hl
  unfold KdB at HB0
  generalize bs (pBs (t 0) (K 0)) = Y0 at *
  have f0 : ¬ 9223372036854775807 < Y0.size + 2 := by omega
  go_enter Tryz.func37, Tryz.ntmps37
  obtain ⟨x0, x1, x2, x3, x4, x5, x6, x7, x8, x9⟩ := nd_cells HX1.out.a
  obtain ⟨k0_0, k0_1, k0_2, k0_3, k0_4, k0_5, k0_6, k0_7, k0_8, k0_9⟩ := HC0.out _ HX1.out.below
  go_wp2_with fail
  refine (HB0.out _ HX1.out.below).mono ?_
  rintro e w2 ⟨rfl, hb⟩
  have HX2 := Hid.mk (HX1.out.keep hb)
  clear hb hW1
  clear x0 x1 x2 x3 x4 x5 x6 x7 x8 x9 k0_0 k0_1 k0_2 k0_3 k0_4 k0_5 k0_6 k0_7 k0_8 k0_9
  obtain ⟨x0, x1, x2, x3, x4, x5, x6, x7, x8, x9⟩ := nd_cells HX2.out.a
  obtain ⟨k0_0, k0_1, k0_2, k0_3, k0_4, k0_5, k0_6, k0_7, k0_8, k0_9⟩ := HC0.out _ HX2.out.below
  go_wp2_with fail
  go_ret
  exact ⟨congrArg (fun z => Ending.returned (.string z)) HE.out, HX2.out.below⟩

set_option maxRecDepth 100000 in
set_option maxHeartbeats 3200000 in
theorem w_rslice (w : World) (aat avk : Int) (atx avn avx : ByteArray) (aio ayo ano : Option Addr) (avi aic avy ayc ann anc : Nat) (b off N kc h : Nat) (K : Nat → NT) (t : Nat → List UInt8) (hcap : N ≤ kc) (hbig : N ≤ 140737488355328) (hN : 3 ≤ N) (c0 : Fin 10 → Value) (r0 : RK w b (off) c0 h (K 0) (t 0)) (c1 : Fin 10 → Value) (r1 : RK w b (off + 10) c1 h (K 1) (t 1)) (c2 : Fin 10 → Value) (r2 : RK w b (off + 20) c2 h (K 2) (t 2)) (hb0 : KdB w c0 (pBs (t 0) (K 0))) (hk1 : (K 1).op ≠ 0 → KdK w c1 0 (t 1)) (hk2 : (K 2).op ≠ 0 → KdK w c2 0 (t 2)) (hl : (sSlice K t).length ≤ 140737488355328) : Calls Tryz.prog 37 #[.agg #[.int .i64 8, .int .i64 aat, .string atx, .int .i64 avk, .string avn, .string avx, .slice aio avi aic, .slice ayo avy ayc, .slice ano ann anc, .slice (some ⟨b, off, none⟩) N kc]] w fun e w' => e = .returned (.string (bs (sSlice K t))) ∧ Below w.heap.size w w' := by
  have q0 : ((0 : Int) < (N : Int)) := by omega
  have q1 : ((1 : Int) < (N : Int)) := by omega
  have q2 : ((2 : Int) < (N : Int)) := by omega
  have HC0 := Hid.mk (fun u (hu : Below w.heap.size w u) => r0.cells hu)
  have HC1 := Hid.mk (fun u (hu : Below w.heap.size w u) => r1.cells hu)
  have HC2 := Hid.mk (fun u (hu : Below w.heap.size w u) => r2.cells hu)
  have HB0 := Hid.mk hb0
  have HK1 := Hid.mk hk1
  have HK2 := Hid.mk hk2
  have s_A : (bs (pBs (t 0) (K 0))).size ≤ 140737488355328 := by rw [bs_size]; have := hl; simp only [sSlice, List.length_append, List.length_cons, List.length_nil] at this; omega
  have s_B : (bs (t 1)).size ≤ 140737488355328 := by rw [bs_size]; exact r1.len
  have s_C : (bs (t 2)).size ≤ 140737488355328 := by rw [bs_size]; exact r2.len
  obtain ⟨W1, hW1⟩ : ∃ W1, w.alloc (.cells #[.int .i64 8, .int .i64 aat, .string atx, .int .i64 avk, .string avn, .string avx, .slice aio avi aic, .slice ayo avy ayc, .slice ano ann anc, .slice (some ⟨b, off, none⟩) N kc] 28) = W1 := ⟨_, rfl⟩
  have HX1 := Hid.mk (B1.new hW1)
  have p1 := (rk_parts r1).1
  have p2 := (rk_parts r2).1
  unfold KdB at HB0
  unfold KdK at HK1 HK2
  have HE0 : Hid (bs (sSlice K t) = bs (pBs (t 0) (K 0)) ++ bs [91] ++ bs (pEn (t 1) (K 1)) ++ bs [58] ++ bs (pEn (t 2) (K 2)) ++ bs [93]) := by
    show _ = _
    simp only [bs_app, sSlice, List.append_assoc]
  clear r0 r1 r2 hb0 hk1 hk2 hl
  rw [HE0.out]
  generalize bs (pBs (t 0) (K 0)) = Y0 at *
  by_cases h1 : (K 1).op = 0
  · by_cases h2 : (K 2).op = 0
    · skip
      have E1 : Hid (bs (pEn (t 1) (K 1)) = bs []) := by show _ = _; unfold pEn; rw [if_pos h1]
      have E2 : Hid (bs (pEn (t 2) (K 2)) = bs []) := by show _ = _; unfold pEn; rw [if_pos h2]
      have HE : Hid (Y0 ++ ⟨#[91]⟩ ++ ⟨#[58]⟩ ++ ⟨#[93]⟩ = Y0 ++ bs [91] ++ bs (pEn (t 1) (K 1)) ++ bs [58] ++ bs (pEn (t 2) (K 2)) ++ bs [93]) := by
        show Y0 ++ bs [91] ++ bs [58] ++ bs [93] = _
        rw [E1.out, E2.out]
        simp only [bs_nil]
      rw [h1] at p1
      rw [h2] at p2
      clear HE0 E1 E2
      have f0 : ¬ 9223372036854775807 < Y0.size + 1 := by omega
      have f1 : ¬ 9223372036854775807 < Y0.size + 1 + 1 := by omega
      have f2 : ¬ 9223372036854775807 < Y0.size + 1 + 1 + 1 := by omega
      rw [p1] at HC1
      rw [p2] at HC2
      clear p1 p2
      go_enter Tryz.func37, Tryz.ntmps37
      obtain ⟨x0, x1, x2, x3, x4, x5, x6, x7, x8, x9⟩ := nd_cells HX1.out.a
      obtain ⟨k0_0, k0_1, k0_2, k0_3, k0_4, k0_5, k0_6, k0_7, k0_8, k0_9⟩ := HC0.out _ HX1.out.below
      obtain ⟨k1_0, k1_1, k1_2, k1_3, k1_4, k1_5, k1_6, k1_7, k1_8, k1_9⟩ := HC1.out _ HX1.out.below
      obtain ⟨k2_0, k2_1, k2_2, k2_3, k2_4, k2_5, k2_6, k2_7, k2_8, k2_9⟩ := HC2.out _ HX1.out.below
      go_wp2_with fail
      refine (HB0.out _ HX1.out.below).mono ?_
      rintro e w2 ⟨rfl, hb⟩
      have HX2 := Hid.mk (HX1.out.keep hb)
      clear hb hW1
      clear x0 x1 x2 x3 x4 x5 x6 x7 x8 x9 k0_0 k0_1 k0_2 k0_3 k0_4 k0_5 k0_6 k0_7 k0_8 k0_9 k1_0 k1_1 k1_2 k1_3 k1_4 k1_5 k1_6 k1_7 k1_8 k1_9 k2_0 k2_1 k2_2 k2_3 k2_4 k2_5 k2_6 k2_7 k2_8 k2_9
      obtain ⟨x0, x1, x2, x3, x4, x5, x6, x7, x8, x9⟩ := nd_cells HX2.out.a
      obtain ⟨k0_0, k0_1, k0_2, k0_3, k0_4, k0_5, k0_6, k0_7, k0_8, k0_9⟩ := HC0.out _ HX2.out.below
      obtain ⟨k1_0, k1_1, k1_2, k1_3, k1_4, k1_5, k1_6, k1_7, k1_8, k1_9⟩ := HC1.out _ HX2.out.below
      obtain ⟨k2_0, k2_1, k2_2, k2_3, k2_4, k2_5, k2_6, k2_7, k2_8, k2_9⟩ := HC2.out _ HX2.out.below
      go_wp2_with fail
      go_ret
      exact ⟨congrArg (fun z => Ending.returned (.string z)) HE.out, HX2.out.below⟩
    · skip
      have E1 : Hid (bs (pEn (t 1) (K 1)) = bs []) := by show _ = _; unfold pEn; rw [if_pos h1]
      have E2 : Hid (bs (pEn (t 2) (K 2)) = bs (t 2)) := by show _ = _; unfold pEn; rw [if_neg h2]
      have HE : Hid (Y0 ++ ⟨#[91]⟩ ++ ⟨#[58]⟩ ++ bs (t 2) ++ ⟨#[93]⟩ = Y0 ++ bs [91] ++ bs (pEn (t 1) (K 1)) ++ bs [58] ++ bs (pEn (t 2) (K 2)) ++ bs [93]) := by
        show Y0 ++ bs [91] ++ bs [58] ++ bs (t 2) ++ bs [93] = _
        rw [E1.out, E2.out]
        simp only [bs_nil]
      rw [h1] at p1
      have b2 : ((K 2).op != 0) = true := by simpa using h2
      have HK2b := Hid.mk (HK2.out h2)
      clear HE0 E1 E2
      generalize bs (t 2) = Y2 at *
      generalize hop2 : (K 2).op = op2 at *
      have f0 : ¬ 9223372036854775807 < Y0.size + 1 := by omega
      have f1 : ¬ 9223372036854775807 < Y0.size + 1 + 1 := by omega
      have f2 : ¬ 9223372036854775807 < Y0.size + 1 + 1 + Y2.size := by omega
      have f3 : ¬ 9223372036854775807 < Y0.size + 1 + 1 + Y2.size + 1 := by omega
      rw [p1] at HC1
      rw [p2] at HC2 HK2b
      clear p1 p2
      go_enter Tryz.func37, Tryz.ntmps37
      obtain ⟨x0, x1, x2, x3, x4, x5, x6, x7, x8, x9⟩ := nd_cells HX1.out.a
      obtain ⟨k0_0, k0_1, k0_2, k0_3, k0_4, k0_5, k0_6, k0_7, k0_8, k0_9⟩ := HC0.out _ HX1.out.below
      obtain ⟨k1_0, k1_1, k1_2, k1_3, k1_4, k1_5, k1_6, k1_7, k1_8, k1_9⟩ := HC1.out _ HX1.out.below
      obtain ⟨k2_0, k2_1, k2_2, k2_3, k2_4, k2_5, k2_6, k2_7, k2_8, k2_9⟩ := HC2.out _ HX1.out.below
      go_wp2_with fail
      refine (HB0.out _ HX1.out.below).mono ?_
      rintro e w2 ⟨rfl, hb⟩
      have HX2 := Hid.mk (HX1.out.keep hb)
      clear hb hW1
      clear x0 x1 x2 x3 x4 x5 x6 x7 x8 x9 k0_0 k0_1 k0_2 k0_3 k0_4 k0_5 k0_6 k0_7 k0_8 k0_9 k1_0 k1_1 k1_2 k1_3 k1_4 k1_5 k1_6 k1_7 k1_8 k1_9 k2_0 k2_1 k2_2 k2_3 k2_4 k2_5 k2_6 k2_7 k2_8 k2_9
      obtain ⟨x0, x1, x2, x3, x4, x5, x6, x7, x8, x9⟩ := nd_cells HX2.out.a
      obtain ⟨k0_0, k0_1, k0_2, k0_3, k0_4, k0_5, k0_6, k0_7, k0_8, k0_9⟩ := HC0.out _ HX2.out.below
      obtain ⟨k1_0, k1_1, k1_2, k1_3, k1_4, k1_5, k1_6, k1_7, k1_8, k1_9⟩ := HC1.out _ HX2.out.below
      obtain ⟨k2_0, k2_1, k2_2, k2_3, k2_4, k2_5, k2_6, k2_7, k2_8, k2_9⟩ := HC2.out _ HX2.out.below
      go_wp2_with fail
      refine (HK2b.out _ HX2.out.below).mono ?_
      rintro e w3 ⟨rfl, hb⟩
      have HX3 := Hid.mk (HX2.out.keep hb)
      clear hb
      clear x0 x1 x2 x3 x4 x5 x6 x7 x8 x9 k0_0 k0_1 k0_2 k0_3 k0_4 k0_5 k0_6 k0_7 k0_8 k0_9 k1_0 k1_1 k1_2 k1_3 k1_4 k1_5 k1_6 k1_7 k1_8 k1_9 k2_0 k2_1 k2_2 k2_3 k2_4 k2_5 k2_6 k2_7 k2_8 k2_9
      obtain ⟨x0, x1, x2, x3, x4, x5, x6, x7, x8, x9⟩ := nd_cells HX3.out.a
      obtain ⟨k0_0, k0_1, k0_2, k0_3, k0_4, k0_5, k0_6, k0_7, k0_8, k0_9⟩ := HC0.out _ HX3.out.below
      obtain ⟨k1_0, k1_1, k1_2, k1_3, k1_4, k1_5, k1_6, k1_7, k1_8, k1_9⟩ := HC1.out _ HX3.out.below
      obtain ⟨k2_0, k2_1, k2_2, k2_3, k2_4, k2_5, k2_6, k2_7, k2_8, k2_9⟩ := HC2.out _ HX3.out.below
      go_wp2_with fail
      go_ret
      exact ⟨congrArg (fun z => Ending.returned (.string z)) HE.out, HX3.out.below⟩
  · by_cases h2 : (K 2).op = 0
    · skip
      have E1 : Hid (bs (pEn (t 1) (K 1)) = bs (t 1)) := by show _ = _; unfold pEn; rw [if_neg h1]
      have E2 : Hid (bs (pEn (t 2) (K 2)) = bs []) := by show _ = _; unfold pEn; rw [if_pos h2]
      have HE : Hid (Y0 ++ ⟨#[91]⟩ ++ bs (t 1) ++ ⟨#[58]⟩ ++ ⟨#[93]⟩ = Y0 ++ bs [91] ++ bs (pEn (t 1) (K 1)) ++ bs [58] ++ bs (pEn (t 2) (K 2)) ++ bs [93]) := by
        show Y0 ++ bs [91] ++ bs (t 1) ++ bs [58] ++ bs [93] = _
        rw [E1.out, E2.out]
        simp only [bs_nil]
      have b1 : ((K 1).op != 0) = true := by simpa using h1
      have HK1b := Hid.mk (HK1.out h1)
      rw [h2] at p2
      clear HE0 E1 E2
      generalize bs (t 1) = Y1 at *
      generalize hop1 : (K 1).op = op1 at *
      have f0 : ¬ 9223372036854775807 < Y0.size + 1 := by omega
      have f1 : ¬ 9223372036854775807 < Y0.size + 1 + Y1.size := by omega
      have f2 : ¬ 9223372036854775807 < Y0.size + 1 + Y1.size + 1 := by omega
      have f3 : ¬ 9223372036854775807 < Y0.size + 1 + Y1.size + 1 + 1 := by omega
      rw [p1] at HC1 HK1b
      rw [p2] at HC2
      clear p1 p2
      go_enter Tryz.func37, Tryz.ntmps37
      obtain ⟨x0, x1, x2, x3, x4, x5, x6, x7, x8, x9⟩ := nd_cells HX1.out.a
      obtain ⟨k0_0, k0_1, k0_2, k0_3, k0_4, k0_5, k0_6, k0_7, k0_8, k0_9⟩ := HC0.out _ HX1.out.below
      obtain ⟨k1_0, k1_1, k1_2, k1_3, k1_4, k1_5, k1_6, k1_7, k1_8, k1_9⟩ := HC1.out _ HX1.out.below
      obtain ⟨k2_0, k2_1, k2_2, k2_3, k2_4, k2_5, k2_6, k2_7, k2_8, k2_9⟩ := HC2.out _ HX1.out.below
      go_wp2_with fail
      refine (HB0.out _ HX1.out.below).mono ?_
      rintro e w2 ⟨rfl, hb⟩
      have HX2 := Hid.mk (HX1.out.keep hb)
      clear hb hW1
      clear x0 x1 x2 x3 x4 x5 x6 x7 x8 x9 k0_0 k0_1 k0_2 k0_3 k0_4 k0_5 k0_6 k0_7 k0_8 k0_9 k1_0 k1_1 k1_2 k1_3 k1_4 k1_5 k1_6 k1_7 k1_8 k1_9 k2_0 k2_1 k2_2 k2_3 k2_4 k2_5 k2_6 k2_7 k2_8 k2_9
      obtain ⟨x0, x1, x2, x3, x4, x5, x6, x7, x8, x9⟩ := nd_cells HX2.out.a
      obtain ⟨k0_0, k0_1, k0_2, k0_3, k0_4, k0_5, k0_6, k0_7, k0_8, k0_9⟩ := HC0.out _ HX2.out.below
      obtain ⟨k1_0, k1_1, k1_2, k1_3, k1_4, k1_5, k1_6, k1_7, k1_8, k1_9⟩ := HC1.out _ HX2.out.below
      obtain ⟨k2_0, k2_1, k2_2, k2_3, k2_4, k2_5, k2_6, k2_7, k2_8, k2_9⟩ := HC2.out _ HX2.out.below
      go_wp2_with fail
      refine (HK1b.out _ HX2.out.below).mono ?_
      rintro e w3 ⟨rfl, hb⟩
      have HX3 := Hid.mk (HX2.out.keep hb)
      clear hb
      clear x0 x1 x2 x3 x4 x5 x6 x7 x8 x9 k0_0 k0_1 k0_2 k0_3 k0_4 k0_5 k0_6 k0_7 k0_8 k0_9 k1_0 k1_1 k1_2 k1_3 k1_4 k1_5 k1_6 k1_7 k1_8 k1_9 k2_0 k2_1 k2_2 k2_3 k2_4 k2_5 k2_6 k2_7 k2_8 k2_9
      obtain ⟨x0, x1, x2, x3, x4, x5, x6, x7, x8, x9⟩ := nd_cells HX3.out.a
      obtain ⟨k0_0, k0_1, k0_2, k0_3, k0_4, k0_5, k0_6, k0_7, k0_8, k0_9⟩ := HC0.out _ HX3.out.below
      obtain ⟨k1_0, k1_1, k1_2, k1_3, k1_4, k1_5, k1_6, k1_7, k1_8, k1_9⟩ := HC1.out _ HX3.out.below
      obtain ⟨k2_0, k2_1, k2_2, k2_3, k2_4, k2_5, k2_6, k2_7, k2_8, k2_9⟩ := HC2.out _ HX3.out.below
      go_wp2_with fail
      go_ret
      exact ⟨congrArg (fun z => Ending.returned (.string z)) HE.out, HX3.out.below⟩
    · skip
      have E1 : Hid (bs (pEn (t 1) (K 1)) = bs (t 1)) := by show _ = _; unfold pEn; rw [if_neg h1]
      have E2 : Hid (bs (pEn (t 2) (K 2)) = bs (t 2)) := by show _ = _; unfold pEn; rw [if_neg h2]
      have HE : Hid (Y0 ++ ⟨#[91]⟩ ++ bs (t 1) ++ ⟨#[58]⟩ ++ bs (t 2) ++ ⟨#[93]⟩ = Y0 ++ bs [91] ++ bs (pEn (t 1) (K 1)) ++ bs [58] ++ bs (pEn (t 2) (K 2)) ++ bs [93]) := by
        show Y0 ++ bs [91] ++ bs (t 1) ++ bs [58] ++ bs (t 2) ++ bs [93] = _
        rw [E1.out, E2.out]
      have b1 : ((K 1).op != 0) = true := by simpa using h1
      have HK1b := Hid.mk (HK1.out h1)
      have b2 : ((K 2).op != 0) = true := by simpa using h2
      have HK2b := Hid.mk (HK2.out h2)
      clear HE0 E1 E2
      generalize bs (t 1) = Y1 at *
      generalize hop1 : (K 1).op = op1 at *
      generalize bs (t 2) = Y2 at *
      generalize hop2 : (K 2).op = op2 at *
      have f0 : ¬ 9223372036854775807 < Y0.size + 1 := by omega
      have f1 : ¬ 9223372036854775807 < Y0.size + 1 + Y1.size := by omega
      have f2 : ¬ 9223372036854775807 < Y0.size + 1 + Y1.size + 1 := by omega
      have f3 : ¬ 9223372036854775807 < Y0.size + 1 + Y1.size + 1 + Y2.size := by omega
      have f4 : ¬ 9223372036854775807 < Y0.size + 1 + Y1.size + 1 + Y2.size + 1 := by omega
      rw [p1] at HC1 HK1b
      rw [p2] at HC2 HK2b
      clear p1 p2
      go_enter Tryz.func37, Tryz.ntmps37
      obtain ⟨x0, x1, x2, x3, x4, x5, x6, x7, x8, x9⟩ := nd_cells HX1.out.a
      obtain ⟨k0_0, k0_1, k0_2, k0_3, k0_4, k0_5, k0_6, k0_7, k0_8, k0_9⟩ := HC0.out _ HX1.out.below
      obtain ⟨k1_0, k1_1, k1_2, k1_3, k1_4, k1_5, k1_6, k1_7, k1_8, k1_9⟩ := HC1.out _ HX1.out.below
      obtain ⟨k2_0, k2_1, k2_2, k2_3, k2_4, k2_5, k2_6, k2_7, k2_8, k2_9⟩ := HC2.out _ HX1.out.below
      go_wp2_with fail
      refine (HB0.out _ HX1.out.below).mono ?_
      rintro e w2 ⟨rfl, hb⟩
      have HX2 := Hid.mk (HX1.out.keep hb)
      clear hb hW1
      clear x0 x1 x2 x3 x4 x5 x6 x7 x8 x9 k0_0 k0_1 k0_2 k0_3 k0_4 k0_5 k0_6 k0_7 k0_8 k0_9 k1_0 k1_1 k1_2 k1_3 k1_4 k1_5 k1_6 k1_7 k1_8 k1_9 k2_0 k2_1 k2_2 k2_3 k2_4 k2_5 k2_6 k2_7 k2_8 k2_9
      obtain ⟨x0, x1, x2, x3, x4, x5, x6, x7, x8, x9⟩ := nd_cells HX2.out.a
      obtain ⟨k0_0, k0_1, k0_2, k0_3, k0_4, k0_5, k0_6, k0_7, k0_8, k0_9⟩ := HC0.out _ HX2.out.below
      obtain ⟨k1_0, k1_1, k1_2, k1_3, k1_4, k1_5, k1_6, k1_7, k1_8, k1_9⟩ := HC1.out _ HX2.out.below
      obtain ⟨k2_0, k2_1, k2_2, k2_3, k2_4, k2_5, k2_6, k2_7, k2_8, k2_9⟩ := HC2.out _ HX2.out.below
      go_wp2_with fail
      refine (HK1b.out _ HX2.out.below).mono ?_
      rintro e w3 ⟨rfl, hb⟩
      have HX3 := Hid.mk (HX2.out.keep hb)
      clear hb
      clear x0 x1 x2 x3 x4 x5 x6 x7 x8 x9 k0_0 k0_1 k0_2 k0_3 k0_4 k0_5 k0_6 k0_7 k0_8 k0_9 k1_0 k1_1 k1_2 k1_3 k1_4 k1_5 k1_6 k1_7 k1_8 k1_9 k2_0 k2_1 k2_2 k2_3 k2_4 k2_5 k2_6 k2_7 k2_8 k2_9
      obtain ⟨x0, x1, x2, x3, x4, x5, x6, x7, x8, x9⟩ := nd_cells HX3.out.a
      obtain ⟨k0_0, k0_1, k0_2, k0_3, k0_4, k0_5, k0_6, k0_7, k0_8, k0_9⟩ := HC0.out _ HX3.out.below
      obtain ⟨k1_0, k1_1, k1_2, k1_3, k1_4, k1_5, k1_6, k1_7, k1_8, k1_9⟩ := HC1.out _ HX3.out.below
      obtain ⟨k2_0, k2_1, k2_2, k2_3, k2_4, k2_5, k2_6, k2_7, k2_8, k2_9⟩ := HC2.out _ HX3.out.below
      go_wp2_with fail
      refine (HK2b.out _ HX3.out.below).mono ?_
      rintro e w4 ⟨rfl, hb⟩
      have HX4 := Hid.mk (HX3.out.keep hb)
      clear hb
      clear x0 x1 x2 x3 x4 x5 x6 x7 x8 x9 k0_0 k0_1 k0_2 k0_3 k0_4 k0_5 k0_6 k0_7 k0_8 k0_9 k1_0 k1_1 k1_2 k1_3 k1_4 k1_5 k1_6 k1_7 k1_8 k1_9 k2_0 k2_1 k2_2 k2_3 k2_4 k2_5 k2_6 k2_7 k2_8 k2_9
      obtain ⟨x0, x1, x2, x3, x4, x5, x6, x7, x8, x9⟩ := nd_cells HX4.out.a
      obtain ⟨k0_0, k0_1, k0_2, k0_3, k0_4, k0_5, k0_6, k0_7, k0_8, k0_9⟩ := HC0.out _ HX4.out.below
      obtain ⟨k1_0, k1_1, k1_2, k1_3, k1_4, k1_5, k1_6, k1_7, k1_8, k1_9⟩ := HC1.out _ HX4.out.below
      obtain ⟨k2_0, k2_1, k2_2, k2_3, k2_4, k2_5, k2_6, k2_7, k2_8, k2_9⟩ := HC2.out _ HX4.out.below
      go_wp2_with fail
      go_ret
      exact ⟨congrArg (fun z => Ending.returned (.string z)) HE.out, HX4.out.below⟩

set_option maxRecDepth 100000 in
set_option maxHeartbeats 3200000 in
theorem w_rindex (w : World) (aat avk : Int) (atx avn avx : ByteArray) (aio ayo ano : Option Addr) (avi aic avy ayc ann anc : Nat) (b off N kc h : Nat) (K : Nat → NT) (t : Nat → List UInt8) (hcap : N ≤ kc) (hbig : N ≤ 140737488355328) (hN : 2 ≤ N) (c0 : Fin 10 → Value) (r0 : RK w b (off) c0 h (K 0) (t 0)) (c1 : Fin 10 → Value) (r1 : RK w b (off + 10) c1 h (K 1) (t 1)) (hb0 : KdB w c0 (pBs (t 0) (K 0))) (hk1 : KdK w c1 0 (t 1)) (hz : (K 1).value.text.size ≤ 1048576) (hself : (K 0).op = 1 → pBs (t 0) (K 0) = [46]) (hl : (sIndex K t).length ≤ 140737488355328) : Calls Tryz.prog 37 #[.agg #[.int .i64 7, .int .i64 aat, .string atx, .int .i64 avk, .string avn, .string avx, .slice aio avi aic, .slice ayo avy ayc, .slice ano ann anc, .slice (some ⟨b, off, none⟩) N kc]] w fun e w' => e = .returned (.string (bs (sIndex K t))) ∧ Below w.heap.size w w' := by
  obtain ⟨kat, kvk, ktx, kvn, i1, i2, i3, i4, n1, m1, n2, m2, n3, m3, n4, m4, rfl⟩ := rk_shape r1
  have q0 : ((0 : Int) < (N : Int)) := by omega
  have q1 : ((1 : Int) < (N : Int)) := by omega
  have HC0 := Hid.mk (fun u (hu : Below w.heap.size w u) => r0.cells hu)
  have HC1 := Hid.mk (fun u (hu : Below w.heap.size w u) => r1.cells hu)
  have HB0 := Hid.mk hb0
  have HK1 := Hid.mk hk1
  have s_A : (bs (pBs (t 0) (K 0))).size ≤ 140737488355328 := by rw [bs_size]; have := hl; simp only [sIndex, List.length_append, List.length_cons, List.length_nil] at this; omega
  have s_B : (bs (t 1)).size ≤ 140737488355328 := by rw [bs_size]; exact r1.len
  have HIx : Hid (∀ u, Below w.heap.size w u → Calls Tryz.prog 58 #[.agg #[.int .i64 (K 1).op, .int .i64 kat, .string ktx, .int .i64 kvk, .string kvn, .string (K 1).value.text, .slice i1 n1 m1, .slice i2 n2 m2, .slice i3 n3 m3, .slice i4 n4 m4]] u fun e w' => e = .returned (.bool (pTx (K 1))) ∧ Below u.heap.size u w') := fun u hu => w_risText h (K 1) _ u (r1.agg.low hu)
  have HNm := Hid.mk (fun u => w_rNamed (K 1).value.text u (by omega))
  have p0 := (rk_parts r0).1
  have HSf := Hid.mk hself
  have s_T : (K 1).value.text.size ≤ 1048576 := hz
  obtain ⟨W1, hW1⟩ : ∃ W1, w.alloc (.cells #[.int .i64 7, .int .i64 aat, .string atx, .int .i64 avk, .string avn, .string avx, .slice aio avi aic, .slice ayo avy ayc, .slice ano ann anc, .slice (some ⟨b, off, none⟩) N kc] 28) = W1 := ⟨_, rfl⟩
  have HX1 := Hid.mk (B1.new hW1)
  unfold KdB at HB0
  unfold KdK at HK1
  simp only [c10_0, c10_1, c10_2, c10_3, c10_4, c10_5, c10_6, c10_7, c10_8, c10_9] at HC1 HIx HK1
  rw [p0] at HC0 HB0
  clear r0 r1 hb0 hk1 hl hself p0 hz
  unfold sIndex
  generalize pTx (K 1) = bt at *
  cases bt with
  | false =>
    rw [if_neg (fun h => by cases h.1)]
    have HE : Hid (bs (pBs (t 0) (K 0)) ++ ⟨#[91]⟩ ++ bs (t 1) ++ ⟨#[93]⟩ = bs (pBs (t 0) (K 0) ++ ([91] ++ (t 1 ++ [93])))) := by
      show bs (pBs (t 0) (K 0)) ++ bs [91] ++ bs (t 1) ++ bs [93] = _
      simp only [bs_app, List.append_assoc]
    clear HSf
    generalize bs (pBs (t 0) (K 0)) = Y0 at *
    generalize bs (t 1) = Y1 at *
    have f0 : ¬ 9223372036854775807 < Y0.size + 1 := by omega
    have f1 : ¬ 9223372036854775807 < Y0.size + 1 + Y1.size := by omega
    have f2 : ¬ 9223372036854775807 < Y0.size + 1 + Y1.size + 1 := by omega
    go_enter Tryz.func37, Tryz.ntmps37
    obtain ⟨x0, x1, x2, x3, x4, x5, x6, x7, x8, x9⟩ := nd_cells HX1.out.a
    obtain ⟨k0_0, k0_1, k0_2, k0_3, k0_4, k0_5, k0_6, k0_7, k0_8, k0_9⟩ := HC0.out _ HX1.out.below
    obtain ⟨k1_0, k1_1, k1_2, k1_3, k1_4, k1_5, k1_6, k1_7, k1_8, k1_9⟩ := HC1.out _ HX1.out.below
    go_wp2_with fail
    refine (HB0.out _ HX1.out.below).mono ?_
    rintro e w2 ⟨rfl, hb⟩
    have HX2 := Hid.mk (HX1.out.keep hb)
    clear hb hW1
    clear x0 x1 x2 x3 x4 x5 x6 x7 x8 x9 k0_0 k0_1 k0_2 k0_3 k0_4 k0_5 k0_6 k0_7 k0_8 k0_9 k1_0 k1_1 k1_2 k1_3 k1_4 k1_5 k1_6 k1_7 k1_8 k1_9
    obtain ⟨x0, x1, x2, x3, x4, x5, x6, x7, x8, x9⟩ := nd_cells HX2.out.a
    obtain ⟨k0_0, k0_1, k0_2, k0_3, k0_4, k0_5, k0_6, k0_7, k0_8, k0_9⟩ := HC0.out _ HX2.out.below
    obtain ⟨k1_0, k1_1, k1_2, k1_3, k1_4, k1_5, k1_6, k1_7, k1_8, k1_9⟩ := HC1.out _ HX2.out.below
    go_wp2_with fail
    generalize hq : w2.alloc (.cells #[.int .i64 (K 1).op, .int .i64 kat, .string ktx, .int .i64 kvk, .string kvn, .string (K 1).value.text, .slice i1 n1 m1, .slice i2 n2 m2, .slice i3 n3 m3, .slice i4 n4 m4] 28) = wq
    have HQ := Hid.mk (B1.new hq)
    have HXq := Hid.mk (HX2.out.keep HQ.out.below)
    clear hq
    clear x0 x1 x2 x3 x4 x5 x6 x7 x8 x9 k0_0 k0_1 k0_2 k0_3 k0_4 k0_5 k0_6 k0_7 k0_8 k0_9 k1_0 k1_1 k1_2 k1_3 k1_4 k1_5 k1_6 k1_7 k1_8 k1_9
    obtain ⟨z0, z1, z2, z3, z4, z5, z6, z7, z8, z9⟩ := nd_cells HQ.out.a
    try go_wp2_with fail
    refine (HIx.out _ HXq.out.below).mono ?_
    rintro e w3 ⟨rfl, hb⟩
    have HX3 := Hid.mk (HXq.out.keep hb)
    have HQ3 := Hid.mk (HQ.out.keep hb)
    clear hb z0 z1 z2 z3 z4 z5 z6 z7 z8 z9
    obtain ⟨z0, z1, z2, z3, z4, z5, z6, z7, z8, z9⟩ := nd_cells HQ3.out.a
    go_wp2_with fail
    refine (HK1.out _ HX3.out.below).mono ?_
    rintro e w4 ⟨rfl, hb⟩
    have HX4 := Hid.mk (HX3.out.keep hb)
    clear hb z0 z1 z2 z3 z4 z5 z6 z7 z8 z9
    go_wp2_with fail
    go_ret
    exact ⟨congrArg (fun z => Ending.returned (.string z)) HE.out, HX4.out.below⟩
  | true =>
    cases hn : namedB (K 1).value.text.data.toList with
    | false =>
      rw [hn] at HNm
      rw [if_neg (fun h => by cases h.2)]
      clear hn
      have HE : Hid (bs (pBs (t 0) (K 0)) ++ ⟨#[91]⟩ ++ bs (t 1) ++ ⟨#[93]⟩ = bs (pBs (t 0) (K 0) ++ ([91] ++ (t 1 ++ [93])))) := by
        show bs (pBs (t 0) (K 0)) ++ bs [91] ++ bs (t 1) ++ bs [93] = _
        simp only [bs_app, List.append_assoc]
      clear HSf
      generalize bs (pBs (t 0) (K 0)) = Y0 at *
      generalize bs (t 1) = Y1 at *
      have f0 : ¬ 9223372036854775807 < Y0.size + 1 := by omega
      have f1 : ¬ 9223372036854775807 < Y0.size + 1 + Y1.size := by omega
      have f2 : ¬ 9223372036854775807 < Y0.size + 1 + Y1.size + 1 := by omega
      go_enter Tryz.func37, Tryz.ntmps37
      obtain ⟨x0, x1, x2, x3, x4, x5, x6, x7, x8, x9⟩ := nd_cells HX1.out.a
      obtain ⟨k0_0, k0_1, k0_2, k0_3, k0_4, k0_5, k0_6, k0_7, k0_8, k0_9⟩ := HC0.out _ HX1.out.below
      obtain ⟨k1_0, k1_1, k1_2, k1_3, k1_4, k1_5, k1_6, k1_7, k1_8, k1_9⟩ := HC1.out _ HX1.out.below
      go_wp2_with fail
      refine (HB0.out _ HX1.out.below).mono ?_
      rintro e w2 ⟨rfl, hb⟩
      have HX2 := Hid.mk (HX1.out.keep hb)
      clear hb hW1
      clear x0 x1 x2 x3 x4 x5 x6 x7 x8 x9 k0_0 k0_1 k0_2 k0_3 k0_4 k0_5 k0_6 k0_7 k0_8 k0_9 k1_0 k1_1 k1_2 k1_3 k1_4 k1_5 k1_6 k1_7 k1_8 k1_9
      obtain ⟨x0, x1, x2, x3, x4, x5, x6, x7, x8, x9⟩ := nd_cells HX2.out.a
      obtain ⟨k0_0, k0_1, k0_2, k0_3, k0_4, k0_5, k0_6, k0_7, k0_8, k0_9⟩ := HC0.out _ HX2.out.below
      obtain ⟨k1_0, k1_1, k1_2, k1_3, k1_4, k1_5, k1_6, k1_7, k1_8, k1_9⟩ := HC1.out _ HX2.out.below
      go_wp2_with fail
      generalize hq : w2.alloc (.cells #[.int .i64 (K 1).op, .int .i64 kat, .string ktx, .int .i64 kvk, .string kvn, .string (K 1).value.text, .slice i1 n1 m1, .slice i2 n2 m2, .slice i3 n3 m3, .slice i4 n4 m4] 28) = wq
      have HQ := Hid.mk (B1.new hq)
      have HXq := Hid.mk (HX2.out.keep HQ.out.below)
      clear hq
      clear x0 x1 x2 x3 x4 x5 x6 x7 x8 x9 k0_0 k0_1 k0_2 k0_3 k0_4 k0_5 k0_6 k0_7 k0_8 k0_9 k1_0 k1_1 k1_2 k1_3 k1_4 k1_5 k1_6 k1_7 k1_8 k1_9
      obtain ⟨z0, z1, z2, z3, z4, z5, z6, z7, z8, z9⟩ := nd_cells HQ.out.a
      try go_wp2_with fail
      refine (HIx.out _ HXq.out.below).mono ?_
      rintro e w3 ⟨rfl, hb⟩
      have HX3 := Hid.mk (HXq.out.keep hb)
      have HQ3 := Hid.mk (HQ.out.keep hb)
      clear hb z0 z1 z2 z3 z4 z5 z6 z7 z8 z9
      obtain ⟨z0, z1, z2, z3, z4, z5, z6, z7, z8, z9⟩ := nd_cells HQ3.out.a
      go_wp2_with fail
      refine (HNm.out _).mono ?_
      rintro e wx ⟨rfl, hwx⟩
      obtain rfl := hwx.symm
      go_wp2_with fail
      refine (HK1.out _ HX3.out.below).mono ?_
      rintro e w4 ⟨rfl, hb⟩
      have HX4 := Hid.mk (HX3.out.keep hb)
      clear hb z0 z1 z2 z3 z4 z5 z6 z7 z8 z9
      go_wp2_with fail
      go_ret
      exact ⟨congrArg (fun z => Ending.returned (.string z)) HE.out, HX4.out.below⟩
    | true =>
      rw [hn] at HNm
      rw [if_pos ⟨rfl, rfl⟩]
      clear hn HK1
      generalize (K 1).value.text = tx at *
      by_cases h1 : (K 0).op = 1
      · rw [if_pos h1, List.nil_append, HSf.out h1]
        rw [h1] at HC0 HB0
        have HE : Hid ((⟨#[46]⟩ : ByteArray) ++ tx = bs ([46] ++ tx.data.toList)) := by
          show bs [46] ++ bs tx.data.toList = _
          rw [bs_app]
        clear HSf
        generalize bs (pBs (t 0) (K 0)) = Y0 at *
        have f0 : ¬ 9223372036854775807 < 1 + tx.size := by omega
        go_enter Tryz.func37, Tryz.ntmps37
        obtain ⟨x0, x1, x2, x3, x4, x5, x6, x7, x8, x9⟩ := nd_cells HX1.out.a
        obtain ⟨k0_0, k0_1, k0_2, k0_3, k0_4, k0_5, k0_6, k0_7, k0_8, k0_9⟩ := HC0.out _ HX1.out.below
        obtain ⟨k1_0, k1_1, k1_2, k1_3, k1_4, k1_5, k1_6, k1_7, k1_8, k1_9⟩ := HC1.out _ HX1.out.below
        go_wp2_with fail
        refine (HB0.out _ HX1.out.below).mono ?_
        rintro e w2 ⟨rfl, hb⟩
        have HX2 := Hid.mk (HX1.out.keep hb)
        clear hb hW1
        clear x0 x1 x2 x3 x4 x5 x6 x7 x8 x9 k0_0 k0_1 k0_2 k0_3 k0_4 k0_5 k0_6 k0_7 k0_8 k0_9 k1_0 k1_1 k1_2 k1_3 k1_4 k1_5 k1_6 k1_7 k1_8 k1_9
        obtain ⟨x0, x1, x2, x3, x4, x5, x6, x7, x8, x9⟩ := nd_cells HX2.out.a
        obtain ⟨k0_0, k0_1, k0_2, k0_3, k0_4, k0_5, k0_6, k0_7, k0_8, k0_9⟩ := HC0.out _ HX2.out.below
        obtain ⟨k1_0, k1_1, k1_2, k1_3, k1_4, k1_5, k1_6, k1_7, k1_8, k1_9⟩ := HC1.out _ HX2.out.below
        go_wp2_with fail
        generalize hq : w2.alloc (.cells #[.int .i64 (K 1).op, .int .i64 kat, .string ktx, .int .i64 kvk, .string kvn, .string tx, .slice i1 n1 m1, .slice i2 n2 m2, .slice i3 n3 m3, .slice i4 n4 m4] 28) = wq
        have HQ := Hid.mk (B1.new hq)
        have HXq := Hid.mk (HX2.out.keep HQ.out.below)
        clear hq
        clear x0 x1 x2 x3 x4 x5 x6 x7 x8 x9 k0_0 k0_1 k0_2 k0_3 k0_4 k0_5 k0_6 k0_7 k0_8 k0_9 k1_0 k1_1 k1_2 k1_3 k1_4 k1_5 k1_6 k1_7 k1_8 k1_9
        obtain ⟨z0, z1, z2, z3, z4, z5, z6, z7, z8, z9⟩ := nd_cells HQ.out.a
        try go_wp2_with fail
        refine (HIx.out _ HXq.out.below).mono ?_
        rintro e w3 ⟨rfl, hb⟩
        have HX3 := Hid.mk (HXq.out.keep hb)
        have HQ3 := Hid.mk (HQ.out.keep hb)
        clear hb z0 z1 z2 z3 z4 z5 z6 z7 z8 z9
        obtain ⟨z0, z1, z2, z3, z4, z5, z6, z7, z8, z9⟩ := nd_cells HQ3.out.a
        go_wp2_with fail
        refine (HNm.out _).mono ?_
        rintro e wx ⟨rfl, hwx⟩
        obtain rfl := hwx.symm
        obtain ⟨x0, x1, x2, x3, x4, x5, x6, x7, x8, x9⟩ := nd_cells HX3.out.a
        obtain ⟨k0_0, k0_1, k0_2, k0_3, k0_4, k0_5, k0_6, k0_7, k0_8, k0_9⟩ := HC0.out _ HX3.out.below
        go_wp2_with fail
        go_ret
        exact ⟨congrArg (fun z => Ending.returned (.string z)) HE.out, HX3.out.below⟩
      · have b1 : ((K 0).op == 1) = false := by rw [beq_eq_false_iff_ne]; exact h1
        rw [if_neg h1]
        have HE : Hid (bs (pBs (t 0) (K 0)) ++ ⟨#[46]⟩ ++ tx = bs (pBs (t 0) (K 0) ++ ([46] ++ tx.data.toList))) := by
          show bs (pBs (t 0) (K 0)) ++ bs [46] ++ bs tx.data.toList = _
          simp only [bs_app, List.append_assoc]
        clear HSf
        generalize bs (pBs (t 0) (K 0)) = Y0 at *
        generalize (K 0).op = op0 at *
        have f0 : ¬ 9223372036854775807 < Y0.size + 1 := by omega
        have f1 : ¬ 9223372036854775807 < Y0.size + 1 + tx.size := by omega
        go_enter Tryz.func37, Tryz.ntmps37
        obtain ⟨x0, x1, x2, x3, x4, x5, x6, x7, x8, x9⟩ := nd_cells HX1.out.a
        obtain ⟨k0_0, k0_1, k0_2, k0_3, k0_4, k0_5, k0_6, k0_7, k0_8, k0_9⟩ := HC0.out _ HX1.out.below
        obtain ⟨k1_0, k1_1, k1_2, k1_3, k1_4, k1_5, k1_6, k1_7, k1_8, k1_9⟩ := HC1.out _ HX1.out.below
        go_wp2_with fail
        refine (HB0.out _ HX1.out.below).mono ?_
        rintro e w2 ⟨rfl, hb⟩
        have HX2 := Hid.mk (HX1.out.keep hb)
        clear hb hW1
        clear x0 x1 x2 x3 x4 x5 x6 x7 x8 x9 k0_0 k0_1 k0_2 k0_3 k0_4 k0_5 k0_6 k0_7 k0_8 k0_9 k1_0 k1_1 k1_2 k1_3 k1_4 k1_5 k1_6 k1_7 k1_8 k1_9
        obtain ⟨x0, x1, x2, x3, x4, x5, x6, x7, x8, x9⟩ := nd_cells HX2.out.a
        obtain ⟨k0_0, k0_1, k0_2, k0_3, k0_4, k0_5, k0_6, k0_7, k0_8, k0_9⟩ := HC0.out _ HX2.out.below
        obtain ⟨k1_0, k1_1, k1_2, k1_3, k1_4, k1_5, k1_6, k1_7, k1_8, k1_9⟩ := HC1.out _ HX2.out.below
        go_wp2_with fail
        generalize hq : w2.alloc (.cells #[.int .i64 (K 1).op, .int .i64 kat, .string ktx, .int .i64 kvk, .string kvn, .string tx, .slice i1 n1 m1, .slice i2 n2 m2, .slice i3 n3 m3, .slice i4 n4 m4] 28) = wq
        have HQ := Hid.mk (B1.new hq)
        have HXq := Hid.mk (HX2.out.keep HQ.out.below)
        clear hq
        clear x0 x1 x2 x3 x4 x5 x6 x7 x8 x9 k0_0 k0_1 k0_2 k0_3 k0_4 k0_5 k0_6 k0_7 k0_8 k0_9 k1_0 k1_1 k1_2 k1_3 k1_4 k1_5 k1_6 k1_7 k1_8 k1_9
        obtain ⟨z0, z1, z2, z3, z4, z5, z6, z7, z8, z9⟩ := nd_cells HQ.out.a
        try go_wp2_with fail
        refine (HIx.out _ HXq.out.below).mono ?_
        rintro e w3 ⟨rfl, hb⟩
        have HX3 := Hid.mk (HXq.out.keep hb)
        have HQ3 := Hid.mk (HQ.out.keep hb)
        clear hb z0 z1 z2 z3 z4 z5 z6 z7 z8 z9
        obtain ⟨z0, z1, z2, z3, z4, z5, z6, z7, z8, z9⟩ := nd_cells HQ3.out.a
        go_wp2_with fail
        refine (HNm.out _).mono ?_
        rintro e wx ⟨rfl, hwx⟩
        obtain rfl := hwx.symm
        obtain ⟨x0, x1, x2, x3, x4, x5, x6, x7, x8, x9⟩ := nd_cells HX3.out.a
        obtain ⟨k0_0, k0_1, k0_2, k0_3, k0_4, k0_5, k0_6, k0_7, k0_8, k0_9⟩ := HC0.out _ HX3.out.below
        go_wp2_with fail
        go_ret
        exact ⟨congrArg (fun z => Ending.returned (.string z)) HE.out, HX3.out.below⟩
end Go.Proofs.YtcadknhedfnaoaaGreatDoor
