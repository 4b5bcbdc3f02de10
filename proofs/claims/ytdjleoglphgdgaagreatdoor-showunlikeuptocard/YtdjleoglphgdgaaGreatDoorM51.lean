import Derived.Test.YtdjleoglphgdgaaGreatDoorM47
import Derived.Test.YtdjleoglphgdgaaGreatDoorM50
import Derived.Test.YtdjleoglphgdgaaGreatDoorM29
import Derived.Test.YtdjleoglphgdgaaGreatDoorM16
import Derived.Test.YtdjleoglphgdgaaGreatDoorM26
import Derived.Test.YtdjleoglphgdgaaGreatDoorM46
import Derived.Test.YtdjleoglphgdgaaGreatDoorM41
import Derived.Test.YtdjleoglphgdgaaGreatDoorM34
import Derived.Test.YtdjleoglphgdgaaGreatDoorM39
import Derived.Test.YtdjleoglphgdgaaGreatDoorM44
namespace Go.Proofs.YtdjleoglphgdgaaGreatDoor
open Go.RowKit
set_option linter.unusedVariables false
set_option linter.unusedSimpArgs false

set_option maxHeartbeats 1600000 in
set_option maxRecDepth 100000 in
theorem w_String (B S : Nat) (l : List UInt8) (w : World) (h : Pen B S w l) :
    Calls Tryz.prog 27 #[.pointer (some ⟨S, 0, none⟩)] w fun e w' => e = .returned (.string ⟨l.toArray⟩) ∧ Below B w w' := by
  obtain ⟨p, v, hb, hp, hown, hnil⟩ := h.at_
  by_cases h0 : l = []
  · subst h0
    obtain rfl := hnil rfl
    have hUS := fun (W : World) (q : Option Addr) => Lib.run_unsafeString_none (P := Tryz.prog) W 76 3 9 q
    have c1 : w.drew.cell? ⟨S, 1, none⟩ = some (.slice none 0 0) := by
      have : w.drew.heap[S]? = some (.cells #[p, .slice none 0 0] 52 (0, 0)) := hb
      rw [Lib.cell_of_heap this]; rfl
    have hSD : (Builtin.unsafeSliceData_ #[48] 76 #[.slice none 0 0]).run Tryz.prog w.drew = .ok (.pointer none) w.drew := rfl
    clear h hb hp hown hnil
    have mixed : Tryz.prog.follows .mixedOrders = true := by kernel_rfl
    go_enter Tryz.func27, Tryz.ntmps27
    go_wp2
    go_region_o
    all_goals (go_wp2; go_ret; exact ⟨rfl, Below.drew (Below.refl B w)⟩)
  · have hl0 : l.length ≠ 0 := by simpa using h0
    obtain ⟨g, cap, cur, rfl, hbg, hg, hnc, hcm, hcs, htake⟩ : ∃ g cap cur, v = .slice (some ⟨g, 0, none⟩) l.length cap ∧ B ≤ g ∧ w.heap[g]? = some (.cells cur 5 (0, 0)) ∧ l.length ≤ cap ∧ cap ≤ maxLen ∧ cur.size = cap * 1 ∧ cur.toList.take (l.length * 1) = Lib.byteCells l := by
      rcases hown.2 with ⟨_, hz⟩ | ⟨g, cap, cur, hv, r⟩
      · exact absurd hz hl0
      · exact ⟨g, cap, cur, hv, r⟩
    have c1 : w.drew.cell? ⟨S, 1, none⟩ = some (.slice (some ⟨g, 0, none⟩) l.length cap) := by
      have : w.drew.heap[S]? = some (.cells #[p, .slice (some ⟨g, 0, none⟩) l.length cap] 52 (0, 0)) := hb
      rw [Lib.cell_of_heap this]; rfl
    have hSD : (Builtin.unsafeSliceData_ #[48] 76 #[.slice (some ⟨g, 0, none⟩) l.length cap]).run Tryz.prog w.drew = .ok (.pointer (some ⟨g, 0, none⟩)) w.drew :=
      Lib.run_unsafeSliceData_row _ _ _ _ _ _ (by omega)
    have hUS : (Builtin.unsafeString_ #[76, 3] 9 #[.pointer (some ⟨g, 0, none⟩), .int .i64 l.length]).run Tryz.prog w.drew = .ok (.string ⟨l.toArray⟩) (w.drew.freeze ⟨g, 0, none⟩ l.length) := by
      refine Lib.run_unsafeString_row w.drew 76 3 9 5 Tryz.underlying76 (by kernel_rfl) g cur.size (by have hg' : w.drew.heap[g]? = some (.cells cur 5 (0, 0)) := hg; simp [World.shape?, hg']) l h0 (by omega) (by unfold maxLen at hcm; omega) ?_
      intro j x hx
      have := hown.cells (g := g) rfl j (.int .u8 x.toNat) (by simp [Lib.byteCells, hx])
      exact this
    have HF := Hid.mk (Lib.below_freeze (Below.drew (Below.refl B w)) (p := ⟨g, 0, none⟩) hbg l.length)
    clear h hb hp hown hnil hg hnc hcm hcs htake h0 hl0 hbg
    have mixed : Tryz.prog.follows .mixedOrders = true := by kernel_rfl
    go_enter Tryz.func27, Tryz.ntmps27
    go_wp2
    go_region_o
    all_goals (go_wp2; go_ret; exact ⟨rfl, HF.out⟩)

end Go.Proofs.YtdjleoglphgdgaaGreatDoor
namespace Go.Proofs.YtdjleoglphgdgaaGreatDoor
open Go.RowKit Go.Shelf Go.Sort
set_option linter.unusedVariables false
set_option linter.unusedSimpArgs false
attribute [local go_sem] Oper.semAt_some

/-- Text's answer -/
noncomputable def txAP (h : Nat) (A : NT) : List UInt8 := if fpN h A = true then shT h A else []
noncomputable def txE (h : Nat) (A : NT) : Int := if fpN h A = true then 0 else 1
theorem pen_new (w : World) (hT : PTabIn w) : PS w w.heap.size (w.alloc (.cells #[.pointer none, .slice none 0 0] 52)) [] :=
  ⟨⟨Nat.le_refl _, _, _, heap_alloc_new w _, .inl rfl, ⟨rfl, .inl ⟨rfl, rfl⟩⟩, fun _ => rfl⟩, below1 w _, hT⟩

set_option maxRecDepth 100000 in
set_option maxHeartbeats 3200000 in
theorem w_TextP (h : Nat) (A : NT) (va : Value) (w : World) (hA : InA w h A va) (hT : PTabIn w) (htx : TxB h A) (hlen : (shT h A).length ≤ 140737488355328) : Calls Tryz.prog 11 #[va] w fun e w' => e = .returned (.tuple #[.string ⟨(txAP h A).toArray⟩, .int .i64 (txE h A)]) ∧ Below w.heap.size w w' := by
  obtain ⟨aop, aat, avk, atx, avn, avx, aio, ayo, ano, ako, avi, aic, avy, ayc, ann, anc, akn, akc, rfl⟩ := inA_shape hA
  have hb1 := below1 w (.cells #[.int .i64 aop, .int .i64 aat, .string atx, .int .i64 avk, .string avn, .string avx, .slice aio avi aic, .slice ayo avy ayc, .slice ano ann anc, .slice ako akn akc] 28)
  have HF := Hid.mk (w_FormedP h A _ _ (hA.low hb1))
  have HX := Hid.mk (B1.new (w := w) (ca := #[.int .i64 aop, .int .i64 aat, .string atx, .int .i64 avk, .string avn, .string avx, .slice aio avi aic, .slice ayo avy ayc, .slice ano ann anc, .slice ako akn akc]) (t := 28) rfl)
  have HN : Hid (∀ u, Below w.heap.size w u → B1 w #[.int .i64 aop, .int .i64 aat, .string atx, .int .i64 avk, .string avn, .string avx, .slice aio avi aic, .slice ayo avy ayc, .slice ano ann anc, .slice ako akn akc] 28 u → NAt u h A w.heap.size 0) := fun u hu hx => nat_box (c := c10 (.int .i64 aop) (.int .i64 aat) (.string atx) (.int .i64 avk) (.string avn) (.string avx) (.slice aio avi aic) (.slice ayo avy ayc) (.slice ano ann anc) (.slice ako akn akc)) hx.a (hA.low hu)
  have HTb : Hid (∀ u, Below w.heap.size w u → PTabIn u) := fun u hu => hT.keep hu
  have HTx := Hid.mk htx
  have HL := Hid.mk hlen
  unfold txAP txE
  cases hf : fpN h A with
  | false =>
    rw [hf] at HF
    rw [if_neg (by decide), if_neg (by decide)]
    clear hA hT htx hlen hf hb1
    go_enter Tryz.func11, Tryz.ntmps11
    go_wp2_with fail
    refine HF.out.mono ?_
    rintro e w2 ⟨rfl, hb2⟩
    have HB2 := Hid.mk (HX.out.keep hb2)
    clear hb2
    go_wp2_with fail
    go_ret2
    exact ⟨rfl, HB2.out.below⟩
  | true =>
    have HTl := Hid.mk (fun u (hu : NAt u h A w.heap.size 0) (S : Nat) => w_tell u S h A w.heap.size 0 hu hf HTx.out)
    rw [hf] at HF
    rw [if_pos rfl, if_pos rfl]
    clear hA hT htx hlen hf hb1 HTx
    go_enter Tryz.func11, Tryz.ntmps11
    go_wp2_with fail
    refine HF.out.mono ?_
    rintro e w2 ⟨rfl, hb2⟩
    have HB2 := Hid.mk (HX.out.keep hb2)
    clear hb2
    have HP2 := Hid.mk (pen_new w2 (HTb.out _ HB2.out.below))
    have HS2 := Hid.mk (HTl.out w2 (HN.out _ HB2.out.below HB2.out) w2.heap.size)
    clear HTl HN HX HF
    go_wp2_with fail
    refine (HS2.out _ _ HP2.out (by have := HL.out; simpa using this)).mono ?_
    rintro e w3 ⟨rfl, hp3, hk3⟩
    rw [List.nil_append] at hp3
    have HP3 := Hid.mk hp3
    have HStr := Hid.mk (w_String w2.heap.size w2.heap.size _ w3 hp3.pen)
    clear hp3 hk3 HS2 HP2
    go_wp2_with fail
    refine HStr.out.mono ?_
    rintro e w4 ⟨rfl, hb4⟩
    have HB4 : Hid (Below w.heap.size w w4) := HB2.out.below.trans ((HP3.out.low.trans hb4).mono HB2.out.below.size)
    clear hb4
    go_wp2_with fail
    go_ret2
    exact ⟨rfl, HB4.out⟩
end Go.Proofs.YtdjleoglphgdgaaGreatDoor
namespace Go.Proofs.YtdjleoglphgdgaaGreatDoor
open Go.RowKit Go.Shelf Go.Sort
set_option linter.unusedVariables false
set_option linter.unusedSimpArgs false
attribute [local go_sem] Oper.semAt_some

def nnS : NT := .mk 1 0 .empty vt0 [] []
theorem inA_self (w : World) : InA w 1 nnS (.agg #[.int .i64 1, .int .i64 0, .string ⟨#[]⟩, .int .i64 0, .string ⟨#[]⟩, .string ⟨#[]⟩, .slice none 0 0, .slice none 0 0, .slice none 0 0, .slice none 0 0]) := by
  refine ⟨none, 0, none, 0, none, 0, none, 0, rfl, by decide, InV.ofH (inH_0 w 0), ⟨Nat.le_refl _, by decide, fun k hk => by cases hk⟩, ⟨Nat.le_refl _, by decide⟩, fun h => absurd h (by decide), fun h => absurd h (by decide)⟩
theorem fp_self : fpN 1 nnS = true := by
  rw [fpN]
  have e1 : sq vt0 vt0 = true := sq_iff.2 rfl
  simp [nnS, NT.op, NT.kids, NT.text, NT.value, NT.names, mfB, ttB, nmO, vfB, nsB, e1]
theorem sh_self : shT 1 nnS = [46] := by rw [shT_up]; rfl
theorem tx_self : TxB 1 nnS := ⟨by decide, fun i hi => absurd hi (Nat.not_lt_zero i)⟩
theorem ky_end : pKy ⟨#[101, 110, 100]⟩ = [101, 110, 100] ∧ pKe1 ⟨#[101, 110, 100]⟩ = 0 := by
  have h1 : okB [101, 110, 100] = true := by decide
  have h2 : namedB [101, 110, 100] = true := by decide
  unfold pKy pKe1
  simp only [h1, h2]
  exact ⟨rfl, rfl⟩

set_option maxRecDepth 100000 in
set_option maxHeartbeats 1600000 in
theorem w_works (w : World) (hT : PTabIn w) : Calls Tryz.prog 9 #[] w fun e w' => e = .returned (.bool true) ∧ Below w.heap.size w w' := by
  have HTx := Hid.mk (w_TextP 1 nnS _ w (inA_self w) hT tx_self (by rw [sh_self]; decide))
  have HKy := Hid.mk (fun u => w_KeyP ⟨#[101, 110, 100]⟩ u (by decide))
  unfold txAP txE at HTx
  rw [fp_self, if_pos rfl, if_pos rfl, sh_self] at HTx
  rw [ky_end.1, ky_end.2] at HKy
  clear hT
  go_enter Tryz.func9, Tryz.ntmps9
  go_wp2_with fail
  refine HTx.out.mono ?_
  rintro e w1 ⟨rfl, hb1⟩
  have HB1 := Hid.mk hb1
  clear hb1
  go_wp2_with fail
  refine (HKy.out _).mono ?_
  rintro e w2 ⟨rfl, hb2⟩
  have HB2 := Hid.mk (HB1.out.trans (hb2.mono HB1.out.size))
  clear hb2
  go_wp2_with fail
  go_ret
  exact ⟨rfl, HB2.out⟩
end Go.Proofs.YtdjleoglphgdgaaGreatDoor
namespace Go.Proofs.YtdjleoglphgdgaaGreatDoor
open Go.RowKit Go.Shelf Go.Sort
set_option linter.unusedVariables false
set_option linter.unusedSimpArgs false
attribute [local go_sem] Oper.semAt_some

theorem kb_of {D : Nat → Prop} {W : World} : ∀ (h : Nat) (A : NT) (v : Value), InN D W h A v → KbT h A
  | 0, _, _, hA => hA.elim
  | h + 1, A, v, hA => by
    obtain ⟨io, ic, yo, yc, no, nc, ko, kc, _, _, _, _, hk, _, hK⟩ := hA
    refine ⟨hk.2, fun i hi => ?_⟩
    obtain ⟨b, off, _, _, _, hc⟩ := hK (by omega)
    obtain ⟨c, _, h2⟩ := hc i hi
    rw [getD_kid hi]
    exact kb_of h _ _ h2
/-- texts are alike where filters are -/
theorem txt_alike {h : Nat} {A B : NT} (hA : fpN h A = true) (kA : KbT h A) (hB : fpN h B = true) (kB : KbT h B) : ((⟨(shT h A).toArray⟩ : ByteArray).toList == (⟨(shT h B).toArray⟩ : ByteArray).toList) = sq (noA A) (noA B) := by
  rw [Lib.toList_data, Lib.toList_data]
  show (shT h A == shT h B) = _
  by_cases e : noA A = noA B
  · rw [e, sq_yes, shT_noA h A B e, beq_self_eq_true]
  · rw [sq_no e, beq_eq_false_iff_ne]
    intro e2
    exact e (shT_inj hA kA hB kB e2)

set_option maxRecDepth 100000 in
set_option maxHeartbeats 6400000 in
theorem w_ShowUnlike (h : Nat) (A B : NT) (va vb : Value) (w : World) (hA : InA w h A va) (hB : InA w h B vb) (hbA : bkT h A ≤ 1048576) (hbB : bkT h B ≤ 1048576) (hT : PTabIn w) : Calls Tryz.prog 4 #[va, vb] w fun e w' => e = .returned (.bool true) ∧ Below w.heap.size w w' := by
  have hkA := kb_of h A va hA
  have hkB := kb_of h B vb hB
  obtain ⟨aop, aat, avk, atx, avn, avx, aio, ayo, ano, ako, avi, aic, avy, ayc, ann, anc, akn, akc, rfl⟩ := inA_shape hA
  obtain ⟨bop, bat, bvk, btx, bvn, bvx, bio, byo, bno, bko, bvi, bic, bvy, byc, bnn, bnc, bkn, bkc, rfl⟩ := inA_shape hB
  obtain ⟨W1, hW1⟩ : ∃ W1, (w.alloc (.cells #[.int .i64 aop, .int .i64 aat, .string atx, .int .i64 avk, .string avn, .string avx, .slice aio avi aic, .slice ayo avy ayc, .slice ano ann anc, .slice ako akn akc] 28)).alloc (.cells #[.int .i64 bop, .int .i64 bat, .string btx, .int .i64 bvk, .string bvn, .string bvx, .slice bio bvi bic, .slice byo bvy byc, .slice bno bnn bnc, .slice bko bkn bkc] 28) = W1 := ⟨_, rfl⟩
  have HX := Hid.mk (Bb.new hW1)
  have HFA := Hid.mk (fun (u : World) (hu : Below w.heap.size w u) => w_FitNode h A _ u (hA.low hu))
  have HFB := Hid.mk (fun (u : World) (hu : Below w.heap.size w u) => w_FitNode h B _ u (hB.low hu))
  have HRA := Hid.mk (fun (u : World) (hu : Below w.heap.size w u) => w_rFormedN h A _ u (hA.low hu))
  have HRB := Hid.mk (fun (u : World) (hu : Below w.heap.size w u) => w_rFormedN h B _ u (hB.low hu))
  rw [← fp_fr] at HRA HRB
  have HWk : Hid (∀ u, Below w.heap.size w u → Calls Tryz.prog 9 #[] u fun e w' => e = .returned (.bool true) ∧ Below u.heap.size u w') := Hid.mk fun u hu => w_works u (hT.keep hu)
  have HSm : Hid (∀ u, Below w.heap.size w u → Calls Tryz.prog 14 #[.agg #[.int .i64 aop, .int .i64 aat, .string atx, .int .i64 avk, .string avn, .string avx, .slice aio avi aic, .slice ayo avy ayc, .slice ano ann anc, .slice ako akn akc], .agg #[.int .i64 bop, .int .i64 bat, .string btx, .int .i64 bvk, .string bvn, .string bvx, .slice bio bvi bic, .slice byo bvy byc, .slice bno bnn bnc, .slice bko bkn bkc]] u fun e w' => e = .returned (.bool (sq (noA A) (noA B))) ∧ Below u.heap.size u w') := Hid.mk fun u hu => w_rSameN h A B _ _ u (hA.low hu) (hB.low hu)
  have HTA : Hid (fpN h A = true → ∀ u, Below w.heap.size w u → Calls Tryz.prog 11 #[.agg #[.int .i64 aop, .int .i64 aat, .string atx, .int .i64 avk, .string avn, .string avx, .slice aio avi aic, .slice ayo avy ayc, .slice ano ann anc, .slice ako akn akc]] u fun e w' => e = .returned (.tuple #[.string ⟨(shT h A).toArray⟩, .int .i64 0]) ∧ Below u.heap.size u w') := Hid.mk fun hf u hu => by
    have h1 := w_TextP h A _ u (hA.low hu) (hT.keep hu) (tx_of_bk h A hbA) (by have := shT_len h A hf; omega)
    unfold txAP txE at h1
    rw [if_pos hf, if_pos hf] at h1
    exact h1
  have HTB : Hid (fpN h B = true → ∀ u, Below w.heap.size w u → Calls Tryz.prog 11 #[.agg #[.int .i64 bop, .int .i64 bat, .string btx, .int .i64 bvk, .string bvn, .string bvx, .slice bio bvi bic, .slice byo bvy byc, .slice bno bnn bnc, .slice bko bkn bkc]] u fun e w' => e = .returned (.tuple #[.string ⟨(shT h B).toArray⟩, .int .i64 0]) ∧ Below u.heap.size u w') := Hid.mk fun hf u hu => by
    have h1 := w_TextP h B _ u (hB.low hu) (hT.keep hu) (tx_of_bk h B hbB) (by have := shT_len h B hf; omega)
    unfold txAP txE at h1
    rw [if_pos hf, if_pos hf] at h1
    exact h1
  have HEq : Hid (fpN h A = true → fpN h B = true → ((⟨(shT h A).toArray⟩ : ByteArray).toList == (⟨(shT h B).toArray⟩ : ByteArray).toList) = sq (noA A) (noA B)) := Hid.mk fun hfA hfB => txt_alike hfA hkA hfB hkB
  generalize (⟨(shT h A).toArray⟩ : ByteArray) = SA at *
  generalize (⟨(shT h B).toArray⟩ : ByteArray) = SB at *
  generalize sq (noA A) (noA B) = r at *
  generalize decide (paN h A 20000 ≤ 20000) = ftA at *
  generalize decide (paN h B 20000 ≤ 20000) = ftB at *
  generalize fpN h A = fA at *
  generalize fpN h B = fB at *
  clear hA hB hbA hbB hT hkA hkB
  cases ftA with
  | false =>
    go_enter Tryz.func4, Tryz.ntmps4
    have X0 := HX.out.ca (j := 0) rfl
    have Y0 := HX.out.cb (j := 0) rfl
    have X1 := HX.out.ca (j := 1) rfl
    have Y1 := HX.out.cb (j := 1) rfl
    have X2 := HX.out.ca (j := 2) rfl
    have Y2 := HX.out.cb (j := 2) rfl
    have X3 := HX.out.ca (j := 3) rfl
    have Y3 := HX.out.cb (j := 3) rfl
    have X4 := HX.out.ca (j := 4) rfl
    have Y4 := HX.out.cb (j := 4) rfl
    have X5 := HX.out.ca (j := 5) rfl
    have Y5 := HX.out.cb (j := 5) rfl
    have X6 := HX.out.ca (j := 6) rfl
    have Y6 := HX.out.cb (j := 6) rfl
    have X7 := HX.out.ca (j := 7) rfl
    have Y7 := HX.out.cb (j := 7) rfl
    have X8 := HX.out.ca (j := 8) rfl
    have Y8 := HX.out.cb (j := 8) rfl
    have X9 := HX.out.ca (j := 9) rfl
    have Y9 := HX.out.cb (j := 9) rfl
    go_wp2_with fail
    refine (HFA.out _ HX.out.below).mono ?_
    rintro e w2 ⟨rfl, hb2⟩
    have HX2 := Hid.mk (HX.out.keep hb2)
    clear hb2 X0 Y0 X1 Y1 X2 Y2 X3 Y3 X4 Y4 X5 Y5 X6 Y6 X7 Y7 X8 Y8 X9 Y9 hW1
    have X0 := HX2.out.ca (j := 0) rfl
    have Y0 := HX2.out.cb (j := 0) rfl
    have X1 := HX2.out.ca (j := 1) rfl
    have Y1 := HX2.out.cb (j := 1) rfl
    have X2 := HX2.out.ca (j := 2) rfl
    have Y2 := HX2.out.cb (j := 2) rfl
    have X3 := HX2.out.ca (j := 3) rfl
    have Y3 := HX2.out.cb (j := 3) rfl
    have X4 := HX2.out.ca (j := 4) rfl
    have Y4 := HX2.out.cb (j := 4) rfl
    have X5 := HX2.out.ca (j := 5) rfl
    have Y5 := HX2.out.cb (j := 5) rfl
    have X6 := HX2.out.ca (j := 6) rfl
    have Y6 := HX2.out.cb (j := 6) rfl
    have X7 := HX2.out.ca (j := 7) rfl
    have Y7 := HX2.out.cb (j := 7) rfl
    have X8 := HX2.out.ca (j := 8) rfl
    have Y8 := HX2.out.cb (j := 8) rfl
    have X9 := HX2.out.ca (j := 9) rfl
    have Y9 := HX2.out.cb (j := 9) rfl
    go_wp2_with fail
    refine (HWk.out _ HX2.out.below).mono ?_
    rintro e w9 ⟨rfl, hb9⟩
    have HX9 := Hid.mk (HX2.out.keep hb9)
    clear hb9 X0 Y0 X1 Y1 X2 Y2 X3 Y3 X4 Y4 X5 Y5 X6 Y6 X7 Y7 X8 Y8 X9 Y9
    go_wp2_with fail
    go_ret
    exact ⟨rfl, HX9.out.below⟩
  | true =>
    cases ftB with
    | false =>
      go_enter Tryz.func4, Tryz.ntmps4
      have X0 := HX.out.ca (j := 0) rfl
      have Y0 := HX.out.cb (j := 0) rfl
      have X1 := HX.out.ca (j := 1) rfl
      have Y1 := HX.out.cb (j := 1) rfl
      have X2 := HX.out.ca (j := 2) rfl
      have Y2 := HX.out.cb (j := 2) rfl
      have X3 := HX.out.ca (j := 3) rfl
      have Y3 := HX.out.cb (j := 3) rfl
      have X4 := HX.out.ca (j := 4) rfl
      have Y4 := HX.out.cb (j := 4) rfl
      have X5 := HX.out.ca (j := 5) rfl
      have Y5 := HX.out.cb (j := 5) rfl
      have X6 := HX.out.ca (j := 6) rfl
      have Y6 := HX.out.cb (j := 6) rfl
      have X7 := HX.out.ca (j := 7) rfl
      have Y7 := HX.out.cb (j := 7) rfl
      have X8 := HX.out.ca (j := 8) rfl
      have Y8 := HX.out.cb (j := 8) rfl
      have X9 := HX.out.ca (j := 9) rfl
      have Y9 := HX.out.cb (j := 9) rfl
      go_wp2_with fail
      refine (HFA.out _ HX.out.below).mono ?_
      rintro e w2 ⟨rfl, hb2⟩
      have HX2 := Hid.mk (HX.out.keep hb2)
      clear hb2 X0 Y0 X1 Y1 X2 Y2 X3 Y3 X4 Y4 X5 Y5 X6 Y6 X7 Y7 X8 Y8 X9 Y9 hW1
      have X0 := HX2.out.ca (j := 0) rfl
      have Y0 := HX2.out.cb (j := 0) rfl
      have X1 := HX2.out.ca (j := 1) rfl
      have Y1 := HX2.out.cb (j := 1) rfl
      have X2 := HX2.out.ca (j := 2) rfl
      have Y2 := HX2.out.cb (j := 2) rfl
      have X3 := HX2.out.ca (j := 3) rfl
      have Y3 := HX2.out.cb (j := 3) rfl
      have X4 := HX2.out.ca (j := 4) rfl
      have Y4 := HX2.out.cb (j := 4) rfl
      have X5 := HX2.out.ca (j := 5) rfl
      have Y5 := HX2.out.cb (j := 5) rfl
      have X6 := HX2.out.ca (j := 6) rfl
      have Y6 := HX2.out.cb (j := 6) rfl
      have X7 := HX2.out.ca (j := 7) rfl
      have Y7 := HX2.out.cb (j := 7) rfl
      have X8 := HX2.out.ca (j := 8) rfl
      have Y8 := HX2.out.cb (j := 8) rfl
      have X9 := HX2.out.ca (j := 9) rfl
      have Y9 := HX2.out.cb (j := 9) rfl
      go_wp2_with fail
      refine (HFB.out _ HX2.out.below).mono ?_
      rintro e w3 ⟨rfl, hb3⟩
      have HX3 := Hid.mk (HX2.out.keep hb3)
      clear hb3 X0 Y0 X1 Y1 X2 Y2 X3 Y3 X4 Y4 X5 Y5 X6 Y6 X7 Y7 X8 Y8 X9 Y9
      have X0 := HX3.out.ca (j := 0) rfl
      have Y0 := HX3.out.cb (j := 0) rfl
      have X1 := HX3.out.ca (j := 1) rfl
      have Y1 := HX3.out.cb (j := 1) rfl
      have X2 := HX3.out.ca (j := 2) rfl
      have Y2 := HX3.out.cb (j := 2) rfl
      have X3 := HX3.out.ca (j := 3) rfl
      have Y3 := HX3.out.cb (j := 3) rfl
      have X4 := HX3.out.ca (j := 4) rfl
      have Y4 := HX3.out.cb (j := 4) rfl
      have X5 := HX3.out.ca (j := 5) rfl
      have Y5 := HX3.out.cb (j := 5) rfl
      have X6 := HX3.out.ca (j := 6) rfl
      have Y6 := HX3.out.cb (j := 6) rfl
      have X7 := HX3.out.ca (j := 7) rfl
      have Y7 := HX3.out.cb (j := 7) rfl
      have X8 := HX3.out.ca (j := 8) rfl
      have Y8 := HX3.out.cb (j := 8) rfl
      have X9 := HX3.out.ca (j := 9) rfl
      have Y9 := HX3.out.cb (j := 9) rfl
      go_wp2_with fail
      refine (HWk.out _ HX3.out.below).mono ?_
      rintro e w9 ⟨rfl, hb9⟩
      have HX9 := Hid.mk (HX3.out.keep hb9)
      clear hb9 X0 Y0 X1 Y1 X2 Y2 X3 Y3 X4 Y4 X5 Y5 X6 Y6 X7 Y7 X8 Y8 X9 Y9
      go_wp2_with fail
      go_ret
      exact ⟨rfl, HX9.out.below⟩
    | true =>
      cases fA with
      | false =>
        go_enter Tryz.func4, Tryz.ntmps4
        have X0 := HX.out.ca (j := 0) rfl
        have Y0 := HX.out.cb (j := 0) rfl
        have X1 := HX.out.ca (j := 1) rfl
        have Y1 := HX.out.cb (j := 1) rfl
        have X2 := HX.out.ca (j := 2) rfl
        have Y2 := HX.out.cb (j := 2) rfl
        have X3 := HX.out.ca (j := 3) rfl
        have Y3 := HX.out.cb (j := 3) rfl
        have X4 := HX.out.ca (j := 4) rfl
        have Y4 := HX.out.cb (j := 4) rfl
        have X5 := HX.out.ca (j := 5) rfl
        have Y5 := HX.out.cb (j := 5) rfl
        have X6 := HX.out.ca (j := 6) rfl
        have Y6 := HX.out.cb (j := 6) rfl
        have X7 := HX.out.ca (j := 7) rfl
        have Y7 := HX.out.cb (j := 7) rfl
        have X8 := HX.out.ca (j := 8) rfl
        have Y8 := HX.out.cb (j := 8) rfl
        have X9 := HX.out.ca (j := 9) rfl
        have Y9 := HX.out.cb (j := 9) rfl
        go_wp2_with fail
        refine (HFA.out _ HX.out.below).mono ?_
        rintro e w2 ⟨rfl, hb2⟩
        have HX2 := Hid.mk (HX.out.keep hb2)
        clear hb2 X0 Y0 X1 Y1 X2 Y2 X3 Y3 X4 Y4 X5 Y5 X6 Y6 X7 Y7 X8 Y8 X9 Y9 hW1
        have X0 := HX2.out.ca (j := 0) rfl
        have Y0 := HX2.out.cb (j := 0) rfl
        have X1 := HX2.out.ca (j := 1) rfl
        have Y1 := HX2.out.cb (j := 1) rfl
        have X2 := HX2.out.ca (j := 2) rfl
        have Y2 := HX2.out.cb (j := 2) rfl
        have X3 := HX2.out.ca (j := 3) rfl
        have Y3 := HX2.out.cb (j := 3) rfl
        have X4 := HX2.out.ca (j := 4) rfl
        have Y4 := HX2.out.cb (j := 4) rfl
        have X5 := HX2.out.ca (j := 5) rfl
        have Y5 := HX2.out.cb (j := 5) rfl
        have X6 := HX2.out.ca (j := 6) rfl
        have Y6 := HX2.out.cb (j := 6) rfl
        have X7 := HX2.out.ca (j := 7) rfl
        have Y7 := HX2.out.cb (j := 7) rfl
        have X8 := HX2.out.ca (j := 8) rfl
        have Y8 := HX2.out.cb (j := 8) rfl
        have X9 := HX2.out.ca (j := 9) rfl
        have Y9 := HX2.out.cb (j := 9) rfl
        go_wp2_with fail
        refine (HFB.out _ HX2.out.below).mono ?_
        rintro e w3 ⟨rfl, hb3⟩
        have HX3 := Hid.mk (HX2.out.keep hb3)
        clear hb3 X0 Y0 X1 Y1 X2 Y2 X3 Y3 X4 Y4 X5 Y5 X6 Y6 X7 Y7 X8 Y8 X9 Y9
        have X0 := HX3.out.ca (j := 0) rfl
        have Y0 := HX3.out.cb (j := 0) rfl
        have X1 := HX3.out.ca (j := 1) rfl
        have Y1 := HX3.out.cb (j := 1) rfl
        have X2 := HX3.out.ca (j := 2) rfl
        have Y2 := HX3.out.cb (j := 2) rfl
        have X3 := HX3.out.ca (j := 3) rfl
        have Y3 := HX3.out.cb (j := 3) rfl
        have X4 := HX3.out.ca (j := 4) rfl
        have Y4 := HX3.out.cb (j := 4) rfl
        have X5 := HX3.out.ca (j := 5) rfl
        have Y5 := HX3.out.cb (j := 5) rfl
        have X6 := HX3.out.ca (j := 6) rfl
        have Y6 := HX3.out.cb (j := 6) rfl
        have X7 := HX3.out.ca (j := 7) rfl
        have Y7 := HX3.out.cb (j := 7) rfl
        have X8 := HX3.out.ca (j := 8) rfl
        have Y8 := HX3.out.cb (j := 8) rfl
        have X9 := HX3.out.ca (j := 9) rfl
        have Y9 := HX3.out.cb (j := 9) rfl
        go_wp2_with fail
        refine (HRA.out _ HX3.out.below).mono ?_
        rintro e w4 ⟨rfl, hb4⟩
        have HX4 := Hid.mk (HX3.out.keep hb4)
        clear hb4 X0 Y0 X1 Y1 X2 Y2 X3 Y3 X4 Y4 X5 Y5 X6 Y6 X7 Y7 X8 Y8 X9 Y9
        have X0 := HX4.out.ca (j := 0) rfl
        have Y0 := HX4.out.cb (j := 0) rfl
        have X1 := HX4.out.ca (j := 1) rfl
        have Y1 := HX4.out.cb (j := 1) rfl
        have X2 := HX4.out.ca (j := 2) rfl
        have Y2 := HX4.out.cb (j := 2) rfl
        have X3 := HX4.out.ca (j := 3) rfl
        have Y3 := HX4.out.cb (j := 3) rfl
        have X4 := HX4.out.ca (j := 4) rfl
        have Y4 := HX4.out.cb (j := 4) rfl
        have X5 := HX4.out.ca (j := 5) rfl
        have Y5 := HX4.out.cb (j := 5) rfl
        have X6 := HX4.out.ca (j := 6) rfl
        have Y6 := HX4.out.cb (j := 6) rfl
        have X7 := HX4.out.ca (j := 7) rfl
        have Y7 := HX4.out.cb (j := 7) rfl
        have X8 := HX4.out.ca (j := 8) rfl
        have Y8 := HX4.out.cb (j := 8) rfl
        have X9 := HX4.out.ca (j := 9) rfl
        have Y9 := HX4.out.cb (j := 9) rfl
        go_wp2_with fail
        refine (HWk.out _ HX4.out.below).mono ?_
        rintro e w9 ⟨rfl, hb9⟩
        have HX9 := Hid.mk (HX4.out.keep hb9)
        clear hb9 X0 Y0 X1 Y1 X2 Y2 X3 Y3 X4 Y4 X5 Y5 X6 Y6 X7 Y7 X8 Y8 X9 Y9
        go_wp2_with fail
        go_ret
        exact ⟨rfl, HX9.out.below⟩
      | true =>
        cases fB with
        | false =>
          go_enter Tryz.func4, Tryz.ntmps4
          have X0 := HX.out.ca (j := 0) rfl
          have Y0 := HX.out.cb (j := 0) rfl
          have X1 := HX.out.ca (j := 1) rfl
          have Y1 := HX.out.cb (j := 1) rfl
          have X2 := HX.out.ca (j := 2) rfl
          have Y2 := HX.out.cb (j := 2) rfl
          have X3 := HX.out.ca (j := 3) rfl
          have Y3 := HX.out.cb (j := 3) rfl
          have X4 := HX.out.ca (j := 4) rfl
          have Y4 := HX.out.cb (j := 4) rfl
          have X5 := HX.out.ca (j := 5) rfl
          have Y5 := HX.out.cb (j := 5) rfl
          have X6 := HX.out.ca (j := 6) rfl
          have Y6 := HX.out.cb (j := 6) rfl
          have X7 := HX.out.ca (j := 7) rfl
          have Y7 := HX.out.cb (j := 7) rfl
          have X8 := HX.out.ca (j := 8) rfl
          have Y8 := HX.out.cb (j := 8) rfl
          have X9 := HX.out.ca (j := 9) rfl
          have Y9 := HX.out.cb (j := 9) rfl
          go_wp2_with fail
          refine (HFA.out _ HX.out.below).mono ?_
          rintro e w2 ⟨rfl, hb2⟩
          have HX2 := Hid.mk (HX.out.keep hb2)
          clear hb2 X0 Y0 X1 Y1 X2 Y2 X3 Y3 X4 Y4 X5 Y5 X6 Y6 X7 Y7 X8 Y8 X9 Y9 hW1
          have X0 := HX2.out.ca (j := 0) rfl
          have Y0 := HX2.out.cb (j := 0) rfl
          have X1 := HX2.out.ca (j := 1) rfl
          have Y1 := HX2.out.cb (j := 1) rfl
          have X2 := HX2.out.ca (j := 2) rfl
          have Y2 := HX2.out.cb (j := 2) rfl
          have X3 := HX2.out.ca (j := 3) rfl
          have Y3 := HX2.out.cb (j := 3) rfl
          have X4 := HX2.out.ca (j := 4) rfl
          have Y4 := HX2.out.cb (j := 4) rfl
          have X5 := HX2.out.ca (j := 5) rfl
          have Y5 := HX2.out.cb (j := 5) rfl
          have X6 := HX2.out.ca (j := 6) rfl
          have Y6 := HX2.out.cb (j := 6) rfl
          have X7 := HX2.out.ca (j := 7) rfl
          have Y7 := HX2.out.cb (j := 7) rfl
          have X8 := HX2.out.ca (j := 8) rfl
          have Y8 := HX2.out.cb (j := 8) rfl
          have X9 := HX2.out.ca (j := 9) rfl
          have Y9 := HX2.out.cb (j := 9) rfl
          go_wp2_with fail
          refine (HFB.out _ HX2.out.below).mono ?_
          rintro e w3 ⟨rfl, hb3⟩
          have HX3 := Hid.mk (HX2.out.keep hb3)
          clear hb3 X0 Y0 X1 Y1 X2 Y2 X3 Y3 X4 Y4 X5 Y5 X6 Y6 X7 Y7 X8 Y8 X9 Y9
          have X0 := HX3.out.ca (j := 0) rfl
          have Y0 := HX3.out.cb (j := 0) rfl
          have X1 := HX3.out.ca (j := 1) rfl
          have Y1 := HX3.out.cb (j := 1) rfl
          have X2 := HX3.out.ca (j := 2) rfl
          have Y2 := HX3.out.cb (j := 2) rfl
          have X3 := HX3.out.ca (j := 3) rfl
          have Y3 := HX3.out.cb (j := 3) rfl
          have X4 := HX3.out.ca (j := 4) rfl
          have Y4 := HX3.out.cb (j := 4) rfl
          have X5 := HX3.out.ca (j := 5) rfl
          have Y5 := HX3.out.cb (j := 5) rfl
          have X6 := HX3.out.ca (j := 6) rfl
          have Y6 := HX3.out.cb (j := 6) rfl
          have X7 := HX3.out.ca (j := 7) rfl
          have Y7 := HX3.out.cb (j := 7) rfl
          have X8 := HX3.out.ca (j := 8) rfl
          have Y8 := HX3.out.cb (j := 8) rfl
          have X9 := HX3.out.ca (j := 9) rfl
          have Y9 := HX3.out.cb (j := 9) rfl
          go_wp2_with fail
          refine (HRA.out _ HX3.out.below).mono ?_
          rintro e w4 ⟨rfl, hb4⟩
          have HX4 := Hid.mk (HX3.out.keep hb4)
          clear hb4 X0 Y0 X1 Y1 X2 Y2 X3 Y3 X4 Y4 X5 Y5 X6 Y6 X7 Y7 X8 Y8 X9 Y9
          have X0 := HX4.out.ca (j := 0) rfl
          have Y0 := HX4.out.cb (j := 0) rfl
          have X1 := HX4.out.ca (j := 1) rfl
          have Y1 := HX4.out.cb (j := 1) rfl
          have X2 := HX4.out.ca (j := 2) rfl
          have Y2 := HX4.out.cb (j := 2) rfl
          have X3 := HX4.out.ca (j := 3) rfl
          have Y3 := HX4.out.cb (j := 3) rfl
          have X4 := HX4.out.ca (j := 4) rfl
          have Y4 := HX4.out.cb (j := 4) rfl
          have X5 := HX4.out.ca (j := 5) rfl
          have Y5 := HX4.out.cb (j := 5) rfl
          have X6 := HX4.out.ca (j := 6) rfl
          have Y6 := HX4.out.cb (j := 6) rfl
          have X7 := HX4.out.ca (j := 7) rfl
          have Y7 := HX4.out.cb (j := 7) rfl
          have X8 := HX4.out.ca (j := 8) rfl
          have Y8 := HX4.out.cb (j := 8) rfl
          have X9 := HX4.out.ca (j := 9) rfl
          have Y9 := HX4.out.cb (j := 9) rfl
          go_wp2_with fail
          refine (HRB.out _ HX4.out.below).mono ?_
          rintro e w5 ⟨rfl, hb5⟩
          have HX5 := Hid.mk (HX4.out.keep hb5)
          clear hb5 X0 Y0 X1 Y1 X2 Y2 X3 Y3 X4 Y4 X5 Y5 X6 Y6 X7 Y7 X8 Y8 X9 Y9
          have X0 := HX5.out.ca (j := 0) rfl
          have Y0 := HX5.out.cb (j := 0) rfl
          have X1 := HX5.out.ca (j := 1) rfl
          have Y1 := HX5.out.cb (j := 1) rfl
          have X2 := HX5.out.ca (j := 2) rfl
          have Y2 := HX5.out.cb (j := 2) rfl
          have X3 := HX5.out.ca (j := 3) rfl
          have Y3 := HX5.out.cb (j := 3) rfl
          have X4 := HX5.out.ca (j := 4) rfl
          have Y4 := HX5.out.cb (j := 4) rfl
          have X5 := HX5.out.ca (j := 5) rfl
          have Y5 := HX5.out.cb (j := 5) rfl
          have X6 := HX5.out.ca (j := 6) rfl
          have Y6 := HX5.out.cb (j := 6) rfl
          have X7 := HX5.out.ca (j := 7) rfl
          have Y7 := HX5.out.cb (j := 7) rfl
          have X8 := HX5.out.ca (j := 8) rfl
          have Y8 := HX5.out.cb (j := 8) rfl
          have X9 := HX5.out.ca (j := 9) rfl
          have Y9 := HX5.out.cb (j := 9) rfl
          go_wp2_with fail
          refine (HWk.out _ HX5.out.below).mono ?_
          rintro e w9 ⟨rfl, hb9⟩
          have HX9 := Hid.mk (HX5.out.keep hb9)
          clear hb9 X0 Y0 X1 Y1 X2 Y2 X3 Y3 X4 Y4 X5 Y5 X6 Y6 X7 Y7 X8 Y8 X9 Y9
          go_wp2_with fail
          go_ret
          exact ⟨rfl, HX9.out.below⟩
        | true =>
          have HTA2 := Hid.mk (HTA.out rfl)
          have HTB2 := Hid.mk (HTB.out rfl)
          have HE2 := Hid.mk (HEq.out rfl rfl)
          clear HTA HTB HEq
          go_enter Tryz.func4, Tryz.ntmps4
          have X0 := HX.out.ca (j := 0) rfl
          have Y0 := HX.out.cb (j := 0) rfl
          have X1 := HX.out.ca (j := 1) rfl
          have Y1 := HX.out.cb (j := 1) rfl
          have X2 := HX.out.ca (j := 2) rfl
          have Y2 := HX.out.cb (j := 2) rfl
          have X3 := HX.out.ca (j := 3) rfl
          have Y3 := HX.out.cb (j := 3) rfl
          have X4 := HX.out.ca (j := 4) rfl
          have Y4 := HX.out.cb (j := 4) rfl
          have X5 := HX.out.ca (j := 5) rfl
          have Y5 := HX.out.cb (j := 5) rfl
          have X6 := HX.out.ca (j := 6) rfl
          have Y6 := HX.out.cb (j := 6) rfl
          have X7 := HX.out.ca (j := 7) rfl
          have Y7 := HX.out.cb (j := 7) rfl
          have X8 := HX.out.ca (j := 8) rfl
          have Y8 := HX.out.cb (j := 8) rfl
          have X9 := HX.out.ca (j := 9) rfl
          have Y9 := HX.out.cb (j := 9) rfl
          go_wp2_with fail
          refine (HFA.out _ HX.out.below).mono ?_
          rintro e w2 ⟨rfl, hb2⟩
          have HX2 := Hid.mk (HX.out.keep hb2)
          clear hb2 X0 Y0 X1 Y1 X2 Y2 X3 Y3 X4 Y4 X5 Y5 X6 Y6 X7 Y7 X8 Y8 X9 Y9 hW1
          have X0 := HX2.out.ca (j := 0) rfl
          have Y0 := HX2.out.cb (j := 0) rfl
          have X1 := HX2.out.ca (j := 1) rfl
          have Y1 := HX2.out.cb (j := 1) rfl
          have X2 := HX2.out.ca (j := 2) rfl
          have Y2 := HX2.out.cb (j := 2) rfl
          have X3 := HX2.out.ca (j := 3) rfl
          have Y3 := HX2.out.cb (j := 3) rfl
          have X4 := HX2.out.ca (j := 4) rfl
          have Y4 := HX2.out.cb (j := 4) rfl
          have X5 := HX2.out.ca (j := 5) rfl
          have Y5 := HX2.out.cb (j := 5) rfl
          have X6 := HX2.out.ca (j := 6) rfl
          have Y6 := HX2.out.cb (j := 6) rfl
          have X7 := HX2.out.ca (j := 7) rfl
          have Y7 := HX2.out.cb (j := 7) rfl
          have X8 := HX2.out.ca (j := 8) rfl
          have Y8 := HX2.out.cb (j := 8) rfl
          have X9 := HX2.out.ca (j := 9) rfl
          have Y9 := HX2.out.cb (j := 9) rfl
          go_wp2_with fail
          refine (HFB.out _ HX2.out.below).mono ?_
          rintro e w3 ⟨rfl, hb3⟩
          have HX3 := Hid.mk (HX2.out.keep hb3)
          clear hb3 X0 Y0 X1 Y1 X2 Y2 X3 Y3 X4 Y4 X5 Y5 X6 Y6 X7 Y7 X8 Y8 X9 Y9
          have X0 := HX3.out.ca (j := 0) rfl
          have Y0 := HX3.out.cb (j := 0) rfl
          have X1 := HX3.out.ca (j := 1) rfl
          have Y1 := HX3.out.cb (j := 1) rfl
          have X2 := HX3.out.ca (j := 2) rfl
          have Y2 := HX3.out.cb (j := 2) rfl
          have X3 := HX3.out.ca (j := 3) rfl
          have Y3 := HX3.out.cb (j := 3) rfl
          have X4 := HX3.out.ca (j := 4) rfl
          have Y4 := HX3.out.cb (j := 4) rfl
          have X5 := HX3.out.ca (j := 5) rfl
          have Y5 := HX3.out.cb (j := 5) rfl
          have X6 := HX3.out.ca (j := 6) rfl
          have Y6 := HX3.out.cb (j := 6) rfl
          have X7 := HX3.out.ca (j := 7) rfl
          have Y7 := HX3.out.cb (j := 7) rfl
          have X8 := HX3.out.ca (j := 8) rfl
          have Y8 := HX3.out.cb (j := 8) rfl
          have X9 := HX3.out.ca (j := 9) rfl
          have Y9 := HX3.out.cb (j := 9) rfl
          go_wp2_with fail
          refine (HRA.out _ HX3.out.below).mono ?_
          rintro e w4 ⟨rfl, hb4⟩
          have HX4 := Hid.mk (HX3.out.keep hb4)
          clear hb4 X0 Y0 X1 Y1 X2 Y2 X3 Y3 X4 Y4 X5 Y5 X6 Y6 X7 Y7 X8 Y8 X9 Y9
          have X0 := HX4.out.ca (j := 0) rfl
          have Y0 := HX4.out.cb (j := 0) rfl
          have X1 := HX4.out.ca (j := 1) rfl
          have Y1 := HX4.out.cb (j := 1) rfl
          have X2 := HX4.out.ca (j := 2) rfl
          have Y2 := HX4.out.cb (j := 2) rfl
          have X3 := HX4.out.ca (j := 3) rfl
          have Y3 := HX4.out.cb (j := 3) rfl
          have X4 := HX4.out.ca (j := 4) rfl
          have Y4 := HX4.out.cb (j := 4) rfl
          have X5 := HX4.out.ca (j := 5) rfl
          have Y5 := HX4.out.cb (j := 5) rfl
          have X6 := HX4.out.ca (j := 6) rfl
          have Y6 := HX4.out.cb (j := 6) rfl
          have X7 := HX4.out.ca (j := 7) rfl
          have Y7 := HX4.out.cb (j := 7) rfl
          have X8 := HX4.out.ca (j := 8) rfl
          have Y8 := HX4.out.cb (j := 8) rfl
          have X9 := HX4.out.ca (j := 9) rfl
          have Y9 := HX4.out.cb (j := 9) rfl
          go_wp2_with fail
          refine (HRB.out _ HX4.out.below).mono ?_
          rintro e w5 ⟨rfl, hb5⟩
          have HX5 := Hid.mk (HX4.out.keep hb5)
          clear hb5 X0 Y0 X1 Y1 X2 Y2 X3 Y3 X4 Y4 X5 Y5 X6 Y6 X7 Y7 X8 Y8 X9 Y9
          have X0 := HX5.out.ca (j := 0) rfl
          have Y0 := HX5.out.cb (j := 0) rfl
          have X1 := HX5.out.ca (j := 1) rfl
          have Y1 := HX5.out.cb (j := 1) rfl
          have X2 := HX5.out.ca (j := 2) rfl
          have Y2 := HX5.out.cb (j := 2) rfl
          have X3 := HX5.out.ca (j := 3) rfl
          have Y3 := HX5.out.cb (j := 3) rfl
          have X4 := HX5.out.ca (j := 4) rfl
          have Y4 := HX5.out.cb (j := 4) rfl
          have X5 := HX5.out.ca (j := 5) rfl
          have Y5 := HX5.out.cb (j := 5) rfl
          have X6 := HX5.out.ca (j := 6) rfl
          have Y6 := HX5.out.cb (j := 6) rfl
          have X7 := HX5.out.ca (j := 7) rfl
          have Y7 := HX5.out.cb (j := 7) rfl
          have X8 := HX5.out.ca (j := 8) rfl
          have Y8 := HX5.out.cb (j := 8) rfl
          have X9 := HX5.out.ca (j := 9) rfl
          have Y9 := HX5.out.cb (j := 9) rfl
          go_wp2_with fail
          refine (HTA2.out _ HX5.out.below).mono ?_
          rintro e w6 ⟨rfl, hb6⟩
          have HX6 := Hid.mk (HX5.out.keep hb6)
          clear hb6 X0 Y0 X1 Y1 X2 Y2 X3 Y3 X4 Y4 X5 Y5 X6 Y6 X7 Y7 X8 Y8 X9 Y9
          have X0 := HX6.out.ca (j := 0) rfl
          have Y0 := HX6.out.cb (j := 0) rfl
          have X1 := HX6.out.ca (j := 1) rfl
          have Y1 := HX6.out.cb (j := 1) rfl
          have X2 := HX6.out.ca (j := 2) rfl
          have Y2 := HX6.out.cb (j := 2) rfl
          have X3 := HX6.out.ca (j := 3) rfl
          have Y3 := HX6.out.cb (j := 3) rfl
          have X4 := HX6.out.ca (j := 4) rfl
          have Y4 := HX6.out.cb (j := 4) rfl
          have X5 := HX6.out.ca (j := 5) rfl
          have Y5 := HX6.out.cb (j := 5) rfl
          have X6 := HX6.out.ca (j := 6) rfl
          have Y6 := HX6.out.cb (j := 6) rfl
          have X7 := HX6.out.ca (j := 7) rfl
          have Y7 := HX6.out.cb (j := 7) rfl
          have X8 := HX6.out.ca (j := 8) rfl
          have Y8 := HX6.out.cb (j := 8) rfl
          have X9 := HX6.out.ca (j := 9) rfl
          have Y9 := HX6.out.cb (j := 9) rfl
          go_wp2_with fail
          refine (HTB2.out _ HX6.out.below).mono ?_
          rintro e w7 ⟨rfl, hb7⟩
          have HX7 := Hid.mk (HX6.out.keep hb7)
          clear hb7 X0 Y0 X1 Y1 X2 Y2 X3 Y3 X4 Y4 X5 Y5 X6 Y6 X7 Y7 X8 Y8 X9 Y9
          have X0 := HX7.out.ca (j := 0) rfl
          have Y0 := HX7.out.cb (j := 0) rfl
          have X1 := HX7.out.ca (j := 1) rfl
          have Y1 := HX7.out.cb (j := 1) rfl
          have X2 := HX7.out.ca (j := 2) rfl
          have Y2 := HX7.out.cb (j := 2) rfl
          have X3 := HX7.out.ca (j := 3) rfl
          have Y3 := HX7.out.cb (j := 3) rfl
          have X4 := HX7.out.ca (j := 4) rfl
          have Y4 := HX7.out.cb (j := 4) rfl
          have X5 := HX7.out.ca (j := 5) rfl
          have Y5 := HX7.out.cb (j := 5) rfl
          have X6 := HX7.out.ca (j := 6) rfl
          have Y6 := HX7.out.cb (j := 6) rfl
          have X7 := HX7.out.ca (j := 7) rfl
          have Y7 := HX7.out.cb (j := 7) rfl
          have X8 := HX7.out.ca (j := 8) rfl
          have Y8 := HX7.out.cb (j := 8) rfl
          have X9 := HX7.out.ca (j := 9) rfl
          have Y9 := HX7.out.cb (j := 9) rfl
          clear X0 Y0 X1 Y1 X2 Y2 X3 Y3 X4 Y4 X5 Y5 X6 Y6 X7 Y7 X8 Y8 X9 Y9
          have X0 := HX7.out.ca (j := 0) rfl
          have Y0 := HX7.out.cb (j := 0) rfl
          have X1 := HX7.out.ca (j := 1) rfl
          have Y1 := HX7.out.cb (j := 1) rfl
          have X2 := HX7.out.ca (j := 2) rfl
          have Y2 := HX7.out.cb (j := 2) rfl
          have X3 := HX7.out.ca (j := 3) rfl
          have Y3 := HX7.out.cb (j := 3) rfl
          have X4 := HX7.out.ca (j := 4) rfl
          have Y4 := HX7.out.cb (j := 4) rfl
          have X5 := HX7.out.ca (j := 5) rfl
          have Y5 := HX7.out.cb (j := 5) rfl
          have X6 := HX7.out.ca (j := 6) rfl
          have Y6 := HX7.out.cb (j := 6) rfl
          have X7 := HX7.out.ca (j := 7) rfl
          have Y7 := HX7.out.cb (j := 7) rfl
          have X8 := HX7.out.ca (j := 8) rfl
          have Y8 := HX7.out.cb (j := 8) rfl
          have X9 := HX7.out.ca (j := 9) rfl
          have Y9 := HX7.out.cb (j := 9) rfl
          have hq := HE2.out
          clear HE2
          cases r
          all_goals
            go_wp2_with fail
            refine (HSm.out _ HX7.out.below).mono ?_
            rintro e w8 ⟨rfl, hb8⟩
            have HX8 := Hid.mk (HX7.out.keep hb8)
            clear hb8 X0 Y0 X1 Y1 X2 Y2 X3 Y3 X4 Y4 X5 Y5 X6 Y6 X7 Y7 X8 Y8 X9 Y9
            go_wp2_with fail
            refine (HWk.out _ HX8.out.below).mono ?_
            rintro e w9 ⟨rfl, hb9⟩
            have HX9 := Hid.mk (HX8.out.keep hb9)
            clear hb9
            go_wp2_with fail
            go_ret
            exact ⟨rfl, HX9.out.below⟩
end Go.Proofs.YtdjleoglphgdgaaGreatDoor
