import Derived.Test.YtcadknhedfnaoaaGreatDoorM40
import Derived.Test.YtcadknhedfnaoaaGreatDoorM51
import Derived.Test.YtcadknhedfnaoaaGreatDoorM52
import Derived.Test.YtcadknhedfnaoaaGreatDoorM53
namespace Go.Proofs.YtcadknhedfnaoaaGreatDoor
open Go.RowKit Go.Shelf Go.Sort
set_option linter.unusedVariables false
set_option linter.unusedSimpArgs false
attribute [local go_sem] Oper.semAt_some

def nnS : NT := .mk 1 0 .empty vt0 [] []
theorem inA_self (w : World) : InA w 1 nnS (.agg #[.int .i64 1, .int .i64 0, .string ⟨#[]⟩, .int .i64 0, .string ⟨#[]⟩, .string ⟨#[]⟩, .slice none 0 0, .slice none 0 0, .slice none 0 0, .slice none 0 0]) := by
  refine ⟨none, 0, none, 0, none, 0, none, 0, rfl, by decide, InV.ofH (inH_0 w 0), ⟨Nat.le_refl _, by decide, fun k hk => by cases hk⟩, ⟨Nat.le_refl _, by decide⟩, fun h => absurd h (by decide), fun h => absurd h (by decide)⟩
theorem fp_self : fpN 1 nnS = true := by
  rw [fpN]
  have e1 : sq vt0 vt0 = true := sq_iff.2 rfl
  simp [nnS, NT.op, NT.kids, NT.text, NT.value, NT.names, mfB, ttB, nmO, vfB, nsB, e1]
theorem sh_self : shT 1 nnS = [46] := by rw [shT_up]; rfl
theorem tx_self : TxB 1 nnS := ⟨by decide, fun i hi => absurd hi (Nat.not_lt_zero i)⟩
theorem ky_end : pKy ⟨#[101, 110, 100]⟩ = [101, 110, 100] ∧ pKe1 ⟨#[101, 110, 100]⟩ = 0 := by
  have h1 : okB [101, 110, 100] = true := by decide
  have h2 : namedB [101, 110, 100] = true := by decide
  unfold pKy pKe1
  simp only [h1, h2]
  exact ⟨rfl, rfl⟩

set_option maxRecDepth 100000 in
set_option maxHeartbeats 1600000 in
theorem w_works (w : World) (hT : PTabIn w) : Calls Tryz.prog 6 #[] w fun e w' => e = .returned (.bool true) ∧ Below w.heap.size w w' := by
  have HTx := Hid.mk (w_TextP 1 nnS _ w (inA_self w) hT tx_self (by rw [sh_self]; decide))
  have HKy := Hid.mk (fun u => w_KeyP ⟨#[101, 110, 100]⟩ u (by decide))
  unfold txA txE at HTx
  rw [fp_self, if_pos rfl, if_pos rfl, sh_self] at HTx
  rw [ky_end.1, ky_end.2] at HKy
  clear hT
  go_enter Tryz.func6, Tryz.ntmps6
  go_wp2_with fail
  refine HTx.out.mono ?_
  rintro e w1 ⟨rfl, hb1⟩
  have HB1 := Hid.mk hb1
  clear hb1
  go_wp2_with fail
  refine (HKy.out _).mono ?_
  rintro e w2 ⟨rfl, hb2⟩
  have HB2 := Hid.mk (HB1.out.trans (hb2.mono HB1.out.size))
  clear hb2
  go_wp2_with fail
  go_ret
  exact ⟨rfl, HB2.out⟩

set_option maxRecDepth 100000 in
set_option maxHeartbeats 1600000 in
theorem w_rKey (s : ByteArray) (w : World) (hs : s.size ≤ 1048576) : Calls Tryz.prog 9 #[.string s] w fun e w' => e = .returned (.tuple #[.string ⟨(pKy s).toArray⟩, .int .i64 (pKe1 s)]) ∧ Below w.heap.size w w' := by
  have HV := Hid.mk (fun u => w_rValidV s u (by omega))
  have HN := Hid.mk (fun u => w_rNamed s u (by omega))
  have HQ := Hid.mk (fun u => w_rQuote s u hs)
  cases hv : okB s.data.toList with
  | false =>
    rw [hv] at HV
    have e1 : pKy s = [] := by unfold pKy; rw [if_pos hv]
    have e2 : pKe1 s = 1 := by unfold pKe1; rw [if_pos hv]
    rw [e1, e2]
    clear hv e1 e2
    go_enter Tryz.func9, Tryz.ntmps9
    go_wp2_with fail
    refine (HV.out _).mono ?_
    rintro e w1 ⟨rfl, hb1⟩
    have HB1 := Hid.mk hb1
    clear hb1
    go_wp2_with fail
    go_ret2
    exact ⟨rfl, HB1.out⟩
  | true =>
    rw [hv] at HV
    have e2 : pKe1 s = 0 := by unfold pKe1; rw [if_neg (by rw [hv]; decide)]
    rw [e2]
    cases hn : namedB s.data.toList with
    | true =>
      rw [hn] at HN
      have e1 : pKy s = s.data.toList := by unfold pKy; rw [if_neg (by rw [hv]; decide), if_pos hn]
      rw [e1, show (⟨s.data.toList.toArray⟩ : ByteArray) = s from rfl]
      clear hv hn e1 e2
      go_enter Tryz.func9, Tryz.ntmps9
      go_wp2_with fail
      refine (HV.out _).mono ?_
      rintro e w1 ⟨rfl, hb1⟩
      have HB1 := Hid.mk hb1
      clear hb1
      go_wp2_with fail
      refine (HN.out _).mono ?_
      rintro e w2 ⟨rfl, hw2⟩
      obtain rfl := hw2.symm
      go_wp2_with fail
      go_ret2
      exact ⟨rfl, HB1.out⟩
    | false =>
      rw [hn] at HN
      have e1 : pKy s = pQt s := by unfold pKy; rw [if_neg (by rw [hv]; decide), if_neg (by rw [hn]; decide)]
      rw [e1]
      unfold pQt
      clear hv hn e1 e2
      generalize (⟨(34 :: (qb (runes s.data.toList) ++ [34])).toArray⟩ : ByteArray) = y at *
      go_enter Tryz.func9, Tryz.ntmps9
      go_wp2_with fail
      refine (HV.out _).mono ?_
      rintro e w1 ⟨rfl, hb1⟩
      have HB1 := Hid.mk hb1
      clear hb1
      go_wp2_with fail
      refine (HN.out _).mono ?_
      rintro e w2 ⟨rfl, hw2⟩
      obtain rfl := hw2.symm
      go_wp2_with fail
      refine (HQ.out _).mono ?_
      rintro e w3 ⟨rfl, hb3⟩
      have HB3 := Hid.mk (HB1.out.trans (hb3.mono HB1.out.size))
      clear hb3
      go_wp2_with fail
      go_ret2
      exact ⟨rfl, HB3.out⟩

set_option maxRecDepth 100000 in
set_option maxHeartbeats 1600000 in
theorem w_ShowKey (s : ByteArray) (hs : s.size ≤ 1048576) (w : World) (hT : PTabIn w) : Calls Tryz.prog 4 #[.string s] w fun e w' => e = .returned (.bool true) ∧ Below w.heap.size w w' := by
  have HR := Hid.mk (w_rKey s w hs)
  have HK := Hid.mk (fun u => w_KeyP s u (by omega))
  have HW : Hid (∀ u, Below w.heap.size w u → Calls Tryz.prog 6 #[] u fun e w' => e = .returned (.bool true) ∧ Below u.heap.size u w') := fun u hu => w_works u (hT.keep hu)
  generalize (⟨(pKy s).toArray⟩ : ByteArray) = y at *
  generalize pKe1 s = er at *
  clear hT hs
  go_enter Tryz.func4, Tryz.ntmps4
  go_wp2_with fail
  refine HR.out.mono ?_
  rintro e w1 ⟨rfl, hb1⟩
  have HB1 := Hid.mk hb1
  clear hb1
  go_wp2_with fail
  refine (HK.out _).mono ?_
  rintro e w2 ⟨rfl, hb2⟩
  have HB2 := Hid.mk (HB1.out.trans (hb2.mono HB1.out.size))
  clear hb2
  go_wp2_with fail
  refine (HW.out _ HB2.out).mono ?_
  rintro e w3 ⟨rfl, hb3⟩
  have HB3 := Hid.mk (HB2.out.trans (hb3.mono HB2.out.size))
  clear hb3
  go_wp2_with fail
  go_ret
  exact ⟨rfl, HB3.out⟩
end Go.Proofs.YtcadknhedfnaoaaGreatDoor
