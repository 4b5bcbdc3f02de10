import Derived.Test.YtcpnodkcnblkdaaGreatDoorM44
import Derived.Test.YtcpnodkcnblkdaaGreatDoorM31
import Derived.Test.YtcpnodkcnblkdaaGreatDoorM21
import Derived.Test.YtcpnodkcnblkdaaGreatDoorM26
import Derived.Test.YtcpnodkcnblkdaaGreatDoorM17
import Derived.Test.YtcpnodkcnblkdaaGreatDoorM43
namespace Go.Proofs.YtcpnodkcnblkdaaGreatDoor
open Go.RowKit Go.Shelf
set_option linter.unusedVariables false
set_option linter.unusedSimpArgs false

theorem inH_shapeW {W : World} {h : Nat} {T : VT} {v : Value} (hI : InH W h T v) : ∃ (k : Int) (n t : ByteArray) (io : Option Addr) (a ic : Nat) (ko : Option Addr) (b kc : Nat), v = .agg #[.int .i64 k, .string n, .string t, .slice io a ic, .slice ko b kc] := by
  cases h with
  | zero => exact hI.elim
  | succ h =>
    obtain ⟨io, icap, ko, kcap, e, _⟩ := hI
    exact ⟨_, _, _, _, _, _, _, _, _, e⟩
theorem w_One_wr {st : Option Nat} (hst : ∀ s, st = some s → s ≤ 8) {h : Nat} {T : VT} (hf : formN h T = true) (hs : ShV h T) (hd : dpN h T ≤ 64) (hb : blN h T ≤ 1048576) (hz : szN h T ≤ 20000) (A : ByteArray) (e : A = ⟨(wrV st h 0 T).toArray⟩) (w : World) (hE : ErrIn w) : Calls Tryz.prog 12 #[.string A] w fun e w' => Below w.heap.size w w' ∧ ∃ v, e = .returned (.tuple #[v, .int .i64 0, .int .i64 0]) ∧ InH w' 65 T v := by
  have el : A.data.toList = wrV st h 0 T := by rw [e]
  have hl := wr_len st hst h T 0 hf (by omega)
  have hsz : A.size ≤ 1073741824 := by
    have h1 : A.data.toList.length = A.size := size_lst A
    rw [el] at h1
    omega
  obtain ⟨q, hq⟩ := one_wr hf hs hd el
  refine (w_One5 A hsz w hE).mono ?_
  rintro e2 w' ⟨hb2, hm⟩
  rw [hq] at hm
  obtain ⟨v, rfl, hF⟩ := hm
  exact ⟨hb2, v, rfl, hF.toH⟩

set_option maxRecDepth 100000 in
set_option maxHeartbeats 6400000 in
theorem w_WriterRead (h : Nat) (T : VT) (w : World) (k : Int) (n t : ByteArray) (io : Option Addr) (N icap : Nat) (ko : Option Addr) (K kcap : Nat) (stp : Int) (hI : InH w h T (.agg #[.int .i64 k, .string n, .string t, .slice io N icap, .slice ko K kcap])) (hsh : ShV h T) (hbl : blN h T ≤ 1048576) (hwd : WordsAt w) (hE : ErrIn w) :
    Calls Tryz.prog 3 #[.agg #[.int .i64 k, .string n, .string t, .slice io N icap, .slice ko K kcap], .int .i64 stp] w fun e w' => e = .returned (.bool true) ∧ Below w.heap.size w w' := by
  have HX := Hid.mk (vbx_new w (.int .i64 k) (.string n) (.string t) (.slice io N icap) (.slice ko K kcap))
  obtain ⟨W0, hW0⟩ : ∃ W0, W0 = w.alloc (.cells #[.int .i64 k, .string n, .string t, .slice io N icap, .slice ko K kcap] 25) := ⟨_, rfl⟩
  rw [← hW0] at HX
  have HW0 := Hid.mk hW0
  have HLv : Hid (∀ u, VBx w u (.int .i64 k) (.string n) (.string t) (.slice io N icap) (.slice ko K kcap) → Calls Tryz.prog 6 #[] u fun e w' => e = .returned (.bool true) ∧ Hid (VBx w w' (.int .i64 k) (.string n) (.string t) (.slice io N icap) (.slice ko K kcap))) := fun u hu => (w_lives6 u (hwd.keep hu.below)).mono fun e w' ⟨he, hb⟩ => ⟨he, hu.keep hb⟩
  obtain ⟨sm, hsm⟩ : ∃ sm, decide (szN h T ≤ 20000) = sm := ⟨_, rfl⟩
  obtain ⟨fm, hfm⟩ : ∃ fm, formN h T = fm := ⟨_, rfl⟩
  have HSm : Hid (∀ u, VBx w u (.int .i64 k) (.string n) (.string t) (.slice io N icap) (.slice ko K kcap) → Calls Tryz.prog 7 #[.agg #[.int .i64 k, .string n, .string t, .slice io N icap, .slice ko K kcap]] u fun e w' => e = .returned (.bool sm) ∧ Hid (VBx w w' (.int .i64 k) (.string n) (.string t) (.slice io N icap) (.slice ko K kcap))) := fun u hu => (w_small6 h T u _ _ _ _ _ _ _ _ _ (hI.keep hu.below)).mono fun e w' ⟨he, hb⟩ => ⟨by rw [he, hsm], hu.keep hb⟩
  have HFm : Hid (∀ u, VBx w u (.int .i64 k) (.string n) (.string t) (.slice io N icap) (.slice ko K kcap) → Calls Tryz.prog 8 #[.agg #[.int .i64 k, .string n, .string t, .slice io N icap, .slice ko K kcap]] u fun e w' => e = .returned (.bool fm) ∧ Hid (VBx w w' (.int .i64 k) (.string n) (.string t) (.slice io N icap) (.slice ko K kcap))) := fun u hu => (w_rFormed h T _ u (hI.keep hu.below)).mono fun e w' ⟨he, hb⟩ => ⟨by rw [he, hfm], hu.keep hb⟩
  have HE := Hid.mk hE
  have HI := Hid.mk hI
  have HAll := Hid.mk (And.intro hsh (And.intro hbl (And.intro hwd (And.intro hsm hfm))))
  clear hW0 hsm hfm hI hsh hbl hwd hE
  go_enter Tryz.func3, Tryz.ntmps3
  go_wp2_with fail
  rw [← HW0.out]
  refine (HLv.out _ HX.out).mono ?_
  rintro e w1 ⟨rfl, HX1⟩
  obtain ⟨_, c0, c1, c2, c3, c4, _⟩ := HX1.out
  go_wp2_with fail
  refine (HSm.out _ HX1.out).mono ?_
  rintro e w2 ⟨rfl, HX2⟩
  clear c0 c1 c2 c3 c4
  cases sm with
  | false =>
    go_wp2_with fail
    refine bodyPost_ret (v := .bool true) (by simp [results, Tryz.results3, go_sem]) rfl ?_
    exact ⟨rfl, HX2.out.below⟩
  | true =>
    obtain ⟨_, c0, c1, c2, c3, c4, _⟩ := HX2.out
    go_wp2_with fail
    refine (HFm.out _ HX2.out).mono ?_
    rintro e w3 ⟨rfl, HX3⟩
    clear c0 c1 c2 c3 c4
    cases fm with
    | false =>
      go_wp2_with fail
      refine bodyPost_ret (v := .bool true) (by simp [results, Tryz.results3, go_sem]) rfl ?_
      exact ⟨rfl, HX3.out.below⟩
    | true =>
      have hsz : szN h T ≤ 20000 := of_decide_eq_true HAll.out.2.2.2.1
      have hf : formN h T = true := HAll.out.2.2.2.2
      by_cases s0 : stp < 0
      · obtain ⟨_, c0, c1, c2, c3, c4, _⟩ := HX3.out
        go_wp2_with fail
        refine bodyPost_ret (v := .bool true) (by simp [results, Tryz.results3, go_sem]) rfl ?_
        exact ⟨rfl, HX3.out.below⟩
      by_cases s8 : 8 < stp
      · obtain ⟨_, c0, c1, c2, c3, c4, _⟩ := HX3.out
        go_wp2_with fail
        refine bodyPost_ret (v := .bool true) (by simp [results, Tryz.results3, go_sem]) rfl ?_
        exact ⟨rfl, HX3.out.below⟩
      obtain ⟨sp, hsp⟩ : ∃ sp : Nat, stp = (sp : Int) := ⟨stp.toNat, by omega⟩
      subst hsp
      have hsp8 : sp ≤ 8 := by omega
      have HDp : Hid (∀ u, VBx w u (.int .i64 k) (.string n) (.string t) (.slice io N icap) (.slice ko K kcap) → Calls Tryz.prog 9 #[.agg #[.int .i64 k, .string n, .string t, .slice io N icap, .slice ko K kcap]] u fun e w' => e = .returned (.int .i64 ((dpN h T : Nat) : Int)) ∧ Hid (VBx w w' (.int .i64 k) (.string n) (.string t) (.slice io N icap) (.slice ko K kcap))) := fun u hu => (w_rDepth h T _ u (HI.out.keep hu.below) (by omega) hf).mono fun e w' ⟨he, hb⟩ => ⟨he, hu.keep hb⟩
      obtain ⟨dp, hdp⟩ : ∃ dp, dpN h T = dp := ⟨_, rfl⟩
      rw [hdp] at HDp
      obtain ⟨A1, hA1⟩ : ∃ A : ByteArray, A = ⟨(wrV none h 0 T).toArray⟩ := ⟨_, rfl⟩
      obtain ⟨A2, hA2⟩ : ∃ A : ByteArray, A = ⟨(wrV (some sp) h 0 T).toArray⟩ := ⟨_, rfl⟩
      have HTx : Hid (∀ u, VBx w u (.int .i64 k) (.string n) (.string t) (.slice io N icap) (.slice ko K kcap) → Calls Tryz.prog 10 #[.agg #[.int .i64 k, .string n, .string t, .slice io N icap, .slice ko K kcap]] u fun e w' => e = .returned (.tuple #[.string A1, .int .i64 0]) ∧ Hid (VBx w w' (.int .i64 k) (.string n) (.string t) (.slice io N icap) (.slice ko K kcap))) := fun u hu => (w_Text h T u _ _ _ _ _ _ _ _ _ (HI.out.keep hu.below) HAll.out.1 hsz (HAll.out.2.2.1.keep hu.below)).mono fun e w' ⟨he, hb⟩ => ⟨by rw [he, if_pos hf, if_pos hf, hA1], hu.keep hb⟩
      have HLd : Hid (∀ u, VBx w u (.int .i64 k) (.string n) (.string t) (.slice io N icap) (.slice ko K kcap) → Calls Tryz.prog 11 #[.agg #[.int .i64 k, .string n, .string t, .slice io N icap, .slice ko K kcap], .int .i64 (sp : Int)] u fun e w' => e = .returned (.tuple #[.string A2, .int .i64 0]) ∧ Hid (VBx w w' (.int .i64 k) (.string n) (.string t) (.slice io N icap) (.slice ko K kcap))) := fun u hu => (w_Laid h T u _ _ _ _ _ _ _ _ _ sp hsp8 (HI.out.keep hu.below) HAll.out.1 hsz (HAll.out.2.2.1.keep hu.below)).mono fun e w' ⟨he, hb⟩ => ⟨by rw [he, if_pos hf, if_pos hf, hA2], hu.keep hb⟩
      have HO1 : Hid (dp ≤ 64 → ∀ u, VBx w u (.int .i64 k) (.string n) (.string t) (.slice io N icap) (.slice ko K kcap) → Calls Tryz.prog 12 #[.string A1] u fun e w' => Below u.heap.size u w' ∧ ∃ v, e = .returned (.tuple #[v, .int .i64 0, .int .i64 0]) ∧ InH w' 65 T v) := fun hd u hu => w_One_wr (fun s hs => by cases hs) hf HAll.out.1 (by omega) HAll.out.2.1 hsz A1 hA1 u (HE.out.keep hu.below)
      have HO2 : Hid (dp ≤ 64 → ∀ u, VBx w u (.int .i64 k) (.string n) (.string t) (.slice io N icap) (.slice ko K kcap) → Calls Tryz.prog 12 #[.string A2] u fun e w' => Below u.heap.size u w' ∧ ∃ v, e = .returned (.tuple #[v, .int .i64 0, .int .i64 0]) ∧ InH w' 65 T v) := fun hd u hu => w_One_wr (fun s hs => by cases hs; exact hsp8) hf HAll.out.1 (by omega) HAll.out.2.1 hsz A2 hA2 u (HE.out.keep hu.below)
      have HLk : Hid (∀ (u : World) (v : Value), VBx w u (.int .i64 k) (.string n) (.string t) (.slice io N icap) (.slice ko K kcap) → InH u 65 T v → Calls Tryz.prog 13 #[v, .agg #[.int .i64 k, .string n, .string t, .slice io N icap, .slice ko K kcap]] u fun e w' => e = .returned (.bool true) ∧ Below u.heap.size u w') := fun u v hu hv => (w_Like (max h 65) T T v _ u (hv.le (by omega)) ((HI.out.keep hu.below).le (by omega))).mono fun e w' ⟨he, hb⟩ => ⟨by rw [he, likeD_iff.2 rfl], hb⟩
      clear hA1 hA2 hdp hf hsz HAll
      obtain ⟨_, c0, c1, c2, c3, c4, _⟩ := HX3.out
      go_wp2_with fail
      refine (HDp.out _ HX3.out).mono ?_
      rintro e w4 ⟨rfl, HX4⟩
      clear c0 c1 c2 c3 c4
      by_cases hd : (64 : Int) < (dp : Int)
      · obtain ⟨_, c0, c1, c2, c3, c4, _⟩ := HX4.out
        go_wp2_with fail
        refine bodyPost_ret (v := .bool true) (by simp [results, Tryz.results3, go_sem]) rfl ?_
        exact ⟨rfl, HX4.out.below⟩
      have hd64 : dp ≤ 64 := by omega
      have HOa := Hid.mk (HO1.out hd64)
      have HOb := Hid.mk (HO2.out hd64)
      clear HO1 HO2 hd64
      obtain ⟨_, c0, c1, c2, c3, c4, _⟩ := HX4.out
      go_wp2_with fail
      refine (HTx.out _ HX4.out).mono ?_
      rintro e w5 ⟨rfl, HX5⟩
      clear c0 c1 c2 c3 c4
      obtain ⟨_, c0, c1, c2, c3, c4, _⟩ := HX5.out
      go_wp2_with fail
      refine (HLd.out _ HX5.out).mono ?_
      rintro e w6 ⟨rfl, HX6⟩
      clear c0 c1 c2 c3 c4 HTx HLd HDp hd
      go_wp2_with fail
      refine (HOa.out _ HX6.out).mono ?_
      rintro e w7 ⟨hb7, va, rfl, hva⟩
      have HX7 := Hid.mk (HX6.out.keep hb7)
      obtain ⟨ak, an, at_, aio, aa, aic, ako, ab, akc, rfl⟩ := inH_shapeW hva
      have HVa := Hid.mk hva
      clear hb7 hva HOa
      go_wp2_with fail
      obtain ⟨W8, hW8⟩ : ∃ W8, w7.alloc (.cells #[.int .i64 ak, .string an, .string at_, .slice aio aa aic, .slice ako ab akc] 25) = W8 := ⟨_, rfl⟩
      have hb8 : Below w7.heap.size w7 W8 := by rw [← hW8]; exact below1 w7 _
      have HY8 : Hid (W8.heap[w7.heap.size]? = some (.cells #[.int .i64 ak, .string an, .string at_, .slice aio aa aic, .slice ako ab akc] 25 (0, 0))) := by show _ = _; rw [← hW8]; exact heap_alloc_new w7 _
      have HX8 := Hid.mk (HX7.out.keep hb8)
      have HVa8 := Hid.mk (HVa.out.keep hb8)
      rw [hW8]
      clear hb8 hW8 HVa HX7
      refine (HOb.out _ HX8.out).mono ?_
      rintro e w9 ⟨hb9, vb, rfl, hvb⟩
      obtain ⟨bk, bn, bt, bio, ba, bic, bko, bb, bkc, rfl⟩ := inH_shapeW hvb
      obtain ⟨W10, hW10⟩ : ∃ W10, w9.alloc (.cells #[.int .i64 bk, .string bn, .string bt, .slice bio ba bic, .slice bko bb bkc] 25) = W10 := ⟨_, rfl⟩
      have hb10 : Below w9.heap.size w9 W10 := by rw [← hW10]; exact below1 w9 _
      have hb810 : Below W8.heap.size W8 W10 := hb9.trans (hb10.mono hb9.size)
      have HZ10 : Hid (W10.heap[w9.heap.size]? = some (.cells #[.int .i64 bk, .string bn, .string bt, .slice bio ba bic, .slice bko bb bkc] 25 (0, 0))) := by show _ = _; rw [← hW10]; exact heap_alloc_new w9 _
      have HY10 : Hid (W10.heap[w7.heap.size]? = some (.cells #[.int .i64 ak, .string an, .string at_, .slice aio aa aic, .slice ako ab akc] 25 (0, 0))) := heap_lowT hb810 (Array.getElem?_eq_some_iff.1 HY8.out).1 HY8.out
      have HX10 := Hid.mk (HX8.out.keep hb810)
      have HVa10 := Hid.mk (HVa8.out.keep hb810)
      have HVb10 := Hid.mk (hvb.keep hb10)
      have HL1 := Hid.mk (HLk.out W10 _ HX10.out HVa10.out)
      obtain ⟨x0, x1, x2, x3, x4, _⟩ := vbox_cells HY10.out
      obtain ⟨_, c0, c1, c2, c3, c4, _⟩ := HX10.out
      clear hb9 hb10 hb810 hvb HVa8 HY8 HOb HX8
      go_wp2_with fail
      refine HL1.out.mono ?_
      rintro e w11 ⟨rfl, hb11⟩
      have HX11 := Hid.mk (HX10.out.keep hb11)
      have HZ11 : Hid (w11.heap[w9.heap.size]? = some (.cells #[.int .i64 bk, .string bn, .string bt, .slice bio ba bic, .slice bko bb bkc] 25 (0, 0))) := heap_lowT hb11 (Array.getElem?_eq_some_iff.1 HZ10.out).1 HZ10.out
      have HL2 := Hid.mk (HLk.out w11 _ HX11.out (HVb10.out.keep hb11))
      obtain ⟨y0, y1, y2, y3, y4, _⟩ := vbox_cells HZ11.out
      clear hb11 x0 x1 x2 x3 x4 c0 c1 c2 c3 c4 HL1 HX10 HY10 HZ10 hW10
      obtain ⟨_, c0, c1, c2, c3, c4, _⟩ := HX11.out
      go_wp2_with fail
      refine HL2.out.mono ?_
      rintro e w12 ⟨rfl, hb12⟩
      have HX12 := Hid.mk (HX11.out.keep hb12)
      clear hb12 y0 y1 y2 y3 y4 c0 c1 c2 c3 c4 HL2 HX11 HZ11
      go_wp2_with fail
      refine bodyPost_ret (v := .bool true) (by simp [results, Tryz.results3, go_sem]) rfl ?_
      exact ⟨rfl, HX12.out.below⟩
end Go.Proofs.YtcpnodkcnblkdaaGreatDoor
