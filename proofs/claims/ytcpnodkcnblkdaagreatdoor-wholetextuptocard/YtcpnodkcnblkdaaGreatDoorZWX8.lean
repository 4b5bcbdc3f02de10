import Derived.Test.YtcpnodkcnblkdaaGreatDoorM45
import Derived.Test.YtcpnodkcnblkdaaGreatDoorZWX7
import Derived.Test.YtcpnodkcnblkdaaGreatDoorZO11
import Derived.Test.YtcpnodkcnblkdaaGreatDoorX0
namespace Go.Proofs.YtcpnodkcnblkdaaGreatDoor
open Go.RowKit Go.Shelf
set_option linter.unusedVariables false
set_option linter.unusedSimpArgs false

theorem wr_len0 : ∀ (H : Nat) (T : VT) (d : Nat), formN H T = true → (wrV none H d T).length + 10 ≤ 6 * blN H T + 20 * szN H T
  | 0, T, d, hf => by cases hf
  | H + 1, T, d, hf => by
    rcases form_open hf with (rfl | rfl | rfl) | ⟨n, rfl, hn⟩ | ⟨t, rfl, ht⟩ | ⟨i, rfl, hi⟩ | ⟨i, ks, rfl, hl, hr, ho, hi⟩
    · show 4 + 10 ≤ 6 * _ + 20 * (1 + 0 + 0); omega
    · show 5 + 10 ≤ 6 * _ + 20 * (1 + 0 + 0); omega
    · show 4 + 10 ≤ 6 * _ + 20 * (1 + 0 + 0); omega
    · show n.data.toList.length + 10 ≤ 6 * (n.size + 0 + 0 + 0) + 20 * (1 + 0 + 0)
      rw [size_lst n]; omega
    · have h2 := wQ_len t.data.toList
      rw [size_lst t] at h2
      show (wQ t.data.toList).length + 10 ≤ 6 * (0 + t.size + 0 + 0) + 20 * (1 + 0 + 0)
      omega
    · have hw := wr_arr none H d i
      have h1 := rwT_len 91 93 (lnW none (d + 1)) (lnW none d) (i.map (wrV none H (d + 1)))
      have l1 : (lnW none (d + 1)).length = 0 := rfl
      have l0 : (lnW none d).length = 0 := rfl
      rw [List.map_map] at h1
      have h2 : sumL (i.map ((fun e => 1 + (lnW none (d + 1)).length + e.length) ∘ wrV none H (d + 1))) ≤ sumL (i.map fun t => 6 * blN H t + 20 * szN H t) := sumL_le i (fun t ht => by
        have := wr_len0 H t (d + 1) (hi t ht)
        show 1 + (lnW none (d + 1)).length + (wrV none H (d + 1) t).length ≤ _
        omega)
      rw [sumL_add, sumL_mul, sumL_mul] at h2
      rw [hw]
      show _ + 10 ≤ 6 * (0 + 0 + 0 + sumL (i.map (blN H))) + 20 * (1 + 0 + sumL (i.map (szN H)))
      omega
    · have hw : wrV none (H + 1) d (.mk 6 .empty .empty i ks) = rwT 123 125 (lnW none (d + 1)) (lnW none d) ((ks.zip i).map fun p => (wQ p.1.data.toList ++ clW none) ++ wrV none H (d + 1) p.2) := by
        rw [wr_obj none H d i ks hl]
        unfold fldsT
        rw [List.map_map]
        congr 1
        apply List.map_congr_left
        intro p _
        show wL p.1.data.toList ++ (58 :: clB none ++ wrV none H (d + 1) p.2) = _
        rw [clW_eq, wL_wQ]
        simp
      have h1 := rwT_len 123 125 (lnW none (d + 1)) (lnW none d) ((ks.zip i).map fun p => (wQ p.1.data.toList ++ clW none) ++ wrV none H (d + 1) p.2)
      have l1 : (lnW none (d + 1)).length = 0 := rfl
      have l0 : (lnW none d).length = 0 := rfl
      rw [List.map_map] at h1
      have h2 : sumL ((ks.zip i).map ((fun e => 1 + (lnW none (d + 1)).length + e.length) ∘ fun p => (wQ p.1.data.toList ++ clW none) ++ wrV none H (d + 1) p.2)) ≤ sumL ((ks.zip i).map fun p => 6 * p.1.size + (6 * blN H p.2 + 20 * szN H p.2)) := sumL_le _ (fun p hp => by
        have hz := List.of_mem_zip (a := p.1) (b := p.2) hp
        have h3 := wr_len0 H p.2 (d + 1) (hi p.2 hz.2)
        have h4 := wQ_len p.1.data.toList
        have h5 := clW_len none
        rw [size_lst p.1] at h4
        show 1 + (lnW none (d + 1)).length + ((wQ p.1.data.toList ++ clW none) ++ wrV none H (d + 1) p.2).length ≤ _
        rw [List.length_append, List.length_append]
        omega)
      rw [sum_zip ks i (fun k => 6 * k.size) (fun t => 6 * blN H t + 20 * szN H t) hl, sumL_mul, sumL_add, sumL_mul, sumL_mul] at h2
      have ek : sumL (ks.map ByteArray.size) = sumL (ks.map fun k => k.size) := rfl
      rw [hw]
      show _ + 10 ≤ 6 * (0 + 0 + sumL (ks.map fun k => k.size) + sumL (i.map (blN H))) + 20 * (1 + ks.length + sumL (i.map (szN H)))
      omega
def lt1 : VT := .mk 5 .empty .empty [.mk 3 ⟨#[49]⟩ .empty [] []] []
theorem lt1_form : formN 2 lt1 = true := by kernel_rfl
theorem lt1_text : (⟨#[91, 49, 93]⟩ : ByteArray) = ⟨(wrV none 2 0 lt1).toArray⟩ := by kernel_rfl
theorem lt1_sh : ShV 2 lt1 := ⟨by decide, by decide, (fun k hk => by cases hk), fun t ht => by
  rw [List.mem_singleton.1 (show t ∈ [VT.mk 3 ⟨#[49]⟩ .empty [] []] from ht)]
  exact ⟨by decide, by decide, (fun k hk => by cases hk), fun t ht => by cases ht⟩⟩
theorem lt1_open {w : World} {v : Value} (h : InH w 65 lt1 v) : ∃ (ib ioff yc : Nat) (yk : Option Addr) (ykc : Nat), v = .agg #[.int .i64 5, .string ⟨#[]⟩, .string ⟨#[]⟩, .slice (some ⟨ib, ioff, none⟩) 1 yc, .slice yk 0 ykc] ∧ 1 ≤ yc ∧ ib < w.heap.size ∧ w.cell? ⟨ib, ioff + 1, none⟩ = some (.string ⟨#[49]⟩) := by
  obtain ⟨yo, yc, yk, ykc, rfl, _, _, _, _, hyle, _, _, _, hit⟩ := h
  obtain ⟨ib, ioff, hio, hibl, hirow⟩ := hit (by show 0 < 1; omega)
  subst hio
  obtain ⟨u0, u1, u2, u3, u4, ⟨a0, a1, a2, a3, a4⟩, hIx⟩ := hirow 0 (by show 0 < 1; omega)
  obtain ⟨_, _, _, _, eu, _⟩ := hIx
  simp only [Value.agg.injEq, Array.mk.injEq, List.cons.injEq, and_true] at eu
  obtain ⟨_, e1, _, _, _⟩ := eu
  refine ⟨ib, ioff, yc, yk, ykc, rfl, hyle, hibl, ?_⟩
  rw [e1] at a1
  have e2 : ioff + 0 * 5 + 1 = ioff + 1 := by omega
  rw [e2] at a1
  exact a1

set_option maxRecDepth 100000 in
set_option maxHeartbeats 800000 in
theorem w_rSame (h : Nat) (A : VT) (va vb : Value) (w : World) (ha : InH w h A va) (hb : InH w h A vb) (hf : formN h A = true) : Calls Tryz.prog 15 #[va, vb] w fun e w' => e = .returned (.bool true) ∧ Below w.heap.size w w' := by
  have hc : cmpH h A A = 0 := (cmpH_ord h).rf hf
  obtain ⟨ak, an, at_, aio, aa, aic, ako, ab, akc, rfl⟩ := inH_shapeW ha
  obtain ⟨bk, bn, bt, bio, ba, bic, bko, bb, bkc, rfl⟩ := inH_shapeW hb
  have HC := Hid.mk (fun u (hu : Below w.heap.size w u) => w_rCmp h A A _ _ u (ha.keep hu) (hb.keep hu) hf hf)
  rw [hc] at HC
  clear ha hb hf hc
  obtain ⟨W1, hW1⟩ : ∃ W1, (w.alloc (.cells #[.int .i64 ak, .string an, .string at_, .slice aio aa aic, .slice ako ab akc] 25)).alloc (.cells #[.int .i64 bk, .string bn, .string bt, .slice bio ba bic, .slice bko bb bkc] 25) = W1 := ⟨_, rfl⟩
  have hb1 : Below w.heap.size w W1 := by rw [← hW1]; exact (below1 w _).alloc (by simp) _
  have HB1 := Hid.mk hb1
  have hx0 : W1.heap[w.heap.size]? = some (.cells #[.int .i64 ak, .string an, .string at_, .slice aio aa aic, .slice ako ab akc] 25 (0, 0)) := by rw [← hW1]; exact (Below.heap_alloc _ _ _ (by simp)).trans (heap_alloc_new w _)
  have hx1 : W1.heap[w.heap.size + 1]? = some (.cells #[.int .i64 bk, .string bn, .string bt, .slice bio ba bic, .slice bko bb bkc] 25 (0, 0)) := by
    rw [← hW1]
    have := heap_alloc_new (w.alloc (.cells #[.int .i64 ak, .string an, .string at_, .slice aio aa aic, .slice ako ab akc] 25)) (.cells #[.int .i64 bk, .string bn, .string bt, .slice bio ba bic, .slice bko bb bkc] 25)
    rwa [World.size_alloc] at this
  obtain ⟨x0, x1, x2, x3, x4, _⟩ := vbox_cells hx0
  obtain ⟨y0, y1, y2, y3, y4, _⟩ := vbox_cells hx1
  clear hb1 hx0 hx1
  go_enter Tryz.func15, Tryz.ntmps15
  go_wp2_with fail
  refine (HC.out _ HB1.out).mono ?_
  rintro e w2 ⟨rfl, hb2⟩
  have HB2 : Hid (Below w.heap.size w w2) := HB1.out.trans (hb2.mono HB1.out.size)
  clear hb2 x0 x1 x2 x3 x4 y0 y1 y2 y3 y4 hW1
  go_wp2_with fail
  refine bodyPost_ret (v := .bool true) (by simp [results, Tryz.results15, go_sem]) rfl ?_
  exact ⟨rfl, HB2.out⟩

set_option maxRecDepth 100000 in
set_option maxHeartbeats 6400000 in
theorem w_WholeText (h : Nat) (h65 : 65 ≤ h) (T : VT) (w : World) (k : Int) (n t : ByteArray) (io : Option Addr) (N icap : Nat) (ko : Option Addr) (K kcap : Nat) (hI : InH w h T (.agg #[.int .i64 k, .string n, .string t, .slice io N icap, .slice ko K kcap])) (hsh : ShV h T) (hbl : blN h T ≤ 1048576) (hwd : WordsAt w) (hE : ErrIn w) :
    Calls Tryz.prog 4 #[.agg #[.int .i64 k, .string n, .string t, .slice io N icap, .slice ko K kcap]] w fun e w' => e = .returned (.bool true) ∧ Below w.heap.size w w' := by
  have HX := Hid.mk (vbx_new w (.int .i64 k) (.string n) (.string t) (.slice io N icap) (.slice ko K kcap))
  obtain ⟨W0, hW0⟩ : ∃ W0, W0 = w.alloc (.cells #[.int .i64 k, .string n, .string t, .slice io N icap, .slice ko K kcap] 25) := ⟨_, rfl⟩
  rw [← hW0] at HX
  have HW0 := Hid.mk hW0
  have HO1 : Hid (∀ u, VBx w u (.int .i64 k) (.string n) (.string t) (.slice io N icap) (.slice ko K kcap) → Calls Tryz.prog 12 #[.string ⟨#[91, 49, 93]⟩] u fun e w' => Below u.heap.size u w' ∧ ∃ v, e = .returned (.tuple #[v, .int .i64 0, .int .i64 0]) ∧ InH w' 65 lt1 v) := fun u hu => w_One_wr (st := none) (fun s hs => by cases hs) lt1_form lt1_sh (by decide) (by decide) (by decide) _ lt1_text u (hE.keep hu.below)
  obtain ⟨sm, hsm⟩ : ∃ sm, decide (szN h T ≤ 20000) = sm := ⟨_, rfl⟩
  obtain ⟨fm, hfm⟩ : ∃ fm, formN h T = fm := ⟨_, rfl⟩
  have HFt : Hid (∀ u, VBx w u (.int .i64 k) (.string n) (.string t) (.slice io N icap) (.slice ko K kcap) → Calls Tryz.prog 14 #[.slice (some ⟨u.heap.size, 0, none⟩) 1 1] (u.alloc (.cells #[.int .i64 k, .string n, .string t, .slice io N icap, .slice ko K kcap] 25)) fun e w' => e = .returned (.bool sm) ∧ Hid (VBx w w' (.int .i64 k) (.string n) (.string t) (.slice io N icap) (.slice ko K kcap))) := fun u hu => by
    have hb : Below u.heap.size u (u.alloc (.cells #[.int .i64 k, .string n, .string t, .slice io N icap, .slice ko K kcap] 25)) := below1 u _
    have HF := w_Fit h (some ⟨u.heap.size, 0, none⟩) 1 1 [T] (u.alloc (.cells #[.int .i64 k, .string n, .string t, .slice io N icap, .slice ko K kcap] 25)) rfl (iin_one (heap_alloc_new u _) ((hI.keep hu.below).keep hb)) (Nat.le_refl _) (by decide)
    have hs : sumL ([T].map (szN h)) = szN h T := by simp [sumL]
    rw [hs, hsm] at HF
    exact HF.mono fun e w' ⟨he, hb'⟩ => ⟨he, (hu.keep hb).keep hb'⟩
  have HFm : Hid (∀ u, VBx w u (.int .i64 k) (.string n) (.string t) (.slice io N icap) (.slice ko K kcap) → Calls Tryz.prog 8 #[.agg #[.int .i64 k, .string n, .string t, .slice io N icap, .slice ko K kcap]] u fun e w' => e = .returned (.bool fm) ∧ Hid (VBx w w' (.int .i64 k) (.string n) (.string t) (.slice io N icap) (.slice ko K kcap))) := fun u hu => (w_rFormed h T _ u (hI.keep hu.below)).mono fun e w' ⟨he, hb⟩ => ⟨by rw [he, hfm], hu.keep hb⟩
  have HE := Hid.mk hE
  have HI := Hid.mk hI
  have HAll := Hid.mk (And.intro hsh (And.intro hbl (And.intro hwd (And.intro hsm (And.intro hfm h65)))))
  clear hW0 hsm hfm hI hsh hbl hwd hE h65
  go_enter Tryz.func4, Tryz.ntmps4
  go_wp2_with fail
  rw [← HW0.out]
  refine (HO1.out _ HX.out).mono ?_
  rintro e w1 ⟨hb1, v1, rfl, hv1⟩
  have HX1 := Hid.mk (HX.out.keep hb1)
  obtain ⟨ib, ioff, yc, yk, ykc, rfl, hyle, hibl, a1⟩ := lt1_open hv1
  obtain ⟨W2, hW2⟩ : ∃ W2, w1.alloc (.cells #[.int .i64 5, .string ⟨#[]⟩, .string ⟨#[]⟩, .slice (some ⟨ib, ioff, none⟩) 1 yc, .slice yk 0 ykc] 25) = W2 := ⟨_, rfl⟩
  have hb2 : Below w1.heap.size w1 W2 := by rw [← hW2]; exact below1 w1 _
  have HX2 := Hid.mk (HX1.out.keep hb2)
  have hy2 : W2.heap[w1.heap.size]? = some (.cells #[.int .i64 5, .string ⟨#[]⟩, .string ⟨#[]⟩, .slice (some ⟨ib, ioff, none⟩) 1 yc, .slice yk 0 ykc] 25 (0, 0)) := by rw [← hW2]; exact heap_alloc_new w1 _
  obtain ⟨x0, x1, x2, x3, x4, _⟩ := vbox_cells hy2
  have q1 : W2.cell? ⟨ib, ioff + 1, none⟩ = some (.string ⟨#[49]⟩) := (hb2.cell (p := ⟨ib, ioff + 1, none⟩) hibl).trans a1
  obtain ⟨_, c0, c1, c2, c3, c4, _⟩ := HX2.out
  have HFt2 := Hid.mk (HFt.out W2 HX2.out)
  clear hb1 hb2 hy2 a1 hibl HX HO1 HFt
  go_wp2_with fail
  refine HFt2.out.mono ?_
  rintro e w2 ⟨rfl, HX3⟩
  clear c0 c1 c2 c3 c4 x0 x1 x2 x3 x4 q1 HFt2 hW2
  cases sm with
  | false =>
    go_wp2_with fail
    refine bodyPost_ret (v := .bool true) (by simp [results, Tryz.results4, go_sem]) rfl ?_
    exact ⟨rfl, HX3.out.below⟩
  | true =>
    obtain ⟨_, c0, c1, c2, c3, c4, _⟩ := HX3.out
    go_wp2_with fail
    refine (HFm.out _ HX3.out).mono ?_
    rintro e w3 ⟨rfl, HX4⟩
    clear c0 c1 c2 c3 c4
    cases fm with
    | false =>
      go_wp2_with fail
      refine bodyPost_ret (v := .bool true) (by simp [results, Tryz.results4, go_sem]) rfl ?_
      exact ⟨rfl, HX4.out.below⟩
    | true =>
      have hsz : szN h T ≤ 20000 := of_decide_eq_true HAll.out.2.2.2.1
      have hf : formN h T = true := HAll.out.2.2.2.2.1
      have h65 : 65 ≤ h := HAll.out.2.2.2.2.2
      have HDp : Hid (∀ u, VBx w u (.int .i64 k) (.string n) (.string t) (.slice io N icap) (.slice ko K kcap) → Calls Tryz.prog 9 #[.agg #[.int .i64 k, .string n, .string t, .slice io N icap, .slice ko K kcap]] u fun e w' => e = .returned (.int .i64 ((dpN h T : Nat) : Int)) ∧ Below u.heap.size u w') := fun u hu => w_rDepth h T _ u (HI.out.keep hu.below) (by omega) hf
      obtain ⟨dp, hdp⟩ : ∃ dp, dpN h T = dp := ⟨_, rfl⟩
      rw [hdp] at HDp
      obtain ⟨A1, hA1⟩ : ∃ A : ByteArray, A = ⟨(wrV none h 0 T).toArray⟩ := ⟨_, rfl⟩
      have HTx : Hid (∀ u, VBx w u (.int .i64 k) (.string n) (.string t) (.slice io N icap) (.slice ko K kcap) → Calls Tryz.prog 10 #[.agg #[.int .i64 k, .string n, .string t, .slice io N icap, .slice ko K kcap]] u fun e w' => e = .returned (.tuple #[.string A1, .int .i64 0]) ∧ Hid (VBx w w' (.int .i64 k) (.string n) (.string t) (.slice io N icap) (.slice ko K kcap))) := fun u hu => (w_Text h T u _ _ _ _ _ _ _ _ _ (HI.out.keep hu.below) HAll.out.1 hsz (HAll.out.2.2.1.keep hu.below)).mono fun e w' ⟨he, hb⟩ => ⟨by rw [he, if_pos hf, if_pos hf, hA1], hu.keep hb⟩
      have HOa : Hid (dp ≤ 64 → ∀ u, VBx w u (.int .i64 k) (.string n) (.string t) (.slice io N icap) (.slice ko K kcap) → Calls Tryz.prog 12 #[.string A1] u fun e w' => Below u.heap.size u w' ∧ ∃ v, e = .returned (.tuple #[v, .int .i64 0, .int .i64 0]) ∧ InH w' 65 T v) := fun hd u hu => w_One_wr (st := none) (fun s hs => by cases hs) hf HAll.out.1 (by omega) HAll.out.2.1 hsz A1 hA1 u (HE.out.keep hu.below)
      have HOb : Hid (64 < dp → ∀ u, VBx w u (.int .i64 k) (.string n) (.string t) (.slice io N icap) (.slice ko K kcap) → Calls Tryz.prog 12 #[.string A1] u fun e w' => Below u.heap.size u w' ∧ ∃ (ak : Int) (an at_ : ByteArray) (aio : Option Addr) (aa aic : Nat) (ako : Option Addr) (ab akc q : Nat), e = .returned (.tuple #[.agg #[.int .i64 ak, .string an, .string at_, .slice aio aa aic, .slice ako ab akc], .int .i64 52, .int .i64 (q : Int)])) := fun hd u hu => by
        have el : A1.data.toList = wrV none h 0 T := by rw [hA1]
        have hln := wr_len0 h T 0 hf
        have hsz1 : A1.size ≤ 1073741824 := by
          have h1 : A1.data.toList.length = A1.size := size_lst A1
          rw [el] at h1
          have h2 := HAll.out.2.1
          omega
        obtain ⟨q, hq⟩ := one_deep hf HAll.out.1 (by omega) el
        refine (w_One5 A1 hsz1 u (HE.out.keep hu.below)).mono ?_
        rintro e2 w' ⟨hb2, hm⟩
        rw [hq] at hm
        exact ⟨hb2, _, _, _, _, _, _, _, _, _, q, hm⟩
      have HSa : Hid (∀ (u : World) (v : Value), VBx w u (.int .i64 k) (.string n) (.string t) (.slice io N icap) (.slice ko K kcap) → InH u 65 T v → Calls Tryz.prog 15 #[.agg #[.int .i64 k, .string n, .string t, .slice io N icap, .slice ko K kcap], v] u fun e w' => e = .returned (.bool true) ∧ Below u.heap.size u w') := fun u v hu hv => w_rSame h T _ v u (HI.out.keep hu.below) (hv.le h65) hf
      clear hA1 hdp hf hsz HAll h65
      obtain ⟨_, c0, c1, c2, c3, c4, _⟩ := HX4.out
      go_wp2_with fail
      refine (HTx.out _ HX4.out).mono ?_
      rintro e w5 ⟨rfl, HX5⟩
      clear c0 c1 c2 c3 c4 HTx
      by_cases hd : 64 < dp
      · have HOd := Hid.mk (HOb.out hd)
        have hd' : (64 : Int) < (dp : Int) := by omega
        clear HOa HOb hd
        go_wp2_with fail
        refine (HOd.out _ HX5.out).mono ?_
        rintro e w6 ⟨hb6, ak, an, at_, aio, aa, aic, ako, ab, akc, q, rfl⟩
        obtain ⟨W7, hW7⟩ : ∃ W7, w6.alloc (.cells #[.int .i64 ak, .string an, .string at_, .slice aio aa aic, .slice ako ab akc] 25) = W7 := ⟨_, rfl⟩
        have hb7 : Below w6.heap.size w6 W7 := by rw [← hW7]; exact below1 w6 _
        have HX7 := Hid.mk ((HX5.out.keep hb6).keep hb7)
        obtain ⟨_, c0, c1, c2, c3, c4, _⟩ := HX7.out
        clear hb6 hb7 HOd
        go_wp2_with fail
        refine (HDp.out _ HX7.out).mono ?_
        rintro e w8 ⟨rfl, hb8⟩
        have HX8 := Hid.mk (HX7.out.keep hb8)
        clear hb8 c0 c1 c2 c3 c4 hW7 HX7
        go_wp2_with fail
        refine bodyPost_ret (v := .bool true) (by simp [results, Tryz.results4, go_sem]) rfl ?_
        exact ⟨rfl, HX8.out.below⟩
      · have HOd := Hid.mk (HOa.out (by omega))
        have hd' : ¬ (64 : Int) < (dp : Int) := by omega
        clear HOa HOb hd
        go_wp2_with fail
        refine (HOd.out _ HX5.out).mono ?_
        rintro e w6 ⟨hb6, va, rfl, hva⟩
        obtain ⟨ak, an, at_, aio, aa, aic, ako, ab, akc, rfl⟩ := inH_shapeW hva
        obtain ⟨W7, hW7⟩ : ∃ W7, w6.alloc (.cells #[.int .i64 ak, .string an, .string at_, .slice aio aa aic, .slice ako ab akc] 25) = W7 := ⟨_, rfl⟩
        have hb7 : Below w6.heap.size w6 W7 := by rw [← hW7]; exact below1 w6 _
        have HY7 : Hid (W7.heap[w6.heap.size]? = some (.cells #[.int .i64 ak, .string an, .string at_, .slice aio aa aic, .slice ako ab akc] 25 (0, 0))) := by show _ = _; rw [← hW7]; exact heap_alloc_new w6 _
        have HX7 := Hid.mk ((HX5.out.keep hb6).keep hb7)
        have HV7 := Hid.mk (hva.keep hb7)
        obtain ⟨_, c0, c1, c2, c3, c4, _⟩ := HX7.out
        clear hb6 hb7 HOd hva
        go_wp2_with fail
        refine (HDp.out _ HX7.out).mono ?_
        rintro e w8 ⟨rfl, hb8⟩
        have HX8 := Hid.mk (HX7.out.keep hb8)
        have HY8 : Hid (w8.heap[w6.heap.size]? = some (.cells #[.int .i64 ak, .string an, .string at_, .slice aio aa aic, .slice ako ab akc] 25 (0, 0))) := heap_lowT hb8 (Array.getElem?_eq_some_iff.1 HY7.out).1 HY7.out
        have HS8 := Hid.mk (HSa.out w8 _ HX8.out (HV7.out.keep hb8))
        clear hb8 c0 c1 c2 c3 c4 hW7 HX7 HY7 HV7
        obtain ⟨y0, y1, y2, y3, y4, _⟩ := vbox_cells HY8.out
        obtain ⟨_, c0, c1, c2, c3, c4, _⟩ := HX8.out
        go_wp2_with fail
        refine HS8.out.mono ?_
        rintro e w9 ⟨rfl, hb9⟩
        have HX9 := Hid.mk (HX8.out.keep hb9)
        clear hb9 c0 c1 c2 c3 c4 y0 y1 y2 y3 y4 HX8 HY8 HS8
        go_wp2_with fail
        refine bodyPost_ret (v := .bool true) (by simp [results, Tryz.results4, go_sem]) rfl ?_
        exact ⟨rfl, HX9.out.below⟩
end Go.Proofs.YtcpnodkcnblkdaaGreatDoor
