import Derived.Test.YtbaknnpjbokilaaM39
import Derived.Test.YtbaknnpjbokilaaM41
namespace Go.Proofs.Ytbaknnpjbokilaa
open Go.RowKit Go.Maps Go.Sort Go.Shelf
set_option linter.unusedVariables false
set_option linter.unusedSimpArgs false

set_option maxRecDepth 100000 in
set_option maxHeartbeats 3200000 in
theorem w_isObject6 (h : Nat) (T : VT) (v : Value) (w : World) (hI : InH w (h + 1) T v) (h6 : T.kind = 6) :
    Calls Try.prog 21 #[v] w fun e w' => e = .returned (.bool (formN (h + 1) T)) ∧ Below w.heap.size w w' := by
  have HF : Hid (∀ u, Below w.heap.size w u → Calls Try.prog 31 #[v] u fun e w' => e = .returned (.bool (formN (h + 1) T)) ∧ Below u.heap.size u w') := fun u hu => w_vFormed (h + 1) T v u (hI.keep hu)
  obtain ⟨io, icap, ko, kcap, rfl, a1, a2, a3, a4, a5, a6, a7, hk, hi⟩ := hI.open
  rw [h6] at HF ⊢
  generalize formN (h + 1) T = R at HF ⊢
  generalize T.items.length = N at *
  generalize T.keys.length = K at *
  generalize T.num = nm at *
  generalize T.text = tx at *
  clear hI hk hi a1 a2 a3 a4 a5 a6 a7 h6
  go_enter Try.func21, Try.ntmps21
  go_upto_region 1 with fail
  obtain ⟨W1, hW1⟩ : ∃ W1, w.alloc (.cells #[.int .i64 6, .string nm, .string tx, .slice io N icap, .slice ko K kcap] 25) = W1 := ⟨_, rfl⟩
  have hb := below1 w (.cells #[.int .i64 6, .string nm, .string tx, .slice io N icap, .slice ko K kcap] 25)
  have hr := heap_alloc_new w (.cells #[.int .i64 6, .string nm, .string tx, .slice io N icap, .slice ko K kcap] 25)
  rw [hW1] at hb hr
  rw [hW1]
  have c0 := cell_of_row _ _ 0 _ _ _ hr
  have c1 := cell_of_row _ _ 1 _ _ _ hr
  have c2 := cell_of_row _ _ 2 _ _ _ hr
  have c3 := cell_of_row _ _ 3 _ _ _ hr
  have c4 := cell_of_row _ _ 4 _ _ _ hr
  have HB := Hid.mk hb
  clear hW1 hb hr
  go_wp2_with fail
  refine (HF.out _ HB.out).mono ?_
  rintro e w2 ⟨rfl, hb2⟩
  have HE := Hid.mk (below_more HB.out hb2)
  clear hb2 HF
  cases R <;>
  · go_wp2_with fail
    go_ret
    exact ⟨rfl, HE.out⟩

set_option maxRecDepth 100000 in
set_option maxHeartbeats 6400000 in
theorem w_joined_ok (h : Nat) (A B : VT) (va vb : Value) (w : World) (hA : InH w (h + 1) A va) (hB : InH w (h + 1) B vb) (a6 : A.kind = 6) (b6 : B.kind = 6) (fa : formN (h + 1) A = true) (fb : formN (h + 1) B = true) (hs : A.keys.length + B.keys.length ≤ 100000) (hsz : szN (h + 1) (mgT A.keys B.keys A.items B.items) ≤ 100000) :
    Calls Try.prog 28 #[va, vb, .func (.func 29) #[] #[]] w fun e w' => ∃ v, e = .returned (.tuple #[v, .int .i64 0]) ∧ Hid (InF w.heap.size w' (h + 1) (mgT A.keys B.keys A.items B.items) v ∧ Below w.heap.size w w') := by
  have HIA : Hid (∀ u, Below w.heap.size w u → Calls Try.prog 21 #[va] u fun e w' => e = .returned (.bool true) ∧ Below u.heap.size u w') := fun u hu => by
    have := w_isObject6 h A va u (hA.keep hu) a6
    rw [fa] at this; exact this
  have HIB : Hid (∀ u, Below w.heap.size w u → Calls Try.prog 21 #[vb] u fun e w' => e = .returned (.bool true) ∧ Below u.heap.size u w') := fun u hu => by
    have := w_isObject6 h B vb u (hB.keep hu) b6
    rw [fb] at this; exact this
  have kA := (form_empty fa).2.2.2 a6
  have kB := (form_empty fb).2.2.2 b6
  obtain ⟨ioa, ica, koa, kca, rfl, p1, p2, p3, p4, p5, p6, p7, hkA, hiA⟩ := hA.open
  obtain ⟨iob, icb, kob, kcb, rfl, q1, q2, q3, q4, q5, q6, q7, hkB, hiB⟩ := hB.open
  rw [← kA] at HIA p5 ⊢
  rw [← kB] at HIB q5 ⊢
  have HU : Hid (∀ u, Calls Try.prog 38 #[.agg #[.int .i64 A.kind, .string A.num, .string A.text, .slice ioa A.keys.length ica, .slice koa A.keys.length kca], .agg #[.int .i64 B.kind, .string B.num, .string B.text, .slice iob B.keys.length icb, .slice kob B.keys.length kcb], .func (.func 29) #[] #[]] u fun e w' => e = .returned (.func (.func 47) #[] #[.pointer (some ⟨u.heap.size, 0, none⟩), .pointer (some ⟨u.heap.size + 1, 0, none⟩), .pointer (some ⟨u.heap.size + 1 + 1, 0, none⟩)]) ∧ UnR u w' #[.int .i64 A.kind, .string A.num, .string A.text, .slice ioa A.keys.length ica, .slice koa A.keys.length kca] #[.int .i64 B.kind, .string B.num, .string B.text, .slice iob B.keys.length icb, .slice kob B.keys.length kcb]) := fun u => w_united _ _ _ _ _ _ _ _ _ _ _ _ _ _ _ _ _ _ u
  have HG : Hid (∀ u w4, Below w.heap.size w u → UnR u w4 #[.int .i64 A.kind, .string A.num, .string A.text, .slice ioa A.keys.length ica, .slice koa A.keys.length kca] #[.int .i64 B.kind, .string B.num, .string B.text, .slice iob B.keys.length icb, .slice kob B.keys.length kcb] → Calls Try.prog 22 #[.func (.func 47) #[] #[.pointer (some ⟨u.heap.size, 0, none⟩), .pointer (some ⟨u.heap.size + 1, 0, none⟩), .pointer (some ⟨u.heap.size + 1 + 1, 0, none⟩)]] w4 fun e w' => ∃ io ic ko kc, e = .returned (.agg #[.int .i64 6, .string ⟨#[]⟩, .string ⟨#[]⟩, .slice io (uniK A.keys B.keys).length ic, .slice ko (uniK A.keys B.keys).length kc]) ∧
      Hid (InH w' (h + 1) (mgT A.keys B.keys A.items B.items) (.agg #[.int .i64 6, .string ⟨#[]⟩, .string ⟨#[]⟩, .slice io (uniK A.keys B.keys).length ic, .slice ko (uniK A.keys B.keys).length kc])) ∧ Hid (Below w4.heap.size w4 w')) := fun u w4 hu hL =>
    gathered_united h A.keys B.keys A.items B.items koa kca ioa ica kob kcb iob icb _ _ _ _ _ _ u w4 (hkA.keep hu) (hiA.keep hu) (hkB.keep hu) (hiB.keep hu) kA.symm kB.symm ⟨p6, p5, q6, q5⟩ hs p7 q7 hL
  have HT : Hid (∀ u v, InH u (h + 1) (mgT A.keys B.keys A.items B.items) v → Calls Try.prog 20 #[v] u fun e w' => ∃ v', e = .returned v' ∧ InF u.heap.size w' (h + 1) (mgT A.keys B.keys A.items B.items) v' ∧ Below u.heap.size u w') := fun u v hv => w_Twin (h + 1) _ _ u hv (Nat.le_trans hsz (by decide))
  generalize (uniK A.keys B.keys).length = M at HG
  generalize mgT A.keys B.keys A.items B.items = MT at HG HT ⊢
  generalize A.kind = Ak at *
  generalize A.num = An at *
  generalize A.text = At at *
  generalize A.keys.length = AK at *
  generalize B.kind = Bk at *
  generalize B.num = Bn at *
  generalize B.text = Bt at *
  generalize B.keys.length = BK at *
  clear hA hB a6 b6 fa fb hs hsz kA kB p1 p2 p3 p4 p5 p6 p7 hkA hiA q1 q2 q3 q4 q5 q6 q7 hkB hiB
  go_enter Try.func28, Try.ntmps28
  go_upto_region 1 with fail
  obtain ⟨W3, hW3⟩ : ∃ W3, ((w.alloc (.cells #[.int .i64 Ak, .string An, .string At, .slice ioa AK ica, .slice koa AK kca] 25)).alloc (.cells #[.int .i64 Bk, .string Bn, .string Bt, .slice iob BK icb, .slice kob BK kcb] 25)).alloc (.cells #[.int .i64 0, .string ⟨#[]⟩, .string ⟨#[]⟩, .slice none 0 0, .slice none 0 0] 25) = W3 := ⟨_, rfl⟩
  obtain ⟨b1, b2, b3, b4⟩ := boxes3 w (.cells #[.int .i64 Ak, .string An, .string At, .slice ioa AK ica, .slice koa AK kca] 25) (.cells #[.int .i64 Bk, .string Bn, .string Bt, .slice iob BK icb, .slice kob BK kcb] 25) (.cells #[.int .i64 0, .string ⟨#[]⟩, .string ⟨#[]⟩, .slice none 0 0, .slice none 0 0] 25)
  have hb0 : Below w.heap.size w W3 := by rw [← hW3]; exact below_more (below2 w _ _) (below1 _ _)
  rw [hW3] at b1 b2 b3
  rw [hW3]
  have c0 := cell_of_row _ _ 0 _ _ _ b1
  have c1 := cell_of_row _ _ 1 _ _ _ b1
  have c2 := cell_of_row _ _ 2 _ _ _ b1
  have c3 := cell_of_row _ _ 3 _ _ _ b1
  have c4 := cell_of_row _ _ 4 _ _ _ b1
  have HX0 := Hid.mk b1
  have HY0 := Hid.mk b2
  have HZ0 := Hid.mk b3
  have HB0 := Hid.mk hb0
  clear hW3 b1 b2 b3 b4 hb0
  go_wp2_with fail
  refine (HIA.out _ HB0.out).mono ?_
  rintro e w1 ⟨rfl, hb1⟩
  have HX1 := Hid.mk (heap_low hb1 (Array.getElem?_eq_some_iff.1 HX0.out).1 HX0.out)
  have HY1 := Hid.mk (heap_low hb1 (Array.getElem?_eq_some_iff.1 HY0.out).1 HY0.out)
  have HZ1 := Hid.mk (heap_low hb1 (Array.getElem?_eq_some_iff.1 HZ0.out).1 HZ0.out)
  have HB1 := Hid.mk (below_more HB0.out hb1)
  clear hb1 c0 c1 c2 c3 c4 HX0 HY0 HZ0 HB0 HIA
  have c0 := cell_of_row _ _ 0 _ _ _ HY1.out
  have c1 := cell_of_row _ _ 1 _ _ _ HY1.out
  have c2 := cell_of_row _ _ 2 _ _ _ HY1.out
  have c3 := cell_of_row _ _ 3 _ _ _ HY1.out
  have c4 := cell_of_row _ _ 4 _ _ _ HY1.out
  go_wp2_with fail
  refine (HIB.out _ HB1.out).mono ?_
  rintro e w2 ⟨rfl, hb2⟩
  have HX2 := Hid.mk (heap_low hb2 (Array.getElem?_eq_some_iff.1 HX1.out).1 HX1.out)
  have HY2 := Hid.mk (heap_low hb2 (Array.getElem?_eq_some_iff.1 HY1.out).1 HY1.out)
  have HZ2 := Hid.mk (heap_low hb2 (Array.getElem?_eq_some_iff.1 HZ1.out).1 HZ1.out)
  have HB2 := Hid.mk (below_more HB1.out hb2)
  clear hb2 c0 c1 c2 c3 c4 HX1 HY1 HZ1 HB1 HIB
  have c0 := cell_of_row _ _ 0 _ _ _ HX2.out
  have c1 := cell_of_row _ _ 1 _ _ _ HX2.out
  have c2 := cell_of_row _ _ 2 _ _ _ HX2.out
  have c3 := cell_of_row _ _ 3 _ _ _ HX2.out
  have c4 := cell_of_row _ _ 4 _ _ _ HX2.out
  have d0 := cell_of_row _ _ 0 _ _ _ HY2.out
  have d1 := cell_of_row _ _ 1 _ _ _ HY2.out
  have d2 := cell_of_row _ _ 2 _ _ _ HY2.out
  have d3 := cell_of_row _ _ 3 _ _ _ HY2.out
  have d4 := cell_of_row _ _ 4 _ _ _ HY2.out
  go_wp2_with fail
  refine (HU.out _).mono ?_
  rintro e w3 ⟨rfl, hU3⟩
  have HX3 := Hid.mk (heap_low hU3.below (Array.getElem?_eq_some_iff.1 HX2.out).1 HX2.out)
  have HY3 := Hid.mk (heap_low hU3.below (Array.getElem?_eq_some_iff.1 HY2.out).1 HY2.out)
  have HZ3 := Hid.mk (heap_low hU3.below (Array.getElem?_eq_some_iff.1 HZ2.out).1 HZ2.out)
  have HB3 := Hid.mk (below_more HB2.out hU3.below)
  have HC := Hid.mk (HG.out w2 w3 HB2.out hU3)
  clear hU3 c0 c1 c2 c3 c4 d0 d1 d2 d3 d4 HX2 HY2 HZ2 HB2 HU HG
  go_wp2_with fail
  refine HC.out.mono ?_
  rintro e w5 ⟨gio, gic, gko, gkc, rfl, HI5, HB5'⟩
  have HR5 := Hid.mk (heap_low HB5'.out (Array.getElem?_eq_some_iff.1 HZ3.out).1 HZ3.out)
  have HB5 := Hid.mk (below_more HB3.out HB5'.out)
  go_wp2_with fail
  refine (HT.out w5 _ HI5.out).mono ?_
  rintro e w6 ⟨v', rfl, hF6, hb6⟩
  have HR6 := Hid.mk (heap_low hb6 (Array.getElem?_eq_some_iff.1 HR5.out).1 HR5.out)
  have HB6 := Hid.mk (below_more HB5.out hb6)
  have hlt5 := (Array.getElem?_eq_some_iff.1 HR5.out).1
  obtain ⟨yk, yn, yt, yio, yN, yic, yko, yK, ykc, rfl⟩ := hF6.shape
  have HF6 := Hid.mk hF6
  have r0 := cell_of_row _ _ 0 _ _ _ HR6.out
  have r1 := cell_of_row _ _ 1 _ _ _ HR6.out
  have r2 := cell_of_row _ _ 2 _ _ _ HR6.out
  have r3 := cell_of_row _ _ 3 _ _ _ HR6.out
  have r4 := cell_of_row _ _ 4 _ _ _ HR6.out
  have fr : ∀ j, w6.frozen? ⟨w.heap.size + 1 + 1, j, none⟩ = false := fun j => frozen_row HR6.out
  obtain ⟨wz, hwz⟩ : ∃ wz, ((((w6.setCell ⟨w.heap.size + 1 + 1, 0, none⟩ (.int .i64 yk)).setCell ⟨w.heap.size + 1 + 1, 1, none⟩ (.string yn)).setCell ⟨w.heap.size + 1 + 1, 2, none⟩ (.string yt)).setCell ⟨w.heap.size + 1 + 1, 3, none⟩ (.slice yio yN yic)).setCell ⟨w.heap.size + 1 + 1, 4, none⟩ (.slice yko yK ykc) = wz := ⟨_, rfl⟩
  obtain ⟨zb, zo, zs', zbl⟩ := set5 w6 (w.heap.size + 1 + 1) _ _ _ _ _ _ _ _ _ _ _ HR6.out wz hwz.symm
  have z0 := cell_of_row _ _ 0 _ _ _ zb
  have z1 := cell_of_row _ _ 1 _ _ _ zb
  have z2 := cell_of_row _ _ 2 _ _ _ zb
  have z3 := cell_of_row _ _ 3 _ _ _ zb
  have z4 := cell_of_row _ _ 4 _ _ _ zb
  have FIN : Hid (InF w.heap.size wz (h + 1) MT (.agg #[.int .i64 yk, .string yn, .string yt, .slice yio yN yic, .slice yko yK ykc]) ∧ Below w.heap.size w wz) :=
    ⟨InF.keepB (by rw [zs']; exact Nat.le_refl _) (fun b hb hl => zo b (by omega)) (by omega) HF6.out, HB6.out.trans (zbl _ (by omega))⟩
  clear zb zo zbl hF6 hb6 HC HT zs'
  go_wp2_with fail
  (try simp only [Exit.inBlock, Exit.then])
  refine bodyPost_ret (v := .tuple #[.agg #[.int .i64 yk, .string yn, .string yt, .slice yio yN yic, .slice yko yK ykc], .int .i64 0]) (by simp [results, Try.results28, go_sem, z0, z1, z2, z3, z4]) rfl ?_
  exact ⟨_, rfl, FIN⟩
end Go.Proofs.Ytbaknnpjbokilaa
namespace Go.Proofs.Ytbaknnpjbokilaa
open Go.RowKit Go.Maps Go.Sort Go.Shelf
set_option linter.unusedVariables false
set_option linter.unusedSimpArgs false

set_option maxRecDepth 100000 in
set_option maxHeartbeats 6400000 in
/-- Merge of two well shaped objects -/
theorem w_Merge_ok (h : Nat) (A B : VT) (va vb : Value) (w : World) (hA : InH w (h + 1) A va) (hB : InH w (h + 1) B vb) (a6 : A.kind = 6) (b6 : B.kind = 6) (fa : formN (h + 1) A = true) (fb : formN (h + 1) B = true) (hs : A.keys.length + B.keys.length ≤ 100000) (hsz : szN (h + 1) (mgT A.keys B.keys A.items B.items) ≤ 100000) :
    Calls Try.prog 18 #[va, vb] w fun e w' => ∃ v, e = .returned (.tuple #[v, .int .i64 0]) ∧ Hid (InF w.heap.size w' (h + 1) (mgT A.keys B.keys A.items B.items) v ∧ Below w.heap.size w w') := by
  have HM : Hid (∀ u, Below w.heap.size w u → Calls Try.prog 28 #[va, vb, .func (.func 29) #[] #[]] u fun e w' => ∃ v, e = .returned (.tuple #[v, .int .i64 0]) ∧ Hid (InF u.heap.size w' (h + 1) (mgT A.keys B.keys A.items B.items) v ∧ Below u.heap.size u w')) := fun u hu =>
    w_joined_ok h A B va vb u (hA.keep hu) (hB.keep hu) a6 b6 fa fb hs hsz
  obtain ⟨ioa, ica, koa, kca, rfl, p1, p2, p3, p4, p5, p6, p7, hkA, hiA⟩ := hA.open
  obtain ⟨iob, icb, kob, kcb, rfl, q1, q2, q3, q4, q5, q6, q7, hkB, hiB⟩ := hB.open
  generalize mgT A.keys B.keys A.items B.items = MT at HM ⊢
  generalize A.kind = Ak at *
  generalize A.num = An at *
  generalize A.text = At at *
  generalize A.items.length = AN at *
  generalize A.keys.length = AK at *
  generalize B.kind = Bk at *
  generalize B.num = Bn at *
  generalize B.text = Bt at *
  generalize B.items.length = BN at *
  generalize B.keys.length = BK at *
  clear hA hB a6 b6 fa fb hs hsz p1 p2 p3 p4 p5 p6 p7 hkA hiA q1 q2 q3 q4 q5 q6 q7 hkB hiB
  go_enter Try.func18, Try.ntmps18
  go_upto_region 1 with fail
  obtain ⟨W3, hW3⟩ : ∃ W3, ((w.alloc (.cells #[.int .i64 Ak, .string An, .string At, .slice ioa AN ica, .slice koa AK kca] 25)).alloc (.cells #[.int .i64 Bk, .string Bn, .string Bt, .slice iob BN icb, .slice kob BK kcb] 25)).alloc (.cells #[.int .i64 0, .string ⟨#[]⟩, .string ⟨#[]⟩, .slice none 0 0, .slice none 0 0] 25) = W3 := ⟨_, rfl⟩
  obtain ⟨b1, b2, b3, b4⟩ := boxes3 w (.cells #[.int .i64 Ak, .string An, .string At, .slice ioa AN ica, .slice koa AK kca] 25) (.cells #[.int .i64 Bk, .string Bn, .string Bt, .slice iob BN icb, .slice kob BK kcb] 25) (.cells #[.int .i64 0, .string ⟨#[]⟩, .string ⟨#[]⟩, .slice none 0 0, .slice none 0 0] 25)
  have hb0 : Below w.heap.size w W3 := by rw [← hW3]; exact below_more (below2 w _ _) (below1 _ _)
  rw [hW3] at b1 b2 b3
  rw [hW3]
  have c0 := cell_of_row _ _ 0 _ _ _ b1
  have c1 := cell_of_row _ _ 1 _ _ _ b1
  have c2 := cell_of_row _ _ 2 _ _ _ b1
  have c3 := cell_of_row _ _ 3 _ _ _ b1
  have c4 := cell_of_row _ _ 4 _ _ _ b1
  have d0 := cell_of_row _ _ 0 _ _ _ b2
  have d1 := cell_of_row _ _ 1 _ _ _ b2
  have d2 := cell_of_row _ _ 2 _ _ _ b2
  have d3 := cell_of_row _ _ 3 _ _ _ b2
  have d4 := cell_of_row _ _ 4 _ _ _ b2
  have HZ0 := Hid.mk b3
  have HB0 := Hid.mk hb0
  clear hW3 b1 b2 b3 b4 hb0
  go_wp2_with fail
  refine (HM.out _ HB0.out).mono ?_
  rintro e w6 ⟨v', rfl, HQ⟩
  obtain ⟨hF6, hb6⟩ := HQ.out
  have HR6 := Hid.mk (heap_low hb6 (Array.getElem?_eq_some_iff.1 HZ0.out).1 HZ0.out)
  have HB6 := Hid.mk (below_more HB0.out hb6)
  have hlt5 := (Array.getElem?_eq_some_iff.1 HZ0.out).1
  obtain ⟨yk, yn, yt, yio, yN, yic, yko, yK, ykc, rfl⟩ := hF6.shape
  have HF6 := Hid.mk hF6
  have r0 := cell_of_row _ _ 0 _ _ _ HR6.out
  have r1 := cell_of_row _ _ 1 _ _ _ HR6.out
  have r2 := cell_of_row _ _ 2 _ _ _ HR6.out
  have r3 := cell_of_row _ _ 3 _ _ _ HR6.out
  have r4 := cell_of_row _ _ 4 _ _ _ HR6.out
  have fr : ∀ j, w6.frozen? ⟨w.heap.size + 1 + 1, j, none⟩ = false := fun j => frozen_row HR6.out
  obtain ⟨wz, hwz⟩ : ∃ wz, ((((w6.setCell ⟨w.heap.size + 1 + 1, 0, none⟩ (.int .i64 yk)).setCell ⟨w.heap.size + 1 + 1, 1, none⟩ (.string yn)).setCell ⟨w.heap.size + 1 + 1, 2, none⟩ (.string yt)).setCell ⟨w.heap.size + 1 + 1, 3, none⟩ (.slice yio yN yic)).setCell ⟨w.heap.size + 1 + 1, 4, none⟩ (.slice yko yK ykc) = wz := ⟨_, rfl⟩
  obtain ⟨zb, zo, zs', zbl⟩ := set5 w6 (w.heap.size + 1 + 1) _ _ _ _ _ _ _ _ _ _ _ HR6.out wz hwz.symm
  have z0 := cell_of_row _ _ 0 _ _ _ zb
  have z1 := cell_of_row _ _ 1 _ _ _ zb
  have z2 := cell_of_row _ _ 2 _ _ _ zb
  have z3 := cell_of_row _ _ 3 _ _ _ zb
  have z4 := cell_of_row _ _ 4 _ _ _ zb
  have FIN : Hid (InF w.heap.size wz (h + 1) MT (.agg #[.int .i64 yk, .string yn, .string yt, .slice yio yN yic, .slice yko yK ykc]) ∧ Below w.heap.size w wz) :=
    ⟨InF.keepB (by rw [zs']; exact Nat.le_refl _) (fun b hb hl => zo b (by omega)) (by omega) HF6.out, HB6.out.trans (zbl _ (by omega))⟩
  clear zb zo zbl hF6 hb6 HQ HM zs' c0 c1 c2 c3 c4 d0 d1 d2 d3 d4
  go_wp2_with fail
  (try simp only [Exit.inBlock, Exit.then])
  refine bodyPost_ret (v := .tuple #[.agg #[.int .i64 yk, .string yn, .string yt, .slice yio yN yic, .slice yko yK ykc], .int .i64 0]) (by simp [results, Try.results18, go_sem, z0, z1, z2, z3, z4]) rfl ?_
  exact ⟨_, rfl, FIN⟩
end Go.Proofs.Ytbaknnpjbokilaa
