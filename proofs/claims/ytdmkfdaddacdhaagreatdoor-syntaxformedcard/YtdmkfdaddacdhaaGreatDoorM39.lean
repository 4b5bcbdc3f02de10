import Derived.Test.YtdmkfdaddacdhaaGreatDoorM28
import Derived.Test.YtdmkfdaddacdhaaGreatDoorM38
namespace Go.Proofs.YtdmkfdaddacdhaaGreatDoor
open Go.RowKit Go.Shelf
set_option linter.unusedVariables false
set_option linter.unusedSimpArgs false
attribute [local go_sem] Oper.semAt_some

theorem own_lt {w : World} {base : Nat} {t : TypeId} {size n : Nat} {so : Option Addr} {sc : Nat} {xs : List Value} (h : w.ownsRow base t size (.slice so n sc) n xs) : ∀ g off, so = some ⟨g, off, none⟩ → g < w.heap.size := by
  intro g off e
  rcases h.2 with ⟨h1, _⟩ | ⟨g2, c2, cur, h1, h2, h3, _⟩
  · simp only [Value.slice.injEq] at h1
    rw [h1.1] at e
    cases e
  · simp only [Value.slice.injEq] at h1
    rw [h1.1] at e
    simp only [Option.some.injEq, Addr.mk.injEq] at e
    rw [← e.1]
    exact (Array.getElem?_eq_some_iff.1 h3).1

set_option maxRecDepth 100000 in
set_option maxHeartbeats 3200000 in
theorem w_parse (s : ByteArray) (ws : List Tok) (hs : s.size ≤ 16777216) (hw : scW s.data.toList = ws) (hl : ws.length ≤ 16777216) (h0 : ∀ t ∈ ws, t.err = 0) (w : World) (hE : ErrIn w) (hO : OpsIn w) (K : ND → Nat → Nat → World → Prop)
    (hKl : ∀ d er q u u', K d er q u → Below u.heap.size u u' → K d er q u')
    (hKp : ∀ d er q u u' B o cs t, K d er q u → Put B o u u' → u.heap[B]? = some (.cells cs t (0, 0)) → cs.size ≤ 10 → K d er q u')
    (HC : Hid (∀ u so sc, TRow u so ws → ws.length ≤ sc → (∀ g off, so = some ⟨g, off, none⟩ → g < u.heap.size) → OpsIn u → Calls Tryz.prog 24 #[.agg #[.slice so ws.length sc, .int .i64 0, .int .i64 (s.size : Int), .int .i64 0]] u fun e w' => ∃ (d : ND) (er q : Nat), e = .returned (.tuple #[ND.v d, .agg #[.int .i64 (er : Int), .int .i64 (q : Int)]]) ∧ Below u.heap.size u w' ∧ K d er q w')) :
    Calls Tryz.prog 10 #[.string s] w fun e w' => ∃ (d : ND) (er q : Nat), e = .returned (.tuple #[ND.v d, .int .i64 (er : Int), .int .i64 (q : Int)]) ∧ Below w.heap.size w w' ∧ K d er q w' := by
  have HSc : Hid (∀ u, ErrIn u → Calls Tryz.prog 23 #[.string s] u fun e w' => ∃ so sc, e = .returned (.tuple #[.slice so ws.length sc, .int .i64 0, .int .i64 0]) ∧ Hid (TRow w' so ws ∧ ws.length ≤ sc ∧ ∀ g off, so = some ⟨g, off, none⟩ → g < w'.heap.size) ∧ Below u.heap.size u w') := fun u hu => by
    refine (w_wScan s u hs hu).mono ?_
    rintro e w' ⟨hr, hb⟩
    rw [hw] at hr
    rcases hr with ⟨_, so, sc, rfl, ho⟩ | ⟨pre, x, he, hx, _⟩
    · exact ⟨so, sc, rfl, ⟨(trow_own ho.out).1, (trow_own ho.out).2, own_lt ho.out⟩, hb⟩
    · exact absurd (h0 x (by rw [he]; simp)) hx
  have HE : Hid (ErrIn (w.alloc (.cells #[.int .i64 0, .int .i64 0, .string ⟨#[]⟩, .int .i64 0, .string ⟨#[]⟩, .string ⟨#[]⟩, .slice none 0 0, .slice none 0 0, .slice none 0 0, .slice none 0 0] 28))) := hE.keep (below1 w _)
  have HO1 : Hid (OpsIn (w.alloc (.cells #[.int .i64 0, .int .i64 0, .string ⟨#[]⟩, .int .i64 0, .string ⟨#[]⟩, .string ⟨#[]⟩, .slice none 0 0, .slice none 0 0, .slice none 0 0, .slice none 0 0] 28))) := hO.keep (below1 w _)
  have HK := Hid.mk (And.intro hKl hKp)
  clear hs hw h0 hE hO hKl hKp
  go_enter Tryz.func10, Tryz.ntmps10
  go_wp2_with fail
  refine (HSc.out _ HE.out).mono ?_
  rintro e w1 ⟨so, sc, rfl, ht, hb1⟩
  have hb1' : Below (w.heap.size + 1) (w.alloc (.cells #[.int .i64 0, .int .i64 0, .string ⟨#[]⟩, .int .i64 0, .string ⟨#[]⟩, .string ⟨#[]⟩, .slice none 0 0, .slice none 0 0, .slice none 0 0, .slice none 0 0] 28)) w1 := by simpa using hb1
  have r1 := (hb1'.block w.heap.size (by omega)).trans (heap_alloc_new w _)
  have HO2 := Hid.mk (HO1.out.keep hb1)
  have HB1 : Hid (Below w.heap.size w w1) := (below1 w _).trans (hb1'.mono (by omega))
  have s1 : w.heap.size < w1.heap.size := by have := hb1'.size; simp at this; omega
  have HR1 := Hid.mk r1
  clear hb1 hb1' r1
  go_wp2_with fail
  refine (HC.out _ so sc ht.out.1 ht.out.2.1 ht.out.2.2 HO2.out).mono ?_
  rintro e w2 ⟨d, er, q, rfl, hb2, hk2⟩
  obtain ⟨op, at_, vk, tx, nu, vt, io, yo, no, ko, iN, ic, yN, yc, nN, nc, kN, kc⟩ := d
  unfold ND.v
  dsimp only
  have HR2 := Hid.mk ((hb2.block w.heap.size s1).trans HR1.out)
  have HB2 : Hid (Below w.heap.size w w2) := HB1.out.trans (hb2.mono (by omega))
  have s2 : w.heap.size < w2.heap.size := Nat.lt_of_lt_of_le s1 hb2.size
  have HK2 := Hid.mk hk2
  clear hb2 hk2
  go_upto_region 5 with fail
  generalize hW4 : (w2.alloc (.cells #[.int .i64 op, .int .i64 at_, .string tx, .int .i64 vk, .string nu, .string vt, .slice io iN ic, .slice yo yN yc, .slice no nN nc, .slice ko kN kc] 28)).alloc (.cells #[.int .i64 (er : Int), .int .i64 (q : Int)] 49) = W4
  have hn4 : W4.heap[w2.heap.size]? = some (.cells #[.int .i64 op, .int .i64 at_, .string tx, .int .i64 vk, .string nu, .string vt, .slice io iN ic, .slice yo yN yc, .slice no nN nc, .slice ko kN kc] 28 (0, 0)) := by rw [← hW4]; exact (Below.heap_alloc _ _ _ (by simp)).trans (heap_alloc_new w2 _)
  have hf4 : W4.heap[w2.heap.size + 1]? = some (.cells #[.int .i64 (er : Int), .int .i64 (q : Int)] 49 (0, 0)) := by
    have := heap_alloc_new (w2.alloc (.cells #[.int .i64 op, .int .i64 at_, .string tx, .int .i64 vk, .string nu, .string vt, .slice io iN ic, .slice yo yN yc, .slice no nN nc, .slice ko kN kc] 28)) (.cells #[.int .i64 (er : Int), .int .i64 (q : Int)] 49)
    rw [World.size_alloc] at this
    rw [← hW4]; exact this
  have hb4 : Below w2.heap.size w2 W4 := by rw [← hW4]; exact (below1 w2 _).alloc (by simp) _
  have HR4 := Hid.mk ((hb4.block w.heap.size s2).trans HR2.out)
  have HB4 : Hid (Below w.heap.size w W4) := HB2.out.trans (hb4.mono (by omega))
  have HK4 := Hid.mk (HK.out.1 _ _ _ _ _ HK2.out hb4)
  obtain ⟨b0, b1, b2, b3, b4, b5, b6, b7, b8, b9⟩ := nd_cells hn4
  obtain ⟨g0, g1, _⟩ := fb_cells hf4
  obtain ⟨n0, n1, n2, n3, n4, n5, n6, n7, n8, n9⟩ := nd_cells HR4.out
  obtain ⟨f0, f1, f2, f3, f4, f5, f6, f7, f8, f9⟩ := nd_frozen HR4.out
  clear hW4 hn4 hf4 hb4
  go_region
  all_goals
    go_wp2_with fail
    generalize hzZ : (((((((((W4.setCell ⟨w.heap.size, 0, none⟩ (.int .i64 op)).setCell ⟨w.heap.size, 1, none⟩ (.int .i64 at_)).setCell ⟨w.heap.size, 2, none⟩ (.string tx)).setCell ⟨w.heap.size, 3, none⟩ (.int .i64 vk)).setCell ⟨w.heap.size, 4, none⟩ (.string nu)).setCell ⟨w.heap.size, 5, none⟩ (.string vt)).setCell ⟨w.heap.size, 6, none⟩ (.slice io iN ic)).setCell ⟨w.heap.size, 7, none⟩ (.slice yo yN yc)).setCell ⟨w.heap.size, 8, none⟩ (.slice no nN nc)).setCell ⟨w.heap.size, 9, none⟩ (.slice ko kN kc) = WZ
    have PZ := nd_set HR4.out hzZ
    obtain ⟨m0, m1, m2, m3, m4, m5, m6, m7, m8, m9⟩ := nd_cells PZ.new
    refine bodyPost_ret (v := .tuple #[.agg #[.int .i64 op, .int .i64 at_, .string tx, .int .i64 vk, .string nu, .string vt, .slice io iN ic, .slice yo yN yc, .slice no nN nc, .slice ko kN kc], .int .i64 (er : Int), .int .i64 (q : Int)]) (by simp [results, Tryz.results10, go_sem, m0, m1, m2, m3, m4, m5, m6, m7, m8, m9]) rfl ?_
    exact ⟨⟨op, at_, vk, tx, nu, vt, io, yo, no, ko, iN, ic, yN, yc, nN, nc, kN, kc⟩, er, q, rfl, (HB4.out.trans (PZ.below (Nat.le_refl _))).drew, HK.out.1 _ _ _ _ _ (HK.out.2 _ _ _ _ _ _ _ _ _ HK4.out PZ HR4.out (by simp)) (Below.refl _ _).drew⟩

end Go.Proofs.YtdmkfdaddacdhaaGreatDoor
