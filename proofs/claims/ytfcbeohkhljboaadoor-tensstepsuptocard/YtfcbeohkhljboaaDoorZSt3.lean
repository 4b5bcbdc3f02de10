import Derived.Test.YtfcbeohkhljboaaDoorZSt0
import Derived.Test.YtfcbeohkhljboaaDoorZSt1
import Derived.Test.YtfcbeohkhljboaaDoorM41
namespace Go.Proofs.YtfcbeohkhljboaaDoor
open Go.RowKit
set_option linter.unusedVariables false
set_option linter.unusedSimpArgs false

/-- a number in a box -/
structure NBox (w : World) (g : Nat) (bl : Bool) (ao : Option Addr) (n c x : Nat) : Prop where
  c0 : w.cell? ⟨g, 0, none⟩ = some (.bool bl)
  c1 : w.cell? ⟨g, 1, none⟩ = some (.slice ao n c)
  f0 : w.frozen? ⟨g, 0, none⟩ = false
  f1 : w.frozen? ⟨g, 1, none⟩ = false
  lt : g < w.heap.size
  val : RV w (.slice ao n c) x
  pos : bl = true → 0 < x

theorem RV.grown {w w' : World} {v : Value} {x : Nat} {row : Option Nat} (h : RV w v x) (hg : w.grownBy w' row) (hr : ∀ k, v.ownBlock = some k → some k ≠ row) : RV w' v x := by
  obtain ⟨zs, ⟨ao, cap, hv, hc, hk, hq⟩, h2⟩ := h
  refine ⟨zs, ⟨ao, cap, hv, hc, fun a e => Nat.lt_of_lt_of_le (hk a e) hg.size, fun hn => ?_⟩, h2⟩
  obtain ⟨b, off, ha, hlt, hcell⟩ := hq hn
  refine ⟨b, off, ha, Nat.lt_of_lt_of_le hlt hg.size, fun i hi => ?_⟩
  exact hg.cell (hcell i hi) (hr b (by rw [hv, ha]; rfl))

theorem NBox.grown {w w' : World} {g : Nat} {bl : Bool} {ao : Option Addr} {n c x : Nat} {row : Option Nat} (h : NBox w g bl ao n c x) (hg : w.grownBy w' row) (hr : ∀ k, (Value.slice ao n c).ownBlock = some k → some k ≠ row) (hgr : some g ≠ row) : NBox w' g bl ao n c x where
  c0 := hg.cell h.c0 hgr
  c1 := hg.cell h.c1 hgr
  f0 := (World.frozen?_of_block (hg.block g h.lt hgr)).trans h.f0
  f1 := (World.frozen?_of_block (hg.block g h.lt hgr)).trans h.f1
  lt := Nat.lt_of_lt_of_le h.lt hg.size
  val := h.val.grown hg hr
  pos := h.pos

theorem NBox.keep {w w' : World} {g : Nat} {bl : Bool} {ao : Option Addr} {n c x : Nat} (h : NBox w g bl ao n c x) (hb : Below w.heap.size w w') : NBox w' g bl ao n c x :=
  h.grown (row := none) ⟨hb.os, hb.tape, hb.output, hb.size, fun k hk _ => hb.block k hk⟩ (fun _ _ => by simp) (by simp)

/-- another box is filled anew -/
theorem NBox.other {w : World} {g g' : Nat} {bl bl' bl'' : Bool} {ao ao' : Option Addr} {n c x n' c' x' : Nat} (h : NBox w g bl ao n c x) (k : NBox w g' bl' ao' n' c' x') (hne : g ≠ g') (v : Value) : NBox ((w.setCell ⟨g', 0, none⟩ (.bool bl'')).setCell ⟨g', 1, none⟩ v) g bl ao n c x where
  c0 := by rw [World.cell?_setCell_other _ _ _ _ (by simp <;> omega), World.cell?_setCell_other _ _ _ _ (by simp <;> omega)]; exact h.c0
  c1 := by rw [World.cell?_setCell_other _ _ _ _ (by simp <;> omega), World.cell?_setCell_other _ _ _ _ (by simp <;> omega)]; exact h.c1
  f0 := by rw [World.frozen?_setCell, World.frozen?_setCell]; exact h.f0
  f1 := by rw [World.frozen?_setCell, World.frozen?_setCell]; exact h.f1
  lt := by simp; exact h.lt
  val := (h.val.put _ _ _ k.c0 (by simp)).put _ _ (.slice ao' n' c') (by rw [World.cell?_setCell_other _ _ _ _ (by simp)]; exact k.c1) (by simp)
  pos := h.pos

/-- a box is filled anew -/
theorem NBox.fill {w : World} {g : Nat} {bl bl' : Bool} {ao ao' : Option Addr} {n c x n' c' x' : Nat} (h : NBox w g bl ao n c x) (hv : RV w (.slice ao' n' c') x') (hp : bl' = true → 0 < x') : NBox ((w.setCell ⟨g, 0, none⟩ (.bool bl')).setCell ⟨g, 1, none⟩ (.slice ao' n' c')) g bl' ao' n' c' x' := by
  have d1 : (w.setCell ⟨g, 0, none⟩ (.bool bl')).cell? ⟨g, 1, none⟩ = some (.slice ao n c) := by
    rw [World.cell?_setCell_other _ _ _ _ (by simp)]; exact h.c1
  exact ⟨by rw [World.cell?_setCell_other _ _ _ _ (by simp)]; exact World.cell?_setCell_same _ _ _ h.c0, World.cell?_setCell_same _ _ _ d1, by rw [World.frozen?_setCell, World.frozen?_setCell]; exact h.f0, by rw [World.frozen?_setCell, World.frozen?_setCell]; exact h.f1, by simp; exact h.lt, (hv.put _ _ _ h.c0 (by simp)).put _ _ _ d1 (by simp), hp⟩

theorem ord_sgn {b1 b2 : Bool} {x1 x2 : Nat} (h1 : b1 = true → 0 < x1) (h2 : b2 = true → 0 < x2) : Pl.ordI b1 b2 (Pl.cmpI x1 x2) = Pl.cmpI (sgn b1 x1) (sgn b2 x2) := by
  cases b1 <;> cases b2 <;> simp only [Pl.ordI, sgn, Pl.cmpI, if_true, Bool.false_eq_true, if_false] at h1 h2 ⊢
  · have := h2 trivial; rw [if_neg (by omega), if_pos (by omega)]
  · have := h1 trivial; rw [if_pos (by omega)]
  · split <;> (try split) <;> (try split) <;> (try split) <;> first | rfl | omega

theorem w_orderV (b1 b2 : Bool) (v1 v2 : Value) (x1 x2 K : Nat) (w : World) (h1 : RV w v1 x1) (h2 : RV w v2 x2) (k1 : x1 < 10 ^ K) (k2 : x2 < 10 ^ K) (hK : K ≤ 549755813888) (p1 : b1 = true → 0 < x1) (p2 : b2 = true → 0 < x2) :
    Calls Tryd.prog 64 #[.agg #[.bool b1, v1], .agg #[.bool b2, v2]] w fun e w' => e = .returned (.int .i64 (Pl.cmpI (sgn b1 x1) (sgn b2 x2))) ∧ Below w.heap.size w w' := by
  obtain ⟨xs, a1, a2, a3, a4, a5⟩ := h1.fits k1
  obtain ⟨ys, c1, c2, c3, c4, c5⟩ := h2.fits k2
  rw [← ord_sgn p1 p2, ← a4, ← c4]
  exact w_order b1 b2 v1 v2 xs ys w a1 c1 (by unfold maxLen; omega) (by unfold maxLen; omega) 10 (by decide) a2 c2 a3 c3

theorem nbox_new (w : World) (bl : Bool) (ao : Option Addr) (n c x : Nat) (h : RV w (.slice ao n c) x) (hp : bl = true → 0 < x) : NBox (w.alloc (.cells #[.bool bl, .slice ao n c] 48)) w.heap.size bl ao n c x where
  c0 := by simp [go_sem]
  c1 := by simp [go_sem]
  f0 := by simp [go_sem]
  f1 := by simp [go_sem]
  lt := by simp
  val := h.keep ((Below.refl _ _).alloc (Nat.le_refl _) _)
  pos := hp

/-- a slice of texts -/
def Strs (w : World) (v : Value) (l : List ByteArray) : Prop :=
  ∃ (ao : Option Addr) (cap : Nat), v = .slice ao l.length cap ∧ l.length ≤ cap ∧ (0 < l.length → ∃ g, ao = some ⟨g, 0, none⟩ ∧ g < w.heap.size ∧ ∀ i s, l[i]? = some s → w.cell? ⟨g, i, none⟩ = some (.string s))
theorem Strs.keep {w w' : World} {v : Value} {l : List ByteArray} (h : Strs w v l) (hb : Below w.heap.size w w') : Strs w' v l := by
  obtain ⟨ao, cap, hv, hc, hr⟩ := h
  refine ⟨ao, cap, hv, hc, fun hn => ?_⟩
  obtain ⟨g, ha, hlt, hcell⟩ := hr hn
  exact ⟨g, ha, Nat.lt_of_lt_of_le hlt hb.size, fun i s hs => (hb.cell (p := ⟨g, i, none⟩) hlt).trans (hcell i s hs)⟩
theorem own_strs {w : World} {B : Nat} {v : Value} {l : List ByteArray} (h : w.ownsRow B 9 1 v l.length (l.map .string)) : Strs w v l := by
  rcases id h.2 with ⟨rfl, e2⟩ | ⟨g, cap, cur, rfl, hbg, hg, hnc, hcm, hcs, htake⟩
  · exact ⟨none, 0, by rw [e2], by omega, fun hn => by omega⟩
  · refine ⟨some ⟨g, 0, none⟩, cap, rfl, hnc, fun hn => ⟨g, rfl, (Array.getElem?_eq_some_iff.1 hg).1, fun i s hs => ?_⟩⟩
    have := h.cells (g := g) rfl i (.string s) (by rw [List.getElem?_map, hs]; rfl)
    have hadd : (⟨g, 0, none⟩ : Addr).add i = ⟨g, i, none⟩ := by unfold Addr.add; split <;> simp_all
    rw [hadd] at this
    exact this

theorem st_abs {F T S : Int} {n : Nat} (h : ∀ i, i < n → StOn T S (F + (i : Int) * S)) : (F + (n : Int) * S).natAbs ≤ F.natAbs + T.natAbs + S.natAbs := by
  cases n with
  | zero => simp; omega
  | succ n =>
    have := (h n (by omega)).bound rfl
    rw [show F + ((n + 1 : Nat) : Int) * S = F + (n : Int) * S + S by rw [Int.natCast_add, Int.add_mul]; omega]
    exact this

def RStepsR (w w' : World) (e : Ending) (F T S : Int) (most : Nat) : Prop :=
  ∃ so sc, ∃ l : List ByteArray, e = .returned (.slice so l.length sc) ∧ Strs w' (.slice so l.length sc) l ∧ StGood F S l ∧ (∀ i, i < l.length → StOn T S (F + (i : Int) * S)) ∧ l.length ≤ most ∧ (l.length = most ∨ ¬ StOn T S (F + (l.length : Int) * S)) ∧ Below w.heap.size w w'

structure RsSt (w wr : World) (g0 g1 g2 B : Nat) (v : Value) (l : List ByteArray) (F T S : Int) (bt : Bool) (ot : Option Addr) (nt ct xt : Nat) (bs : Bool) (os : Option Addr) (ns cs xs : Nat) : Prop where
  below : Below w.heap.size w wr
  b0 : w.heap.size ≤ g0
  lo : g0 < B ∧ g1 < B ∧ g2 < B ∧ B ≤ wr.heap.size ∧ g0 ≠ g1 ∧ g0 ≠ g2
  x0 : ∃ bx ao n c x, NBox wr g0 bx ao n c x ∧ sgn bx x = F + (l.length : Int) * S ∧ (∀ k, (Value.slice ao n c).ownBlock = some k → some k ≠ v.ownBlock)
  x1 : NBox wr g1 bt ot nt ct xt
  x2 : NBox wr g2 bs os ns cs xs
  s1 : ∀ k, (Value.slice ot nt ct).ownBlock = some k → k < B
  s2 : ∀ k, (Value.slice os ns cs).ownBlock = some k → k < B
  own : wr.ownsRow B 9 1 v l.length (l.map .string)
  good : StGood F S l
  on : ∀ i, i < l.length → StOn T S (F + (i : Int) * S)

theorem RV.own {w : World} {v : Value} {x : Nat} (h : RV w v x) : ∀ k, v.ownBlock = some k → k < w.heap.size := by
  obtain ⟨zs, ⟨ao, cap, hv, hc, hk, hq⟩, h2⟩ := h
  intro k e
  subst hv
  cases ao with
  | none => simp [Value.ownBlock] at e
  | some a => simp [Value.ownBlock] at e; subst e; exact hk a rfl

theorem sgn_abs (b : Bool) (x : Nat) : (sgn b x).natAbs = x := by cases b <;> simp [sgn]

theorem st_info9 : (Tryd.prog.info? 9).map (fun i => (i.zero, i.size, i.bytes)) = some (some (.string ⟨#[]⟩), 1, 16) := by kernel_rfl

def lenOfV : Value → Nat
  | .slice _ n _ => n
  | _ => 0

set_option maxRecDepth 100000 in
set_option maxHeartbeats 4000000 in
theorem w_rSteps (f t b : ByteArray) (most : Nat) (hmost : most ≤ 201) (sf : f.size ≤ 1048576) (st : t.size ≤ 1048576) (sb : b.size ≤ 1048576)
    (ff : Pl.formed f.data.toList = true) (ft : Pl.formed t.data.toList = true) (fb : Pl.formed b.data.toList = true) (hb0 : b.data.toList ≠ [48]) (w : World) :
    Calls Tryd.prog 34 #[.string f, .string t, .string b, .int .i64 (most : Int)] w fun e w' => RStepsR w w' e (Pl.ival f.data.toList) (Pl.ival t.data.toList) (Pl.ival b.data.toList) most := by
  obtain ⟨i0, hi0, hz0, hz1, hz2⟩ := info_parts st_info9
  have HF := Hid.mk (And.intro ff (And.intro ft fb))
  have hm1 : f.size ≤ maxLen := by unfold maxLen; omega
  have hm2 : t.size ≤ maxLen := by unfold maxLen; omega
  have hm3 : b.size ≤ maxLen := by unfold maxLen; omega
  have hne : (b.toList == [48]) = false := by rw [Lib.toList_data]; simpa using hb0
  obtain ⟨K, hK⟩ : ∃ K, K = 1048577 := ⟨_, rfl⟩
  have HKA : Hid ((Pl.ival f.data.toList).natAbs + (Pl.ival t.data.toList).natAbs + (Pl.ival b.data.toList).natAbs < 10 ^ K) := by
    have h1 := Nat.lt_of_lt_of_le (st_ival_lt ff) (Nat.pow_le_pow_right (by decide : 0 < 10) sf)
    have h2 := Nat.lt_of_lt_of_le (st_ival_lt ft) (Nat.pow_le_pow_right (by decide : 0 < 10) st)
    have h3 := Nat.lt_of_lt_of_le (st_ival_lt fb) (Nat.pow_le_pow_right (by decide : 0 < 10) sb)
    show _ < _
    have hK' : K = 1048576 + 1 := hK
    generalize (1048576 : Nat) = L at h1 h2 h3 hK'
    rw [hK', Nat.pow_succ]; omega
  have hK2 : K ≤ 1048577 := by omega
  have HPos : Hid (0 < Pl.dvl (Pl.body b.data.toList)) := dvl_pos fb hb0
  clear ff ft fb hb0 hK
  go_enter Tryd.func34, Tryd.ntmps34
  go_wp2_with fail
  refine (w_rFormed f _ hm1).mono ?_
  rintro e w0 ⟨rfl, hw⟩
  obtain rfl := hw.symm
  rw [HF.out.1]
  go_wp2_with fail
  refine (w_rFormed t _ hm2).mono ?_
  rintro e w0 ⟨rfl, hw⟩
  obtain rfl := hw.symm
  rw [HF.out.2.1]
  go_wp2_with fail
  refine (w_rFormed b _ hm3).mono ?_
  rintro e w0 ⟨rfl, hw⟩
  obtain rfl := hw.symm
  rw [HF.out.2.2]
  go_wp2_with fail
  refine (w_readV f _ (by omega) HF.out.1).mono ?_
  rintro e w1 ⟨ro, rn, rc, rfl, HV1, hb1⟩
  have HB1 := Hid.mk hb1
  clear hb1 hne
  go_wp2_with fail
  refine (w_readV t _ (by omega) HF.out.2.1).mono ?_
  rintro e w2 ⟨qo, qn, qc, rfl, HV2, hb2⟩
  have N0 := Hid.mk ((nbox_new w1 _ ro rn rc _ HV1.out (fun h => neg_pos HF.out.1 h)).keep hb2)
  have HB2 : Hid (Below w.heap.size w w2) := below_more (below_more HB1.out (below1 w1 _)) hb2
  have G0 : Hid (w.heap.size ≤ w1.heap.size ∧ w1.heap.size < w2.heap.size) := ⟨HB1.out.size, by have := hb2.size; simp at this; omega⟩
  clear hb2
  go_wp2_with fail
  refine (w_readV b _ (by omega) HF.out.2.2).mono ?_
  rintro e w3 ⟨so, sn, sc, rfl, HV3, hb3⟩
  have N0' := Hid.mk ((N0.out.keep (below1 w2 _)).keep hb3)
  have N1 := Hid.mk ((nbox_new w2 _ qo qn qc _ HV2.out (fun h => neg_pos HF.out.2.1 h)).keep hb3)
  have HB3 : Hid (Below w.heap.size w w3) := below_more (below_more HB2.out (below1 w2 _)) hb3
  have G1 : Hid (w2.heap.size < w3.heap.size) := by have := hb3.size; simp at this; show _ < _; omega
  clear hb3 HV1 HV2 HB1 HB2 N0
  generalize hn0 : Pl.neg f.data.toList = nf at *
  generalize hn1 : Pl.neg t.data.toList = nt at *
  generalize hn2 : Pl.neg b.data.toList = nb at *
  have HN0 := Hid.mk hn0
  have HN1 := Hid.mk hn1
  have HN2 := Hid.mk hn2
  clear hn0 hn1 hn2
  have N2 := Hid.mk (nbox_new w3 nb so sn sc _ HV3.out (fun h => neg_pos HF.out.2.2 (HN2.out.trans h)))
  have HS0 : Hid (RsSt w (w3.alloc (.cells #[.bool nb, .slice so sn sc] 48)) w1.heap.size w2.heap.size w3.heap.size (w3.heap.size + 1) (.slice none 0 0) [] (Pl.ival f.data.toList) (Pl.ival t.data.toList) (Pl.ival b.data.toList) nt qo qn qc (Pl.dvl (Pl.body t.data.toList)) nb so sn sc (Pl.dvl (Pl.body b.data.toList))) := by
    have g0 := G0.out
    have g1 := G1.out
    refine ⟨below_more HB3.out (below1 w3 _), g0.1, ⟨by omega, by omega, by omega, by simp, by omega, by omega⟩, ⟨nf, ro, rn, rc, _, N0'.out.keep (below1 w3 _), ?_, fun k hk => by simp [Value.ownBlock]⟩, N1.out.keep (below1 w3 _), N2.out, fun k hk => ?_, fun k hk => ?_, World.ownsRow_nil _ _ _ _, StGood.nil, fun i hi => by simp at hi⟩
    · rw [← HN0.out]; simp; rfl
    · have := N1.out.val.own k hk; omega
    · have := HV3.out.own k hk; omega
  go_wp2_with fail
  generalize w3.alloc (.cells #[.bool nb, .slice so sn sc] 48) = w4 at HS0 ⊢
  generalize w3.heap.size + 1 = B at HS0
  generalize w1.heap.size = g0 at *
  generalize w2.heap.size = g1 at *
  generalize w3.heap.size = g2 at *
  have HXT : Hid (sgn nt (Pl.dvl (Pl.body t.data.toList)) = Pl.ival t.data.toList ∧ (nt = true → 0 < Pl.dvl (Pl.body t.data.toList)) ∧ Pl.dvl (Pl.body t.data.toList) < 10 ^ K) := by
    refine ⟨by rw [← HN1.out]; rfl, fun h => neg_pos HF.out.2.1 (HN1.out.trans h), ?_⟩
    have h1 : (sgn nt (Pl.dvl (Pl.body t.data.toList))) = Pl.ival t.data.toList := by rw [← HN1.out]; rfl
    have h2 := sgn_abs nt (Pl.dvl (Pl.body t.data.toList))
    rw [h1] at h2
    have := HKA.out; omega
  have HXS : Hid (sgn nb (Pl.dvl (Pl.body b.data.toList)) = Pl.ival b.data.toList ∧ (nb = true → 0 < Pl.dvl (Pl.body b.data.toList)) ∧ Pl.dvl (Pl.body b.data.toList) < 10 ^ K ∧ 0 < Pl.dvl (Pl.body b.data.toList)) := by
    refine ⟨by rw [← HN2.out]; rfl, fun h => neg_pos HF.out.2.2 (HN2.out.trans h), ?_, HPos.out⟩
    have h1 : (sgn nb (Pl.dvl (Pl.body b.data.toList))) = Pl.ival b.data.toList := by rw [← HN2.out]; rfl
    have h2 := sgn_abs nb (Pl.dvl (Pl.body b.data.toList))
    rw [h1] at h2
    have := HKA.out; omega
  generalize hIF : Pl.ival f.data.toList = F at *
  have HIF := Hid.mk hIF
  clear hIF
  generalize hIT : Pl.ival t.data.toList = T at *
  have HIT := Hid.mk hIT
  clear hIT
  generalize hIS : Pl.ival b.data.toList = S at *
  have HIS := Hid.mk hIS
  clear hIS
  generalize Pl.dvl (Pl.body t.data.toList) = xt at *
  generalize Pl.dvl (Pl.body b.data.toList) = xs at *
  clear HV3 N0' N1 N2 HB3 G0 G1 HN0 HN1 HN2 HPos HF hm1 hm2 hm3
  go_loopw [9] (fun p wr => ∃ (l : List ByteArray) (uo : Option Addr) (uc k : Nat), p = .slice uo k uc ∧ k ≤ most ∧ Hid (l.length = k) ∧ Hid (RsSt w wr g0 g1 g2 B (.slice uo k uc) l F T S nt qo qn qc xt nb so sn sc xs)) (fun p _ => most - lenOfV p)
  case atStart => exact ⟨[], none, 0, 0, rfl, by omega, rfl, HS0⟩
  case round =>
    obtain ⟨l, uo, uc, k, rfl, hk, HL, HQ⟩ := hrel
    by_cases hlt : k < most
    · have hlt2 : (k : Int) < (most : Int) := by omega
      obtain ⟨bx, ao, n, c, x, hx, hxv, hsep⟩ := HQ.out.x0
      have HXA := Hid.mk hx
      have HXV := Hid.mk hxv
      have HSep := Hid.mk hsep
      have HXK : Hid (x < 10 ^ K) := by
        have h1 := st_abs (n := l.length) HQ.out.on
        rw [← hxv, sgn_abs] at h1
        have := HKA.out; show _ < _; omega
      have c00 := hx.c0
      have c01 := hx.c1
      have c10 := HQ.out.x1.c0
      have c11 := HQ.out.x1.c1
      clear hx hxv hsep
      go_wp2_with fail
      refine (w_orderV bx nt _ _ x xt K _ HXA.out.val HQ.out.x1.val HXK.out HXT.out.2.2 (by omega) HXA.out.pos HXT.out.2.1).mono ?_
      rintro e w5 ⟨rfl, hb5⟩
      rw [HXT.out.1, HXV.out]
      have N0 := Hid.mk (HXA.out.keep hb5)
      have N1 := Hid.mk (HQ.out.x1.keep hb5)
      have N2 := Hid.mk (HQ.out.x2.keep hb5)
      have HO5 := Hid.mk (HQ.out.own.kept (w' := w5) (row := none) ⟨hb5.os, hb5.tape, hb5.output, hb5.size, fun k hk _ => hb5.block k hk⟩ (by cases (Value.slice uo k uc).ownBlock <;> simp))
      have HB5 := Hid.mk (below_more HQ.out.below hb5)
      have hsz5 := hb5.size
      clear hb5 c00 c01 c10 c11
      have d00 := N0.out.c0
      have d01 := N0.out.c1
      have d20 := N2.out.c0
      by_cases hon : StOn T S (F + (l.length : Int) * S)
      · have HON := Hid.mk hon
        have hcase : (nb = true ∧ Pl.cmpI (F + (l.length : Int) * S) T = 1) ∨ (nb = false ∧ Pl.cmpI (F + (l.length : Int) * S) T = -1) := by
          have h1 := HXS.out
          unfold Pl.cmpI
          rcases hon with ⟨p, q⟩ | ⟨p, q⟩
          · right
            refine ⟨?_, by rw [if_pos q]⟩
            cases hnb : nb with
            | false => rfl
            | true => rw [hnb] at h1; simp [sgn] at h1; omega
          · left
            refine ⟨?_, by rw [if_neg (by omega), if_pos q]⟩
            cases hnb : nb with
            | true => rfl
            | false => rw [hnb] at h1; simp [sgn] at h1; omega
        have hcc : ∃ cv : Int, Pl.cmpI (F + (l.length : Int) * S) T = cv ∧ ((nb = true ∧ cv = 1) ∨ (nb = false ∧ cv = -1)) := ⟨_, rfl, hcase⟩
        clear hcase hon
        obtain ⟨cv, hcv, hcase⟩ := hcc
        rw [hcv]
        clear hcv
        rcases hcase with ⟨hnb, rfl⟩ | ⟨hnb, rfl⟩
        all_goals
          rw [hnb] at d20
          have HNB := Hid.mk hnb
          clear hnb
          go_wp2_with fail
          refine (w_rwrite bx _ x K _ N0.out.val HXK.out (by omega) N0.out.pos).mono ?_
          rintro e w6 ⟨r, rfl, hf6, hv6, hb6⟩
          have HR := Hid.mk (And.intro hf6 hv6)
          have M0 := Hid.mk (N0.out.keep hb6)
          have M1 := Hid.mk (N1.out.keep hb6)
          have M2 := Hid.mk (N2.out.keep hb6)
          have hown : w6.ownsRow B 9 1 (.slice uo k uc) k (l.map .string) := by
            have := HO5.out.kept (w' := w6) (row := none) ⟨hb6.os, hb6.tape, hb6.output, hb6.size, fun k hk _ => hb6.block k hk⟩ (by cases (Value.slice uo k uc).ownBlock <;> simp)
            rw [HL.out] at this
            exact this
          have HB6 := Hid.mk (below_more HB5.out hb6)
          have hsz6 := hb6.size
          have hBs := HQ.out.lo.2.2.2.1
          clear hf6 hv6 hb6 d00 d01 d20
          go_wp2_with (at_builtin; refine wpList_append_own _ rfl _ _ 36 rfl B 9 i0 (.string ⟨#[]⟩) 1 16 Tryd.underlying36 hi0 hz0 hz1 hz2 rfl (by decide) _ _ _ rfl (hown.alloc _) ⟨w6.heap.size, 0, none⟩ 1 1 [.string r] rfl rfl (by intro j u hj; match j, hj with | 0, hj => simp at hj; subst hj; simp [Addr.add]) (by intro u hu; simp at hu; subst hu; rfl) (by unfold maxLen; omega) (by omega) (by simp; omega) ?_)
          intro v7 w7 hown7 hgrow7 hnn
          obtain ⟨so7, sc7, hv7⟩ := own_shape hown7
          subst hv7
          have hrow : ∀ q, (Value.slice uo k uc).ownBlock = some q → B ≤ q := own_base hown
          have ne (g : Nat) (hg : g < B) : some g ≠ (Value.slice uo k uc).ownBlock := fun h => by have := hrow g h.symm; omega
          have lo := HQ.out.lo
          have P0 := Hid.mk ((M0.out.keep (below1 w6 _)).grown hgrow7 HSep.out (ne g0 lo.1))
          have P1 := Hid.mk ((M1.out.keep (below1 w6 _)).grown hgrow7 (fun q hq => ne q (HQ.out.s1 q hq)) (ne g1 lo.2.1))
          have P2 := Hid.mk ((M2.out.keep (below1 w6 _)).grown hgrow7 (fun q hq => ne q (HQ.out.s2 q hq)) (ne g2 lo.2.2.1))
          have HB7 : Hid (Below w.heap.size w w7) := ((below_more HB6.out (below1 w6 _)).grown hgrow7 (by have := HB6.out.size; simp; omega) (fun q hq => by have := hrow q hq; have := HQ.out.b0; omega))
          have HO7 := Hid.mk hown7
          have hsz7 := hgrow7.size
          simp at hsz7
          clear hown7 hgrow7 hnn hown hrow ne lo
          have d00 := P0.out.c0
          have d01 := P0.out.c1
          have d20 := P2.out.c0
          have d21 := P2.out.c1
          rw [HNB.out] at d20
          go_wp2_with fail
          refine (w_raddF bx _ _ _ x xs K _ P0.out.val P2.out.val HXK.out HXS.out.2.2.1 (by omega)).mono ?_
          rintro e w8 ⟨bl, po, pn, pc, y, rfl, HY, HYS, HYP, hb8, HFR⟩
          have Q0 := Hid.mk (P0.out.keep hb8)
          have Q1 := Hid.mk (P1.out.keep hb8)
          have Q2 := Hid.mk (P2.out.keep hb8)
          have HB8 := Hid.mk (below_more HB7.out hb8)
          have HN : Hid (RsSt w ((w8.setCell ⟨g0, 0, none⟩ (.bool bl)).setCell ⟨g0, 1, none⟩ (.slice po pn pc)) g0 g1 g2 B (.slice so7 (k + 1) sc7) (l ++ [r]) F T S nt qo qn qc xt nb so sn sc xs) := by
            have lo := HQ.out.lo
            have hs8 := hb8.size
            have hl1 : (l ++ [r]).length = k + 1 := by rw [List.length_append, HL.out]; rfl
            have ho8 := (HO7.out.kept (w' := w8) (row := none) ⟨hb8.os, hb8.tape, hb8.output, hb8.size, fun k hk _ => hb8.block k hk⟩ (by cases (Value.slice so7 (k + 1) sc7).ownBlock <;> simp))
            have hlt8 := HO7.out.lt
            have gset (a : Addr) (hga : a.block = g0) (u : World) (vv : Value) : u.grownBy (u.setCell a vv) (some g0) := ⟨rfl, rfl, rfl, by simp [World.setCell], fun q hq hne => Below.heap_setCell _ _ _ _ (by intro e; rw [e, hga] at hne; exact hne rfl)⟩
            refine ⟨(HB8.out.setCell (p := ⟨g0, 0, none⟩) HQ.out.b0 _).setCell (p := ⟨g0, 1, none⟩) HQ.out.b0 _, HQ.out.b0, ⟨lo.1, lo.2.1, lo.2.2.1, by simp; omega, lo.2.2.2.2.1, lo.2.2.2.2.2⟩, ⟨bl, po, pn, pc, y, Q0.out.fill HY.out HYP.out, ?_, ?_⟩, Q1.out.other Q0.out (Ne.symm lo.2.2.2.2.1) _, Q2.out.other Q0.out (Ne.symm lo.2.2.2.2.2) _, HQ.out.s1, HQ.out.s2, ?_, ?_, ?_⟩
            · have h1 := HYS.out
              have h2 := HXS.out.1
              rw [HNB.out] at h2
              rw [h1, h2, HXV.out, List.length_append, List.length_singleton, Int.natCast_add, Int.add_mul]; omega
            · intro q hq he
              have h1 := HFR.out q hq
              have h2 := (hlt8 q he.symm).2
              omega
            · have h1 : (l ++ [r]).map Value.string = l.map .string ++ [.string r] := by simp
              rw [hl1, h1]
              refine (ho8.kept (gset ⟨g0, 0, none⟩ rfl _ _) ?_).kept (gset ⟨g0, 1, none⟩ rfl _ _) ?_
              all_goals
                right
                intro he
                have := (hlt8 g0 he).1
                omega
            · exact HQ.out.good.snoc HR.out.1 (by rw [HR.out.2, HXV.out])
            · intro i hi
              rw [hl1] at hi
              rcases Nat.lt_or_ge i k with h | h
              · exact HQ.out.on i (by rw [HL.out]; exact h)
              · obtain rfl : i = l.length := by rw [HL.out]; omega
                exact HON.out
          have HLN : Hid ((l ++ [r]).length = k + 1) := by show _ = _; rw [List.length_append, HL.out]; rfl
          have e00 := Q0.out.c0
          have e01 := Q0.out.c1
          have z00 := Q0.out.f0
          have z01 := Q0.out.f1
          clear hb8 d00 d01 d20 d21
          go_wp2_with fail
          go_roundw
          case rel => exact ⟨l ++ [r], so7, sc7, k + 1, rfl, by omega, HLN, HN⟩
          case measure => simp [lenOfV]; omega
      · have HOFF := Hid.mk hon
        have hcase : (nb = true ∧ Pl.cmpI (F + (l.length : Int) * S) T ≤ 0) ∨ (nb = false ∧ 0 ≤ Pl.cmpI (F + (l.length : Int) * S) T) := by
          have h1 := HXS.out
          unfold StOn at hon
          unfold Pl.cmpI
          cases hnb : nb with
          | false => rw [hnb] at h1; simp [sgn] at h1; right; refine ⟨rfl, ?_⟩; split <;> (try split) <;> omega
          | true => rw [hnb] at h1; simp [sgn] at h1; left; refine ⟨rfl, ?_⟩; split <;> (try split) <;> omega
        obtain ⟨cv, hcv, hcase⟩ : ∃ cv : Int, Pl.cmpI (F + (l.length : Int) * S) T = cv ∧ ((nb = true ∧ cv ≤ 0) ∨ (nb = false ∧ 0 ≤ cv)) := ⟨_, rfl, hcase⟩
        rw [hcv]
        clear hcv hon
        have HE : Hid (RStepsR w w5 (.returned (.slice uo k uc)) F T S most) := by
          have := HO5.out
          have hl := HL.out
          refine ⟨uo, uc, l, by rw [hl], ?_, HQ.out.good, HQ.out.on, by omega, .inr HOFF.out, HB5.out⟩
          rw [hl]; exact own_strs (by rw [hl] at this ⊢; exact this)
        rcases hcase with ⟨hnb, hc⟩ | ⟨hnb, hc⟩
        all_goals
          rw [hnb] at d20
          clear hnb
          go_wp2_with fail
          refine bodyPost_ret (v := .slice uo k uc) (by simp [results, Tryd.results34, go_sem]) rfl ?_
          rw [HIF.out, HIT.out, HIS.out]
          exact HE.out
    · have hlt2 : ¬ (k : Int) < (most : Int) := by omega
      have HE : Hid (RStepsR w wr (.returned (.slice uo k uc)) F T S most) := by
        have := HQ.out.own
        have hl := HL.out
        refine ⟨uo, uc, l, by rw [hl], ?_, HQ.out.good, HQ.out.on, by omega, .inl (by omega), HQ.out.below⟩
        rw [hl]; exact own_strs (by rw [hl] at this ⊢; exact this)
      go_wp2_with fail
      refine bodyPost_ret (v := .slice uo k uc) (by simp [results, Tryd.results34, go_sem]) rfl ?_
      rw [HIF.out, HIT.out, HIS.out]
      exact HE.out

set_option maxRecDepth 100000 in
set_option maxHeartbeats 2000000 in
theorem w_rSteps_no (f t b : ByteArray) (most : Int) (sf : f.size ≤ 1048576) (st : t.size ≤ 1048576) (sb : b.size ≤ 1048576)
    (hbad : ¬ (Pl.formed f.data.toList = true ∧ Pl.formed t.data.toList = true ∧ Pl.formed b.data.toList = true ∧ b.data.toList ≠ [48])) (w : World) :
    Calls Tryd.prog 34 #[.string f, .string t, .string b, .int .i64 most] w fun e w' => e = .returned (.slice none 0 0) ∧ w' = w := by
  have HBad := Hid.mk hbad
  have hm1 : f.size ≤ maxLen := by unfold maxLen; omega
  have hm2 : t.size ≤ maxLen := by unfold maxLen; omega
  have hm3 : b.size ≤ maxLen := by unfold maxLen; omega
  clear hbad
  go_enter Tryd.func34, Tryd.ntmps34
  go_wp2_with fail
  refine (w_rFormed f _ hm1).mono ?_
  rintro e w0 ⟨rfl, hw⟩
  obtain rfl := hw.symm
  cases h1 : Pl.formed f.data.toList with
  | false =>
    clear h1
    go_wp2_with fail
    go_ret
    exact ⟨rfl, rfl⟩
  | true =>
    have H1 := Hid.mk h1
    clear h1
    go_wp2_with fail
    refine (w_rFormed t _ hm2).mono ?_
    rintro e w0 ⟨rfl, hw⟩
    obtain rfl := hw.symm
    cases h2 : Pl.formed t.data.toList with
    | false =>
      clear h2
      go_wp2_with fail
      go_ret
      exact ⟨rfl, rfl⟩
    | true =>
      have H2 := Hid.mk h2
      clear h2
      go_wp2_with fail
      refine (w_rFormed b _ hm3).mono ?_
      rintro e w0 ⟨rfl, hw⟩
      obtain rfl := hw.symm
      cases h3 : Pl.formed b.data.toList with
      | false =>
        clear h3
        go_wp2_with fail
        go_ret
        exact ⟨rfl, rfl⟩
      | true =>
        have hne : (b.toList == [48]) = true := by
          rw [Lib.toList_data]
          have : b.data.toList = [48] := Decidable.byContradiction fun h => HBad.out ⟨H1.out, H2.out, h3, h⟩
          rw [this]; rfl
        clear h3
        go_wp2_with fail
        go_ret
        exact ⟨rfl, rfl⟩
end Go.Proofs.YtfcbeohkhljboaaDoor
