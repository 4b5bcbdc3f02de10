import Derived.Test.YtfgfgcecbodjeaaGreatDoorM30
import Derived.Test.YtfgfgcecbodjeaaGreatDoorM27
namespace Go.Proofs.YtfgfgcecbodjeaaGreatDoor
open Go.RowKit Go.Shelf
set_option linter.unusedVariables false
set_option linter.unusedSimpArgs false
attribute [local go_sem] Oper.semAt_some

/-- how a value is read, at the outermost -/
def ValOk (s : ByteArray) (I h : Nat) (vl : Tok → Nat → Rd VT) : Prop := ∀ (t : Tok) (p : Nat) (u : World), p ≤ s.size → t.text.length ≤ 140737488355328 → InAt u I s p → ErrIn u → Calls Tryz.prog 40 #[.pointer (some ⟨I, 0, none⟩), tokV t, .int .i64 1] u fun e w' => VlR I s h u (vl t p) e w'
/-- the value that follows, if any -/
def folL (l : List UInt8) (vl : Tok → Nat → Rd VT) (p : Nat) : Rd (Option VT) :=
  if behL l p cBl < l.length then
    (if (nextT l (behL l p cBl)).err = 0 then
      (match vl (nextT l (behL l p cBl)) (nextT l (behL l p cBl)).fin with
      | .ok T q => .ok (some T) q
      | .bad e q => .bad e q)
    else .bad (nextT l (behL l p cBl)).err (nextT l (behL l p cBl)).at_)
  else .ok none p
def v0V : Value := .agg #[.int .i64 0, .string ⟨#[]⟩, .string ⟨#[]⟩, .slice none 0 0, .slice none 0 0]
def FolE (w : World) (h : Nat) (o : Option VT) (u : World) (v : Value) : Prop := match o with
  | none => v = .tuple #[v0V, .bool false]
  | some T => ∃ x, v = .tuple #[x, .bool true] ∧ InF w.heap.size u (h + 1) T x

set_option maxRecDepth 100000 in
set_option maxHeartbeats 3200000 in
theorem w_following (s : ByteArray) (ss : s.size ≤ 16777216) (I p h : Nat) (hp : p ≤ s.size) (vl : Tok → Nat → Rd VT) (HV : ValOk s I h vl) (htx : (nextT s.data.toList (behL s.data.toList p cBl)).text.length ≤ 140737488355328) (w : World) (hI : InAt w I s p) (hE : ErrIn w) (gI : I ≠ 3) :
    Calls Tryz.prog 38 #[.pointer (some ⟨I, 0, none⟩)] w fun e w' => RdR I s w (FolE w h) (folL s.data.toList vl p) e w' := by
  have HC := Hid.mk (fun u (hu : InAt u I s p) (hEu : ErrIn u) => w_next s ss I p hp u hu hEu)
  have HVl := Hid.mk HV
  have hIl := hI.lt
  have HI := Hid.mk hI
  have HE := Hid.mk hE
  have HTx := Hid.mk htx
  clear hI hE HV htx
  go_enter Tryz.func38, Tryz.ntmps38
  go_wp2_with fail
  refine (HC.out _ (HI.out.alloc _) (HE.out.keep (below1 w _))).mono ?_
  rintro e w1 ⟨hbut, hway⟩
  have q1 := (hbut.block w.heap.size (by simp) (by omega)).trans (heap_alloc_new w _)
  obtain ⟨t0, t1, t2, t3, t4, f0, f1, f2, f3, f4⟩ := vbox_cells q1
  have hsz := hbut.size
  rw [World.size_alloc] at hsz
  have hws : w.heap.size < w1.heap.size := by omega
  have hbw : But I w w1 := ⟨hbut.os, hbut.tape, hbut.output, by omega, fun k hk hn => (hbut.block k (by simp; omega) hn).trans (Below.heap_alloc _ _ _ hk)⟩
  have HB := Hid.mk hbw
  have HQ := Hid.mk q1
  clear hbut q1 hsz hbw
  rcases hway with ⟨h1, rfl, hin⟩ | ⟨h1, h2, rfl, hin⟩ | ⟨h1, h2, rfl, hin⟩
  · have HN := Hid.mk (And.intro h1 hin)
    clear h1 hin
    unfold tok0
    go_wp2_with fail
    generalize hz5 : ((((w1.setCell ⟨w.heap.size, 0, none⟩ (.int .i64 0)).setCell ⟨w.heap.size, 1, none⟩ (.string ⟨#[]⟩)).setCell ⟨w.heap.size, 2, none⟩ (.string ⟨#[]⟩)).setCell ⟨w.heap.size, 3, none⟩ (.slice none 0 0)).setCell ⟨w.heap.size, 4, none⟩ (.slice none 0 0) = W4
    obtain ⟨e4, k4, s4⟩ := rbox_set5 w1 _ _ _ _ _ _ _ _ _ _ _ _ HQ.out W4 hz5.symm
    have u4 : But I w W4 := by rw [← hz5]; exact ((((HB.out.set2 _ 0 (by omega) _).set2 _ 1 (by omega) _).set2 _ 2 (by omega) _).set2 _ 3 (by omega) _).set2 _ 4 (by omega) _
    generalize hz6 : W4.alloc _ = W5
    have e5 : W5.heap[w.heap.size]? = some (.cells #[.int .i64 0, .string ⟨#[]⟩, .string ⟨#[]⟩, .slice none 0 0, .slice none 0 0] 37 (0, 0)) := by rw [← hz6]; exact (Below.heap_alloc _ _ _ (by omega)).trans e4
    have u5 : But I w W5 := by rw [← hz6]; exact u4.step (by omega) (below1 W4 _)
    have i5 : InAt W5 I s p := by rw [← hz6]; exact InAt.alloc ((k4 _ (by omega)).trans HN.out.2) _
    obtain ⟨d0, d1, d2, d3, d4, _⟩ := vbox_cells e5
    refine bodyPost_ret (v := .tuple #[v0V, .bool false]) (by simp [v0V, results, Tryz.results38, go_sem, d0, d1, d2, d3, d4]) rfl ⟨u5, ?_⟩
    unfold folL
    rw [if_neg (by rw [HN.out.1]; omega)]
    exact ⟨⟨_, rfl, rfl⟩, i5⟩
  · have HN := Hid.mk (And.intro h1 (And.intro h2 hin))
    have hfin := (nextT_le h1).2
    have HFin := Hid.mk hfin
    have hin2 := hin.lt
    clear h1 h2 hin hfin
    obtain ⟨t, ht⟩ : ∃ t, nextT s.data.toList (behL s.data.toList p cBl) = t := ⟨_, rfl⟩
    rw [ht] at HN HFin HTx ⊢
    have HT := Hid.mk ht
    clear ht
    have HVt := Hid.mk (HVl.out t)
    obtain ⟨kd, pa, fi, tx, er⟩ := t
    unfold tokV at *
    dsimp only at *
    go_wp2_with fail
    have hE1 := (HB.out.errIn HI.out HE.out gI)
    refine (HVt.out fi _ HFin.out HTx.out (HN.out.2.2.alloc _) (hE1.keep (below1 w1 _))).mono ?_
    rintro e w2 ⟨hbut2, hm⟩
    obtain ⟨h1, h2, _⟩ := HN.out
    subst h2
    have hfo : folL s.data.toList vl p = (match vl ⟨kd, pa, fi, tx, 0⟩ fi with
      | .ok T q => .ok (some T) q
      | .bad e q => .bad e q) := by
      unfold folL
      rw [if_pos h1, HT.out, if_pos rfl]
    have hsz := hbut2.size
    rw [World.size_alloc] at hsz
    have q2 := (hbut2.block w.heap.size (by simp; omega) (by omega)).trans ((Below.heap_alloc _ _ _ hws).trans HQ.out)
    have hbw : But I w w2 := HB.out.trans ⟨hbut2.os, hbut2.tape, hbut2.output, by omega, fun k hk hn => (hbut2.block k (by simp; omega) hn).trans (Below.heap_alloc _ _ _ hk)⟩
    cases hr : vl ⟨kd, pa, fi, tx, 0⟩ fi with
    | bad er' q =>
      rw [hr] at hm hfo
      have hm' : e = .panicked (fch er' q) := hm
      subst hm'
      exact ⟨rfl, hbw, by rw [hfo]⟩
    | ok T q =>
      rw [hr] at hm hfo
      dsimp only at hfo
      obtain ⟨⟨v, rfl, hF⟩, hin⟩ := hm
      obtain ⟨g0, g1, g2, g3, g4, x0, x1, x2, x3, x4⟩ := vbox_cells q2
      have HF := Hid.mk hF
      obtain ⟨io, icap, ko, kcap, hv, _⟩ := hF
      have HN2 := Hid.mk (And.intro hbw (And.intro hin (And.intro q2 hfo)))
      have hws2 : w.heap.size < w2.heap.size := by omega
      have hsz2 : Hid (w1.heap.size + 1 ≤ w2.heap.size) := hsz
      clear hbut2 hbw hin q2 hsz hfo hr h1 hE1 t0 t1 t2 t3 t4 f0 f1 f2 f3 f4
      subst hv
      go_wp2_with fail
      obtain ⟨hbw, hin, q2, hfo⟩ := HN2.out
      rw [hfo]
      generalize hz5 : ((((w2.setCell ⟨w.heap.size, 0, none⟩ (.int .i64 T.kind)).setCell ⟨w.heap.size, 1, none⟩ (.string T.num)).setCell ⟨w.heap.size, 2, none⟩ (.string T.text)).setCell ⟨w.heap.size, 3, none⟩ (.slice io T.items.length icap)).setCell ⟨w.heap.size, 4, none⟩ (.slice ko T.keys.length kcap) = wz
      obtain ⟨e5, k5, s5⟩ := rbox_set5 w2 _ _ _ _ _ _ _ _ _ _ _ _ q2 wz hz5.symm
      have u5 : But I w wz := by rw [← hz5]; exact ((((hbw.set2 _ 0 (by omega) _).set2 _ 1 (by omega) _).set2 _ 2 (by omega) _).set2 _ 3 (by omega) _).set2 _ 4 (by omega) _
      obtain ⟨d0, d1, d2, d3, d4, _⟩ := vbox_cells e5
      refine bodyPost_ret (v := .tuple #[.agg #[.int .i64 T.kind, .string T.num, .string T.text, .slice io T.items.length icap, .slice ko T.keys.length kcap], .bool true]) (by simp [results, Tryz.results38, go_sem, d0, d1, d2, d3, d4]) rfl ?_
      have hF := HF.out
      rw [World.size_alloc] at hF
      exact ⟨u5, ⟨_, rfl, _, rfl, InF.keepB (by omega) (fun b hb hl => k5 b (by omega)) (by omega) hF⟩, (k5 _ (by omega)).trans hin⟩
  · exact ⟨rfl, HB.out, by unfold folL; rw [if_pos h1, if_neg h2]⟩
end Go.Proofs.YtfgfgcecbodjeaaGreatDoor
namespace Go.Proofs.YtfgfgcecbodjeaaGreatDoor
open Go.RowKit Go.Shelf
set_option linter.unusedVariables false
set_option linter.unusedSimpArgs false
attribute [local go_sem] Oper.semAt_some

/-- what stands behind the one value -/
def endL (l : List UInt8) (T : VT) (q : Nat) : Rd VT :=
  if behL l q cBl < l.length then (if (nextT l (behL l q cBl)).err = 0 then .bad 54 (nextT l (behL l q cBl)).at_ else .bad (nextT l (behL l q cBl)).err (nextT l (behL l q cBl)).at_) else .ok T q
/-- the one value -/
def onlL (l : List UInt8) (vl : Tok → Nat → Rd VT) (p : Nat) : Rd VT := match mustL l p with
  | .bad e q => .bad e q
  | .ok t p1 => match vl t p1 with
    | .bad e q => .bad e q
    | .ok T q => endL l T q
def OnlE (w : World) (h : Nat) (T : VT) (u : World) (v : Value) : Prop := ∃ x, v = .tuple #[x, .bool true] ∧ InF w.heap.size u (h + 1) T x

set_option maxRecDepth 100000 in
set_option maxHeartbeats 3200000 in
theorem w_only (s : ByteArray) (ss : s.size ≤ 16777216) (I p h : Nat) (hp : p ≤ s.size) (vl : Tok → Nat → Rd VT) (HV : ValOk s I h vl) (hvl : ∀ t p T q, p ≤ s.size → vl t p = .ok T q → q ≤ s.size) (htx : ∀ p t q, mustL s.data.toList p = .ok t q → t.text.length ≤ 140737488355328) (w : World) (hI : InAt w I s p) (hE : ErrIn w) (gI : I ≠ 3) :
    Calls Tryz.prog 26 #[.pointer (some ⟨I, 0, none⟩)] w fun e w' => RdR I s w (OnlE w h) (onlL s.data.toList vl p) e w' := by
  have HMust := Hid.mk (fun u p (hp : p ≤ s.size) (hu : InAt u I s p) (hEu : ErrIn u) => w_must s ss I p hp u hu hEu)
  have HC := Hid.mk (fun u p (hp : p ≤ s.size) (hu : InAt u I s p) (hEu : ErrIn u) => w_next s ss I p hp u hu hEu)
  obtain ⟨R, hR⟩ : ∃ R, onlL s.data.toList vl p = R := ⟨_, rfl⟩
  rw [hR]
  have HRR := Hid.mk hR
  have HVl := Hid.mk HV
  have HvL := Hid.mk hvl
  have hIl := hI.lt
  have HI := Hid.mk hI
  have HE := Hid.mk hE
  have HTx := Hid.mk htx
  clear hI hE HV htx hvl hR
  go_enter Tryz.func26, Tryz.ntmps26
  go_wp2_with fail
  refine (HMust.out _ p hp (HI.out.alloc _) (HE.out.keep (below1 w _))).mono ?_
  rintro e w1 ⟨hbut, hm⟩
  have hR := HRR.out
  unfold onlL at hR
  have hsz := hbut.size
  rw [World.size_alloc] at hsz
  have hws : w.heap.size < w1.heap.size := by omega
  have q1 := (hbut.block w.heap.size (by simp) (by omega)).trans (heap_alloc_new w _)
  have hbw : But I w w1 := ⟨hbut.os, hbut.tape, hbut.output, by omega, fun k hk hn => (hbut.block k (by simp; omega) hn).trans (Below.heap_alloc _ _ _ hk)⟩
  cases hml : mustL s.data.toList p with
  | bad er q =>
    rw [hml] at hm hR
    have hm' : e = .panicked (fch er q) := hm
    subst hm'
    exact ⟨rfl, hbw, by rw [← hR]⟩
  | ok t p1 =>
    rw [hml] at hm hR
    dsimp only at hR
    obtain ⟨⟨v, rfl, rfl⟩, hin⟩ := hm
    obtain ⟨u1, u2⟩ := mustL_up hp hml
    have HVt := Hid.mk (HVl.out t p1 w1 u2 (HTx.out _ _ _ hml) hin (hbw.errIn HI.out HE.out gI))
    have HR1 := Hid.mk hR
    have HB := Hid.mk (And.intro hbw q1)
    clear hbut hin hml hR hbw q1 hsz
    go_wp2_with fail
    refine HVt.out.mono ?_
    rintro e w2 ⟨hbut2, hm⟩
    have hR := HR1.out
    have hbw2 := HB.out.1.trans hbut2
    have hsz2 := hbut2.size
    have hws2 : w.heap.size < w2.heap.size := by omega
    have q2 := (hbut2.block w.heap.size hws (by omega)).trans HB.out.2
    cases hr : vl t p1 with
    | bad er q =>
      rw [hr] at hm hR
      have hm' : e = .panicked (fch er q) := hm
      subst hm'
      exact ⟨rfl, hbw2, by rw [← hR]⟩
    | ok T q =>
      rw [hr] at hm hR
      dsimp only at hR
      obtain ⟨⟨v, rfl, hF⟩, hin⟩ := hm
      have hq := HvL.out _ _ _ _ u2 hr
      have HF := Hid.mk hF
      obtain ⟨io, icap, ko, kcap, hv, _⟩ := hF
      have hil2 := hin.lt
      have HB2 := Hid.mk (And.intro hbw2 (And.intro q2 (And.intro hin (And.intro hsz2 hq))))
      have HR2 := Hid.mk hR
      clear hbut2 hbw2 q2 hin hR hr hsz2 hq
      subst hv
      go_wp2_with fail
      have hE2 := (HB2.out.1.errIn HI.out HE.out gI)
      refine (HC.out _ q HB2.out.2.2.2.2 (HB2.out.2.2.1.alloc _) (hE2.keep (below1 w2 _))).mono ?_
      rintro e w3 ⟨hbut3, hway⟩
      have hsz3 := hbut3.size
      rw [World.size_alloc] at hsz3
      have hbw3 : But I w w3 := HB2.out.1.trans ⟨hbut3.os, hbut3.tape, hbut3.output, by omega, fun k hk hn => (hbut3.block k (by simp; omega) hn).trans (Below.heap_alloc _ _ _ hk)⟩
      have q3 := (hbut3.block w.heap.size (by simp; omega) (by omega)).trans ((Below.heap_alloc _ _ _ hws2).trans HB2.out.2.1)
      have x3 := (hbut3.block w2.heap.size (by simp) (by omega)).trans (heap_alloc_new w2 _)
      obtain ⟨t0, t1, t2, t3, t4, f0, f1, f2, f3, f4⟩ := vbox_cells q3
      obtain ⟨y0, y1, y2, y3, y4, _⟩ := vbox_cells x3
      have hws3 : w.heap.size < w3.heap.size := by omega
      have hws4 : w2.heap.size < w3.heap.size := by omega
      have hkf : ∀ b, b < w2.heap.size → b ≠ I → w3.heap[b]? = w2.heap[b]? := fun b hb hn => (hbut3.block b (by simp; omega) hn).trans (Below.heap_alloc _ _ _ hb)
      have HB3 := Hid.mk (And.intro hbw3 (And.intro q3 hkf))
      have hR2 := HR2.out
      unfold endL at hR2
      clear hbut3 hbw3 q3 x3 hsz3 hE2 hkf
      rcases hway with ⟨h1, rfl, hin⟩ | ⟨h1, h2, rfl, hin⟩ | ⟨h1, h2, rfl, hin⟩
      · rw [if_neg (by rw [h1]; omega)] at hR2
        have HR3 := Hid.mk hR2
        have HN := Hid.mk hin
        clear h1 hin hR2
        unfold tok0
        go_wp2_with fail
        obtain ⟨hbw3, q3, hkf⟩ := HB3.out
        have hs12 := HB2.out.2.2.2.1
        generalize hz5 : ((((w3.setCell ⟨w.heap.size, 0, none⟩ (.int .i64 T.kind)).setCell ⟨w.heap.size, 1, none⟩ (.string T.num)).setCell ⟨w.heap.size, 2, none⟩ (.string T.text)).setCell ⟨w.heap.size, 3, none⟩ (.slice io T.items.length icap)).setCell ⟨w.heap.size, 4, none⟩ (.slice ko T.keys.length kcap) = W4
        obtain ⟨e4, k4, s4⟩ := rbox_set5 w3 _ _ _ _ _ _ _ _ _ _ _ _ q3 W4 hz5.symm
        have u4 : But I w W4 := by rw [← hz5]; exact ((((hbw3.set2 _ 0 (by omega) _).set2 _ 1 (by omega) _).set2 _ 2 (by omega) _).set2 _ 3 (by omega) _).set2 _ 4 (by omega) _
        generalize hz6 : W4.alloc _ = W5
        have e5 : W5.heap[w.heap.size]? = some (.cells #[.int .i64 T.kind, .string T.num, .string T.text, .slice io T.items.length icap, .slice ko T.keys.length kcap] 37 (0, 0)) := by rw [← hz6]; exact (Below.heap_alloc _ _ _ (by omega)).trans e4
        have s5 : W5.heap.size = W4.heap.size + 1 := by rw [← hz6]; simp
        have k5 : ∀ b, b < W4.heap.size → W5.heap[b]? = W4.heap[b]? := fun b hb => by rw [← hz6]; exact Below.heap_alloc _ _ _ hb
        have u5 : But I w W5 := by rw [← hz6]; exact u4.step (by omega) (below1 W4 _)
        have i5 : InAt W5 I s q := (k5 _ (by omega)).trans ((k4 _ (by omega)).trans HN.out)
        obtain ⟨d0, d1, d2, d3, d4, _⟩ := vbox_cells e5
        refine bodyPost_ret (v := .tuple #[.agg #[.int .i64 T.kind, .string T.num, .string T.text, .slice io T.items.length icap, .slice ko T.keys.length kcap], .bool true]) (by simp [results, Tryz.results26, go_sem, d0, d1, d2, d3, d4]) rfl ⟨u5, ?_⟩
        rw [← HR3.out]
        exact ⟨⟨_, rfl, _, rfl, InF.keepB (by omega) (fun b hb hl => (k5 b (by omega)).trans ((k4 b (by omega)).trans (hkf b hl (by omega)))) (by omega) HF.out⟩, i5⟩
      · rw [if_pos h1, if_pos h2] at hR2
        have HR3 := Hid.mk hR2
        clear h1 h2 hin hR2
        obtain ⟨t, ht⟩ : ∃ t, nextT s.data.toList (behL s.data.toList q cBl) = t := ⟨_, rfl⟩
        rw [ht] at HR3 ⊢
        clear ht
        obtain ⟨kd, pa, fi, tx, er⟩ := t
        unfold tokV at *
        dsimp only at *
        go_wp2_with fail
        refine ⟨rfl, HB3.out.1.step (Nat.le_refl _) ((below1 w3 _).mono (by omega)), ?_⟩
        rw [← HR3.out]
        rfl
      · rw [if_pos h1, if_neg h2] at hR2
        exact ⟨rfl, HB3.out.1, by rw [← hR2]⟩
end Go.Proofs.YtfgfgcecbodjeaaGreatDoor
namespace Go.Proofs.YtfgfgcecbodjeaaGreatDoor
open Go.RowKit
set_option linter.unusedVariables false
set_option linter.unusedSimpArgs false

/-- what stands next, as the reference tells it -/
def Nx5 (l : List UInt8) (p : Nat) (e : Ending) : Prop := (¬ behL l p cBl < l.length ∧ e = .returned (pc5 36 l.length l.length [] 0)) ∨ (behL l p cBl < l.length ∧ PcT (nextT l (behL l p cBl)) e)
theorem nx5_in {l : List UInt8} {p q : Nat} {e : Ending} (hb : behL l p cBl = q) (hq : q < l.length) (h : PcT (nextT l q) e) : Nx5 l p e := .inr ⟨by rw [hb]; exact hq, by rw [hb]; exact h⟩

end Go.Proofs.YtfgfgcecbodjeaaGreatDoor
namespace Go.Proofs.YtfgfgcecbodjeaaGreatDoor
open Go.RowKit
set_option linter.unusedVariables false
set_option linter.unusedSimpArgs false

set_option maxRecDepth 100000 in
set_option maxHeartbeats 3200000 in
theorem w_5Next_m0 (s : ByteArray) (p : Nat) (w : World) (hp : p ≤ s.size) (hs : s.size ≤ 1048576) (hlt0 : behL s.data.toList p cBl < s.data.toList.length) (hcc : (s.data.toList.getD (behL s.data.toList p cBl) 0).toNat = 123) :
    Calls Tryz.prog 20 #[.string s, .int .i64 (p : Int)] w fun e w' => Below w.heap.size w w' ∧ Nx5 s.data.toList p e := by
  obtain ⟨l, hl⟩ : ∃ l, l = s.data.toList := ⟨_, rfl⟩
  have HL : Hid (l.length = s.size) := by show _ = _; rw [hl]; exact size_lst s
  have HG : Hid (∀ q (h : q < s.size), l.getD q 0 = s[q]) := fun q h => by rw [hl]; exact getD_byte h
  have HLT : Hid (behL l p cBl < l.length) := by show _ < _; rw [hl]; exact hlt0
  clear hlt0
  have HCC : Hid ((l.getD (behL l p cBl) 0).toNat = 123) := by show _ = _; rw [hl]; exact hcc
  clear hcc
  rw [← hl]
  clear hl
  go_enter Tryz.func20, Tryz.ntmps20
  go_wp2_with fail
  go_loopw [1] (fun a wr => ∃ q : Nat, q ≤ s.size ∧ a = .int .i64 (q : Int) ∧ Hid (behL l p cBl = behL l q cBl) ∧ wr = w.alloc (.cells #[.int .u8 0, .int .i64 0, .int .i64 0, .string ⟨#[]⟩, .int .i64 0] 50)) (fun a _ => s.size - (intOf a).toNat)
  case atStart => exact ⟨p, hp, rfl, rfl, rfl⟩
  case round =>
    obtain ⟨q, hq, rfl, HQ, rfl⟩ := hrel
    by_cases hlt : q < s.size
    · have hi1 : (q : Int) < (s.size : Int) := by omega
      have hi0 : (0 : Int) ≤ (q : Int) := by omega
      have hi2 : ¬ (s.size : Int) ≤ (q : Int) := by omega
      have hbl := fun u => w_5blank s[q] u
      have hst := beh_step (l := l) (p := q) (cs := cBl) (by rw [HL.out]; exact hlt)
      have hsp := beh_stop (l := l) (p := q) (cs := cBl) (by rw [HL.out]; exact hlt)
      rw [HG.out q hlt] at hst hsp
      cases h1 : cBl.contains s[q] with
      | true =>
        rw [h1] at hbl hst
        have HBl := Hid.mk hbl
        have HST := Hid.mk (hst rfl)
        clear hst hsp hbl h1
        go_wp2_with fail
        refine (HBl.out _).mono ?_
        rintro e w1 ⟨rfl, rfl⟩
        go_wp2_with fail
        go_roundw
        case rel => exact ⟨q + 1, by omega, by go_num, HQ.out.trans HST.out, by first | rfl | trivial⟩
        case measure => simp [intOf]; omega
      | false =>
        rw [h1] at hbl hsp
        have HBE : Hid (behL l p cBl = q) := HQ.out.trans (hsp rfl)
        have HQL : Hid (q < l.length) := by show _ < _; rw [HL.out]; exact hlt
        have hgd := HG.out q hlt
        clear hst hsp h1 HQ
        have hcc := HCC.out
        rw [HBE.out, hgd] at hcc
        have HT : Hid (nextT l q = ⟨1, q, q + 1, [], 0⟩) := by
          show _ = _
          unfold nextT
          have hc : mkN s[q] = 1 := by rw [mk_tab]; rw [if_pos (by omega)]
          have hm : cMk.contains s[q] = true := (mk_pos s[q]).1 (by omega)
          rw [hgd, if_pos hm]
          have : (1 + Lib.indexByte cMk s[q]).toNat = 1 := by unfold mkN at hc; rw [if_pos hm] at hc; exact hc
          rw [this]
        have hx : ((s[q].toNat : Nat) : Int) = 123 := by omega
        rw [hx] at hbl
        have HBl := Hid.mk hbl
        clear hgd hcc hbl
        go_wp2_with fail
        refine (HBl.out _).mono ?_
        rintro e w1 ⟨rfl, rfl⟩
        go_wp2_with fail
        (try simp only [Exit.inBlock, Exit.then])
        refine bodyPost_ret (v := .agg #[.int .u8 123, .int .i64 (q : Int), .int .i64 ((q : Int) + 1), .string ⟨#[]⟩, .int .i64 0]) (by simp [results, Tryz.results20, go_sem]) rfl ?_
        exact ⟨below1 w _, nx5_in HBE.out HQL.out (by rw [HT.out]; exact .inl ⟨rfl, rfl⟩)⟩
    · obtain rfl : q = s.size := by omega
      have hi1 : ¬ (s.size : Int) < (s.size : Int) := by omega
      have HBE : Hid (behL l p cBl = s.size) := by show _ = _; rw [HQ.out, beh_end (by rw [HL.out]; omega), HL.out]
      clear HQ
      exact absurd HLT.out (by have h1 := HBE.out; have h2 := HL.out; omega)

set_option maxRecDepth 100000 in
set_option maxHeartbeats 3200000 in
theorem w_5Next_m1 (s : ByteArray) (p : Nat) (w : World) (hp : p ≤ s.size) (hs : s.size ≤ 1048576) (hlt0 : behL s.data.toList p cBl < s.data.toList.length) (hcc : (s.data.toList.getD (behL s.data.toList p cBl) 0).toNat = 125) :
    Calls Tryz.prog 20 #[.string s, .int .i64 (p : Int)] w fun e w' => Below w.heap.size w w' ∧ Nx5 s.data.toList p e := by
  obtain ⟨l, hl⟩ : ∃ l, l = s.data.toList := ⟨_, rfl⟩
  have HL : Hid (l.length = s.size) := by show _ = _; rw [hl]; exact size_lst s
  have HG : Hid (∀ q (h : q < s.size), l.getD q 0 = s[q]) := fun q h => by rw [hl]; exact getD_byte h
  have HLT : Hid (behL l p cBl < l.length) := by show _ < _; rw [hl]; exact hlt0
  clear hlt0
  have HCC : Hid ((l.getD (behL l p cBl) 0).toNat = 125) := by show _ = _; rw [hl]; exact hcc
  clear hcc
  rw [← hl]
  clear hl
  go_enter Tryz.func20, Tryz.ntmps20
  go_wp2_with fail
  go_loopw [1] (fun a wr => ∃ q : Nat, q ≤ s.size ∧ a = .int .i64 (q : Int) ∧ Hid (behL l p cBl = behL l q cBl) ∧ wr = w.alloc (.cells #[.int .u8 0, .int .i64 0, .int .i64 0, .string ⟨#[]⟩, .int .i64 0] 50)) (fun a _ => s.size - (intOf a).toNat)
  case atStart => exact ⟨p, hp, rfl, rfl, rfl⟩
  case round =>
    obtain ⟨q, hq, rfl, HQ, rfl⟩ := hrel
    by_cases hlt : q < s.size
    · have hi1 : (q : Int) < (s.size : Int) := by omega
      have hi0 : (0 : Int) ≤ (q : Int) := by omega
      have hi2 : ¬ (s.size : Int) ≤ (q : Int) := by omega
      have hbl := fun u => w_5blank s[q] u
      have hst := beh_step (l := l) (p := q) (cs := cBl) (by rw [HL.out]; exact hlt)
      have hsp := beh_stop (l := l) (p := q) (cs := cBl) (by rw [HL.out]; exact hlt)
      rw [HG.out q hlt] at hst hsp
      cases h1 : cBl.contains s[q] with
      | true =>
        rw [h1] at hbl hst
        have HBl := Hid.mk hbl
        have HST := Hid.mk (hst rfl)
        clear hst hsp hbl h1
        go_wp2_with fail
        refine (HBl.out _).mono ?_
        rintro e w1 ⟨rfl, rfl⟩
        go_wp2_with fail
        go_roundw
        case rel => exact ⟨q + 1, by omega, by go_num, HQ.out.trans HST.out, by first | rfl | trivial⟩
        case measure => simp [intOf]; omega
      | false =>
        rw [h1] at hbl hsp
        have HBE : Hid (behL l p cBl = q) := HQ.out.trans (hsp rfl)
        have HQL : Hid (q < l.length) := by show _ < _; rw [HL.out]; exact hlt
        have hgd := HG.out q hlt
        clear hst hsp h1 HQ
        have hcc := HCC.out
        rw [HBE.out, hgd] at hcc
        have HT : Hid (nextT l q = ⟨2, q, q + 1, [], 0⟩) := by
          show _ = _
          unfold nextT
          have hc : mkN s[q] = 2 := by rw [mk_tab]; rw [if_neg (by omega)]; rw [if_pos (by omega)]
          have hm : cMk.contains s[q] = true := (mk_pos s[q]).1 (by omega)
          rw [hgd, if_pos hm]
          have : (1 + Lib.indexByte cMk s[q]).toNat = 2 := by unfold mkN at hc; rw [if_pos hm] at hc; exact hc
          rw [this]
        have hx : ((s[q].toNat : Nat) : Int) = 125 := by omega
        rw [hx] at hbl
        have HBl := Hid.mk hbl
        clear hgd hcc hbl
        go_wp2_with fail
        refine (HBl.out _).mono ?_
        rintro e w1 ⟨rfl, rfl⟩
        go_wp2_with fail
        (try simp only [Exit.inBlock, Exit.then])
        refine bodyPost_ret (v := .agg #[.int .u8 125, .int .i64 (q : Int), .int .i64 ((q : Int) + 1), .string ⟨#[]⟩, .int .i64 0]) (by simp [results, Tryz.results20, go_sem]) rfl ?_
        exact ⟨below1 w _, nx5_in HBE.out HQL.out (by rw [HT.out]; exact .inl ⟨rfl, rfl⟩)⟩
    · obtain rfl : q = s.size := by omega
      have hi1 : ¬ (s.size : Int) < (s.size : Int) := by omega
      have HBE : Hid (behL l p cBl = s.size) := by show _ = _; rw [HQ.out, beh_end (by rw [HL.out]; omega), HL.out]
      clear HQ
      exact absurd HLT.out (by have h1 := HBE.out; have h2 := HL.out; omega)

set_option maxRecDepth 100000 in
set_option maxHeartbeats 3200000 in
theorem w_5Next_m2 (s : ByteArray) (p : Nat) (w : World) (hp : p ≤ s.size) (hs : s.size ≤ 1048576) (hlt0 : behL s.data.toList p cBl < s.data.toList.length) (hcc : (s.data.toList.getD (behL s.data.toList p cBl) 0).toNat = 91) :
    Calls Tryz.prog 20 #[.string s, .int .i64 (p : Int)] w fun e w' => Below w.heap.size w w' ∧ Nx5 s.data.toList p e := by
  obtain ⟨l, hl⟩ : ∃ l, l = s.data.toList := ⟨_, rfl⟩
  have HL : Hid (l.length = s.size) := by show _ = _; rw [hl]; exact size_lst s
  have HG : Hid (∀ q (h : q < s.size), l.getD q 0 = s[q]) := fun q h => by rw [hl]; exact getD_byte h
  have HLT : Hid (behL l p cBl < l.length) := by show _ < _; rw [hl]; exact hlt0
  clear hlt0
  have HCC : Hid ((l.getD (behL l p cBl) 0).toNat = 91) := by show _ = _; rw [hl]; exact hcc
  clear hcc
  rw [← hl]
  clear hl
  go_enter Tryz.func20, Tryz.ntmps20
  go_wp2_with fail
  go_loopw [1] (fun a wr => ∃ q : Nat, q ≤ s.size ∧ a = .int .i64 (q : Int) ∧ Hid (behL l p cBl = behL l q cBl) ∧ wr = w.alloc (.cells #[.int .u8 0, .int .i64 0, .int .i64 0, .string ⟨#[]⟩, .int .i64 0] 50)) (fun a _ => s.size - (intOf a).toNat)
  case atStart => exact ⟨p, hp, rfl, rfl, rfl⟩
  case round =>
    obtain ⟨q, hq, rfl, HQ, rfl⟩ := hrel
    by_cases hlt : q < s.size
    · have hi1 : (q : Int) < (s.size : Int) := by omega
      have hi0 : (0 : Int) ≤ (q : Int) := by omega
      have hi2 : ¬ (s.size : Int) ≤ (q : Int) := by omega
      have hbl := fun u => w_5blank s[q] u
      have hst := beh_step (l := l) (p := q) (cs := cBl) (by rw [HL.out]; exact hlt)
      have hsp := beh_stop (l := l) (p := q) (cs := cBl) (by rw [HL.out]; exact hlt)
      rw [HG.out q hlt] at hst hsp
      cases h1 : cBl.contains s[q] with
      | true =>
        rw [h1] at hbl hst
        have HBl := Hid.mk hbl
        have HST := Hid.mk (hst rfl)
        clear hst hsp hbl h1
        go_wp2_with fail
        refine (HBl.out _).mono ?_
        rintro e w1 ⟨rfl, rfl⟩
        go_wp2_with fail
        go_roundw
        case rel => exact ⟨q + 1, by omega, by go_num, HQ.out.trans HST.out, by first | rfl | trivial⟩
        case measure => simp [intOf]; omega
      | false =>
        rw [h1] at hbl hsp
        have HBE : Hid (behL l p cBl = q) := HQ.out.trans (hsp rfl)
        have HQL : Hid (q < l.length) := by show _ < _; rw [HL.out]; exact hlt
        have hgd := HG.out q hlt
        clear hst hsp h1 HQ
        have hcc := HCC.out
        rw [HBE.out, hgd] at hcc
        have HT : Hid (nextT l q = ⟨3, q, q + 1, [], 0⟩) := by
          show _ = _
          unfold nextT
          have hc : mkN s[q] = 3 := by rw [mk_tab]; rw [if_neg (by omega)]; rw [if_neg (by omega)]; rw [if_pos (by omega)]
          have hm : cMk.contains s[q] = true := (mk_pos s[q]).1 (by omega)
          rw [hgd, if_pos hm]
          have : (1 + Lib.indexByte cMk s[q]).toNat = 3 := by unfold mkN at hc; rw [if_pos hm] at hc; exact hc
          rw [this]
        have hx : ((s[q].toNat : Nat) : Int) = 91 := by omega
        rw [hx] at hbl
        have HBl := Hid.mk hbl
        clear hgd hcc hbl
        go_wp2_with fail
        refine (HBl.out _).mono ?_
        rintro e w1 ⟨rfl, rfl⟩
        go_wp2_with fail
        (try simp only [Exit.inBlock, Exit.then])
        refine bodyPost_ret (v := .agg #[.int .u8 91, .int .i64 (q : Int), .int .i64 ((q : Int) + 1), .string ⟨#[]⟩, .int .i64 0]) (by simp [results, Tryz.results20, go_sem]) rfl ?_
        exact ⟨below1 w _, nx5_in HBE.out HQL.out (by rw [HT.out]; exact .inl ⟨rfl, rfl⟩)⟩
    · obtain rfl : q = s.size := by omega
      have hi1 : ¬ (s.size : Int) < (s.size : Int) := by omega
      have HBE : Hid (behL l p cBl = s.size) := by show _ = _; rw [HQ.out, beh_end (by rw [HL.out]; omega), HL.out]
      clear HQ
      exact absurd HLT.out (by have h1 := HBE.out; have h2 := HL.out; omega)

end Go.Proofs.YtfgfgcecbodjeaaGreatDoor
namespace Go.Proofs.YtfgfgcecbodjeaaGreatDoor
open Go.RowKit
set_option linter.unusedVariables false
set_option linter.unusedSimpArgs false

set_option maxRecDepth 100000 in
set_option maxHeartbeats 3200000 in
theorem w_5Next_m3 (s : ByteArray) (p : Nat) (w : World) (hp : p ≤ s.size) (hs : s.size ≤ 1048576) (hlt0 : behL s.data.toList p cBl < s.data.toList.length) (hcc : (s.data.toList.getD (behL s.data.toList p cBl) 0).toNat = 93) :
    Calls Tryz.prog 20 #[.string s, .int .i64 (p : Int)] w fun e w' => Below w.heap.size w w' ∧ Nx5 s.data.toList p e := by
  obtain ⟨l, hl⟩ : ∃ l, l = s.data.toList := ⟨_, rfl⟩
  have HL : Hid (l.length = s.size) := by show _ = _; rw [hl]; exact size_lst s
  have HG : Hid (∀ q (h : q < s.size), l.getD q 0 = s[q]) := fun q h => by rw [hl]; exact getD_byte h
  have HLT : Hid (behL l p cBl < l.length) := by show _ < _; rw [hl]; exact hlt0
  clear hlt0
  have HCC : Hid ((l.getD (behL l p cBl) 0).toNat = 93) := by show _ = _; rw [hl]; exact hcc
  clear hcc
  rw [← hl]
  clear hl
  go_enter Tryz.func20, Tryz.ntmps20
  go_wp2_with fail
  go_loopw [1] (fun a wr => ∃ q : Nat, q ≤ s.size ∧ a = .int .i64 (q : Int) ∧ Hid (behL l p cBl = behL l q cBl) ∧ wr = w.alloc (.cells #[.int .u8 0, .int .i64 0, .int .i64 0, .string ⟨#[]⟩, .int .i64 0] 50)) (fun a _ => s.size - (intOf a).toNat)
  case atStart => exact ⟨p, hp, rfl, rfl, rfl⟩
  case round =>
    obtain ⟨q, hq, rfl, HQ, rfl⟩ := hrel
    by_cases hlt : q < s.size
    · have hi1 : (q : Int) < (s.size : Int) := by omega
      have hi0 : (0 : Int) ≤ (q : Int) := by omega
      have hi2 : ¬ (s.size : Int) ≤ (q : Int) := by omega
      have hbl := fun u => w_5blank s[q] u
      have hst := beh_step (l := l) (p := q) (cs := cBl) (by rw [HL.out]; exact hlt)
      have hsp := beh_stop (l := l) (p := q) (cs := cBl) (by rw [HL.out]; exact hlt)
      rw [HG.out q hlt] at hst hsp
      cases h1 : cBl.contains s[q] with
      | true =>
        rw [h1] at hbl hst
        have HBl := Hid.mk hbl
        have HST := Hid.mk (hst rfl)
        clear hst hsp hbl h1
        go_wp2_with fail
        refine (HBl.out _).mono ?_
        rintro e w1 ⟨rfl, rfl⟩
        go_wp2_with fail
        go_roundw
        case rel => exact ⟨q + 1, by omega, by go_num, HQ.out.trans HST.out, by first | rfl | trivial⟩
        case measure => simp [intOf]; omega
      | false =>
        rw [h1] at hbl hsp
        have HBE : Hid (behL l p cBl = q) := HQ.out.trans (hsp rfl)
        have HQL : Hid (q < l.length) := by show _ < _; rw [HL.out]; exact hlt
        have hgd := HG.out q hlt
        clear hst hsp h1 HQ
        have hcc := HCC.out
        rw [HBE.out, hgd] at hcc
        have HT : Hid (nextT l q = ⟨4, q, q + 1, [], 0⟩) := by
          show _ = _
          unfold nextT
          have hc : mkN s[q] = 4 := by rw [mk_tab]; rw [if_neg (by omega)]; rw [if_neg (by omega)]; rw [if_neg (by omega)]; rw [if_pos (by omega)]
          have hm : cMk.contains s[q] = true := (mk_pos s[q]).1 (by omega)
          rw [hgd, if_pos hm]
          have : (1 + Lib.indexByte cMk s[q]).toNat = 4 := by unfold mkN at hc; rw [if_pos hm] at hc; exact hc
          rw [this]
        have hx : ((s[q].toNat : Nat) : Int) = 93 := by omega
        rw [hx] at hbl
        have HBl := Hid.mk hbl
        clear hgd hcc hbl
        go_wp2_with fail
        refine (HBl.out _).mono ?_
        rintro e w1 ⟨rfl, rfl⟩
        go_wp2_with fail
        (try simp only [Exit.inBlock, Exit.then])
        refine bodyPost_ret (v := .agg #[.int .u8 93, .int .i64 (q : Int), .int .i64 ((q : Int) + 1), .string ⟨#[]⟩, .int .i64 0]) (by simp [results, Tryz.results20, go_sem]) rfl ?_
        exact ⟨below1 w _, nx5_in HBE.out HQL.out (by rw [HT.out]; exact .inl ⟨rfl, rfl⟩)⟩
    · obtain rfl : q = s.size := by omega
      have hi1 : ¬ (s.size : Int) < (s.size : Int) := by omega
      have HBE : Hid (behL l p cBl = s.size) := by show _ = _; rw [HQ.out, beh_end (by rw [HL.out]; omega), HL.out]
      clear HQ
      exact absurd HLT.out (by have h1 := HBE.out; have h2 := HL.out; omega)

set_option maxRecDepth 100000 in
set_option maxHeartbeats 3200000 in
theorem w_5Next_m4 (s : ByteArray) (p : Nat) (w : World) (hp : p ≤ s.size) (hs : s.size ≤ 1048576) (hlt0 : behL s.data.toList p cBl < s.data.toList.length) (hcc : (s.data.toList.getD (behL s.data.toList p cBl) 0).toNat = 58) :
    Calls Tryz.prog 20 #[.string s, .int .i64 (p : Int)] w fun e w' => Below w.heap.size w w' ∧ Nx5 s.data.toList p e := by
  obtain ⟨l, hl⟩ : ∃ l, l = s.data.toList := ⟨_, rfl⟩
  have HL : Hid (l.length = s.size) := by show _ = _; rw [hl]; exact size_lst s
  have HG : Hid (∀ q (h : q < s.size), l.getD q 0 = s[q]) := fun q h => by rw [hl]; exact getD_byte h
  have HLT : Hid (behL l p cBl < l.length) := by show _ < _; rw [hl]; exact hlt0
  clear hlt0
  have HCC : Hid ((l.getD (behL l p cBl) 0).toNat = 58) := by show _ = _; rw [hl]; exact hcc
  clear hcc
  rw [← hl]
  clear hl
  go_enter Tryz.func20, Tryz.ntmps20
  go_wp2_with fail
  go_loopw [1] (fun a wr => ∃ q : Nat, q ≤ s.size ∧ a = .int .i64 (q : Int) ∧ Hid (behL l p cBl = behL l q cBl) ∧ wr = w.alloc (.cells #[.int .u8 0, .int .i64 0, .int .i64 0, .string ⟨#[]⟩, .int .i64 0] 50)) (fun a _ => s.size - (intOf a).toNat)
  case atStart => exact ⟨p, hp, rfl, rfl, rfl⟩
  case round =>
    obtain ⟨q, hq, rfl, HQ, rfl⟩ := hrel
    by_cases hlt : q < s.size
    · have hi1 : (q : Int) < (s.size : Int) := by omega
      have hi0 : (0 : Int) ≤ (q : Int) := by omega
      have hi2 : ¬ (s.size : Int) ≤ (q : Int) := by omega
      have hbl := fun u => w_5blank s[q] u
      have hst := beh_step (l := l) (p := q) (cs := cBl) (by rw [HL.out]; exact hlt)
      have hsp := beh_stop (l := l) (p := q) (cs := cBl) (by rw [HL.out]; exact hlt)
      rw [HG.out q hlt] at hst hsp
      cases h1 : cBl.contains s[q] with
      | true =>
        rw [h1] at hbl hst
        have HBl := Hid.mk hbl
        have HST := Hid.mk (hst rfl)
        clear hst hsp hbl h1
        go_wp2_with fail
        refine (HBl.out _).mono ?_
        rintro e w1 ⟨rfl, rfl⟩
        go_wp2_with fail
        go_roundw
        case rel => exact ⟨q + 1, by omega, by go_num, HQ.out.trans HST.out, by first | rfl | trivial⟩
        case measure => simp [intOf]; omega
      | false =>
        rw [h1] at hbl hsp
        have HBE : Hid (behL l p cBl = q) := HQ.out.trans (hsp rfl)
        have HQL : Hid (q < l.length) := by show _ < _; rw [HL.out]; exact hlt
        have hgd := HG.out q hlt
        clear hst hsp h1 HQ
        have hcc := HCC.out
        rw [HBE.out, hgd] at hcc
        have HT : Hid (nextT l q = ⟨5, q, q + 1, [], 0⟩) := by
          show _ = _
          unfold nextT
          have hc : mkN s[q] = 5 := by rw [mk_tab]; rw [if_neg (by omega)]; rw [if_neg (by omega)]; rw [if_neg (by omega)]; rw [if_neg (by omega)]; rw [if_pos (by omega)]
          have hm : cMk.contains s[q] = true := (mk_pos s[q]).1 (by omega)
          rw [hgd, if_pos hm]
          have : (1 + Lib.indexByte cMk s[q]).toNat = 5 := by unfold mkN at hc; rw [if_pos hm] at hc; exact hc
          rw [this]
        have hx : ((s[q].toNat : Nat) : Int) = 58 := by omega
        rw [hx] at hbl
        have HBl := Hid.mk hbl
        clear hgd hcc hbl
        go_wp2_with fail
        refine (HBl.out _).mono ?_
        rintro e w1 ⟨rfl, rfl⟩
        go_wp2_with fail
        (try simp only [Exit.inBlock, Exit.then])
        refine bodyPost_ret (v := .agg #[.int .u8 58, .int .i64 (q : Int), .int .i64 ((q : Int) + 1), .string ⟨#[]⟩, .int .i64 0]) (by simp [results, Tryz.results20, go_sem]) rfl ?_
        exact ⟨below1 w _, nx5_in HBE.out HQL.out (by rw [HT.out]; exact .inl ⟨rfl, rfl⟩)⟩
    · obtain rfl : q = s.size := by omega
      have hi1 : ¬ (s.size : Int) < (s.size : Int) := by omega
      have HBE : Hid (behL l p cBl = s.size) := by show _ = _; rw [HQ.out, beh_end (by rw [HL.out]; omega), HL.out]
      clear HQ
      exact absurd HLT.out (by have h1 := HBE.out; have h2 := HL.out; omega)

set_option maxRecDepth 100000 in
set_option maxHeartbeats 3200000 in
theorem w_5Next_m5 (s : ByteArray) (p : Nat) (w : World) (hp : p ≤ s.size) (hs : s.size ≤ 1048576) (hlt0 : behL s.data.toList p cBl < s.data.toList.length) (hcc : (s.data.toList.getD (behL s.data.toList p cBl) 0).toNat = 44) :
    Calls Tryz.prog 20 #[.string s, .int .i64 (p : Int)] w fun e w' => Below w.heap.size w w' ∧ Nx5 s.data.toList p e := by
  obtain ⟨l, hl⟩ : ∃ l, l = s.data.toList := ⟨_, rfl⟩
  have HL : Hid (l.length = s.size) := by show _ = _; rw [hl]; exact size_lst s
  have HG : Hid (∀ q (h : q < s.size), l.getD q 0 = s[q]) := fun q h => by rw [hl]; exact getD_byte h
  have HLT : Hid (behL l p cBl < l.length) := by show _ < _; rw [hl]; exact hlt0
  clear hlt0
  have HCC : Hid ((l.getD (behL l p cBl) 0).toNat = 44) := by show _ = _; rw [hl]; exact hcc
  clear hcc
  rw [← hl]
  clear hl
  go_enter Tryz.func20, Tryz.ntmps20
  go_wp2_with fail
  go_loopw [1] (fun a wr => ∃ q : Nat, q ≤ s.size ∧ a = .int .i64 (q : Int) ∧ Hid (behL l p cBl = behL l q cBl) ∧ wr = w.alloc (.cells #[.int .u8 0, .int .i64 0, .int .i64 0, .string ⟨#[]⟩, .int .i64 0] 50)) (fun a _ => s.size - (intOf a).toNat)
  case atStart => exact ⟨p, hp, rfl, rfl, rfl⟩
  case round =>
    obtain ⟨q, hq, rfl, HQ, rfl⟩ := hrel
    by_cases hlt : q < s.size
    · have hi1 : (q : Int) < (s.size : Int) := by omega
      have hi0 : (0 : Int) ≤ (q : Int) := by omega
      have hi2 : ¬ (s.size : Int) ≤ (q : Int) := by omega
      have hbl := fun u => w_5blank s[q] u
      have hst := beh_step (l := l) (p := q) (cs := cBl) (by rw [HL.out]; exact hlt)
      have hsp := beh_stop (l := l) (p := q) (cs := cBl) (by rw [HL.out]; exact hlt)
      rw [HG.out q hlt] at hst hsp
      cases h1 : cBl.contains s[q] with
      | true =>
        rw [h1] at hbl hst
        have HBl := Hid.mk hbl
        have HST := Hid.mk (hst rfl)
        clear hst hsp hbl h1
        go_wp2_with fail
        refine (HBl.out _).mono ?_
        rintro e w1 ⟨rfl, rfl⟩
        go_wp2_with fail
        go_roundw
        case rel => exact ⟨q + 1, by omega, by go_num, HQ.out.trans HST.out, by first | rfl | trivial⟩
        case measure => simp [intOf]; omega
      | false =>
        rw [h1] at hbl hsp
        have HBE : Hid (behL l p cBl = q) := HQ.out.trans (hsp rfl)
        have HQL : Hid (q < l.length) := by show _ < _; rw [HL.out]; exact hlt
        have hgd := HG.out q hlt
        clear hst hsp h1 HQ
        have hcc := HCC.out
        rw [HBE.out, hgd] at hcc
        have HT : Hid (nextT l q = ⟨6, q, q + 1, [], 0⟩) := by
          show _ = _
          unfold nextT
          have hc : mkN s[q] = 6 := by rw [mk_tab]; rw [if_neg (by omega)]; rw [if_neg (by omega)]; rw [if_neg (by omega)]; rw [if_neg (by omega)]; rw [if_neg (by omega)]; rw [if_pos (by omega)]
          have hm : cMk.contains s[q] = true := (mk_pos s[q]).1 (by omega)
          rw [hgd, if_pos hm]
          have : (1 + Lib.indexByte cMk s[q]).toNat = 6 := by unfold mkN at hc; rw [if_pos hm] at hc; exact hc
          rw [this]
        have hx : ((s[q].toNat : Nat) : Int) = 44 := by omega
        rw [hx] at hbl
        have HBl := Hid.mk hbl
        clear hgd hcc hbl
        go_wp2_with fail
        refine (HBl.out _).mono ?_
        rintro e w1 ⟨rfl, rfl⟩
        go_wp2_with fail
        (try simp only [Exit.inBlock, Exit.then])
        refine bodyPost_ret (v := .agg #[.int .u8 44, .int .i64 (q : Int), .int .i64 ((q : Int) + 1), .string ⟨#[]⟩, .int .i64 0]) (by simp [results, Tryz.results20, go_sem]) rfl ?_
        exact ⟨below1 w _, nx5_in HBE.out HQL.out (by rw [HT.out]; exact .inl ⟨rfl, rfl⟩)⟩
    · obtain rfl : q = s.size := by omega
      have hi1 : ¬ (s.size : Int) < (s.size : Int) := by omega
      have HBE : Hid (behL l p cBl = s.size) := by show _ = _; rw [HQ.out, beh_end (by rw [HL.out]; omega), HL.out]
      clear HQ
      exact absurd HLT.out (by have h1 := HBE.out; have h2 := HL.out; omega)

set_option maxRecDepth 100000 in
set_option maxHeartbeats 3200000 in
theorem w_5Next_end (s : ByteArray) (p : Nat) (w : World) (hp : p ≤ s.size) (hs : s.size ≤ 1048576) (hlt0 : ¬ behL s.data.toList p cBl < s.data.toList.length) :
    Calls Tryz.prog 20 #[.string s, .int .i64 (p : Int)] w fun e w' => Below w.heap.size w w' ∧ Nx5 s.data.toList p e := by
  obtain ⟨l, hl⟩ : ∃ l, l = s.data.toList := ⟨_, rfl⟩
  have HL : Hid (l.length = s.size) := by show _ = _; rw [hl]; exact size_lst s
  have HG : Hid (∀ q (h : q < s.size), l.getD q 0 = s[q]) := fun q h => by rw [hl]; exact getD_byte h
  have HLT : Hid (¬ behL l p cBl < l.length) := by show ¬ _ < _; rw [hl]; exact hlt0
  clear hlt0
  rw [← hl]
  clear hl
  go_enter Tryz.func20, Tryz.ntmps20
  go_wp2_with fail
  go_loopw [1] (fun a wr => ∃ q : Nat, q ≤ s.size ∧ a = .int .i64 (q : Int) ∧ Hid (behL l p cBl = behL l q cBl) ∧ wr = w.alloc (.cells #[.int .u8 0, .int .i64 0, .int .i64 0, .string ⟨#[]⟩, .int .i64 0] 50)) (fun a _ => s.size - (intOf a).toNat)
  case atStart => exact ⟨p, hp, rfl, rfl, rfl⟩
  case round =>
    obtain ⟨q, hq, rfl, HQ, rfl⟩ := hrel
    by_cases hlt : q < s.size
    · have hi1 : (q : Int) < (s.size : Int) := by omega
      have hi0 : (0 : Int) ≤ (q : Int) := by omega
      have hi2 : ¬ (s.size : Int) ≤ (q : Int) := by omega
      have hbl := fun u => w_5blank s[q] u
      have hst := beh_step (l := l) (p := q) (cs := cBl) (by rw [HL.out]; exact hlt)
      have hsp := beh_stop (l := l) (p := q) (cs := cBl) (by rw [HL.out]; exact hlt)
      rw [HG.out q hlt] at hst hsp
      cases h1 : cBl.contains s[q] with
      | true =>
        rw [h1] at hbl hst
        have HBl := Hid.mk hbl
        have HST := Hid.mk (hst rfl)
        clear hst hsp hbl h1
        go_wp2_with fail
        refine (HBl.out _).mono ?_
        rintro e w1 ⟨rfl, rfl⟩
        go_wp2_with fail
        go_roundw
        case rel => exact ⟨q + 1, by omega, by go_num, HQ.out.trans HST.out, by first | rfl | trivial⟩
        case measure => simp [intOf]; omega
      | false =>
        rw [h1] at hbl hsp
        have HBE : Hid (behL l p cBl = q) := HQ.out.trans (hsp rfl)
        have HQL : Hid (q < l.length) := by show _ < _; rw [HL.out]; exact hlt
        have hgd := HG.out q hlt
        clear hst hsp h1 HQ
        exact absurd HQL.out (by rw [← HBE.out]; exact HLT.out)
    · obtain rfl : q = s.size := by omega
      have hi1 : ¬ (s.size : Int) < (s.size : Int) := by omega
      have HBE : Hid (behL l p cBl = s.size) := by show _ = _; rw [HQ.out, beh_end (by rw [HL.out]; omega), HL.out]
      clear HQ
      go_wp2_with fail
      (try simp only [Exit.inBlock, Exit.then])
      refine bodyPost_ret (v := .agg #[.int .u8 36, .int .i64 (s.size : Int), .int .i64 (s.size : Int), .string ⟨#[]⟩, .int .i64 0]) (by simp [results, Tryz.results20, go_sem]) rfl ?_
      exact ⟨below1 w _, .inl ⟨by rw [HBE.out, HL.out]; omega, by rw [HL.out]; rfl⟩⟩

end Go.Proofs.YtfgfgcecbodjeaaGreatDoor
