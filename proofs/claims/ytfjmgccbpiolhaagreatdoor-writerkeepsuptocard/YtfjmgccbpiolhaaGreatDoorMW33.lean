import Derived.Test.YtfjmgccbpiolhaaGreatDoorMW26
import Derived.Test.YtfjmgccbpiolhaaGreatDoorMW31
import Derived.Test.YtfjmgccbpiolhaaGreatDoorMW32
import Derived.Laws.EntriesVeiled
namespace Go.Proofs.YtfjmgccbpiolhaaGreatDoor
open Go.RowKit Go.Shelf Go.Sort
set_option linter.unusedVariables false
set_option linter.unusedSimpArgs false
attribute [local go_sem] Oper.semAt_some

def wo4 : VT := .mk 4 ⟨#[]⟩ ⟨#[119, 114, 105, 116, 116, 101, 110, 32, 111, 118, 101, 114]⟩ [] []
theorem wo_form : formN 1 wo4 = true := by
  show (okB [119, 114, 105, 116, 116, 101, 110, 32, 111, 118, 101, 114] && bareB ⟨#[]⟩ .empty 0 0) = true
  unfold bareB; rw [emW, emW2]; decide +kernel
theorem wo_text : wrV none 1 0 wo4 = [34, 119, 114, 105, 116, 116, 101, 110, 32, 111, 118, 101, 114, 34] := by decide +kernel
theorem wo_lines : (⟨(if [wo4].all (formN 1) = true then lnsW 1 [wo4] 1 else []).toArray⟩ : ByteArray) = ⟨#[34, 119, 114, 105, 116, 116, 101, 110, 32, 111, 118, 101, 114, 34, 10]⟩ := by
  have e : [wo4].all (formN 1) = true := by simp [wo_form]
  rw [if_pos e]
  have e2 : lnsW 1 [wo4] 1 = wrV none 1 0 wo4 ++ [10] := by
    unfold lnsW
    simp [joinR, lnsG]
  rw [e2, wo_text]
  rfl
theorem wo_sh : ShV 1 wo4 := ⟨by decide, by decide, (fun k hk => by cases hk), fun t ht => by cases ht⟩
theorem setG5 (w : World) (g : Nat) (t : TypeId) (cur : Array Value) (a0 a1 a2 a3 a4 : Value) (h : w.heap[g]? = some (.cells cur t (0, 0))) (hs : 4 < cur.size) (wz : World) (hz : wz = ((((w.setCell ⟨g, 0, none⟩ a0).setCell ⟨g, 1, none⟩ a1).setCell ⟨g, 2, none⟩ a2).setCell ⟨g, 3, none⟩ a3).setCell ⟨g, 4, none⟩ a4) :
    (wz.cell? ⟨g, 0, none⟩ = some a0 ∧ wz.cell? ⟨g, 1, none⟩ = some a1 ∧ wz.cell? ⟨g, 2, none⟩ = some a2 ∧ wz.cell? ⟨g, 3, none⟩ = some a3 ∧ wz.cell? ⟨g, 4, none⟩ = some a4) ∧ wz.heap.size = w.heap.size ∧ ∀ n, n ≤ g → Below n w wz := by
  subst hz
  have e : ∀ (u : World) (c : Array Value) (i : Nat) (v : Value), u.heap[g]? = some (.cells c t (0, 0)) → (u.setCell ⟨g, i, none⟩ v).heap[g]? = some (.cells (c.setIfInBounds i v) t (0, 0)) := fun u c i v hu => by
    show (u.heap.modify g _)[g]? = _
    rw [Array.getElem?_modify, if_pos rfl, hu]; rfl
  have h5 := e _ _ 4 a4 (e _ _ 3 a3 (e _ _ 2 a2 (e _ _ 1 a1 (e _ _ 0 a0 h))))
  refine ⟨⟨?_, ?_, ?_, ?_, ?_⟩, by simp, fun n hn => (((((Below.refl n w).setCell (p := ⟨g, 0, none⟩) hn _).setCell (p := ⟨g, 1, none⟩) hn _).setCell (p := ⟨g, 2, none⟩) hn _).setCell (p := ⟨g, 3, none⟩) hn _).setCell (p := ⟨g, 4, none⟩) hn _⟩
  all_goals
    rw [cell_of_row _ _ _ _ _ _ h5]
    simp [Array.getElem?_setIfInBounds]
    first | omega | (intro hc; subst hc; simp at hs)
theorem wo_in (W : World) : InH W 1 wo4 (.agg #[.int .i64 4, .string ⟨#[]⟩, .string ⟨#[119, 114, 105, 116, 116, 101, 110, 32, 111, 118, 101, 114]⟩, .slice none 0 0, .slice none 0 0]) :=
  ⟨none, 0, none, 0, rfl, by decide, by decide, Nat.zero_le _, Nat.zero_le _, Nat.le_refl _, Nat.le_refl _, (fun k hk => by cases hk), ⟨fun h => absurd h (by show ¬ 0 < 0; omega)⟩, fun h => absurd h (by show ¬ 0 < 0; omega)⟩
theorem w_LinesWo (g cap : Nat) (w : World) (hg : g < w.heap.size) (hc : (w.cell? ⟨g, 0, none⟩ = some (.int .i64 4) ∧ w.cell? ⟨g, 1, none⟩ = some (.string ⟨#[]⟩) ∧ w.cell? ⟨g, 2, none⟩ = some (.string ⟨#[119, 114, 105, 116, 116, 101, 110, 32, 111, 118, 101, 114]⟩) ∧ w.cell? ⟨g, 3, none⟩ = some (.slice none 0 0) ∧ w.cell? ⟨g, 4, none⟩ = some (.slice none 0 0))) (hcap : 1 ≤ cap) (hwd : WordsAt w) :
    Calls Tryz.prog 10 #[.slice (some ⟨g, 0, none⟩) 1 cap] w fun e w' => (∃ er : Int, e = .returned (.tuple #[.string ⟨#[34, 119, 114, 105, 116, 116, 101, 110, 32, 111, 118, 101, 114, 34, 10]⟩, .int .i64 er])) ∧ Below w.heap.size w w' := by
  have hi : IIn w 1 (some ⟨g, 0, none⟩) [wo4] := ⟨fun _ => ⟨g, 0, rfl, hg, fun i hi => by
    have hi0 : i = 0 := by have : i < 1 := hi; omega
    subst hi0
    exact ⟨_, _, _, _, _, hc, wo_in w⟩⟩⟩
  refine (w_Lines 1 (some ⟨g, 0, none⟩) 1 cap [wo4] w rfl hi hcap (by decide) (fun t ht => by rcases List.mem_singleton.1 ht with rfl; exact wo_sh) (by decide) hwd).mono ?_
  rintro e w' ⟨he, hb⟩
  rw [wo_lines] at he
  exact ⟨⟨_, he⟩, hb⟩
theorem ln_new (w : World) : LnAt w.heap.size (w.alloc (.cells #[.slice none 0 0, .slice none 0 0, .slice none 0 0, .slice none 0 0, .slice none 0 0, .slice none 0 0, .slice none 0 0, .slice none 0 0, .slice none 0 0, .slice none 0 0, .slice none 0 0, .slice none 0 0, .slice none 0 0, .slice none 0 0, .slice none 0 0, .slice none 0 0] 42)) (fun _ => .slice none 0 0) (fun _ => 0) (fun _ => []) :=
  ⟨heap_alloc_new w _, fun j => World.ownsRow_nil _ _ _ _, (fun j hj x hx => by cases hx), fun _ _ _ => rfl⟩
theorem LvsR.iin {B h : Nat} {ts : List VT} {c c' : Nat → Value} {n n' : Nat → Nat} {xs xs' : Nat → List Value} {w w' : World} {g cap : Nat} (R : LvsR B h ts c c' n n' xs xs' w w' g cap) : IIn w' h (some ⟨g, 0, none⟩) ts := by
  refine ⟨fun h0 => ⟨g, 0, rfl, ?_, fun i hi => ?_⟩⟩
  · obtain ⟨cur, hc⟩ := R.blk
    exact (Array.getElem?_eq_some_iff.1 hc).1
  · obtain ⟨v0, v1, v2, v3, v4, hc, ht⟩ := R.row i hi
    refine ⟨v0, v1, v2, v3, v4, ?_, ht.toH⟩
    rw [Nat.zero_add]
    exact hc

set_option maxRecDepth 100000 in
set_option maxHeartbeats 6400000 in
theorem w_WriterKeeps (h : Nat) (io : Option Addr) (N icap : Nat) (ts : List VT) (stp : Int) (w : World) (hts : ts.length = N) (hI : IIn w h io ts) (hN : N ≤ icap) (hN2 : N ≤ 140737488355328) (hsh : ∀ t ∈ ts, ShV h t) (hwd : WordsAt w) :
    Calls Tryz.prog 3 #[.slice io N icap, .int .i64 stp] w fun e w' => e = .returned (.bool true) ∧ Below w.heap.size w w' := by
  have HLv := Hid.mk (w_lives6 w hwd)
  have HFt : Hid (∀ u, Below w.heap.size w u → Calls Tryz.prog 6 #[.slice io N icap] u fun e w' => e = .returned (.bool (decide (sumL (ts.map (szN h)) ≤ 20000))) ∧ Hid (Below w.heap.size w w')) := fun u hu => (w_Fit h io N icap ts u hts (hI.keep hu) hN hN2).mono fun e w' ⟨he, hb⟩ => ⟨he, hu.trans (hb.mono hu.size)⟩
  cases hd : decide (sumL (ts.map (szN h)) ≤ 20000) with
  | false =>
    rw [hd] at HFt
    clear hd hI hsh hwd hts
    go_enter Tryz.func3, Tryz.ntmps3
    go_wp2_with fail
    refine HLv.out.mono ?_
    rintro e w1 ⟨rfl, hb⟩
    have HB := Hid.mk hb
    clear hb
    go_wp2_with fail
    refine (HFt.out _ HB.out).mono ?_
    rintro e w2 ⟨rfl, HB2⟩
    go_wp2_with fail
    go_ret
    exact ⟨rfl, HB2.out⟩
  | true =>
    have hsz : sumL (ts.map (szN h)) ≤ 20000 := of_decide_eq_true hd
    rw [hd] at HFt
    by_cases hN0 : N = 0
    · subst hN0
      have hn1 : ((0 : Int) == 0) = true := rfl
      clear hd hI hsh hwd hts hsz
      go_enter Tryz.func3, Tryz.ntmps3
      go_wp2_with fail
      refine HLv.out.mono ?_
      rintro e w1 ⟨rfl, hb⟩
      have HB := Hid.mk hb
      clear hb
      go_wp2_with fail
      refine (HFt.out _ HB.out).mono ?_
      rintro e w2 ⟨rfl, HB2⟩
      go_wp2_with fail
      go_ret
      exact ⟨rfl, HB2.out⟩
    · have hlen := iin_lenL hI
      have hNs : N ≤ 20000 := by omega
      have h0 : 0 < ts.length := by omega
      have hn1 : ((N : Int) == 0) = false := by rw [beq_eq_false_iff_ne]; omega
      have hn2 : (0 : Int) < (N : Int) := by omega
      -- the first of the list, as it was handed in
      obtain ⟨b, off, hio, hbl, hrow⟩ := hI.row h0
      subst hio
      obtain ⟨s0, s1, s2, s3, s4, ⟨a0, a1, a2, a3, a4⟩, hT⟩ := hrow 0 h0
      obtain ⟨xo, xc, xk, xkc, rfl, rfl, rfl, rfl, rfl⟩ := inH_cellsL hT
      have hm0 : ts[0] ∈ ts := List.getElem_mem h0
      have hsT : ShV h ts[0] := hsh _ hm0
      have hzT : szN h ts[0] ≤ 20000 := Nat.le_trans (sumL_mem (List.mem_map.2 ⟨_, hm0, rfl⟩)) hsz
      obtain ⟨A1, hA1⟩ : ∃ A : ByteArray, A = ⟨(if formN h ts[0] = true then wrV none h 0 ts[0] else []).toArray⟩ := ⟨_, rfl⟩
      obtain ⟨e1, he1⟩ : ∃ er : Int, er = (if formN h ts[0] = true then 0 else 1) := ⟨_, rfl⟩
      have hAn : (if formN h ts[0] = true then ((wrV none h 0 ts[0]).length : Int) else 0) = (A1.size : Int) := by
        rw [hA1]
        by_cases hf : formN h ts[0] = true
        · rw [if_pos hf, if_pos hf]; simp [ByteArray.size]
        · rw [if_neg hf, if_neg hf]; rfl
      obtain ⟨A2, e2, hL1, hL2⟩ := laid_both h ts[0] stp hsT hzT
      obtain ⟨A3, hA3⟩ : ∃ A : ByteArray, A = ⟨(if ts.all (formN h) = true then lnsW h ts N else []).toArray⟩ := ⟨_, rfl⟩
      obtain ⟨e3, he3⟩ : ∃ er : Int, er = (if ts.all (formN h) = true then 0 else 1) := ⟨_, rfl⟩
      have HTx : Hid (∀ (u : World) (k : Int) (n t : ByteArray) (io : Option Addr) (N ic : Nat) (ko : Option Addr) (K kc : Nat), InH u h ts[0] (.agg #[.int .i64 k, .string n, .string t, .slice io N ic, .slice ko K kc]) → WordsAt u → Calls Tryz.prog 8 #[.agg #[.int .i64 k, .string n, .string t, .slice io N ic, .slice ko K kc]] u fun e w' => e = .returned (.tuple #[.string A1, .int .i64 e1]) ∧ Below u.heap.size u w') := fun u k n t io N ic ko K kc hv hw => (w_Text h ts[0] u k n t io N ic ko K kc hv hsT hzT hw).mono fun e w' ⟨he, hb⟩ => ⟨by rw [he, hA1, he1], hb⟩
      have HSi : Hid (∀ (u : World) (k : Int) (n t : ByteArray) (io : Option Addr) (N ic : Nat) (ko : Option Addr) (K kc : Nat), InH u h ts[0] (.agg #[.int .i64 k, .string n, .string t, .slice io N ic, .slice ko K kc]) → WordsAt u → Calls Tryz.prog 11 #[.agg #[.int .i64 k, .string n, .string t, .slice io N ic, .slice ko K kc]] u fun e w' => e = .returned (.tuple #[.int .i64 (A1.size : Int), .int .i64 e1]) ∧ Below u.heap.size u w') := fun u k n t io N ic ko K kc hv hw => (w_Size h ts[0] u k n t io N ic ko K kc hv hsT hzT hw).mono fun e w' ⟨he, hb⟩ => ⟨by rw [he, hAn, he1], hb⟩
      have HLd := Hid.mk hL1
      have HrL := Hid.mk hL2
      have HLn : Hid (∀ (u : World) (io : Option Addr) (ic : Nat), IIn u h io ts → N ≤ ic → WordsAt u → Calls Tryz.prog 10 #[.slice io N ic] u fun e w' => e = .returned (.tuple #[.string A3, .int .i64 e3]) ∧ Below u.heap.size u w') := fun u io ic hi hc hw => (w_Lines h io N ic ts u hts hi hc hN2 hsh hsz hw).mono fun e w' ⟨he, hb⟩ => ⟨by rw [he, hA3, he3], hb⟩
      have HrN : Hid (∀ (u : World) (io : Option Addr) (ic : Nat), IIn u h io ts → N ≤ ic → Calls Tryz.prog 16 #[.slice io N ic] u fun e w' => e = .returned (.tuple #[.string A3, .int .i64 e3]) ∧ Below u.heap.size u w') := fun u io ic hi hc => (w_rLines h io N ic ts u hts hi hc hN2 hsh hsz).mono fun e w' ⟨he, hb⟩ => ⟨by rw [he, hA3, he3], hb⟩
      have HrT : Hid (∀ (u : World) (k : Int) (n t : ByteArray) (io : Option Addr) (N ic : Nat) (ko : Option Addr) (K kc : Nat), InH u h ts[0] (.agg #[.int .i64 k, .string n, .string t, .slice io N ic, .slice ko K kc]) → Calls Tryz.prog 14 #[.agg #[.int .i64 k, .string n, .string t, .slice io N ic, .slice ko K kc]] u fun e w' => e = .returned (.tuple #[.string A1, .int .i64 e1]) ∧ Below u.heap.size u w') := fun u k n t io N ic ko K kc hv => (w_rText h ts[0] u k n t io N ic ko K kc hv hsT hzT).mono fun e w' ⟨he, hb⟩ => ⟨by rw [he, hA1, he1], hb⟩
      have HLo : Hid (∀ (u : World), Below w.heap.size w u → Calls Tryz.prog 7 #[.pointer (some ⟨u.heap.size, 0, none⟩), .slice (some ⟨b, off, none⟩) N icap] (u.alloc (.cells #[.slice none 0 0, .slice none 0 0, .slice none 0 0, .slice none 0 0, .slice none 0 0, .slice none 0 0, .slice none 0 0, .slice none 0 0, .slice none 0 0, .slice none 0 0, .slice none 0 0, .slice none 0 0, .slice none 0 0, .slice none 0 0, .slice none 0 0, .slice none 0 0] 42)) fun e w' => ∃ g cap, e = .returned (.slice (some ⟨g, 0, none⟩) N cap) ∧ ∃ c' n' xs', Hid (Below w.heap.size w w' ∧ w.heap.size ≤ g ∧ LnAt u.heap.size w' c' n' xs' ∧ n' 0 ≤ 4398046511104 ∧ n' 4 ≤ 4398046511104 ∧ IIn w' h (some ⟨g, 0, none⟩) ts ∧ N ≤ cap ∧ ∃ cur, w'.heap[g]? = some (.cells cur 49 (0, 0)))) := fun u hu => by
        have hb0 : Below w.heap.size w (u.alloc (.cells #[.slice none 0 0, .slice none 0 0, .slice none 0 0, .slice none 0 0, .slice none 0 0, .slice none 0 0, .slice none 0 0, .slice none 0 0, .slice none 0 0, .slice none 0 0, .slice none 0 0, .slice none 0 0, .slice none 0 0, .slice none 0 0, .slice none 0 0, .slice none 0 0] 42)) := hu.trans ((below1 u _).mono hu.size)
        refine (w_lValues h (w_lValue h) u.heap.size (some ⟨b, off, none⟩) N icap ts w _ _ _ _ hI hts hN (by omega) hb0 hu.size (ln_new u) (by omega) (by omega) (by omega)).mono ?_
        rintro e w' ⟨g, cap, c', n', xs', rfl, HR⟩
        have R := HR.out
        obtain ⟨m0, m4⟩ := R.num
        have hnw := R.new
        rw [World.size_alloc] at hnw
        have hfit := R.fit
        rw [hts] at hfit
        exact ⟨g, cap, rfl, c', n', xs', ⟨hb0.trans ((R.kp.below (ln_new u)).mono hu.size), by have := hu.size; omega, R.loan, by omega, by omega, R.iin, hfit, R.blk⟩⟩
      have HSm : Hid (∀ (u : World) (io : Option Addr) (ic : Nat), IIn u h io ts → N ≤ ic → IIn u h (some ⟨b, off, none⟩) ts → Calls Tryz.prog 12 #[.slice io N ic, .slice (some ⟨b, off, none⟩) N icap] u fun e w' => e = .returned (.bool true) ∧ Below u.heap.size u w') := fun u io ic hi hc hi2 => by
        have h1 := w_SameValues h io N ic ts (some ⟨b, off, none⟩) N icap ts u hi hi2 hts hts hc hN hN2 hN2
        rw [sm_yes] at h1
        exact h1
      have HI := Hid.mk hI
      have HT0 := Hid.mk hT
      have HA := Hid.mk (And.intro a0 (And.intro a1 (And.intro a2 (And.intro a3 a4))))
      have HWD := Hid.mk hwd
      have HTS := Hid.mk (And.intro hts h0)
      have HBL := Hid.mk hbl
      clear hd hI hsh hwd hts hsz hrow hT a0 a1 a2 a3 a4 hA1 he1 hAn hA3 he3 hL1 hL2 hlen hm0 hsT hzT hbl hN2
      generalize hT0e : ts[0] = T at *
      have HTe := Hid.mk hT0e
      clear hT0e
      go_enter Tryz.func3, Tryz.ntmps3
      go_wp2_with fail
      refine HLv.out.mono ?_
      rintro e w1 ⟨rfl, hb⟩
      have HB := Hid.mk hb
      clear hb
      go_wp2_with fail
      refine (HFt.out _ HB.out).mono ?_
      rintro e w2 ⟨rfl, HB2⟩
      go_wp2_with fail
      refine (HLo.out _ HB2.out).mono ?_
      rintro e w4 ⟨g, cap, rfl, c', n', xs', HG⟩
      obtain ⟨hb4, hwg, hln, hk0, hk4, hin, hfit, cur, hcur⟩ := HG.out
      have hgl : g < w4.heap.size := (Array.getElem?_eq_some_iff.1 hcur).1
      obtain ⟨q, qo, hq, hql, hrow⟩ := hin.row HTS.out.2
      simp only [Option.some.injEq, Addr.mk.injEq, and_true] at hq
      obtain ⟨rfl, rfl⟩ := hq
      obtain ⟨s0, s1, s2, s3, s4, ⟨p0, p1, p2, p3, p4⟩, hV⟩ := hrow 0 HTS.out.2
      rw [HTe.out] at hV
      obtain ⟨vo, vc, vk, vkc, rfl, rfl, rfl, rfl, rfl⟩ := inH_cellsL hV
      have HP : Hid (w4.cell? ⟨g, 0, none⟩ = some (.int .i64 T.kind) ∧ w4.cell? ⟨g, 1, none⟩ = some (.string T.num) ∧ w4.cell? ⟨g, 2, none⟩ = some (.string T.text) ∧ w4.cell? ⟨g, 3, none⟩ = some (.slice vo T.items.length vc) ∧ w4.cell? ⟨g, 4, none⟩ = some (.slice vk T.keys.length vkc)) := by
        have e0 : 0 + 0 * 5 = 0 := rfl
        rw [e0] at p0 p1 p2 p3 p4
        exact ⟨p0, p1, p2, p3, p4⟩
      have HV := Hid.mk hV
      have HBw := Hid.mk hb4
      have HBx4 : Hid (Below w4.heap.size w4 w4) := Below.refl _ _
      have hfit2 : (1 : Int) ≤ (cap : Int) := by omega
      have hfit3 : (0 : Int) < (N : Int) := by omega
      clear hb4 hln hin hcur hrow p0 p1 p2 p3 p4 hV hql HLo
      have p0 := (HBx4.out.cell (p := ⟨g, 0, none⟩) hgl).trans HP.out.1
      have p1 := (HBx4.out.cell (p := ⟨g, 1, none⟩) hgl).trans HP.out.2.1
      have p2 := (HBx4.out.cell (p := ⟨g, 2, none⟩) hgl).trans HP.out.2.2.1
      have p3 := (HBx4.out.cell (p := ⟨g, 3, none⟩) hgl).trans HP.out.2.2.2.1
      have p4 := (HBx4.out.cell (p := ⟨g, 4, none⟩) hgl).trans HP.out.2.2.2.2
      have HCC := Hid.mk (HTx.out w4 _ _ _ _ _ _ _ _ _ (HV.out.keep HBx4.out) ((HWD.out.keep HBw.out).keep HBx4.out))
      go_wp2_with fail
      refine HCC.out.mono ?_
      rintro e w5 ⟨rfl, hb⟩
      have HBx5 : Hid (Below w4.heap.size w4 w5) := HBx4.out.trans (hb.mono HBx4.out.size)
      clear hb HCC p0 p1 p2 p3 p4
      have p0 := (HBx5.out.cell (p := ⟨g, 0, none⟩) hgl).trans HP.out.1
      have p1 := (HBx5.out.cell (p := ⟨g, 1, none⟩) hgl).trans HP.out.2.1
      have p2 := (HBx5.out.cell (p := ⟨g, 2, none⟩) hgl).trans HP.out.2.2.1
      have p3 := (HBx5.out.cell (p := ⟨g, 3, none⟩) hgl).trans HP.out.2.2.2.1
      have p4 := (HBx5.out.cell (p := ⟨g, 4, none⟩) hgl).trans HP.out.2.2.2.2
      have HCC := Hid.mk (HLd.out w5 _ _ _ _ _ _ _ _ _ (HV.out.keep HBx5.out) ((HWD.out.keep HBw.out).keep HBx5.out))
      go_wp2_with fail
      refine HCC.out.mono ?_
      rintro e w6 ⟨rfl, hb⟩
      have HBx6 : Hid (Below w4.heap.size w4 w6) := HBx5.out.trans (hb.mono HBx5.out.size)
      clear hb HCC p0 p1 p2 p3 p4
      have HCC := Hid.mk (HLn.out w6 _ cap (HG.out.2.2.2.2.2.1.keep HBx6.out) hfit ((HWD.out.keep HBw.out).keep HBx6.out))
      go_wp2_with fail
      refine HCC.out.mono ?_
      rintro e w7 ⟨rfl, hb⟩
      have HBx7 : Hid (Below w4.heap.size w4 w7) := HBx6.out.trans (hb.mono HBx6.out.size)
      clear hb HCC
      have p0 := (HBx7.out.cell (p := ⟨g, 0, none⟩) hgl).trans HP.out.1
      have p1 := (HBx7.out.cell (p := ⟨g, 1, none⟩) hgl).trans HP.out.2.1
      have p2 := (HBx7.out.cell (p := ⟨g, 2, none⟩) hgl).trans HP.out.2.2.1
      have p3 := (HBx7.out.cell (p := ⟨g, 3, none⟩) hgl).trans HP.out.2.2.2.1
      have p4 := (HBx7.out.cell (p := ⟨g, 4, none⟩) hgl).trans HP.out.2.2.2.2
      have HCC := Hid.mk (HSi.out w7 _ _ _ _ _ _ _ _ _ (HV.out.keep HBx7.out) ((HWD.out.keep HBw.out).keep HBx7.out))
      go_wp2_with fail
      refine HCC.out.mono ?_
      rintro e w8 ⟨rfl, hb⟩
      have HBx8 : Hid (Below w4.heap.size w4 w8) := HBx7.out.trans (hb.mono HBx7.out.size)
      clear hb HCC p0 p1 p2 p3 p4
      have HCC := Hid.mk (HSm.out w8 _ cap (HG.out.2.2.2.2.2.1.keep HBx8.out) hfit (HI.out.keep (HBw.out.trans (HBx8.out.mono HBw.out.size))))
      go_wp2_with fail
      refine HCC.out.mono ?_
      rintro e w9 ⟨rfl, hb⟩
      have HBx9 : Hid (Below w4.heap.size w4 w9) := HBx8.out.trans (hb.mono HBx8.out.size)
      clear hb HCC
      have HCC := Hid.mk (w_Kept w2.heap.size w9 c' n' xs' (HG.out.2.2.1.keep HBx9.out) hk0 hk4)
      go_wp2_with fail
      refine HCC.out.mono ?_
      rintro e w10 ⟨rfl, hb⟩
      have HBx10 : Hid (Below w4.heap.size w4 w10) := HBx9.out.trans (hb.mono HBx9.out.size)
      clear hb HCC
      have q0 := ((HBw.out.trans (HBx10.out.mono HBw.out.size)).cell (p := ⟨b, off, none⟩) HBL.out).trans HA.out.1
      have q1 := ((HBw.out.trans (HBx10.out.mono HBw.out.size)).cell (p := ⟨b, off + 1, none⟩) HBL.out).trans HA.out.2.1
      have q2 := ((HBw.out.trans (HBx10.out.mono HBw.out.size)).cell (p := ⟨b, off + 2, none⟩) HBL.out).trans HA.out.2.2.1
      have q3 := ((HBw.out.trans (HBx10.out.mono HBw.out.size)).cell (p := ⟨b, off + 3, none⟩) HBL.out).trans HA.out.2.2.2.1
      have q4 := ((HBw.out.trans (HBx10.out.mono HBw.out.size)).cell (p := ⟨b, off + 4, none⟩) HBL.out).trans HA.out.2.2.2.2
      have HCC := Hid.mk (HrT.out w10 _ _ _ _ _ _ _ _ _ (HT0.out.keep (HBw.out.trans (HBx10.out.mono HBw.out.size))))
      go_wp2_with fail
      refine HCC.out.mono ?_
      rintro e w11 ⟨rfl, hb⟩
      have HBx11 : Hid (Below w4.heap.size w4 w11) := HBx10.out.trans (hb.mono HBx10.out.size)
      clear hb HCC q0 q1 q2 q3 q4
      have q0 := ((HBw.out.trans (HBx11.out.mono HBw.out.size)).cell (p := ⟨b, off, none⟩) HBL.out).trans HA.out.1
      have q1 := ((HBw.out.trans (HBx11.out.mono HBw.out.size)).cell (p := ⟨b, off + 1, none⟩) HBL.out).trans HA.out.2.1
      have q2 := ((HBw.out.trans (HBx11.out.mono HBw.out.size)).cell (p := ⟨b, off + 2, none⟩) HBL.out).trans HA.out.2.2.1
      have q3 := ((HBw.out.trans (HBx11.out.mono HBw.out.size)).cell (p := ⟨b, off + 3, none⟩) HBL.out).trans HA.out.2.2.2.1
      have q4 := ((HBw.out.trans (HBx11.out.mono HBw.out.size)).cell (p := ⟨b, off + 4, none⟩) HBL.out).trans HA.out.2.2.2.2
      have HCC := Hid.mk (HrL.out w11 _ _ _ _ _ _ _ _ _ (HT0.out.keep (HBw.out.trans (HBx11.out.mono HBw.out.size))))
      go_wp2_with fail
      refine HCC.out.mono ?_
      rintro e w12 ⟨rfl, hb⟩
      have HBx12 : Hid (Below w4.heap.size w4 w12) := HBx11.out.trans (hb.mono HBx11.out.size)
      clear hb HCC q0 q1 q2 q3 q4
      have HCC := Hid.mk (HrN.out w12 _ icap (HI.out.keep (HBw.out.trans (HBx12.out.mono HBw.out.size))) hN)
      go_wp2_with fail
      refine HCC.out.mono ?_
      rintro e w13 ⟨rfl, hb⟩
      have HBx13 : Hid (Below w4.heap.size w4 w13) := HBx12.out.trans (hb.mono HBx12.out.size)
      clear hb HCC
      obtain ⟨cur, hcur⟩ := HG.out.2.2.2.2.2.2.2
      have hcs : 4 < cur.size := by
        have h1 : w4.cell? ⟨g, 4, none⟩ = cur[4]? := cell_of_row _ _ _ _ _ _ hcur
        rw [HP.out.2.2.2.2] at h1
        exact (Array.getElem?_eq_some_iff.1 h1.symm).1
      have hcur13 : w13.heap[g]? = some (.cells cur 49 (0, 0)) := (HBx13.out.block g hgl).trans hcur
      have p0 := (HBx13.out.cell (p := ⟨g, 0, none⟩) hgl).trans HP.out.1
      have p1 := (HBx13.out.cell (p := ⟨g, 1, none⟩) hgl).trans HP.out.2.1
      have p2 := (HBx13.out.cell (p := ⟨g, 2, none⟩) hgl).trans HP.out.2.2.1
      have p3 := (HBx13.out.cell (p := ⟨g, 3, none⟩) hgl).trans HP.out.2.2.2.1
      have p4 := (HBx13.out.cell (p := ⟨g, 4, none⟩) hgl).trans HP.out.2.2.2.2
      have f0 : w13.frozen? ⟨g, 0, none⟩ = false := by simp [World.frozen?, hcur13]
      have f1 : w13.frozen? ⟨g, 1, none⟩ = false := by simp [World.frozen?, hcur13]
      have f2 : w13.frozen? ⟨g, 2, none⟩ = false := by simp [World.frozen?, hcur13]
      have f3 : w13.frozen? ⟨g, 3, none⟩ = false := by simp [World.frozen?, hcur13]
      have f4 : w13.frozen? ⟨g, 4, none⟩ = false := by simp [World.frozen?, hcur13]
      obtain ⟨w14, hw14⟩ : ∃ w14, ((((w13.setCell ⟨g, 0, none⟩ (.int .i64 4)).setCell ⟨g, 1, none⟩ (.string ⟨#[]⟩)).setCell ⟨g, 2, none⟩ (.string ⟨#[119, 114, 105, 116, 116, 101, 110, 32, 111, 118, 101, 114]⟩)).setCell ⟨g, 3, none⟩ (.slice none 0 0)).setCell ⟨g, 4, none⟩ (.slice none 0 0) = w14 := ⟨_, rfl⟩
      obtain ⟨z1, z2, z3⟩ := setG5 w13 g 49 cur _ _ _ _ _ hcur13 hcs w14 hw14.symm
      have hbw13 : Below w.heap.size w w13 := HBw.out.trans (HBx13.out.mono HBw.out.size)
      have hbw14 : Below w.heap.size w w14 := hbw13.trans (z3 _ hwg)
      have HL14 := Hid.mk (w_LinesWo g cap w14 (by have := HBx13.out.size; omega) z1 (by omega) (HWD.out.keep hbw14))
      have HBW14 := Hid.mk hbw14
      have HW14 := Hid.mk hw14
      clear hcur hcs hcur13 z1 z2 z3 hbw13 hbw14 hw14
      go_wp2_with fail
      (try rw [HW14.out])
      refine HL14.out.mono ?_
      rintro e w15 ⟨⟨er, rfl⟩, hb15⟩
      have HB15 : Hid (Below w.heap.size w w15) := HBW14.out.trans (hb15.mono HBW14.out.size)
      clear hb15 HL14 p0 p1 p2 p3 p4 f0 f1 f2 f3 f4
      go_wp2_with fail
      go_ret
      exact ⟨by first | rfl | simp, HB15.out⟩
end Go.Proofs.YtfjmgccbpiolhaaGreatDoor
