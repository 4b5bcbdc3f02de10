import Derived.Test.YtdjoelhiahpmlaaGreatM50
import Derived.Test.YtdjoelhiahpmlaaGreatM52
import Derived.Test.YtdjoelhiahpmlaaGreatM16
import Derived.Test.YtdjoelhiahpmlaaGreatM14
import Derived.Test.YtdjoelhiahpmlaaGreatM28
import Derived.Test.YtdjoelhiahpmlaaGreatM38
import Derived.Test.YtdjoelhiahpmlaaGreatM24
import Derived.Test.YtdjoelhiahpmlaaGreatM30
import Derived.Test.YtdjoelhiahpmlaaGreatM39
import Derived.Test.YtdjoelhiahpmlaaGreatM31
import Derived.Deep.Cut
namespace Go.Proofs.YtdjoelhiahpmlaaGreat
open Go.RowKit Go.Shelf Go.Sort
set_option linter.unusedVariables false
set_option linter.unusedSimpArgs false

theorem tp_ev (m : Nat) : tpN m ttEv ≤ 1 := by cases m <;> simp [tpN, ttEv, TT.texts, TT.nums, TT.arrs, TT.objs, sumL]
theorem tp_ne (m : Nat) : tpN m ttNe ≤ 1 := by cases m <;> simp [tpN, ttNe, TT.texts, TT.nums, TT.arrs, TT.objs, sumL]
theorem tp_widB (m : Nat) (a0 a1 a2 a3 a4 a5 a6 : Bool) : tpN m (widB a0 a1 a2 a3 a4 a5 a6) ≤ 4 := by
  unfold widB
  split
  · have := tp_ev m; omega
  · cases m with
    | zero => exact Nat.zero_le _
    | succ m =>
      have he := tp_ev m
      unfold tpN widL
      cases a3 <;> cases a5 <;> cases a6 <;> simp [TT.objs, TT.arrs, TT.nums, TT.texts, OB.rest, OB.fields, OB.names, OB.must, AR.item, sumL] <;> omega
theorem tp_com (m h : Nat) (its : List VT) : tpN m (comN h its) ≤ 4 := by
  unfold comN
  split
  · have := tp_ev m; omega
  · exact tp_widB ..
theorem tp_leaf (m : Nat) (V : VT) : tpN m (nrLeaf V) ≤ 2 := by
  cases m with
  | zero => exact Nat.zero_le _
  | succ m =>
    unfold nrLeaf
    split
    · simp [tpN, TT.texts, TT.nums, TT.arrs, TT.objs, sumL]
    · split <;> simp [tpN, TT.texts, TT.nums, TT.arrs, TT.objs, sumL]
theorem sum_map_le {α : Type} {f g : α → Nat} : ∀ {l : List α}, (∀ x ∈ l, f x ≤ g x) → sumL (l.map f) ≤ sumL (l.map g)
  | [], _ => Nat.le_refl _
  | x :: r, h => by
    have h1 := h x (List.mem_cons_self ..)
    have h2 := sum_map_le (l := r) (fun y hy => h y (List.mem_cons_of_mem _ hy))
    simp only [List.map_cons, sumL]
    omega
theorem sum_mul5 {α : Type} {g : α → Nat} : ∀ (l : List α), sumL (l.map fun x => 5 * g x) = 5 * sumL (l.map g)
  | [] => rfl
  | x :: r => by
    have := sum_mul5 (g := g) r
    simp only [List.map_cons, sumL]
    omega
theorem tp_nr : ∀ (h m hv : Nat) (V : VT), formN hv V = true → tpN m (nrN h V) ≤ 5 * szN hv V
  | h, m, 0, V, hf => by cases hf
  | 0, m, hv + 1, V, _ => by
    have hs : 1 ≤ szN (hv + 1) V := by unfold szN; omega
    unfold nrN
    split
    · have := tp_ev m; omega
    · have := tp_leaf m V; omega
  | h + 1, 0, hv + 1, V, _ => Nat.zero_le _
  | h + 1, m + 1, hv + 1, V, hf => by
    have ih := tp_nr h m hv
    have hs : szN (hv + 1) V = 1 + V.keys.length + sumL (V.items.map (szN hv)) := rfl
    have hitem := formN_item hf
    unfold nrN
    split
    · show 1 + 0 + 0 + (tpN m (itN h (nrN h) V.items) + 0) + 0 ≤ _
      rcases it_cases h (nrN h) V.items with ⟨e, e1⟩ | ⟨y, hy, e1, e2⟩ | ⟨hne, e1⟩
      · rw [e1]; have := tp_ne m; omega
      · rw [e1]
        have h1 := ih y (hitem y hy)
        have h2 : szN hv y ≤ sumL (V.items.map (szN hv)) := sumL_mem (List.mem_map.2 ⟨y, hy, rfl⟩)
        omega
      · rw [e1]; have := tp_com m (h + 1) V.items; omega
    · split
      · next h5 h6 =>
        show 1 + 0 + 0 + 0 + ((fdN h (nrN h) V).names.length + (fdN h (nrN h) V).must.length + tpN m (fdN h (nrN h) V).rest + sumL ((fdN h (nrN h) V).fields.map (tpN m)) + 0) ≤ _
        unfold fdN
        split
        · show 1 + 0 + 0 + 0 + (0 + 0 + tpN m (comN (h + 1) V.items) + 0 + 0) ≤ _
          have := tp_com m (h + 1) V.items; omega
        · show 1 + 0 + 0 + 0 + (V.keys.length + (V.keys.map fun _ => true).length + tpN m ttNe + sumL ((V.items.map (nrN h)).map (tpN m)) + 0) ≤ _
          have h1 := tp_ne m
          have h2 : sumL (V.items.map fun x => tpN m (nrN h x)) ≤ sumL (V.items.map fun x => 5 * szN hv x) := sum_map_le (fun x hx => ih x (hitem x hx))
          rw [sum_mul5] at h2
          rw [List.length_map, List.map_map]
          have h3 : sumL (V.items.map (tpN m ∘ nrN h)) ≤ 5 * sumL (V.items.map (szN hv)) := h2
          omega
      · have := tp_leaf (m + 1) V; omega
theorem rcmp_of {h hv : Nat} {x y : VT} (hx : formN hv x = true) (bx : bdV hv x) (hy : formN hv y = true) (bY : bdV hv y) (u : World) (va vb : Value) (ha : InT u (h + 2) (nrN h x) va) (hb : InT u (h + 2) (nrN h y) vb) :
    Calls Tryz.prog 62 #[va, vb] u fun e w' => (∃ c : Int, e = .returned (.int .i64 c) ∧ (c == 0) = sameT (h + 2) (nrN h x) (nrN h y)) ∧ Below u.heap.size u w' := by
  have gx := good_nr h hv x hx bx
  have gy := good_nr h hv y hy bY
  refine (w_rCmpT (h + 2) (nrN h x) (nrN h y) va vb u gx gy ha hb).mono fun e w' ⟨he, hb⟩ => ⟨⟨_, he, ?_⟩, hb⟩
  rw [sameT_cmp gx gy]
  rw [Bool.eq_iff_iff, beq_iff_eq, decide_eq_true_eq]
/-- THE REFERENCE'S Near -/
theorem w_rNear : ∀ h, h ≤ 8 → NrR h := by
  intro h
  induction h with
  | zero =>
    intro _ hv V vv u hI hf
    obtain ⟨m, rfl⟩ := form_pos hf
    obtain ⟨io, icap, ko, kcap, rfl, a1, a2, a3, a4, a5, a6, a7, hk, hi⟩ := hI.open
    rcases form_open hf with (rfl | rfl | rfl) | ⟨n, rfl, hn⟩ | ⟨t, rfl, ht⟩ | ⟨i, rfl, hi'⟩ | ⟨i, ks, rfl, _, _, _, hi'⟩
    · rw [nr_leaf _ (by show ¬ (0 : Int) = 5; decide) (by show ¬ (0 : Int) = 6; decide)]
      exact rnear_k0 1 _ _ _ _ _ _ _ _ ((0 : Nat) : Int) u
    · rw [nr_leaf _ (by show ¬ (1 : Int) = 5; decide) (by show ¬ (1 : Int) = 6; decide)]
      exact rnear_k1 1 _ _ _ _ _ _ _ _ ((0 : Nat) : Int) u
    · rw [nr_leaf _ (by show ¬ (2 : Int) = 5; decide) (by show ¬ (2 : Int) = 6; decide)]
      exact rnear_k2 1 _ _ _ _ _ _ _ _ ((0 : Nat) : Int) u
    · rw [nr_leaf _ (by show ¬ (3 : Int) = 5; decide) (by show ¬ (3 : Int) = 6; decide), leaf3]
      exact rnear_num 1 _ _ _ _ _ _ _ _ a1 ((0 : Nat) : Int) u
    · rw [nr_leaf _ (by show ¬ (4 : Int) = 5; decide) (by show ¬ (4 : Int) = 6; decide), leaf4]
      exact rnear_text 1 _ _ _ _ _ _ _ _ a2 ((0 : Nat) : Int) u
    · rw [nr_zero5]
      exact rnear_z5 _ _ _ _ _ _ _ _ u
    · rw [nr_zero6]
      exact rnear_z6 _ _ _ _ _ _ _ _ u
  | succ h ih =>
    intro h8 hv V vv u hI hf
    have ihc := ih (by omega)
    obtain ⟨m, rfl⟩ := form_pos hf
    have hI0 := hI
    obtain ⟨io, icap, ko, kcap, rfl, a1, a2, a3, a4, a5, a6, a7, hk, hi⟩ := hI.open
    rcases form_open hf with (rfl | rfl | rfl) | ⟨n, rfl, hn⟩ | ⟨t, rfl, ht⟩ | ⟨i, rfl, hi'⟩ | ⟨i, ks, rfl, hl, _, _, hi'⟩
    · rw [nr_leaf _ (by show ¬ (0 : Int) = 5; decide) (by show ¬ (0 : Int) = 6; decide)]
      exact rnear_k0 (h + 2) _ _ _ _ _ _ _ _ ((h + 1 : Nat) : Int) u
    · rw [nr_leaf _ (by show ¬ (1 : Int) = 5; decide) (by show ¬ (1 : Int) = 6; decide)]
      exact rnear_k1 (h + 2) _ _ _ _ _ _ _ _ ((h + 1 : Nat) : Int) u
    · rw [nr_leaf _ (by show ¬ (2 : Int) = 5; decide) (by show ¬ (2 : Int) = 6; decide)]
      exact rnear_k2 (h + 2) _ _ _ _ _ _ _ _ ((h + 1 : Nat) : Int) u
    · rw [nr_leaf _ (by show ¬ (3 : Int) = 5; decide) (by show ¬ (3 : Int) = 6; decide), leaf3]
      exact rnear_num (h + 2) _ _ _ _ _ _ _ _ a1 ((h + 1 : Nat) : Int) u
    · rw [nr_leaf _ (by show ¬ (4 : Int) = 5; decide) (by show ¬ (4 : Int) = 6; decide), leaf4]
      exact rnear_text (h + 2) _ _ _ _ _ _ _ _ a2 ((h + 1 : Nat) : Int) u
    · rw [nr_eq5]
      have hbd := hI0.bd
      refine rnear_arr _ _ _ _ _ _ _ _ ((h + 1 : Nat) : Int) u (h + 2) _ (by omega) (Hid.mk fun u3 hb3 => ?_)
      have hii : IIn u3 m io i := hi.keep hb3
      cases i with
      | nil => exact (ritem_none io icap ((h + 1 : Nat) : Int) u3).mono fun e w' ⟨⟨v, hv, hF⟩, hb⟩ => ⟨⟨v, hv, Hid.mk (hF.out.le (by omega))⟩, hb⟩
      | cons x0 r =>
        exact w_rnearItem h ihc ((h + 1 : Nat) : Int) (by omega) (by omega) m io _ icap x0 r u3 hii rfl a5 a3 hi' (Hid.mk fun y hy u4 va vb ha hb => rcmp_of (hi' x0 (List.mem_cons_self ..)) (hbd.2 x0 (List.mem_cons_self ..)) (hi' y (List.mem_cons_of_mem _ hy)) (hbd.2 y (List.mem_cons_of_mem _ hy)) u4 va vb ha hb)
    · rw [nr_eq6, fd_eq]
      by_cases h12 : 12 < ks.length
      · rw [if_pos h12]
        exact rnear_wide _ _ io _ icap ko _ kcap ((h + 1 : Nat) : Int) u (h + 2) (comN (h + 1) i) (by omega) h12 (Hid.mk fun u2 hu => (w_kindsOf m (h + 1) io _ icap i u2 (hi.keep hu) rfl a5 a3 (fun x hx => isK_of (hi' x hx)) (by omega)).mono fun e w' ⟨⟨v, hv, hF⟩, hb⟩ => ⟨⟨v, hv, Hid.mk (hF.out.le (by omega))⟩, hb⟩)
      · rw [if_neg h12]
        have e : i.length = ks.length := hl.symm
        have a5' : i.length ≤ icap := a5
        have a7' : ∀ k ∈ ks, k.size ≤ 140737488355328 := a7
        show Calls Tryz.prog 18 #[.agg #[.int .i64 6, .string .empty, .string .empty, .slice io i.length icap, .slice ko ks.length kcap], .int .i64 ((h + 1 : Nat) : Int)] u _
        rw [e]
        exact rfields_few h ihc m i ks _ _ io icap ko ks.length kcap ((h + 1 : Nat) : Int) u hi hk e rfl (by omega) a6 (by omega) hi' a7' (by unfold IntKind.wrap; simp [IntKind.min, IntKind.max, IntKind.signed, IntKind.bits]; omega) (by omega)
end Go.Proofs.YtdjoelhiahpmlaaGreat
namespace Go.Proofs.YtdjoelhiahpmlaaGreat
open Go.RowKit Go.Shelf Go.Sort
set_option linter.unusedVariables false
set_option linter.unusedSimpArgs false
attribute [local go_sem] Oper.semAt_some

set_option maxRecDepth 100000 in
set_option maxHeartbeats 3200000 in
theorem rof_step (kd : Int) (nm tx : ByteArray) (io : Option Addr) (NI icap : Nat) (ko : Option Addr) (NK kcap : Nat) (w : World) (f : Bool) (CT : TT)
    (HF : Hid (∀ u, Below w.heap.size w u → Calls Tryz.prog 17 #[.agg #[.int .i64 kd, .string nm, .string tx, .slice io NI icap, .slice ko NK kcap]] u fun e w' => e = .returned (.bool f) ∧ Below u.heap.size u w'))
    (HN : Hid (f = true → ∀ u, Below w.heap.size w u → Calls Tryz.prog 18 #[.agg #[.int .i64 kd, .string nm, .string tx, .slice io NI icap, .slice ko NK kcap], .int .i64 8] u fun e w' => (∃ v, e = .returned v ∧ Hid (FrT u.heap.size w' 10 CT v)) ∧ Below u.heap.size u w')) :
    Calls Tryz.prog 7 #[.agg #[.int .i64 kd, .string nm, .string tx, .slice io NI icap, .slice ko NK kcap]] w fun e w' => (∃ v, e = .returned (.tuple #[v, .int .i64 (if f then 0 else 1)]) ∧ Hid (FrT w.heap.size w' 10 (if f then CT else ttNe) v)) ∧ Below w.heap.size w w' := by
  obtain ⟨W0, hW0⟩ : ∃ W0, (w.alloc (.cells #[.int .i64 kd, .string nm, .string tx, .slice io NI icap, .slice ko NK kcap] 25)).alloc (.cells #[.bool false, .bool false, .bool false, .bool false, .slice none 0 0, .bool false, .slice none 0 0, .slice none 0 0, .slice none 0 0] 32) = W0 := ⟨_, rfl⟩
  have HB0 : Hid (Below w.heap.size w W0) := by rw [← hW0]; exact ((Below.refl _ w).alloc (Nat.le_refl _) _).alloc (by simp) _
  have HR0 : Hid (W0.heap[w.heap.size + 1]? = some (.cells #[.bool false, .bool false, .bool false, .bool false, .slice none 0 0, .bool false, .slice none 0 0, .slice none 0 0, .slice none 0 0] 32 (0, 0))) := by
    show _ = _
    rw [← hW0]
    have h := World.alloc_heap_new (w.alloc (.cells #[.int .i64 kd, .string nm, .string tx, .slice io NI icap, .slice ko NK kcap] 25)) (.cells #[.bool false, .bool false, .bool false, .bool false, .slice none 0 0, .bool false, .slice none 0 0, .slice none 0 0, .slice none 0 0] 32)
    rw [World.size_alloc] at h
    exact h
  have HV0 : Hid (W0.heap[w.heap.size]? = some (.cells #[.int .i64 kd, .string nm, .string tx, .slice io NI icap, .slice ko NK kcap] 25 (0, 0))) := by
    show _ = _
    rw [← hW0]
    exact (Below.heap_alloc _ _ _ (by simp)).trans (World.alloc_heap_new w _)
  have c0 := cell_of_row _ _ 0 _ _ _ HV0.out
  have c1 := cell_of_row _ _ 1 _ _ _ HV0.out
  have c2 := cell_of_row _ _ 2 _ _ _ HV0.out
  have c3 := cell_of_row _ _ 3 _ _ _ HV0.out
  have c4 := cell_of_row _ _ 4 _ _ _ HV0.out
  cases f with
  | false =>
    go_enter Tryz.func7, Tryz.ntmps7
    go_wp2_with fail
    refine (HF.out _ HB0.out).mono ?_
    rintro e w1 ⟨rfl, hq⟩
    have HB1 := Hid.mk (HB0.out.trans (hq.mono HB0.out.size))
    have HR1 : Hid (w1.heap[w.heap.size + 1]? = _) := (hq.block _ (lt_of_row HR0.out)).trans HR0.out
    clear hq hW0 c0 c1 c2 c3 c4
    have g0 := cell_of_row _ _ 0 _ _ _ HR1.out
    have f0 := frozen_row9 (j := 0) HR1.out
    have g1 := cell_of_row _ _ 1 _ _ _ HR1.out
    have f1 := frozen_row9 (j := 1) HR1.out
    have g2 := cell_of_row _ _ 2 _ _ _ HR1.out
    have f2 := frozen_row9 (j := 2) HR1.out
    have g3 := cell_of_row _ _ 3 _ _ _ HR1.out
    have f3 := frozen_row9 (j := 3) HR1.out
    have g4 := cell_of_row _ _ 4 _ _ _ HR1.out
    have f4 := frozen_row9 (j := 4) HR1.out
    have g5 := cell_of_row _ _ 5 _ _ _ HR1.out
    have f5 := frozen_row9 (j := 5) HR1.out
    have g6 := cell_of_row _ _ 6 _ _ _ HR1.out
    have f6 := frozen_row9 (j := 6) HR1.out
    have g7 := cell_of_row _ _ 7 _ _ _ HR1.out
    have f7 := frozen_row9 (j := 7) HR1.out
    have g8 := cell_of_row _ _ 8 _ _ _ HR1.out
    have f8 := frozen_row9 (j := 8) HR1.out
    go_wp2_with fail
    (try simp only [Exit.inBlock, Exit.then])
    generalize hz9 : ((((((((w1.setCell ⟨w.heap.size + 1, 0, none⟩ (.bool false)).setCell ⟨w.heap.size + 1, 1, none⟩ (.bool false)).setCell ⟨w.heap.size + 1, 2, none⟩ (.bool false)).setCell ⟨w.heap.size + 1, 3, none⟩ (.bool false)).setCell ⟨w.heap.size + 1, 4, none⟩ (.slice none 0 0)).setCell ⟨w.heap.size + 1, 5, none⟩ (.bool false)).setCell ⟨w.heap.size + 1, 6, none⟩ (.slice none 0 0)).setCell ⟨w.heap.size + 1, 7, none⟩ (.slice none 0 0)).setCell ⟨w.heap.size + 1, 8, none⟩ (.slice none 0 0) = wz
    obtain ⟨e7, k7, s7⟩ := rbox_set9 w1 _ _ _ _ _ _ _ _ _ _ _ _ _ _ _ _ _ _ _ _ (HR1.out) wz hz9.symm
    have d0 := cell_of_row _ _ 0 _ _ _ e7
    have d1 := cell_of_row _ _ 1 _ _ _ e7
    have d2 := cell_of_row _ _ 2 _ _ _ e7
    have d3 := cell_of_row _ _ 3 _ _ _ e7
    have d4 := cell_of_row _ _ 4 _ _ _ e7
    have d5 := cell_of_row _ _ 5 _ _ _ e7
    have d6 := cell_of_row _ _ 6 _ _ _ e7
    have d7 := cell_of_row _ _ 7 _ _ _ e7
    have d8 := cell_of_row _ _ 8 _ _ _ e7
    have hbz : Below w.heap.size w wz := by rw [← hz9]; exact (((((((((HB1.out.setCell (p := ⟨w.heap.size + 1, 0, none⟩) (by show w.heap.size ≤ w.heap.size + 1; omega) _).setCell (p := ⟨w.heap.size + 1, 1, none⟩) (by show w.heap.size ≤ w.heap.size + 1; omega) _).setCell (p := ⟨w.heap.size + 1, 2, none⟩) (by show w.heap.size ≤ w.heap.size + 1; omega) _).setCell (p := ⟨w.heap.size + 1, 3, none⟩) (by show w.heap.size ≤ w.heap.size + 1; omega) _).setCell (p := ⟨w.heap.size + 1, 4, none⟩) (by show w.heap.size ≤ w.heap.size + 1; omega) _).setCell (p := ⟨w.heap.size + 1, 5, none⟩) (by show w.heap.size ≤ w.heap.size + 1; omega) _).setCell (p := ⟨w.heap.size + 1, 6, none⟩) (by show w.heap.size ≤ w.heap.size + 1; omega) _).setCell (p := ⟨w.heap.size + 1, 7, none⟩) (by show w.heap.size ≤ w.heap.size + 1; omega) _).setCell (p := ⟨w.heap.size + 1, 8, none⟩) (by show w.heap.size ≤ w.heap.size + 1; omega) _)
    refine bodyPost_ret (v := .tuple #[.agg #[.bool false, .bool false, .bool false, .bool false, .slice none 0 0, .bool false, .slice none 0 0, .slice none 0 0, .slice none 0 0], .int .i64 1]) (by simp [results, Tryz.results7, go_sem, d0, d1, d2, d3, d4, d5, d6, d7, d8]) rfl ?_
    exact ⟨⟨_, rfl, Hid.mk (fun x _ _ => inT_nev x 9)⟩, hbz⟩
  | true =>
    go_enter Tryz.func7, Tryz.ntmps7
    go_wp2_with fail
    refine (HF.out _ HB0.out).mono ?_
    rintro e w1 ⟨rfl, hq⟩
    have HB1 := Hid.mk (HB0.out.trans (hq.mono HB0.out.size))
    have HR1 : Hid (w1.heap[w.heap.size + 1]? = _) := (hq.block _ (lt_of_row HR0.out)).trans HR0.out
    have HV1 : Hid (w1.heap[w.heap.size]? = _) := (hq.block _ (lt_of_row HV0.out)).trans HV0.out
    clear hq hW0 c0 c1 c2 c3 c4
    have c0 := cell_of_row _ _ 0 _ _ _ HV1.out
    have c1 := cell_of_row _ _ 1 _ _ _ HV1.out
    have c2 := cell_of_row _ _ 2 _ _ _ HV1.out
    have c3 := cell_of_row _ _ 3 _ _ _ HV1.out
    have c4 := cell_of_row _ _ 4 _ _ _ HV1.out
    go_wp2_with fail
    refine (HN.out (by first | trivial | rfl) _ HB1.out).mono ?_
    rintro e w3 ⟨⟨vw, rfl, hF⟩, hq⟩
    have HB3 := Hid.mk (HB1.out.trans (hq.mono HB1.out.size))
    have HR3 : Hid (w3.heap[w.heap.size + 1]? = _) := (hq.block _ (lt_of_row HR1.out)).trans HR1.out
    have HL := Hid.mk (lt_of_row HR1.out)
    clear hq
    have hF2 := hF.out.here
    obtain ⟨ta, tb, tc, td, ⟨teo, ten, tec⟩, tf, ⟨tgo, tgn, tgc⟩, ⟨tio, tinn, tic⟩, ⟨tjo, tjn, tjc⟩, esht⟩ := inT_shape hF2
    simp only [Value.agg.injEq, Array.mk.injEq, List.cons.injEq, and_true] at esht
    obtain ⟨rfl, rfl, rfl, rfl, rfl, rfl, rfl, rfl, rfl⟩ := esht
    clear hF2
    clear c0 c1 c2 c3 c4
    have g0 := cell_of_row _ _ 0 _ _ _ HR3.out
    have f0 := frozen_row9 (j := 0) HR3.out
    have g1 := cell_of_row _ _ 1 _ _ _ HR3.out
    have f1 := frozen_row9 (j := 1) HR3.out
    have g2 := cell_of_row _ _ 2 _ _ _ HR3.out
    have f2 := frozen_row9 (j := 2) HR3.out
    have g3 := cell_of_row _ _ 3 _ _ _ HR3.out
    have f3 := frozen_row9 (j := 3) HR3.out
    have g4 := cell_of_row _ _ 4 _ _ _ HR3.out
    have f4 := frozen_row9 (j := 4) HR3.out
    have g5 := cell_of_row _ _ 5 _ _ _ HR3.out
    have f5 := frozen_row9 (j := 5) HR3.out
    have g6 := cell_of_row _ _ 6 _ _ _ HR3.out
    have f6 := frozen_row9 (j := 6) HR3.out
    have g7 := cell_of_row _ _ 7 _ _ _ HR3.out
    have f7 := frozen_row9 (j := 7) HR3.out
    have g8 := cell_of_row _ _ 8 _ _ _ HR3.out
    have f8 := frozen_row9 (j := 8) HR3.out
    go_wp2_with fail
    (try simp only [Exit.inBlock, Exit.then])
    generalize hz9 : ((((((((w3.setCell ⟨w.heap.size + 1, 0, none⟩ (.bool ta)).setCell ⟨w.heap.size + 1, 1, none⟩ (.bool tb)).setCell ⟨w.heap.size + 1, 2, none⟩ (.bool tc)).setCell ⟨w.heap.size + 1, 3, none⟩ (.bool td)).setCell ⟨w.heap.size + 1, 4, none⟩ (.slice teo ten tec)).setCell ⟨w.heap.size + 1, 5, none⟩ (.bool tf)).setCell ⟨w.heap.size + 1, 6, none⟩ (.slice tgo tgn tgc)).setCell ⟨w.heap.size + 1, 7, none⟩ (.slice tio tinn tic)).setCell ⟨w.heap.size + 1, 8, none⟩ (.slice tjo tjn tjc) = wz
    obtain ⟨e7, k7, s7⟩ := rbox_set9 w3 _ _ _ _ _ _ _ _ _ _ _ _ _ _ _ _ _ _ _ _ (HR3.out) wz hz9.symm
    have d0 := cell_of_row _ _ 0 _ _ _ e7
    have d1 := cell_of_row _ _ 1 _ _ _ e7
    have d2 := cell_of_row _ _ 2 _ _ _ e7
    have d3 := cell_of_row _ _ 3 _ _ _ e7
    have d4 := cell_of_row _ _ 4 _ _ _ e7
    have d5 := cell_of_row _ _ 5 _ _ _ e7
    have d6 := cell_of_row _ _ 6 _ _ _ e7
    have d7 := cell_of_row _ _ 7 _ _ _ e7
    have d8 := cell_of_row _ _ 8 _ _ _ e7
    have hbz : Below w.heap.size w wz := by rw [← hz9]; exact (((((((((HB3.out.setCell (p := ⟨w.heap.size + 1, 0, none⟩) (by show w.heap.size ≤ w.heap.size + 1; omega) _).setCell (p := ⟨w.heap.size + 1, 1, none⟩) (by show w.heap.size ≤ w.heap.size + 1; omega) _).setCell (p := ⟨w.heap.size + 1, 2, none⟩) (by show w.heap.size ≤ w.heap.size + 1; omega) _).setCell (p := ⟨w.heap.size + 1, 3, none⟩) (by show w.heap.size ≤ w.heap.size + 1; omega) _).setCell (p := ⟨w.heap.size + 1, 4, none⟩) (by show w.heap.size ≤ w.heap.size + 1; omega) _).setCell (p := ⟨w.heap.size + 1, 5, none⟩) (by show w.heap.size ≤ w.heap.size + 1; omega) _).setCell (p := ⟨w.heap.size + 1, 6, none⟩) (by show w.heap.size ≤ w.heap.size + 1; omega) _).setCell (p := ⟨w.heap.size + 1, 7, none⟩) (by show w.heap.size ≤ w.heap.size + 1; omega) _).setCell (p := ⟨w.heap.size + 1, 8, none⟩) (by show w.heap.size ≤ w.heap.size + 1; omega) _)
    refine bodyPost_ret (v := .tuple #[.agg #[.bool ta, .bool tb, .bool tc, .bool td, .slice teo ten tec, .bool tf, .slice tgo tgn tgc, .slice tio tinn tic, .slice tjo tjn tjc], .int .i64 0]) (by simp [results, Tryz.results7, go_sem, d0, d1, d2, d3, d4, d5, d6, d7, d8]) rfl ?_
    exact ⟨⟨_, rfl, Hid.mk ((hF.out.set s7 (fun b hb => k7 b (by have := HL.out; omega))).mono (by have := HL.out; omega))⟩, hbz⟩

/-- THE REFERENCE'S Of -/
theorem w_rOf (hv : Nat) (V : VT) (vv : Value) (w : World) (hI : InH w hv V vv) : Calls Tryz.prog 7 #[vv] w fun e w' => (∃ v, e = .returned (.tuple #[v, .int .i64 (if formN hv V then 0 else 1)]) ∧ Hid (FrT w.heap.size w' 10 (if formN hv V then nrN 8 V else ttNe) v)) ∧ Below w.heap.size w w' := by
  have hI0 := hI
  cases hv with
  | zero => exact hI.elim
  | succ m =>
    obtain ⟨io, icap, ko, kcap, rfl, _⟩ := hI.open
    exact rof_step _ _ _ _ _ _ _ _ _ w _ _ (Hid.mk fun u hu => w_rFormed (m + 1) V _ u (hI0.keep hu)) (Hid.mk fun hf u hu => w_rNear 8 (Nat.le_refl _) (m + 1) V _ u (hI0.keep hu) hf)
end Go.Proofs.YtdjoelhiahpmlaaGreat
namespace Go.Proofs.YtdjoelhiahpmlaaGreat
open Go.RowKit Go.Shelf Go.Sort
set_option linter.unusedVariables false
set_option linter.unusedSimpArgs false

theorem fd_all (h : Nat) (h7 : h ≤ 7) (ih : NrC h) : FdC h := by
  intro hv V vv u hI hf h6
  obtain ⟨m, rfl⟩ := form_pos hf
  obtain ⟨io, icap, ko, kcap, rfl, a1, a2, a3, a4, a5, a6, a7, hk, hi⟩ := hI.open
  rcases form_open hf with (rfl | rfl | rfl) | ⟨n, rfl, hn⟩ | ⟨t, rfl, ht⟩ | ⟨i, rfl, hi'⟩ | ⟨i, ks, rfl, hl, _, _, hi'⟩ <;> (try simp [VT.kind] at h6)
  rw [fd_eq]
  by_cases h12 : 12 < ks.length
  · rw [if_pos h12]
    exact fields_wide _ _ io _ icap ko _ kcap ((h + 1 : Nat) : Int) u (h + 2) (comN (h + 1) i) h12 (Hid.mk fun u2 hu => (w_common m (h + 1) io _ icap i u2 (hi.keep hu) rfl a5 a3 (fun x hx => isK_of (hi' x hx)) (by omega)).mono fun e w' ⟨⟨v, hv, hF⟩, hb⟩ => ⟨⟨v, hv, Hid.mk (hF.out.le (by omega))⟩, hb⟩)
  · rw [if_neg h12]
    have e : i.length = ks.length := hl.symm
    have a5' : i.length ≤ icap := a5
    have a7' : ∀ k ∈ ks, k.size ≤ 140737488355328 := a7
    show Calls Tryz.prog 58 #[.agg #[.int .i64 6, .string .empty, .string .empty, .slice io i.length icap, .slice ko ks.length kcap], .int .i64 ((h + 1 : Nat) : Int)] u _
    rw [e]
    exact fields_few h ih m i ks _ _ io icap ko ks.length kcap ((h + 1 : Nat) : Int) u hi hk e rfl (by omega) a6 (by omega) hi' a7' (by unfold IntKind.wrap; simp [IntKind.min, IntKind.max, IntKind.signed, IntKind.bits]; omega)
/-- THE PROGRAM'S near -/
theorem w_near : ∀ h, h ≤ 8 → NrC h := nr_all fd_all
end Go.Proofs.YtdjoelhiahpmlaaGreat
namespace Go.Proofs.YtdjoelhiahpmlaaGreat
open Go.RowKit Go.Shelf Go.Sort
set_option linter.unusedVariables false
set_option linter.unusedSimpArgs false
attribute [local go_sem] Oper.semAt_some

set_option maxRecDepth 100000 in
set_option maxHeartbeats 3200000 in
theorem of_step (kd : Int) (nm tx : ByteArray) (io : Option Addr) (NI icap : Nat) (ko : Option Addr) (NK kcap : Nat) (w : World) (f : Bool) (CT : TT)
    (HF : Hid (∀ u, Below w.heap.size w u → Calls Tryz.prog 15 #[.agg #[.int .i64 kd, .string nm, .string tx, .slice io NI icap, .slice ko NK kcap]] u fun e w' => e = .returned (.bool f) ∧ Below u.heap.size u w'))
    (HN : Hid (f = true → ∀ u, Below w.heap.size w u → Calls Tryz.prog 16 #[.agg #[.int .i64 kd, .string nm, .string tx, .slice io NI icap, .slice ko NK kcap], .int .i64 8] u fun e w' => (∃ v, e = .returned v ∧ Hid (FrT u.heap.size w' 10 CT v)) ∧ Below u.heap.size u w')) :
    Calls Tryz.prog 6 #[.agg #[.int .i64 kd, .string nm, .string tx, .slice io NI icap, .slice ko NK kcap]] w fun e w' => (∃ v, e = .returned (.tuple #[v, .int .i64 (if f then 0 else 1)]) ∧ Hid (FrT w.heap.size w' 10 (if f then CT else ttNe) v)) ∧ Below w.heap.size w w' := by
  obtain ⟨W0, hW0⟩ : ∃ W0, (w.alloc (.cells #[.int .i64 kd, .string nm, .string tx, .slice io NI icap, .slice ko NK kcap] 25)).alloc (.cells #[.bool false, .bool false, .bool false, .bool false, .slice none 0 0, .bool false, .slice none 0 0, .slice none 0 0, .slice none 0 0] 32) = W0 := ⟨_, rfl⟩
  have HB0 : Hid (Below w.heap.size w W0) := by rw [← hW0]; exact ((Below.refl _ w).alloc (Nat.le_refl _) _).alloc (by simp) _
  have HR0 : Hid (W0.heap[w.heap.size + 1]? = some (.cells #[.bool false, .bool false, .bool false, .bool false, .slice none 0 0, .bool false, .slice none 0 0, .slice none 0 0, .slice none 0 0] 32 (0, 0))) := by
    show _ = _
    rw [← hW0]
    have h := World.alloc_heap_new (w.alloc (.cells #[.int .i64 kd, .string nm, .string tx, .slice io NI icap, .slice ko NK kcap] 25)) (.cells #[.bool false, .bool false, .bool false, .bool false, .slice none 0 0, .bool false, .slice none 0 0, .slice none 0 0, .slice none 0 0] 32)
    rw [World.size_alloc] at h
    exact h
  have HV0 : Hid (W0.heap[w.heap.size]? = some (.cells #[.int .i64 kd, .string nm, .string tx, .slice io NI icap, .slice ko NK kcap] 25 (0, 0))) := by
    show _ = _
    rw [← hW0]
    exact (Below.heap_alloc _ _ _ (by simp)).trans (World.alloc_heap_new w _)
  have c0 := cell_of_row _ _ 0 _ _ _ HV0.out
  have c1 := cell_of_row _ _ 1 _ _ _ HV0.out
  have c2 := cell_of_row _ _ 2 _ _ _ HV0.out
  have c3 := cell_of_row _ _ 3 _ _ _ HV0.out
  have c4 := cell_of_row _ _ 4 _ _ _ HV0.out
  cases f with
  | false =>
    go_enter Tryz.func6, Tryz.ntmps6
    go_wp2_with fail
    refine (HF.out _ HB0.out).mono ?_
    rintro e w1 ⟨rfl, hq⟩
    have HB1 := Hid.mk (HB0.out.trans (hq.mono HB0.out.size))
    have HR1 : Hid (w1.heap[w.heap.size + 1]? = _) := (hq.block _ (lt_of_row HR0.out)).trans HR0.out
    clear hq hW0 c0 c1 c2 c3 c4
    have g0 := cell_of_row _ _ 0 _ _ _ HR1.out
    have f0 := frozen_row9 (j := 0) HR1.out
    have g1 := cell_of_row _ _ 1 _ _ _ HR1.out
    have f1 := frozen_row9 (j := 1) HR1.out
    have g2 := cell_of_row _ _ 2 _ _ _ HR1.out
    have f2 := frozen_row9 (j := 2) HR1.out
    have g3 := cell_of_row _ _ 3 _ _ _ HR1.out
    have f3 := frozen_row9 (j := 3) HR1.out
    have g4 := cell_of_row _ _ 4 _ _ _ HR1.out
    have f4 := frozen_row9 (j := 4) HR1.out
    have g5 := cell_of_row _ _ 5 _ _ _ HR1.out
    have f5 := frozen_row9 (j := 5) HR1.out
    have g6 := cell_of_row _ _ 6 _ _ _ HR1.out
    have f6 := frozen_row9 (j := 6) HR1.out
    have g7 := cell_of_row _ _ 7 _ _ _ HR1.out
    have f7 := frozen_row9 (j := 7) HR1.out
    have g8 := cell_of_row _ _ 8 _ _ _ HR1.out
    have f8 := frozen_row9 (j := 8) HR1.out
    go_wp2_with fail
    (try simp only [Exit.inBlock, Exit.then])
    generalize hz9 : ((((((((w1.setCell ⟨w.heap.size + 1, 0, none⟩ (.bool false)).setCell ⟨w.heap.size + 1, 1, none⟩ (.bool false)).setCell ⟨w.heap.size + 1, 2, none⟩ (.bool false)).setCell ⟨w.heap.size + 1, 3, none⟩ (.bool false)).setCell ⟨w.heap.size + 1, 4, none⟩ (.slice none 0 0)).setCell ⟨w.heap.size + 1, 5, none⟩ (.bool false)).setCell ⟨w.heap.size + 1, 6, none⟩ (.slice none 0 0)).setCell ⟨w.heap.size + 1, 7, none⟩ (.slice none 0 0)).setCell ⟨w.heap.size + 1, 8, none⟩ (.slice none 0 0) = wz
    obtain ⟨e7, k7, s7⟩ := rbox_set9 w1 _ _ _ _ _ _ _ _ _ _ _ _ _ _ _ _ _ _ _ _ (HR1.out) wz hz9.symm
    have d0 := cell_of_row _ _ 0 _ _ _ e7
    have d1 := cell_of_row _ _ 1 _ _ _ e7
    have d2 := cell_of_row _ _ 2 _ _ _ e7
    have d3 := cell_of_row _ _ 3 _ _ _ e7
    have d4 := cell_of_row _ _ 4 _ _ _ e7
    have d5 := cell_of_row _ _ 5 _ _ _ e7
    have d6 := cell_of_row _ _ 6 _ _ _ e7
    have d7 := cell_of_row _ _ 7 _ _ _ e7
    have d8 := cell_of_row _ _ 8 _ _ _ e7
    have hbz : Below w.heap.size w wz := by rw [← hz9]; exact (((((((((HB1.out.setCell (p := ⟨w.heap.size + 1, 0, none⟩) (by show w.heap.size ≤ w.heap.size + 1; omega) _).setCell (p := ⟨w.heap.size + 1, 1, none⟩) (by show w.heap.size ≤ w.heap.size + 1; omega) _).setCell (p := ⟨w.heap.size + 1, 2, none⟩) (by show w.heap.size ≤ w.heap.size + 1; omega) _).setCell (p := ⟨w.heap.size + 1, 3, none⟩) (by show w.heap.size ≤ w.heap.size + 1; omega) _).setCell (p := ⟨w.heap.size + 1, 4, none⟩) (by show w.heap.size ≤ w.heap.size + 1; omega) _).setCell (p := ⟨w.heap.size + 1, 5, none⟩) (by show w.heap.size ≤ w.heap.size + 1; omega) _).setCell (p := ⟨w.heap.size + 1, 6, none⟩) (by show w.heap.size ≤ w.heap.size + 1; omega) _).setCell (p := ⟨w.heap.size + 1, 7, none⟩) (by show w.heap.size ≤ w.heap.size + 1; omega) _).setCell (p := ⟨w.heap.size + 1, 8, none⟩) (by show w.heap.size ≤ w.heap.size + 1; omega) _)
    refine bodyPost_ret (v := .tuple #[.agg #[.bool false, .bool false, .bool false, .bool false, .slice none 0 0, .bool false, .slice none 0 0, .slice none 0 0, .slice none 0 0], .int .i64 1]) (by simp [results, Tryz.results6, go_sem, d0, d1, d2, d3, d4, d5, d6, d7, d8]) rfl ?_
    exact ⟨⟨_, rfl, Hid.mk (fun x _ _ => inT_nev x 9)⟩, hbz⟩
  | true =>
    go_enter Tryz.func6, Tryz.ntmps6
    go_wp2_with fail
    refine (HF.out _ HB0.out).mono ?_
    rintro e w1 ⟨rfl, hq⟩
    have HB1 := Hid.mk (HB0.out.trans (hq.mono HB0.out.size))
    have HR1 : Hid (w1.heap[w.heap.size + 1]? = _) := (hq.block _ (lt_of_row HR0.out)).trans HR0.out
    have HV1 : Hid (w1.heap[w.heap.size]? = _) := (hq.block _ (lt_of_row HV0.out)).trans HV0.out
    clear hq hW0 c0 c1 c2 c3 c4
    have c0 := cell_of_row _ _ 0 _ _ _ HV1.out
    have c1 := cell_of_row _ _ 1 _ _ _ HV1.out
    have c2 := cell_of_row _ _ 2 _ _ _ HV1.out
    have c3 := cell_of_row _ _ 3 _ _ _ HV1.out
    have c4 := cell_of_row _ _ 4 _ _ _ HV1.out
    go_wp2_with fail
    refine (HN.out (by first | trivial | rfl) _ HB1.out).mono ?_
    rintro e w3 ⟨⟨vw, rfl, hF⟩, hq⟩
    have HB3 := Hid.mk (HB1.out.trans (hq.mono HB1.out.size))
    have HR3 : Hid (w3.heap[w.heap.size + 1]? = _) := (hq.block _ (lt_of_row HR1.out)).trans HR1.out
    have HL := Hid.mk (lt_of_row HR1.out)
    clear hq
    have hF2 := hF.out.here
    obtain ⟨ta, tb, tc, td, ⟨teo, ten, tec⟩, tf, ⟨tgo, tgn, tgc⟩, ⟨tio, tinn, tic⟩, ⟨tjo, tjn, tjc⟩, esht⟩ := inT_shape hF2
    simp only [Value.agg.injEq, Array.mk.injEq, List.cons.injEq, and_true] at esht
    obtain ⟨rfl, rfl, rfl, rfl, rfl, rfl, rfl, rfl, rfl⟩ := esht
    clear hF2
    clear c0 c1 c2 c3 c4
    have g0 := cell_of_row _ _ 0 _ _ _ HR3.out
    have f0 := frozen_row9 (j := 0) HR3.out
    have g1 := cell_of_row _ _ 1 _ _ _ HR3.out
    have f1 := frozen_row9 (j := 1) HR3.out
    have g2 := cell_of_row _ _ 2 _ _ _ HR3.out
    have f2 := frozen_row9 (j := 2) HR3.out
    have g3 := cell_of_row _ _ 3 _ _ _ HR3.out
    have f3 := frozen_row9 (j := 3) HR3.out
    have g4 := cell_of_row _ _ 4 _ _ _ HR3.out
    have f4 := frozen_row9 (j := 4) HR3.out
    have g5 := cell_of_row _ _ 5 _ _ _ HR3.out
    have f5 := frozen_row9 (j := 5) HR3.out
    have g6 := cell_of_row _ _ 6 _ _ _ HR3.out
    have f6 := frozen_row9 (j := 6) HR3.out
    have g7 := cell_of_row _ _ 7 _ _ _ HR3.out
    have f7 := frozen_row9 (j := 7) HR3.out
    have g8 := cell_of_row _ _ 8 _ _ _ HR3.out
    have f8 := frozen_row9 (j := 8) HR3.out
    go_wp2_with fail
    (try simp only [Exit.inBlock, Exit.then])
    generalize hz9 : ((((((((w3.setCell ⟨w.heap.size + 1, 0, none⟩ (.bool ta)).setCell ⟨w.heap.size + 1, 1, none⟩ (.bool tb)).setCell ⟨w.heap.size + 1, 2, none⟩ (.bool tc)).setCell ⟨w.heap.size + 1, 3, none⟩ (.bool td)).setCell ⟨w.heap.size + 1, 4, none⟩ (.slice teo ten tec)).setCell ⟨w.heap.size + 1, 5, none⟩ (.bool tf)).setCell ⟨w.heap.size + 1, 6, none⟩ (.slice tgo tgn tgc)).setCell ⟨w.heap.size + 1, 7, none⟩ (.slice tio tinn tic)).setCell ⟨w.heap.size + 1, 8, none⟩ (.slice tjo tjn tjc) = wz
    obtain ⟨e7, k7, s7⟩ := rbox_set9 w3 _ _ _ _ _ _ _ _ _ _ _ _ _ _ _ _ _ _ _ _ (HR3.out) wz hz9.symm
    have d0 := cell_of_row _ _ 0 _ _ _ e7
    have d1 := cell_of_row _ _ 1 _ _ _ e7
    have d2 := cell_of_row _ _ 2 _ _ _ e7
    have d3 := cell_of_row _ _ 3 _ _ _ e7
    have d4 := cell_of_row _ _ 4 _ _ _ e7
    have d5 := cell_of_row _ _ 5 _ _ _ e7
    have d6 := cell_of_row _ _ 6 _ _ _ e7
    have d7 := cell_of_row _ _ 7 _ _ _ e7
    have d8 := cell_of_row _ _ 8 _ _ _ e7
    have hbz : Below w.heap.size w wz := by rw [← hz9]; exact (((((((((HB3.out.setCell (p := ⟨w.heap.size + 1, 0, none⟩) (by show w.heap.size ≤ w.heap.size + 1; omega) _).setCell (p := ⟨w.heap.size + 1, 1, none⟩) (by show w.heap.size ≤ w.heap.size + 1; omega) _).setCell (p := ⟨w.heap.size + 1, 2, none⟩) (by show w.heap.size ≤ w.heap.size + 1; omega) _).setCell (p := ⟨w.heap.size + 1, 3, none⟩) (by show w.heap.size ≤ w.heap.size + 1; omega) _).setCell (p := ⟨w.heap.size + 1, 4, none⟩) (by show w.heap.size ≤ w.heap.size + 1; omega) _).setCell (p := ⟨w.heap.size + 1, 5, none⟩) (by show w.heap.size ≤ w.heap.size + 1; omega) _).setCell (p := ⟨w.heap.size + 1, 6, none⟩) (by show w.heap.size ≤ w.heap.size + 1; omega) _).setCell (p := ⟨w.heap.size + 1, 7, none⟩) (by show w.heap.size ≤ w.heap.size + 1; omega) _).setCell (p := ⟨w.heap.size + 1, 8, none⟩) (by show w.heap.size ≤ w.heap.size + 1; omega) _)
    refine bodyPost_ret (v := .tuple #[.agg #[.bool ta, .bool tb, .bool tc, .bool td, .slice teo ten tec, .bool tf, .slice tgo tgn tgc, .slice tio tinn tic, .slice tjo tjn tjc], .int .i64 0]) (by simp [results, Tryz.results6, go_sem, d0, d1, d2, d3, d4, d5, d6, d7, d8]) rfl ?_
    exact ⟨⟨_, rfl, Hid.mk ((hF.out.set s7 (fun b hb => k7 b (by have := HL.out; omega))).mono (by have := HL.out; omega))⟩, hbz⟩

/-- THE PROGRAM'S Of -/
theorem w_sOf (hv : Nat) (V : VT) (vv : Value) (w : World) (hI : InH w hv V vv) : Calls Tryz.prog 6 #[vv] w fun e w' => (∃ v, e = .returned (.tuple #[v, .int .i64 (if formN hv V then 0 else 1)]) ∧ Hid (FrT w.heap.size w' 10 (if formN hv V then nrN 8 V else ttNe) v)) ∧ Below w.heap.size w w' := by
  have hI0 := hI
  cases hv with
  | zero => exact hI.elim
  | succ m =>
    obtain ⟨io, icap, ko, kcap, rfl, _⟩ := hI.open
    exact of_step _ _ _ _ _ _ _ _ _ w _ _ (Hid.mk fun u hu => w_vFormed (m + 1) V _ u (hI0.keep hu)) (Hid.mk fun hf u hu => w_near 8 (Nat.le_refl _) (m + 1) V _ u (hI0.keep hu) hf)
end Go.Proofs.YtdjoelhiahpmlaaGreat
namespace Go.Proofs.YtdjoelhiahpmlaaGreat
open Go.RowKit Go.Shelf Go.Sort
set_option linter.unusedVariables false
set_option linter.unusedSimpArgs false
attribute [local go_sem] Oper.semAt_some

set_option maxRecDepth 100000 in
set_option maxHeartbeats 6400000 in
theorem of_law1 (kd : Int) (nm tx : ByteArray) (io : Option Addr) (N icap : Nat) (ko : Option Addr) (K kcap : Nat) (w : World) (T : TT) (s1 : Bool) (hh : Nat)
    (H0 : Hid (∀ u, Calls Tryz.prog 4 #[] u fun e w' => e = .returned (.bool true) ∧ Below u.heap.size u w'))
    (HS : Hid (∀ u, Below w.heap.size w u → Calls Tryz.prog 5 #[.agg #[.int .i64 kd, .string nm, .string tx, .slice io N icap, .slice ko K kcap]] u fun e w' => e = .returned (.bool s1) ∧ Below u.heap.size u w'))
    (HO : Hid (∀ u, Below w.heap.size w u → Calls Tryz.prog 6 #[.agg #[.int .i64 kd, .string nm, .string tx, .slice io N icap, .slice ko K kcap]] u fun e w' => (∃ v, e = .returned (.tuple #[v, .int .i64 1]) ∧ Hid (FrT u.heap.size w' 10 T v)) ∧ Below u.heap.size u w'))
    (HR : Hid (∀ u, Below w.heap.size w u → Calls Tryz.prog 7 #[.agg #[.int .i64 kd, .string nm, .string tx, .slice io N icap, .slice ko K kcap]] u fun e w' => (∃ v, e = .returned (.tuple #[v, .int .i64 1]) ∧ Hid (FrT u.heap.size w' 10 T v)) ∧ Below u.heap.size u w'))
    (HM : Hid (∀ u va vb, InT u 10 T va → InT u 10 T vb → Calls Tryz.prog 8 #[va, vb] u fun e w' => e = .returned (.bool true) ∧ Below u.heap.size u w')) :
    Calls Tryz.prog 3 #[.agg #[.int .i64 kd, .string nm, .string tx, .slice io N icap, .slice ko K kcap]] w fun e w' => e = .returned (.bool true) ∧ Below w.heap.size w w' := by
  have HX0 := Hid.mk (bx1_new w #[.int .i64 kd, .string nm, .string tx, .slice io N icap, .slice ko K kcap] 25)
  obtain ⟨w0, hw0⟩ : ∃ w0, w.alloc (.cells #[.int .i64 kd, .string nm, .string tx, .slice io N icap, .slice ko K kcap] 25) = w0 := ⟨_, rfl⟩
  rw [hw0] at HX0
  have a0 : w0.cell? ⟨w.heap.size, 0, none⟩ = _ := HX0.out.one 0
  have a1 : w0.cell? ⟨w.heap.size, 1, none⟩ = _ := HX0.out.one 1
  have a2 : w0.cell? ⟨w.heap.size, 2, none⟩ = _ := HX0.out.one 2
  have a3 : w0.cell? ⟨w.heap.size, 3, none⟩ = _ := HX0.out.one 3
  have a4 : w0.cell? ⟨w.heap.size, 4, none⟩ = _ := HX0.out.one 4
  go_enter Tryz.func3, Tryz.ntmps3
  go_wp2_with fail
  refine (H0.out _).mono ?_
  rintro e w1 ⟨rfl, hq⟩
  have HX1 := Hid.mk (HX0.out.keep hq)
  clear hq hw0
  clear a0 a1 a2 a3 a4
  have a0 : w1.cell? ⟨w.heap.size, 0, none⟩ = _ := HX1.out.one 0
  have a1 : w1.cell? ⟨w.heap.size, 1, none⟩ = _ := HX1.out.one 1
  have a2 : w1.cell? ⟨w.heap.size, 2, none⟩ = _ := HX1.out.one 2
  have a3 : w1.cell? ⟨w.heap.size, 3, none⟩ = _ := HX1.out.one 3
  have a4 : w1.cell? ⟨w.heap.size, 4, none⟩ = _ := HX1.out.one 4
  go_wp2_with fail
  refine (HS.out _ HX1.out.below).mono ?_
  rintro e w2 ⟨rfl, hq⟩
  have HX2 := Hid.mk (HX1.out.keep hq)
  clear hq
  clear a0 a1 a2 a3 a4
  have a0 : w2.cell? ⟨w.heap.size, 0, none⟩ = _ := HX2.out.one 0
  have a1 : w2.cell? ⟨w.heap.size, 1, none⟩ = _ := HX2.out.one 1
  have a2 : w2.cell? ⟨w.heap.size, 2, none⟩ = _ := HX2.out.one 2
  have a3 : w2.cell? ⟨w.heap.size, 3, none⟩ = _ := HX2.out.one 3
  have a4 : w2.cell? ⟨w.heap.size, 4, none⟩ = _ := HX2.out.one 4
  cases s1 with
  | false =>
    go_wp2_with fail
    go_ret
    exact ⟨rfl, HX2.out.below⟩
  | true =>
    go_wp2_with fail
    refine (HO.out _ HX2.out.below).mono ?_
    rintro e w3 ⟨⟨vw, rfl, hF⟩, hq⟩
    have HX3 := Hid.mk (HX2.out.keep hq)
    have hF2 := hF.out.here
    obtain ⟨ta, tb, tc, td, ⟨teo, ten, tec⟩, tf, ⟨tgo, tgn, tgc⟩, ⟨tio, tinn, tic⟩, ⟨tjo, tjn, tjc⟩, esht⟩ := inT_shape hF2
    simp only [Value.agg.injEq, Array.mk.injEq, List.cons.injEq, and_true] at esht
    obtain ⟨rfl, rfl, rfl, rfl, rfl, rfl, rfl, rfl, rfl⟩ := esht
    clear a0 a1 a2 a3 a4
    obtain ⟨TB, hTB⟩ : ∃ TB, w3.heap.size = TB := ⟨_, rfl⟩
    obtain ⟨w4, hw4⟩ : ∃ w4, w3.alloc (.cells #[.bool ta, .bool tb, .bool tc, .bool td, .slice teo ten tec, .bool tf, .slice tgo tgn tgc, .slice tio tinn tic, .slice tjo tjn tjc] 32) = w4 := ⟨_, rfl⟩
    have hb4 : Below w3.heap.size w3 w4 := by rw [← hw4]; exact below1 w3 _
    have HX4 := Hid.mk (HX3.out.keep hb4)
    have HT4 := Hid.mk (hF.out.keep hb4)
    have HR4 : Hid (w4.heap[TB]? = some (.cells #[.bool ta, .bool tb, .bool tc, .bool td, .slice teo ten tec, .bool tf, .slice tgo tgn tgc, .slice tio tinn tic, .slice tjo tjn tjc] 32 (0, 0))) := by show _ = _; rw [← hw4, ← hTB]; exact World.alloc_heap_new w3 _
    have HWq := Hid.mk hw4
    have HBq := Hid.mk hTB
    clear hq hF hF2 hb4 hw4 hTB
    go_upto_region 6 with fail
    try rw [HWq.out]
    try rw [HBq.out]
    clear HWq HBq
    have a0 : w4.cell? ⟨w.heap.size, 0, none⟩ = _ := HX4.out.one 0
    have a1 : w4.cell? ⟨w.heap.size, 1, none⟩ = _ := HX4.out.one 1
    have a2 : w4.cell? ⟨w.heap.size, 2, none⟩ = _ := HX4.out.one 2
    have a3 : w4.cell? ⟨w.heap.size, 3, none⟩ = _ := HX4.out.one 3
    have a4 : w4.cell? ⟨w.heap.size, 4, none⟩ = _ := HX4.out.one 4
    go_wp2_with fail
    refine (HR.out _ HX4.out.below).mono ?_
    rintro e w5 ⟨⟨vx, rfl, hF⟩, hq⟩
    have HX5 := Hid.mk (HX4.out.keep hq)
    have HT5 := Hid.mk (HT4.out.keep hq)
    have HR5 : Hid (w5.heap[TB]? = _) := (hq.block _ (lt_of_row HR4.out)).trans HR4.out
    have hF2 := hF.out.here
    obtain ⟨ua, ub, uc, ud, ⟨ueo, uen, uec⟩, uf, ⟨ugo, ugn, ugc⟩, ⟨uio, uinn, uic⟩, ⟨ujo, ujn, ujc⟩, esht⟩ := inT_shape hF2
    simp only [Value.agg.injEq, Array.mk.injEq, List.cons.injEq, and_true] at esht
    obtain ⟨rfl, rfl, rfl, rfl, rfl, rfl, rfl, rfl, rfl⟩ := esht
    clear a0 a1 a2 a3 a4
    obtain ⟨UB, hUB⟩ : ∃ UB, w5.heap.size = UB := ⟨_, rfl⟩
    obtain ⟨w6, hw6⟩ : ∃ w6, w5.alloc (.cells #[.bool ua, .bool ub, .bool uc, .bool ud, .slice ueo uen uec, .bool uf, .slice ugo ugn ugc, .slice uio uinn uic, .slice ujo ujn ujc] 32) = w6 := ⟨_, rfl⟩
    have hb6 : Below w5.heap.size w5 w6 := by rw [← hw6]; exact below1 w5 _
    have HX6 := Hid.mk (HX5.out.keep hb6)
    have HT6 := Hid.mk (HT5.out.keep hb6)
    have HU6 := Hid.mk (hF.out.keep hb6)
    have HR6 : Hid (w6.heap[TB]? = _) := (hb6.block _ (lt_of_row HR5.out)).trans HR5.out
    have HS6 : Hid (w6.heap[UB]? = some (.cells #[.bool ua, .bool ub, .bool uc, .bool ud, .slice ueo uen uec, .bool uf, .slice ugo ugn ugc, .slice uio uinn uic, .slice ujo ujn ujc] 32 (0, 0))) := by show _ = _; rw [← hw6, ← hUB]; exact World.alloc_heap_new w5 _
    have HWq := Hid.mk hw6
    have HBq := Hid.mk hUB
    clear hq hF hF2 hb6 hw6 hUB
    go_upto_region 7 with fail
    try rw [HWq.out]
    try rw [HBq.out]
    clear HWq HBq
    have t0 := cell_of_row _ _ 0 _ _ _ HR6.out
    have t1 := cell_of_row _ _ 1 _ _ _ HR6.out
    have t2 := cell_of_row _ _ 2 _ _ _ HR6.out
    have t3 := cell_of_row _ _ 3 _ _ _ HR6.out
    have t4 := cell_of_row _ _ 4 _ _ _ HR6.out
    have t5 := cell_of_row _ _ 5 _ _ _ HR6.out
    have t6 := cell_of_row _ _ 6 _ _ _ HR6.out
    have t7 := cell_of_row _ _ 7 _ _ _ HR6.out
    have t8 := cell_of_row _ _ 8 _ _ _ HR6.out
    have s0 := cell_of_row _ _ 0 _ _ _ HS6.out
    have s1 := cell_of_row _ _ 1 _ _ _ HS6.out
    have s2 := cell_of_row _ _ 2 _ _ _ HS6.out
    have s3 := cell_of_row _ _ 3 _ _ _ HS6.out
    have s4 := cell_of_row _ _ 4 _ _ _ HS6.out
    have s5 := cell_of_row _ _ 5 _ _ _ HS6.out
    have s6 := cell_of_row _ _ 6 _ _ _ HS6.out
    have s7 := cell_of_row _ _ 7 _ _ _ HS6.out
    have s8 := cell_of_row _ _ 8 _ _ _ HS6.out
    go_wp2_with fail
    refine (HM.out _ _ _ HT6.out.here HU6.out.here).mono ?_
    rintro e w7 ⟨rfl, hq⟩
    have HX7 := Hid.mk (HX6.out.keep hq)
    have HT7 := Hid.mk (HT6.out.keep hq)
    have HR7 : Hid (w7.heap[TB]? = _) := (hq.block _ (lt_of_row HR6.out)).trans HR6.out
    clear hq t0 s0 t1 s1 t2 s2 t3 s3 t4 s4 t5 s5 t6 s6 t7 s7 t8 s8
    go_wp2_with fail
    go_ret
    exact ⟨rfl, HX7.out.below⟩

set_option maxRecDepth 100000 in
set_option maxHeartbeats 6400000 in
theorem of_law0 (kd : Int) (nm tx : ByteArray) (io : Option Addr) (N icap : Nat) (ko : Option Addr) (K kcap : Nat) (w : World) (T : TT) (s1 : Bool) (hh : Nat)
    (H0 : Hid (∀ u, Calls Tryz.prog 4 #[] u fun e w' => e = .returned (.bool true) ∧ Below u.heap.size u w'))
    (HS : Hid (∀ u, Below w.heap.size w u → Calls Tryz.prog 5 #[.agg #[.int .i64 kd, .string nm, .string tx, .slice io N icap, .slice ko K kcap]] u fun e w' => e = .returned (.bool s1) ∧ Below u.heap.size u w'))
    (HO : Hid (∀ u, Below w.heap.size w u → Calls Tryz.prog 6 #[.agg #[.int .i64 kd, .string nm, .string tx, .slice io N icap, .slice ko K kcap]] u fun e w' => (∃ v, e = .returned (.tuple #[v, .int .i64 0]) ∧ Hid (FrT u.heap.size w' 10 T v)) ∧ Below u.heap.size u w'))
    (HR : Hid (∀ u, Below w.heap.size w u → Calls Tryz.prog 7 #[.agg #[.int .i64 kd, .string nm, .string tx, .slice io N icap, .slice ko K kcap]] u fun e w' => (∃ v, e = .returned (.tuple #[v, .int .i64 0]) ∧ Hid (FrT u.heap.size w' 10 T v)) ∧ Below u.heap.size u w'))
    (HM : Hid (∀ u va vb, InT u 10 T va → InT u 10 T vb → Calls Tryz.prog 8 #[va, vb] u fun e w' => e = .returned (.bool true) ∧ Below u.heap.size u w'))
    (HF : Hid (∀ u v, InT u 10 T v → Calls Tryz.prog 9 #[v] u fun e w' => e = .returned (.bool true) ∧ Below u.heap.size u w'))
    (HI : Hid (∀ u v, Below w.heap.size w u → InT u 10 T v → Calls Tryz.prog 10 #[.agg #[.int .i64 kd, .string nm, .string tx, .slice io N icap, .slice ko K kcap], v] u fun e w' => e = .returned (.bool true) ∧ Below u.heap.size u w'))
    (HH : Hid (s1 = true → ∀ u v, InT u 10 T v → Calls Tryz.prog 11 #[v] u fun e w' => e = .returned (.int .i64 (hh : Int)) ∧ Below u.heap.size u w'))
    (HL : Hid (hh ≤ 8)) :
    Calls Tryz.prog 3 #[.agg #[.int .i64 kd, .string nm, .string tx, .slice io N icap, .slice ko K kcap]] w fun e w' => e = .returned (.bool true) ∧ Below w.heap.size w w' := by
  have HX0 := Hid.mk (bx1_new w #[.int .i64 kd, .string nm, .string tx, .slice io N icap, .slice ko K kcap] 25)
  obtain ⟨w0, hw0⟩ : ∃ w0, w.alloc (.cells #[.int .i64 kd, .string nm, .string tx, .slice io N icap, .slice ko K kcap] 25) = w0 := ⟨_, rfl⟩
  rw [hw0] at HX0
  have a0 : w0.cell? ⟨w.heap.size, 0, none⟩ = _ := HX0.out.one 0
  have a1 : w0.cell? ⟨w.heap.size, 1, none⟩ = _ := HX0.out.one 1
  have a2 : w0.cell? ⟨w.heap.size, 2, none⟩ = _ := HX0.out.one 2
  have a3 : w0.cell? ⟨w.heap.size, 3, none⟩ = _ := HX0.out.one 3
  have a4 : w0.cell? ⟨w.heap.size, 4, none⟩ = _ := HX0.out.one 4
  go_enter Tryz.func3, Tryz.ntmps3
  go_wp2_with fail
  refine (H0.out _).mono ?_
  rintro e w1 ⟨rfl, hq⟩
  have HX1 := Hid.mk (HX0.out.keep hq)
  clear hq hw0
  clear a0 a1 a2 a3 a4
  have a0 : w1.cell? ⟨w.heap.size, 0, none⟩ = _ := HX1.out.one 0
  have a1 : w1.cell? ⟨w.heap.size, 1, none⟩ = _ := HX1.out.one 1
  have a2 : w1.cell? ⟨w.heap.size, 2, none⟩ = _ := HX1.out.one 2
  have a3 : w1.cell? ⟨w.heap.size, 3, none⟩ = _ := HX1.out.one 3
  have a4 : w1.cell? ⟨w.heap.size, 4, none⟩ = _ := HX1.out.one 4
  go_wp2_with fail
  refine (HS.out _ HX1.out.below).mono ?_
  rintro e w2 ⟨rfl, hq⟩
  have HX2 := Hid.mk (HX1.out.keep hq)
  clear hq
  clear a0 a1 a2 a3 a4
  have a0 : w2.cell? ⟨w.heap.size, 0, none⟩ = _ := HX2.out.one 0
  have a1 : w2.cell? ⟨w.heap.size, 1, none⟩ = _ := HX2.out.one 1
  have a2 : w2.cell? ⟨w.heap.size, 2, none⟩ = _ := HX2.out.one 2
  have a3 : w2.cell? ⟨w.heap.size, 3, none⟩ = _ := HX2.out.one 3
  have a4 : w2.cell? ⟨w.heap.size, 4, none⟩ = _ := HX2.out.one 4
  cases s1 with
  | false =>
    go_wp2_with fail
    go_ret
    exact ⟨rfl, HX2.out.below⟩
  | true =>
    go_wp2_with fail
    refine (HO.out _ HX2.out.below).mono ?_
    rintro e w3 ⟨⟨vw, rfl, hF⟩, hq⟩
    have HX3 := Hid.mk (HX2.out.keep hq)
    have hF2 := hF.out.here
    obtain ⟨ta, tb, tc, td, ⟨teo, ten, tec⟩, tf, ⟨tgo, tgn, tgc⟩, ⟨tio, tinn, tic⟩, ⟨tjo, tjn, tjc⟩, esht⟩ := inT_shape hF2
    simp only [Value.agg.injEq, Array.mk.injEq, List.cons.injEq, and_true] at esht
    obtain ⟨rfl, rfl, rfl, rfl, rfl, rfl, rfl, rfl, rfl⟩ := esht
    clear a0 a1 a2 a3 a4
    obtain ⟨TB, hTB⟩ : ∃ TB, w3.heap.size = TB := ⟨_, rfl⟩
    obtain ⟨w4, hw4⟩ : ∃ w4, w3.alloc (.cells #[.bool ta, .bool tb, .bool tc, .bool td, .slice teo ten tec, .bool tf, .slice tgo tgn tgc, .slice tio tinn tic, .slice tjo tjn tjc] 32) = w4 := ⟨_, rfl⟩
    have hb4 : Below w3.heap.size w3 w4 := by rw [← hw4]; exact below1 w3 _
    have HX4 := Hid.mk (HX3.out.keep hb4)
    have HT4 := Hid.mk (hF.out.keep hb4)
    have HR4 : Hid (w4.heap[TB]? = some (.cells #[.bool ta, .bool tb, .bool tc, .bool td, .slice teo ten tec, .bool tf, .slice tgo tgn tgc, .slice tio tinn tic, .slice tjo tjn tjc] 32 (0, 0))) := by show _ = _; rw [← hw4, ← hTB]; exact World.alloc_heap_new w3 _
    have HWq := Hid.mk hw4
    have HBq := Hid.mk hTB
    clear hq hF hF2 hb4 hw4 hTB
    go_upto_region 6 with fail
    try rw [HWq.out]
    try rw [HBq.out]
    clear HWq HBq
    have a0 : w4.cell? ⟨w.heap.size, 0, none⟩ = _ := HX4.out.one 0
    have a1 : w4.cell? ⟨w.heap.size, 1, none⟩ = _ := HX4.out.one 1
    have a2 : w4.cell? ⟨w.heap.size, 2, none⟩ = _ := HX4.out.one 2
    have a3 : w4.cell? ⟨w.heap.size, 3, none⟩ = _ := HX4.out.one 3
    have a4 : w4.cell? ⟨w.heap.size, 4, none⟩ = _ := HX4.out.one 4
    go_wp2_with fail
    refine (HR.out _ HX4.out.below).mono ?_
    rintro e w5 ⟨⟨vx, rfl, hF⟩, hq⟩
    have HX5 := Hid.mk (HX4.out.keep hq)
    have HT5 := Hid.mk (HT4.out.keep hq)
    have HR5 : Hid (w5.heap[TB]? = _) := (hq.block _ (lt_of_row HR4.out)).trans HR4.out
    have hF2 := hF.out.here
    obtain ⟨ua, ub, uc, ud, ⟨ueo, uen, uec⟩, uf, ⟨ugo, ugn, ugc⟩, ⟨uio, uinn, uic⟩, ⟨ujo, ujn, ujc⟩, esht⟩ := inT_shape hF2
    simp only [Value.agg.injEq, Array.mk.injEq, List.cons.injEq, and_true] at esht
    obtain ⟨rfl, rfl, rfl, rfl, rfl, rfl, rfl, rfl, rfl⟩ := esht
    clear a0 a1 a2 a3 a4
    obtain ⟨UB, hUB⟩ : ∃ UB, w5.heap.size = UB := ⟨_, rfl⟩
    obtain ⟨w6, hw6⟩ : ∃ w6, w5.alloc (.cells #[.bool ua, .bool ub, .bool uc, .bool ud, .slice ueo uen uec, .bool uf, .slice ugo ugn ugc, .slice uio uinn uic, .slice ujo ujn ujc] 32) = w6 := ⟨_, rfl⟩
    have hb6 : Below w5.heap.size w5 w6 := by rw [← hw6]; exact below1 w5 _
    have HX6 := Hid.mk (HX5.out.keep hb6)
    have HT6 := Hid.mk (HT5.out.keep hb6)
    have HU6 := Hid.mk (hF.out.keep hb6)
    have HR6 : Hid (w6.heap[TB]? = _) := (hb6.block _ (lt_of_row HR5.out)).trans HR5.out
    have HS6 : Hid (w6.heap[UB]? = some (.cells #[.bool ua, .bool ub, .bool uc, .bool ud, .slice ueo uen uec, .bool uf, .slice ugo ugn ugc, .slice uio uinn uic, .slice ujo ujn ujc] 32 (0, 0))) := by show _ = _; rw [← hw6, ← hUB]; exact World.alloc_heap_new w5 _
    have HWq := Hid.mk hw6
    have HBq := Hid.mk hUB
    clear hq hF hF2 hb6 hw6 hUB
    go_upto_region 7 with fail
    try rw [HWq.out]
    try rw [HBq.out]
    clear HWq HBq
    have t0 := cell_of_row _ _ 0 _ _ _ HR6.out
    have t1 := cell_of_row _ _ 1 _ _ _ HR6.out
    have t2 := cell_of_row _ _ 2 _ _ _ HR6.out
    have t3 := cell_of_row _ _ 3 _ _ _ HR6.out
    have t4 := cell_of_row _ _ 4 _ _ _ HR6.out
    have t5 := cell_of_row _ _ 5 _ _ _ HR6.out
    have t6 := cell_of_row _ _ 6 _ _ _ HR6.out
    have t7 := cell_of_row _ _ 7 _ _ _ HR6.out
    have t8 := cell_of_row _ _ 8 _ _ _ HR6.out
    have s0 := cell_of_row _ _ 0 _ _ _ HS6.out
    have s1 := cell_of_row _ _ 1 _ _ _ HS6.out
    have s2 := cell_of_row _ _ 2 _ _ _ HS6.out
    have s3 := cell_of_row _ _ 3 _ _ _ HS6.out
    have s4 := cell_of_row _ _ 4 _ _ _ HS6.out
    have s5 := cell_of_row _ _ 5 _ _ _ HS6.out
    have s6 := cell_of_row _ _ 6 _ _ _ HS6.out
    have s7 := cell_of_row _ _ 7 _ _ _ HS6.out
    have s8 := cell_of_row _ _ 8 _ _ _ HS6.out
    go_wp2_with fail
    refine (HM.out _ _ _ HT6.out.here HU6.out.here).mono ?_
    rintro e w7 ⟨rfl, hq⟩
    have HX7 := Hid.mk (HX6.out.keep hq)
    have HT7 := Hid.mk (HT6.out.keep hq)
    have HR7 : Hid (w7.heap[TB]? = _) := (hq.block _ (lt_of_row HR6.out)).trans HR6.out
    clear hq t0 s0 t1 s1 t2 s2 t3 s3 t4 s4 t5 s5 t6 s6 t7 s7 t8 s8
    have t0 := cell_of_row _ _ 0 _ _ _ HR7.out
    have t1 := cell_of_row _ _ 1 _ _ _ HR7.out
    have t2 := cell_of_row _ _ 2 _ _ _ HR7.out
    have t3 := cell_of_row _ _ 3 _ _ _ HR7.out
    have t4 := cell_of_row _ _ 4 _ _ _ HR7.out
    have t5 := cell_of_row _ _ 5 _ _ _ HR7.out
    have t6 := cell_of_row _ _ 6 _ _ _ HR7.out
    have t7 := cell_of_row _ _ 7 _ _ _ HR7.out
    have t8 := cell_of_row _ _ 8 _ _ _ HR7.out
    go_wp2_with fail
    refine (HF.out _ _ HT7.out.here).mono ?_
    rintro e w8 ⟨rfl, hq⟩
    have HX8 := Hid.mk (HX7.out.keep hq)
    have HT8 := Hid.mk (HT7.out.keep hq)
    have HR8 : Hid (w8.heap[TB]? = _) := (hq.block _ (lt_of_row HR7.out)).trans HR7.out
    clear hq t0 t1 t2 t3 t4 t5 t6 t7 t8
    have t0 := cell_of_row _ _ 0 _ _ _ HR8.out
    have t1 := cell_of_row _ _ 1 _ _ _ HR8.out
    have t2 := cell_of_row _ _ 2 _ _ _ HR8.out
    have t3 := cell_of_row _ _ 3 _ _ _ HR8.out
    have t4 := cell_of_row _ _ 4 _ _ _ HR8.out
    have t5 := cell_of_row _ _ 5 _ _ _ HR8.out
    have t6 := cell_of_row _ _ 6 _ _ _ HR8.out
    have t7 := cell_of_row _ _ 7 _ _ _ HR8.out
    have t8 := cell_of_row _ _ 8 _ _ _ HR8.out
    have a0 : w8.cell? ⟨w.heap.size, 0, none⟩ = _ := HX8.out.one 0
    have a1 : w8.cell? ⟨w.heap.size, 1, none⟩ = _ := HX8.out.one 1
    have a2 : w8.cell? ⟨w.heap.size, 2, none⟩ = _ := HX8.out.one 2
    have a3 : w8.cell? ⟨w.heap.size, 3, none⟩ = _ := HX8.out.one 3
    have a4 : w8.cell? ⟨w.heap.size, 4, none⟩ = _ := HX8.out.one 4
    go_wp2_with fail
    refine (HI.out _ _ HX8.out.below HT8.out.here).mono ?_
    rintro e w9 ⟨rfl, hq⟩
    have HX9 := Hid.mk (HX8.out.keep hq)
    have HT9 := Hid.mk (HT8.out.keep hq)
    have HR9 : Hid (w9.heap[TB]? = _) := (hq.block _ (lt_of_row HR8.out)).trans HR8.out
    clear hq t0 t1 t2 t3 t4 t5 t6 t7 t8
    clear a0 a1 a2 a3 a4
    have t0 := cell_of_row _ _ 0 _ _ _ HR9.out
    have t1 := cell_of_row _ _ 1 _ _ _ HR9.out
    have t2 := cell_of_row _ _ 2 _ _ _ HR9.out
    have t3 := cell_of_row _ _ 3 _ _ _ HR9.out
    have t4 := cell_of_row _ _ 4 _ _ _ HR9.out
    have t5 := cell_of_row _ _ 5 _ _ _ HR9.out
    have t6 := cell_of_row _ _ 6 _ _ _ HR9.out
    have t7 := cell_of_row _ _ 7 _ _ _ HR9.out
    have t8 := cell_of_row _ _ 8 _ _ _ HR9.out
    go_wp2_with fail
    refine (HH.out (by first | trivial | rfl) _ _ HT9.out.here).mono ?_
    rintro e w10 ⟨rfl, hq⟩
    have HX10 := Hid.mk (HX9.out.keep hq)
    have hl8 : (hh : Int) ≤ 8 := by have := HL.out; omega
    clear hq t0 t1 t2 t3 t4 t5 t6 t7 t8
    go_wp2_with fail
    go_ret
    exact ⟨rfl, HX10.out.below⟩

set_option maxRecDepth 100000 in
/-- THE 3 OF THE NEAR 32E -/
theorem w_ShapeOf (hv : Nat) (V : VT) (vv : Value) (w : World) (hV : InH w (hv + 1) V vv) :
    Calls Tryz.prog 3 #[vv] w fun e w' => e = .returned (.bool true) ∧ Below w.heap.size w w' := by
  have hV2 := hV
  obtain ⟨io, icap, ko, kcap, rfl, a1, a2, a3, a4, a5, a6, a7, hkk, hi⟩ := hV2.open
  cases hf : formN (hv + 1) V with
  | false =>
    exact of_law1 _ _ _ _ _ _ _ _ _ w ttNe _ 0
      (Hid.mk fun u => w_lives9 u)
      (Hid.mk fun u hu => w_small9 (hv + 1) V u _ _ _ _ _ _ _ _ _ (hV.keep hu))
      (Hid.mk fun u hu => by
        have h := w_sOf (hv + 1) V _ u (hV.keep hu)
        rw [hf] at h
        exact h)
      (Hid.mk fun u hu => by
        have h := w_rOf (hv + 1) V _ u (hV.keep hu)
        rw [hf] at h
        exact h)
      (Hid.mk fun u va vb ha hb => by
        have e := w_kSameType 10 ttNe ttNe va vb u ha hb
        have e2 : sameT 10 ttNe ttNe = true := rfl
        rw [e2] at e
        exact e)
  | true =>
    have hg := good_nr 8 (hv + 1) V hf hV.bd
    exact of_law0 _ _ _ _ _ _ _ _ _ w (nrN 8 V) _ (hgN 10 (nrN 8 V))
      (Hid.mk fun u => w_lives9 u)
      (Hid.mk fun u hu => w_small9 (hv + 1) V u _ _ _ _ _ _ _ _ _ (hV.keep hu))
      (Hid.mk fun u hu => by
        have h := w_sOf (hv + 1) V _ u (hV.keep hu)
        rw [hf] at h
        exact h)
      (Hid.mk fun u hu => by
        have h := w_rOf (hv + 1) V _ u (hV.keep hu)
        rw [hf] at h
        exact h)
      (Hid.mk fun u va vb ha hb => by
        have e := w_kSameType 10 (nrN 8 V) (nrN 8 V) va vb u ha hb
        rw [sameT_refl 10 _ hg] at e
        exact e)
      (Hid.mk fun u v hI => by
        have e := w_tFormed 10 (nrN 8 V) v u hI
        rw [fm_nr 8 (hv + 1) V hf] at e
        exact e)
      (Hid.mk fun u v hu hI => by
        have h := w_rIn 10 (hv + 1) V (nrN 8 V) _ v u (hV.keep hu) hf hg hI
        rw [in_nr 8 (hv + 1) V hf] at h
        exact h)
      (Hid.mk fun hs u v hI => w_rHeight 10 (nrN 8 V) v u hI (by
        have h1 := of_decide_eq_true hs
        have h2 := tp_nr 8 10 (hv + 1) V hf
        omega))
      (Hid.mk (hg_nr 8 10 V))
end Go.Proofs.YtdjoelhiahpmlaaGreat
