import Derived.Test.YtjfbbdhmcljhnaaH3
import Derived.Test.YtjfbbdhmcljhnaaHA
namespace Go.Proofs.Ytjfbbdhmcljhnaa
open Go.RowKit Go.Shelf
set_option linter.unusedVariables false
set_option linter.unusedSimpArgs false
attribute [local go_sem] Oper.semAt_some


theorem wr_congr {a b : Int} (h : a % 18446744073709551616 = b % 18446744073709551616) : IntKind.wrap .i64 a = IntKind.wrap .i64 b := by
  unfold IntKind.wrap
  have h' : a % (2 ^ IntKind.i64.bits : Int) = b % (2 ^ IntKind.i64.bits : Int) := h
  rw [h']
theorem wr_mod (a : Int) : IntKind.wrap .i64 a % 18446744073709551616 = a % 18446744073709551616 := by
  show (if (true && decide (a % 18446744073709551616 ≥ 9223372036854775808)) = true then a % 18446744073709551616 - 18446744073709551616 else a % 18446744073709551616) % 18446744073709551616 = _
  split <;> omega
theorem wr_self {a : Int} (h0 : 0 ≤ a) (h1 : a ≤ 9223372036854775807) : IntKind.wrap .i64 a = a := by
  show (if (true && decide (a % 18446744073709551616 ≥ 9223372036854775808)) = true then a % 18446744073709551616 - 18446744073709551616 else a % 18446744073709551616) = _
  rw [if_neg (by simp; omega)]; omega
theorem wr64 (a : Int) : wrap64 a = IntKind.wrap .i64 a := by
  show _ = (if (true && decide (a % 18446744073709551616 ≥ 9223372036854775808)) = true then a % 18446744073709551616 - 18446744073709551616 else a % 18446744073709551616)
  unfold wrap64
  by_cases h : a % 18446744073709551616 ≥ 9223372036854775808
  · rw [if_pos (by simp; omega)]; omega
  · rw [if_neg (by simp; omega)]; omega
theorem wr_sum0 (S k q : Nat) : IntKind.wrap .i64 (IntKind.wrap .i64 (1 + (S : Int)) + IntKind.wrap .i64 ((k : Int) + q)) = IntKind.wrap .i64 (1 + ((S + (q + k + 0) : Nat) : Int)) := by
  apply wr_congr
  have h1 := wr_mod (1 + (S : Int))
  have h2 := wr_mod ((k : Int) + q)
  omega
theorem wr_sum1 (S k q : Nat) : IntKind.wrap .i64 (IntKind.wrap .i64 (IntKind.wrap .i64 (1 + (S : Int)) + IntKind.wrap .i64 ((k : Int) + q)) + 1) = IntKind.wrap .i64 (1 + ((S + (q + k + 1) : Nat) : Int)) := by
  apply wr_congr
  have h1 := wr_mod (1 + (S : Int))
  have h2 := wr_mod ((k : Int) + q)
  have h3 := wr_mod (IntKind.wrap .i64 (1 + (S : Int)) + IntKind.wrap .i64 ((k : Int) + q))
  omega
def sumP (g : Nat → Nat) {N : Nat} (pre : List { i : Nat // i < N }) : Nat := sumL (pre.map fun x => g x.1)
theorem sumP_snoc (g : Nat → Nat) {N : Nat} (pre : List { i : Nat // i < N }) (x : { i : Nat // i < N }) : sumP g (pre ++ [x]) = sumP g pre + g x.1 := by
  unfold sumP; rw [List.map_append, sumL_append]; simp [sumL]
theorem ibox_ownL {β : Type} (m : Nat) (Bx : Nat) (c : Fin 5 → Value) : OwnFrom m (fun (_ : β) W => IBox W Bx c) := fun _ A B row h hg hr => ibox_own m Bx c () A B row h hg hr
theorem IBox.setO {W : World} {B C : Nat} {c : Fin 5 → Value} (h : IBox W B c) (hne : B ≠ C) (u : Value) : IBox (W.setCell ⟨C, 0, none⟩ u) B c :=
  ⟨((grownBy_setCell' W C u).block B (Array.getElem?_eq_some_iff.1 h.row).1 (fun e => hne (by cases e; rfl))).trans h.row⟩

set_option maxRecDepth 100000 in
set_option maxHeartbeats 4000000 in
theorem weight_step (h : Nat) (ih : FwOk h) (kd : Int) (hk3 : kd ≠ 3) (hk4 : kd ≠ 4) (nm tx : ByteArray) (io : Option Addr) (N icap : Nat) (ko : Option Addr) (K kcap : Nat) (ts : List VT) (keys : List ByteArray) (w : World)
    (hi : IIn w h io ts) (hk : KIn w ko keys) (hN : ts.length = N) (hK : keys.length = K) (hcN : N ≤ icap) (hcK : K ≤ kcap) (hN2 : N ≤ 140737488355328) (hks : ∀ k ∈ keys, k.size ≤ 140737488355328)
    (hsz : ∀ i, (hi : i < ts.length) → szN h ts[i] ≤ 10001) (hfo : ∀ i, (hi : i < ts.length) → formN h ts[i] = true) (g : Nat → Nat)
    (hg : ∀ i, (hi : i < ts.length) → g i = wtN h ts[i] + (kyAt keys.length (fun i => keys.getD i .empty) i).size + (if kd = 6 then 1 else 0)) (hG : 1 + sumL ((List.range ts.length).map g) ≤ 9223372036854775807) :
    Calls Try.prog 17 #[.agg #[.int .i64 kd, .string nm, .string tx, .slice io N icap, .slice ko K kcap]] w fun e w' => e = .returned (.int .i64 ((1 + sumL ((List.range ts.length).map g) : Nat) : Int)) ∧ Below w.heap.size w w' := by
  obtain ⟨c, hc1, hc2, hc3⟩ := items_fun hi
  subst hN hK
  have HC1 := Hid.mk hc1
  have HC2 := Hid.mk hc2
  have HC3 := Hid.mk hc3
  have HSZ := Hid.mk hsz
  have HFO := Hid.mk hfo
  have HGG := Hid.mk hg
  have HK := Hid.mk hk
  have HIH := Hid.mk ih
  have HKS : Hid (∀ i, (kyAt keys.length (fun i => keys.getD i .empty) i).size ≤ 140737488355328) := by
    intro i
    unfold kyAt
    split
    · exact key_size hks (by assumption)
    · show 0 ≤ _; omega
  clear hc1 hc2 hc3 hi hsz hfo hg hk ih hks
  refine (callsIn_wide (n := 5)).1 ?_
  refine callsIn_of_wp_marks Try.func17 rfl trivial ?_ rfl
  simp only [Try.ntmps17, List.size_toArray, List.length_cons, List.length_nil, Nat.reduceAdd, Nat.reduceSub, Array.replicate_succ, Array.replicate_zero, List.push_toArray, List.append_toArray, List.nil_append, List.cons_append]
  gi_wp2_with fail
  refine ⟨trivial, (callsIn_wide.2 (w_inside _ _ _ _ _ ⟨kd, nm, tx, io, ts.length, icap, ko, keys.length, kcap, rfl, rfl, rfl, rfl, rfl⟩ _)).mono ?_⟩
  rintro e w1 ⟨rfl, rfl⟩
  gi_wp2_with fail
  obtain ⟨W0, hW0⟩ : ∃ W0, (((w.alloc (.cells #[.int .i64 kd, .string nm, .string tx, .slice io ts.length icap, .slice ko keys.length kcap] 25)).alloc (.cells #[.int .i64 1] 3)).alloc (.cells #[.int .i64 kd, .string nm, .string tx, .slice io ts.length icap, .slice ko keys.length kcap] 25)) = W0 := ⟨_, rfl⟩
  have hsz0 : W0.heap.size = w.heap.size + 3 := by rw [← hW0]; simp
  have hB0 : Below w.heap.size w W0 := by rw [← hW0]; exact (((Below.refl _ w).alloc (Nat.le_refl _) _).alloc (by simp) _).alloc (by simp; omega) _
  have bS : Boxed W0 (w.heap.size + 1) 3 (.int .i64 1) := by
    rw [← hW0]
    have := (Boxed.new (w.alloc (.cells #[.int .i64 kd, .string nm, .string tx, .slice io ts.length icap, .slice ko keys.length kcap] 25)) 3 (.int .i64 1)).alloc (.cells #[.int .i64 kd, .string nm, .string tx, .slice io ts.length icap, .slice ko keys.length kcap] 25)
    simpa only [World.size_alloc] using this
  obtain ⟨cv, hcv⟩ : ∃ cv : Fin 5 → Value, cv = (fun j => match j with | 0 => .int .i64 kd | 1 => .string nm | 2 => .string tx | 3 => .slice io ts.length icap | 4 => .slice ko keys.length kcap) := ⟨_, rfl⟩
  have hcv0 : cv 0 = .int .i64 kd := by rw [hcv]
  have bV : IBox W0 w.heap.size cv := by
    have b0 : IBox (w.alloc (.cells #[.int .i64 kd, .string nm, .string tx, .slice io ts.length icap, .slice ko keys.length kcap] 25)) w.heap.size cv := by rw [hcv]; exact ⟨World.alloc_heap_new w _⟩
    rw [← hW0]
    exact (b0.low (below1 _ _)).low (below1 _ _)
  clear hcv
  have hS0 : InSt W0 w.heap.size (w.heap.size + 1 + 1) ts.length keys.length io icap ko kcap c (fun i => keys.getD i .empty) := by
    refine ⟨by rw [← hW0]; simp [go_sem], by rw [← hW0]; simp [go_sem], fun i hi => ?_, fun i hi => ?_⟩
    · obtain ⟨b, off, e, hb, a0, a1, a2, a3, a4⟩ := HC1.out i hi
      exact ⟨b, off, e, hb, (hB0.cell (p := ⟨_, _, _⟩) hb).trans a0, (hB0.cell (p := ⟨_, _, _⟩) hb).trans a1, (hB0.cell (p := ⟨_, _, _⟩) hb).trans a2, (hB0.cell (p := ⟨_, _, _⟩) hb).trans a3, (hB0.cell (p := ⟨_, _, _⟩) hb).trans a4⟩
    · obtain ⟨b, off, e, hb, hr⟩ := HK.out.row (by omega)
      exact ⟨b, off, e, hb, (hB0.cell (p := ⟨_, _, _⟩) hb).trans (hr i hi)⟩
  have hw0 : IntKind.wrap .i64 (1 + ((sumP g ([] : List { i : Nat // i < ts.length }) : Nat) : Int)) = 1 := by simp [sumP, sumL]; decide
  rw [hW0]
  clear hW0
  refine wpIn_rangeFunc_ownH rfl (by omega) (gf := 67) (lb := #[.pointer (some ⟨w.heap.size + 1 + 1, 0, none⟩)]) rfl trivial (enters_of Try.func67 (by kernel_rfl) rfl)
    (inside_stops (5 - 1) (by omega) w.heap.size (w.heap.size + 1 + 1) ts.length keys.length io icap ko kcap c (fun i => keys.getD i .empty) hcN hcK hN2 HC3.out W0 (by omega) hS0) (fun h k => h.trans k) (KpV.put (by omega)) (Below.refl _ _) (fun _ => rfl)
    (fun pre W => (Boxed W (w.heap.size + 1) 3 (.int .i64 (IntKind.wrap .i64 (1 + ((sumP g pre : Nat) : Int)))) ∧ IBox W w.heap.size cv) ∧ Below w.heap.size w W)
    (fun _ _ _ => False)
    (OwnFrom.and (OwnFrom.and (Own.from (boxed_own _ _ _) _) (ibox_ownL _ _ _)) (ownFrom_below (Nat.le_refl _) (by omega)))
    (fun _ _ _ _ _ hs _ _ => hs)
    ⟨⟨by rw [hw0]; exact bS, bV⟩, hB0⟩
    (fun x a' W => ∃ Bx, w.heap.size + 1 < Bx ∧ IBox W Bx (c x.1) ∧ a' = { tmps := #[.agg #[.int .i64 kd, .string nm, .string tx, .slice io ts.length icap, .slice ko keys.length kcap], .pointer (some ⟨w.heap.size, 0, none⟩), .int .i64 0, undef, undef, .pointer (some ⟨w.heap.size + 1, 0, none⟩), .string (kyAt keys.length (fun i => keys.getD i .empty) x.1), .pointer (some ⟨Bx, 0, none⟩), .pointer (some ⟨w.heap.size, 0, none⟩), .int .i64 kd, .bool false, .bool false, undef, undef, undef, undef, undef, undef, undef, undef, .bool false, .bool false, undef, undef, undef, undef, .agg #[.int .i64 kd, .string nm, .string tx, .slice io ts.length icap, .slice ko keys.length kcap], .func (.func 67) #[] #[.pointer (some ⟨w.heap.size + 1 + 1, 0, none⟩)], .string (kyAt keys.length (fun i => keys.getD i .empty) x.1), .agg #[c x.1 0, c x.1 1, c x.1 2, c x.1 3, c x.1 4], undef, undef, undef, undef, undef, undef, undef, undef, undef, undef, undef, undef, undef], defers := [] })
    (fun x a' _ X Y row hs hg hr => by
      obtain ⟨Bx, h1, h2, h3⟩ := hs
      exact ⟨Bx, h1, ibox_own _ Bx (c x.1) () X Y row h2 hg hr, h3⟩)
    ?assign ?body ?done ?stop
  case assign =>
    rintro l pre x W KK ⟨⟨bS1, bV1⟩, hB1⟩ hKK
    obtain ⟨ik, inm, itx, iio, iN, iicap, iko, iK, ikcap, o0, o1, o2, o3, o4⟩ := HC3.out x.1 x.2
    have hI : IBox (W.alloc (.cells #[c x.1 0, c x.1 1, c x.1 2, c x.1 3, c x.1 4] 25)) W.heap.size (c x.1) := ⟨World.alloc_heap_new W _⟩
    unfold encI
    dsimp only
    have FIN := hKK { tmps := #[.agg #[.int .i64 kd, .string nm, .string tx, .slice io ts.length icap, .slice ko keys.length kcap], .pointer (some ⟨w.heap.size, 0, none⟩), .int .i64 0, undef, undef, .pointer (some ⟨w.heap.size + 1, 0, none⟩), .string (kyAt keys.length (fun i => keys.getD i .empty) x.1), .pointer (some ⟨W.heap.size, 0, none⟩), .pointer (some ⟨w.heap.size, 0, none⟩), .int .i64 kd, .bool false, .bool false, undef, undef, undef, undef, undef, undef, undef, undef, .bool false, .bool false, undef, undef, undef, undef, .agg #[.int .i64 kd, .string nm, .string tx, .slice io ts.length icap, .slice ko keys.length kcap], .func (.func 67) #[] #[.pointer (some ⟨w.heap.size + 1 + 1, 0, none⟩)], .string (kyAt keys.length (fun i => keys.getD i .empty) x.1), .agg #[c x.1 0, c x.1 1, c x.1 2, c x.1 3, c x.1 4], undef, undef, undef, undef, undef, undef, undef, undef, undef, undef, undef, undef, undef], defers := [] } _ ((KeepsOthers.alloc _ _).from _) (KpV.of_below hB1.size (below1 W _)) ⟨⟨bS1.alloc _, bV1.low (below1 _ _)⟩, hB1.alloc hB1.size _⟩ ⟨W.heap.size, bS1.lt, hI, rfl⟩
    rw [o0, o1, o2, o3, o4] at FIN ⊢
    clear hKK hI bS1 hB1 bV1
    gi_wp2_with fail
    exact FIN
  case body =>
    rintro l pre x a' W hl ⟨r, hr⟩ ⟨⟨bS1, bV1⟩, hB1⟩ ⟨Bx, hBx, bX, rfl⟩ hlt
    obtain ⟨c0, c1, c2, c3, c4⟩ := bX.cell
    have hIn : Hid (InH W h ts[x.1] (.agg #[c x.1 0, c x.1 1, c x.1 2, c x.1 3, c x.1 4])) := (HC2.out x.1 x.2).keep hB1
    obtain ⟨ik, inm, itx, iio, iN, iicap, iko, iK, ikcap, o0, o1, o2, o3, o4⟩ := HC3.out x.1 x.2
    rw [o0] at c0; rw [o1] at c1; rw [o2] at c2; rw [o3] at c3; rw [o4] at c4
    rw [o0, o1, o2, o3, o4] at hIn
    have hgx := HGG.out x.1 x.2
    have hwl := wtN_le hIn.out
    have hszx := HSZ.out x.1 x.2
    have hkl := HKS.out x.1
    generalize hky : kyAt keys.length (fun i => keys.getD i .empty) x.1 = kx at hgx hkl ⊢
    obtain ⟨q, hq⟩ : ∃ q, wtN h ts[x.1] = q := ⟨_, rfl⟩
    obtain ⟨z, hz⟩ : ∃ z, IntKind.wrap .i64 (1 + ((sumP g pre : Nat) : Int)) = z := ⟨_, rfl⟩
    rw [hq] at hgx hwl
    have hq2 : q ≤ 5631000000000000000 := by omega
    rw [hz] at bS1
    have HCALL : Hid (∀ u, u = W.drew → Calls Try.prog 17 #[.agg #[.int .i64 ik, .string inm, .string itx, .slice iio iN iicap, .slice iko iK ikcap]] u fun e w' => e = .returned (.int .i64 ((q : Nat) : Int)) ∧ Hid (Below W.heap.size W w')  ∧ w'.cell? ⟨w.heap.size + 1, 0, none⟩ = some (.int .i64 z) ∧ w'.frozen? ⟨w.heap.size + 1, 0, none⟩ = false ∧ w'.cell? ⟨w.heap.size, 0, none⟩ = some (.int .i64 kd)) := by
      rintro u rfl
      refine (HIH.out ts[x.1] _ W.drew (hIn.out.keep (Below.refl _ W).drew) (HSZ.out x.1 x.2) (HFO.out x.1 x.2)).mono ?_
      rintro e w' ⟨rfl, hb⟩
      have hb' : Below W.heap.size W w' := (Below.refl _ W).drew.trans hb
      exact ⟨by rw [hq], hb', (boxed_low bS1 hb').cell, (boxed_low bS1 hb').frozen, by rw [← hcv0]; exact (bV1.low hb').cell.1⟩
    have cS := bS1.cell
    have fS := bS1.frozen
    have hzz : Hid (z = IntKind.wrap .i64 (1 + ((sumP g pre : Nat) : Int))) := hz.symm
    have HX1 : Hid (∀ w', Below W.heap.size W w' → ∀ m : Int, m = IntKind.wrap .i64 (1 + ((sumP g (pre ++ [x]) : Nat) : Int)) → KeepsFrom W0.heap.size W (w'.setCell ⟨w.heap.size + 1, 0, none⟩ (.int .i64 m)) ∧ KpV w.heap.size (w.heap.size + 1 + 1) W (w'.setCell ⟨w.heap.size + 1, 0, none⟩ (.int .i64 m)) ∧ (Boxed (w'.setCell ⟨w.heap.size + 1, 0, none⟩ (.int .i64 m)) (w.heap.size + 1) 3 (.int .i64 (IntKind.wrap .i64 (1 + ((sumP g (pre ++ [x]) : Nat) : Int)))) ∧ IBox (w'.setCell ⟨w.heap.size + 1, 0, none⟩ (.int .i64 m)) w.heap.size cv) ∧ Below w.heap.size w (w'.setCell ⟨w.heap.size + 1, 0, none⟩ (.int .i64 m))) := by
      rintro w' hb m rfl
      refine ⟨(keepsFrom_below hb).trans ((KeepsOthers.setCell _ _ _).from _), (KpV.of_below hB1.size hb).trans (KpV.setO (by omega) (by omega) _), ⟨(boxed_low bS1 hb).set _, (bV1.low hb).setO (by omega) _⟩, ?_⟩
      exact (hB1.trans (hb.mono hB1.size)).setCell (p := ⟨w.heap.size + 1, 0, none⟩) (by show _ ≤ w.heap.size + 1; omega) _
    have HX2 : Hid (∀ w', Below W.heap.size W w' → ∀ m' m : Int, m = IntKind.wrap .i64 (1 + ((sumP g (pre ++ [x]) : Nat) : Int)) → KeepsFrom W0.heap.size W ((w'.setCell ⟨w.heap.size + 1, 0, none⟩ (.int .i64 m')).setCell ⟨w.heap.size + 1, 0, none⟩ (.int .i64 m)) ∧ KpV w.heap.size (w.heap.size + 1 + 1) W ((w'.setCell ⟨w.heap.size + 1, 0, none⟩ (.int .i64 m')).setCell ⟨w.heap.size + 1, 0, none⟩ (.int .i64 m)) ∧ (Boxed ((w'.setCell ⟨w.heap.size + 1, 0, none⟩ (.int .i64 m')).setCell ⟨w.heap.size + 1, 0, none⟩ (.int .i64 m)) (w.heap.size + 1) 3 (.int .i64 (IntKind.wrap .i64 (1 + ((sumP g (pre ++ [x]) : Nat) : Int)))) ∧ IBox ((w'.setCell ⟨w.heap.size + 1, 0, none⟩ (.int .i64 m')).setCell ⟨w.heap.size + 1, 0, none⟩ (.int .i64 m)) w.heap.size cv) ∧ Below w.heap.size w ((w'.setCell ⟨w.heap.size + 1, 0, none⟩ (.int .i64 m')).setCell ⟨w.heap.size + 1, 0, none⟩ (.int .i64 m))) := by
      rintro w' hb m' m rfl
      refine ⟨((keepsFrom_below hb).trans ((KeepsOthers.setCell _ _ _).from _)).trans ((KeepsOthers.setCell _ _ _).from _), ((KpV.of_below hB1.size hb).trans (KpV.setO (by omega) (by omega) _)).trans (KpV.setO (by omega) (by omega) _), ⟨((boxed_low bS1 hb).set _).set _, ((bV1.low hb).setO (by omega) _).setO (by omega) _⟩, ?_⟩
      exact ((hB1.trans (hb.mono hB1.size)).setCell (p := ⟨w.heap.size + 1, 0, none⟩) (by show _ ≤ w.heap.size + 1; omega) _).setCell (p := ⟨w.heap.size + 1, 0, none⟩) (by show _ ≤ w.heap.size + 1; omega) _
    have hsn := sumP_snoc g pre x
    clear bS1 hB1 bX bV1 hIn o0 o1 o2 o3 o4 hr hky hq hz hwl hszx
    have hmo : Try.prog.follows .mixedOrders = true := by kernel_rfl
    have h1' : 1 ≤ 5 - 1 - 1 := by omega
    have HFN := Hid.mk (And.intro hsn hgx)
    clear hsn hgx
    gi_wp2_with fail
    gi_region_with_o (refine ⟨trivial, ?_⟩; gi_at_call 17; refine (CallsIn.inRound l (callsIn_wide.2 (HCALL.out _ rfl))).mono ?_; rintro e w' ⟨rfl, hbw, cSw, fSw, cVw⟩)
    all_goals
      obtain ⟨y1, hy1⟩ : ∃ y1, IntKind.i64.wrap (↑kx.size + ↑q) = y1 := ⟨_, rfl⟩
      obtain ⟨y, hy⟩ : ∃ y, IntKind.i64.wrap (z + y1) = y := ⟨_, rfl⟩
      simp only [hy1, hy]
      by_cases hk6 : kd = 6
      · have HFM : Hid (wrap64 (y + 1) = IntKind.wrap .i64 (1 + ((sumP g (pre ++ [x]) : Nat) : Int))) := by
          obtain ⟨hsn, hgx⟩ := HFN.out
          rw [if_pos hk6] at hgx
          show wrap64 (y + 1) = _
          rw [wr64, hsn, hgx, ← hy, ← hy1, hzz.out]
          exact wr_sum1 _ _ _
        clear hy hy1
        subst hk6
        gi_wp2_with fail
        have FIN := HX2.out w' hbw.out y _ HFM.out
        first | exact FIN | (rw [hsz0] at FIN; exact FIN)
      · have HFM : Hid (y = IntKind.wrap .i64 (1 + ((sumP g (pre ++ [x]) : Nat) : Int))) := by
          obtain ⟨hsn, hgx⟩ := HFN.out
          rw [if_neg hk6] at hgx
          rw [hsn, hgx, ← hy, ← hy1, hzz.out]
          exact wr_sum0 _ _ _
        clear hy hy1
        gi_wp2_with fail
        have FIN := HX1.out w' hbw.out _ HFM.out
        first | exact FIN | (rw [hsz0] at FIN; exact FIN)
  case done =>
    rintro D zs W hD hz ⟨⟨bS1, _⟩, hB1⟩ hK
    have hfin : sumP g zs = sumL ((List.range ts.length).map g) := by
      rw [← hz, List.map_map]; rfl
    have hwr : IntKind.wrap .i64 (1 + ((sumP g zs : Nat) : Int)) = ((1 + sumL ((List.range ts.length).map g) : Nat) : Int) := by
      rw [hfin]
      refine (wr_self (by omega) (by omega)).trans (by omega)
    rw [hwr] at bS1
    have cS := bS1.cell
    clear hwr hfin
    gi_wp2_with fail
    refine ⟨by simp, .inl ⟨_, _, rfl, run_takeDeferred hK, ?_⟩⟩
    exact ⟨_, results_tmp rfl _ _ _, rfl, hB1.trans (belowK_b (w := w) (Nat.le_refl _) W D _ _ (by omega) hK rfl rfl)⟩
  case stop =>
    rintro D cc pre W _ _ h _
    exact h.elim
end Go.Proofs.Ytjfbbdhmcljhnaa
