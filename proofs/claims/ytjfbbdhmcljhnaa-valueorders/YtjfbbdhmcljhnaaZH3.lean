import Derived.Test.YtjfbbdhmcljhnaaZH2
import Derived.Deep.Slices
namespace Go.Proofs.Ytjfbbdhmcljhnaa
open Go.RowKit Go.Shelf
set_option linter.unusedVariables false
set_option linter.unusedSimpArgs false
attribute [local go_sem] Oper.semAt_some

theorem items_fun {W : World} {h : Nat} {io : Option Addr} {ts : List VT} (hI : IIn W h io ts) : ∃ c : Nat → Fin 5 → Value,
    (∀ i, i < ts.length → ∃ b off, io = some ⟨b, off, none⟩ ∧ b < W.heap.size ∧ W.cell? ⟨b, off + i * 5, none⟩ = some (c i 0) ∧ W.cell? ⟨b, off + i * 5 + 1, none⟩ = some (c i 1) ∧ W.cell? ⟨b, off + i * 5 + 2, none⟩ = some (c i 2) ∧ W.cell? ⟨b, off + i * 5 + 3, none⟩ = some (c i 3) ∧ W.cell? ⟨b, off + i * 5 + 4, none⟩ = some (c i 4)) ∧
    (∀ i, (hi : i < ts.length) → InH W h ts[i] (.agg #[c i 0, c i 1, c i 2, c i 3, c i 4])) ∧ (∀ i, i < ts.length → OneC (c i)) := by
  have key : ∀ i, i < ts.length → ∃ c : Fin 5 → Value, ∃ (hi : i < ts.length), (∃ b off, io = some ⟨b, off, none⟩ ∧ b < W.heap.size ∧ W.cell? ⟨b, off + i * 5, none⟩ = some (c 0) ∧ W.cell? ⟨b, off + i * 5 + 1, none⟩ = some (c 1) ∧ W.cell? ⟨b, off + i * 5 + 2, none⟩ = some (c 2) ∧ W.cell? ⟨b, off + i * 5 + 3, none⟩ = some (c 3) ∧ W.cell? ⟨b, off + i * 5 + 4, none⟩ = some (c 4)) ∧ InH W h ts[i] (.agg #[c 0, c 1, c 2, c 3, c 4]) ∧ OneC c := by
    intro i hi
    obtain ⟨b, off, e, hb, hrow⟩ := hI.row (by omega)
    obtain ⟨v0, v1, v2, v3, v4, ⟨a0, a1, a2, a3, a4⟩, ht⟩ := hrow i hi
    refine ⟨fun j => match j with | 0 => v0 | 1 => v1 | 2 => v2 | 3 => v3 | 4 => v4, hi, ⟨b, off, e, hb, a0, a1, a2, a3, a4⟩, ht, ?_⟩
    obtain ⟨k, n, t, io', N, icap, ko, K, kcap, e0, e1, e2, e3, e4⟩ := ht.shape
    exact ⟨k, n, t, io', N, icap, ko, K, kcap, e0, e1, e2, e3, e4⟩
  haveI : Inhabited (Fin 5 → Value) := ⟨fun _ => undef⟩
  obtain ⟨c, hc⟩ := Go.Deep.choose_lt key
  exact ⟨c, fun i hi => (hc i hi).2.1, fun i hi => (hc i hi).2.2.1, fun i hi => (hc i hi).2.2.2⟩

def FdOk (h : Nat) : Prop := ∀ (T : VT) (v : Value) (w : World), InH w h T v → szN h T ≤ 10000 → Calls Try.prog 19 #[v] w fun e w' => e = .returned (.int .i64 ((dpN h T : Nat) : Int)) ∧ Below w.heap.size w w'

/-- the depths of what has come -/
def mxP (d : Nat → Nat) {N : Nat} (pre : List { i : Nat // i < N }) : Nat := mxL (pre.map fun x => d x.1)
theorem mxP_snoc (d : Nat → Nat) {N : Nat} (pre : List { i : Nat // i < N }) (x : { i : Nat // i < N }) : mxP d (pre ++ [x]) = max (mxP d pre) (d x.1) := by
  unfold mxP; rw [List.map_append, mxL_append]; simp [mxL]
theorem mxL_le_of {b : Nat} : ∀ {l : List Nat}, (∀ x ∈ l, x ≤ b) → mxL l ≤ b
  | [], _ => Nat.zero_le _
  | x :: r, h => by
    have h1 := h x (List.mem_cons_self ..)
    have h2 := mxL_le_of (l := r) (fun y hy => h y (List.mem_cons_of_mem _ hy))
    simp only [mxL]; omega


theorem range_map_ts {ts : List VT} (f : VT → Nat) (d : Nat → Nat) (hd : ∀ i, (hi : i < ts.length) → d i = f ts[i]) : (List.range ts.length).map d = ts.map f := by
  apply List.ext_getElem
  · simp
  · intro i h1 h2
    simp at h1
    simp [hd i h1]

theorem KpV.setO {n₀ B : Nat} {W : World} {C : Nat} (hn : n₀ ≤ C) (hne : B ≠ C) (v : Value) : KpV n₀ B W (W.setCell ⟨C, 0, none⟩ v) :=
  ⟨(Below.refl _ W).setCell (p := ⟨C, 0, none⟩) hn _, fun j u hu => (World.cell?_setCell_other (w := W) (v := v) (a := ⟨C, 0, none⟩) (b := ⟨B, j, none⟩) (fun e => by cases e; exact hne rfl)).trans hu⟩
theorem keepsFrom_below {m : Nat} {W W' : World} (h : Below W.heap.size W W') : KeepsFrom m W W' := ⟨h.size, fun k o _ hk _ => (h.block k (Array.getElem?_eq_some_iff.1 hk).1).trans hk⟩
theorem boxed_low {W W' : World} {B : Nat} {t : TypeId} {v : Value} (h : Boxed W B t v) (hb : Below W.heap.size W W') : Boxed W' B t v := (hb.block B h.lt).trans h
theorem IBox.low {W W' : World} {B : Nat} {c : Fin 5 → Value} (h : IBox W B c) (hb : Below W.heap.size W W') : IBox W' B c := ⟨(hb.block B (Array.getElem?_eq_some_iff.1 h.row).1).trans h.row⟩

set_option maxRecDepth 100000 in
set_option maxHeartbeats 4000000 in
theorem depth_step5 (h : Nat) (ih : FdOk h) (nm tx : ByteArray) (io : Option Addr) (N icap : Nat) (ko : Option Addr) (K kcap : Nat) (ts : List VT) (keys : List ByteArray) (w : World)
    (hi : IIn w h io ts) (hk : KIn w ko keys) (hN : ts.length = N) (hK : keys.length = K) (hcN : N ≤ icap) (hcK : K ≤ kcap) (hN2 : N ≤ 140737488355328) (hsz : ∀ i, (hi : i < ts.length) → szN h ts[i] ≤ 10000) :
    Calls Try.prog 19 #[.agg #[.int .i64 5, .string nm, .string tx, .slice io N icap, .slice ko K kcap]] w fun e w' => e = .returned (.int .i64 ((1 + mxL (ts.map (dpN h)) : Nat) : Int)) ∧ Below w.heap.size w w' := by
  obtain ⟨c, hc1, hc2, hc3⟩ := items_fun hi
  subst hN hK
  obtain ⟨d, hd⟩ : ∃ d : Nat → Nat, ∀ i, (hi : i < ts.length) → d i = dpN h ts[i] := ⟨fun i => if hi : i < ts.length then dpN h ts[i] else 0, fun i hi => by simp [hi]⟩
  have hle : ∀ x : { i : Nat // i < ts.length }, d x.1 ≤ 10000 := fun x => by rw [hd x.1 x.2]; exact Nat.le_trans (dpN_le h _) (hsz x.1 x.2)
  have hmx : ∀ pre : List { i : Nat // i < ts.length }, mxP d pre ≤ 10000 := fun pre => mxL_le_of (fun y hy => by
    obtain ⟨x, _, rfl⟩ := List.mem_map.1 hy
    exact hle x)
  have HC1 := Hid.mk hc1
  have HC2 := Hid.mk hc2
  have HC3 := Hid.mk hc3
  have HD := Hid.mk hd
  have HSZ := Hid.mk hsz
  have HLE := Hid.mk hle
  have HMX := Hid.mk hmx
  have HK := Hid.mk hk
  have HIH := Hid.mk ih
  clear hc1 hc2 hc3 hi hd hsz hle hmx hk ih
  refine (callsIn_wide (n := 5)).1 ?_
  refine callsIn_of_wp_marks Try.func19 rfl trivial ?_ rfl
  simp only [Try.ntmps19, List.size_toArray, List.length_cons, List.length_nil, Nat.reduceAdd, Nat.reduceSub, Array.replicate_succ, Array.replicate_zero, List.push_toArray, List.append_toArray, List.nil_append, List.cons_append]
  gi_wp2_with fail
  refine ⟨trivial, (callsIn_wide.2 (w_inside _ _ _ _ _ ⟨5, nm, tx, io, ts.length, icap, ko, keys.length, kcap, rfl, rfl, rfl, rfl, rfl⟩ _)).mono ?_⟩
  rintro e w1 ⟨rfl, rfl⟩
  gi_wp2_with fail
  obtain ⟨W0, hW0⟩ : ∃ W0, (((w.alloc (.cells #[.int .i64 5, .string nm, .string tx, .slice io ts.length icap, .slice ko keys.length kcap] 25)).alloc (.cells #[.int .i64 0] 3)).alloc (.cells #[.int .i64 5, .string nm, .string tx, .slice io ts.length icap, .slice ko keys.length kcap] 25)) = W0 := ⟨_, rfl⟩
  have hsz0 : W0.heap.size = w.heap.size + 3 := by rw [← hW0]; simp
  have hB0 : Below w.heap.size w W0 := by rw [← hW0]; exact (((Below.refl _ w).alloc (Nat.le_refl _) _).alloc (by simp) _).alloc (by simp; omega) _
  have bS : Boxed W0 (w.heap.size + 1) 3 (.int .i64 0) := by
    rw [← hW0]
    have := (Boxed.new (w.alloc (.cells #[.int .i64 5, .string nm, .string tx, .slice io ts.length icap, .slice ko keys.length kcap] 25)) 3 (.int .i64 0)).alloc (.cells #[.int .i64 5, .string nm, .string tx, .slice io ts.length icap, .slice ko keys.length kcap] 25)
    simpa only [World.size_alloc] using this
  have hS0 : InSt W0 w.heap.size (w.heap.size + 1 + 1) ts.length keys.length io icap ko kcap c (fun i => keys.getD i .empty) := by
    refine ⟨by rw [← hW0]; simp [go_sem], by rw [← hW0]; simp [go_sem], fun i hi => ?_, fun i hi => ?_⟩
    · obtain ⟨b, off, e, hb, a0, a1, a2, a3, a4⟩ := HC1.out i hi
      exact ⟨b, off, e, hb, (hB0.cell (p := ⟨_, _, _⟩) hb).trans a0, (hB0.cell (p := ⟨_, _, _⟩) hb).trans a1, (hB0.cell (p := ⟨_, _, _⟩) hb).trans a2, (hB0.cell (p := ⟨_, _, _⟩) hb).trans a3, (hB0.cell (p := ⟨_, _, _⟩) hb).trans a4⟩
    · obtain ⟨b, off, e, hb, hr⟩ := HK.out.row (by omega)
      exact ⟨b, off, e, hb, (hB0.cell (p := ⟨_, _, _⟩) hb).trans (hr i hi)⟩
  have HW0 := Hid.mk hW0
  rw [hW0]
  clear hW0
  refine wpIn_rangeFunc_ownH rfl (by omega) (gf := 67) (lb := #[.pointer (some ⟨w.heap.size + 1 + 1, 0, none⟩)]) rfl trivial (enters_of Try.func67 (by kernel_rfl) rfl)
    (inside_stops (5 - 1) (by omega) w.heap.size (w.heap.size + 1 + 1) ts.length keys.length io icap ko kcap c (fun i => keys.getD i .empty) hcN hcK hN2 HC3.out W0 (by omega) hS0) (fun h k => h.trans k) (KpV.put (by omega)) (Below.refl _ _) (fun _ => rfl)
    (fun pre W => Boxed W (w.heap.size + 1) 3 (.int .i64 ((mxP d pre : Nat) : Int)) ∧ Below w.heap.size w W)
    (fun _ _ _ => False)
    (OwnFrom.and (Own.from (boxed_own _ _ _) _) (ownFrom_below (Nat.le_refl _) (by omega)))
    (fun _ _ _ _ _ hs _ _ => hs)
    ⟨bS, hB0⟩
    (fun x a' W => ∃ Bx, w.heap.size + 1 < Bx ∧ IBox W Bx (c x.1) ∧ a' = { tmps := #[.agg #[.int .i64 5, .string nm, .string tx, .slice io ts.length icap, .slice ko keys.length kcap], .pointer (some ⟨w.heap.size, 0, none⟩), .int .i64 0, .pointer (some ⟨w.heap.size + 1, 0, none⟩), undef, .pointer (some ⟨Bx, 0, none⟩), .pointer (some ⟨w.heap.size, 0, none⟩), .int .i64 5, .bool false, .bool false, undef, undef, undef, .bool false, .agg #[.int .i64 5, .string nm, .string tx, .slice io ts.length icap, .slice ko keys.length kcap], .func (.func 67) #[] #[.pointer (some ⟨w.heap.size + 1 + 1, 0, none⟩)], .string (kyAt keys.length (fun i => keys.getD i .empty) x.1), .agg #[c x.1 0, c x.1 1, c x.1 2, c x.1 3, c x.1 4], undef, undef, undef, undef, undef, undef], defers := [] })
    (fun x a' _ X Y row hs hg hr => by
      obtain ⟨Bx, h1, h2, h3⟩ := hs
      exact ⟨Bx, h1, ibox_own _ Bx (c x.1) () X Y row h2 hg hr, h3⟩)
    ?assign ?body ?done ?stop
  case assign =>
    rintro l pre x W KK ⟨bS1, hB1⟩ hKK
    obtain ⟨ik, inm, itx, iio, iN, iicap, iko, iK, ikcap, o0, o1, o2, o3, o4⟩ := HC3.out x.1 x.2
    have hI : IBox (W.alloc (.cells #[c x.1 0, c x.1 1, c x.1 2, c x.1 3, c x.1 4] 25)) W.heap.size (c x.1) := ⟨World.alloc_heap_new W _⟩
    unfold encI
    dsimp only
    have FIN := hKK { tmps := #[.agg #[.int .i64 5, .string nm, .string tx, .slice io ts.length icap, .slice ko keys.length kcap], .pointer (some ⟨w.heap.size, 0, none⟩), .int .i64 0, .pointer (some ⟨w.heap.size + 1, 0, none⟩), undef, .pointer (some ⟨W.heap.size, 0, none⟩), .pointer (some ⟨w.heap.size, 0, none⟩), .int .i64 5, .bool false, .bool false, undef, undef, undef, .bool false, .agg #[.int .i64 5, .string nm, .string tx, .slice io ts.length icap, .slice ko keys.length kcap], .func (.func 67) #[] #[.pointer (some ⟨w.heap.size + 1 + 1, 0, none⟩)], .string (kyAt keys.length (fun i => keys.getD i .empty) x.1), .agg #[c x.1 0, c x.1 1, c x.1 2, c x.1 3, c x.1 4], undef, undef, undef, undef, undef, undef], defers := [] } _ ((KeepsOthers.alloc _ _).from _) (KpV.of_below hB1.size (below1 W _)) ⟨bS1.alloc _, hB1.alloc hB1.size _⟩ ⟨W.heap.size, bS1.lt, hI, rfl⟩
    rw [o0, o1, o2, o3, o4] at FIN ⊢
    clear hKK hI bS1 hB1
    gi_wp2_with fail
    exact FIN
  case body =>
    rintro l pre x a' W hl ⟨r, hr⟩ ⟨bS1, hB1⟩ ⟨Bx, hBx, bX, rfl⟩ hlt
    obtain ⟨c0, c1, c2, c3, c4⟩ := bX.cell
    have hIn : Hid (InH W h ts[x.1] (.agg #[c x.1 0, c x.1 1, c x.1 2, c x.1 3, c x.1 4])) := (HC2.out x.1 x.2).keep hB1
    obtain ⟨ik, inm, itx, iio, iN, iicap, iko, iK, ikcap, o0, o1, o2, o3, o4⟩ := HC3.out x.1 x.2
    rw [o0] at c0; rw [o1] at c1; rw [o2] at c2; rw [o3] at c3; rw [o4] at c4
    rw [o0, o1, o2, o3, o4] at hIn
    have HCALL : Hid (∀ u, u = W.drew → Calls Try.prog 19 #[.agg #[.int .i64 ik, .string inm, .string itx, .slice iio iN iicap, .slice iko iK ikcap]] u fun e w' => e = .returned (.int .i64 ((d x.1 : Nat) : Int)) ∧ Hid (Below W.heap.size W w')  ∧ w'.cell? ⟨w.heap.size + 1, 0, none⟩ = some (.int .i64 ((mxP d pre : Nat) : Int)) ∧ w'.frozen? ⟨w.heap.size + 1, 0, none⟩ = false) := by
      rintro u rfl
      refine (HIH.out ts[x.1] _ W.drew (hIn.out.keep (Below.refl _ W).drew) (HSZ.out x.1 x.2)).mono ?_
      rintro e w' ⟨rfl, hb⟩
      have hb' : Below W.heap.size W w' := (Below.refl _ W).drew.trans hb
      exact ⟨by rw [HD.out x.1 x.2], hb', (boxed_low bS1 hb').cell, (boxed_low bS1 hb').frozen⟩
    have cS := bS1.cell
    have fS := bS1.frozen
    have hmx1 := HMX.out pre
    have hmx2 := HLE.out x
    have HX : Hid (∀ w', Below W.heap.size W w' → ∀ m : Int, m = ((mxP d (pre ++ [x]) : Nat) : Int) → KeepsFrom W0.heap.size W (w'.setCell ⟨w.heap.size + 1, 0, none⟩ (.int .i64 m)) ∧ KpV w.heap.size (w.heap.size + 1 + 1) W (w'.setCell ⟨w.heap.size + 1, 0, none⟩ (.int .i64 m)) ∧ Boxed (w'.setCell ⟨w.heap.size + 1, 0, none⟩ (.int .i64 m)) (w.heap.size + 1) 3 (.int .i64 ((mxP d (pre ++ [x]) : Nat) : Int)) ∧ Below w.heap.size w (w'.setCell ⟨w.heap.size + 1, 0, none⟩ (.int .i64 m))) := by
      rintro w' hb m rfl
      refine ⟨(keepsFrom_below hb).trans ((KeepsOthers.setCell _ _ _).from _), (KpV.of_below hB1.size hb).trans (KpV.setO (by omega) (by omega) _), (boxed_low bS1 hb).set _, ?_⟩
      exact (hB1.trans (hb.mono hB1.size)).setCell (p := ⟨w.heap.size + 1, 0, none⟩) (by show _ ≤ w.heap.size + 1; omega) _
    have HM : Hid (∀ m : Int, m = max ((mxP d pre : Nat) : Int) ((d x.1 : Nat) : Int) → m = ((mxP d (pre ++ [x]) : Nat) : Int)) := by
      rintro m rfl
      rw [mxP_snoc]; omega
    clear bS1 hB1 bX hIn o0 o1 o2 o3 o4 hr
    have hmo : Try.prog.follows .mixedOrders = true := by kernel_rfl
    have h1' : 1 ≤ 5 - 1 - 1 := by omega
    gi_wp2_with fail
    gi_region_with_o (refine ⟨trivial, ?_⟩; gi_at_call 19; refine (CallsIn.inRound l (callsIn_wide.2 (HCALL.out _ rfl))).mono ?_; rintro e w' ⟨rfl, hbw, cSw, fSw⟩)
    all_goals
      gi_wp2_with fail
      exact HX.out w' hbw.out _ (HM.out _ rfl)
  case done =>
    rintro D zs W hD hz ⟨bS1, hB1⟩ hK
    have cS := bS1.cell
    have hmz := HMX.out zs
    have hfin : Hid (mxP d zs = mxL (ts.map (dpN h))) := by
      show _ = _
      rw [← range_map_ts (dpN h) d HD.out, ← hz, List.map_map]; rfl
    gi_wp2_with fail
    refine ⟨by simp, .inl ⟨_, _, rfl, run_takeDeferred hK, ?_⟩⟩
    exact ⟨_, results_tmp rfl _ _ _, by rw [← hfin.out]; simp, hB1.trans (belowK_b (w := w) (Nat.le_refl _) W D _ _ (by omega) hK rfl rfl)⟩
  case stop =>
    rintro D cc pre W _ _ h _
    exact h.elim

set_option maxRecDepth 100000 in
set_option maxHeartbeats 4000000 in
theorem depth_step6 (h : Nat) (ih : FdOk h) (nm tx : ByteArray) (io : Option Addr) (N icap : Nat) (ko : Option Addr) (K kcap : Nat) (ts : List VT) (keys : List ByteArray) (w : World)
    (hi : IIn w h io ts) (hk : KIn w ko keys) (hN : ts.length = N) (hK : keys.length = K) (hcN : N ≤ icap) (hcK : K ≤ kcap) (hN2 : N ≤ 140737488355328) (hsz : ∀ i, (hi : i < ts.length) → szN h ts[i] ≤ 10000) :
    Calls Try.prog 19 #[.agg #[.int .i64 6, .string nm, .string tx, .slice io N icap, .slice ko K kcap]] w fun e w' => e = .returned (.int .i64 ((1 + mxL (ts.map (dpN h)) : Nat) : Int)) ∧ Below w.heap.size w w' := by
  obtain ⟨c, hc1, hc2, hc3⟩ := items_fun hi
  subst hN hK
  obtain ⟨d, hd⟩ : ∃ d : Nat → Nat, ∀ i, (hi : i < ts.length) → d i = dpN h ts[i] := ⟨fun i => if hi : i < ts.length then dpN h ts[i] else 0, fun i hi => by simp [hi]⟩
  have hle : ∀ x : { i : Nat // i < ts.length }, d x.1 ≤ 10000 := fun x => by rw [hd x.1 x.2]; exact Nat.le_trans (dpN_le h _) (hsz x.1 x.2)
  have hmx : ∀ pre : List { i : Nat // i < ts.length }, mxP d pre ≤ 10000 := fun pre => mxL_le_of (fun y hy => by
    obtain ⟨x, _, rfl⟩ := List.mem_map.1 hy
    exact hle x)
  have HC1 := Hid.mk hc1
  have HC2 := Hid.mk hc2
  have HC3 := Hid.mk hc3
  have HD := Hid.mk hd
  have HSZ := Hid.mk hsz
  have HLE := Hid.mk hle
  have HMX := Hid.mk hmx
  have HK := Hid.mk hk
  have HIH := Hid.mk ih
  clear hc1 hc2 hc3 hi hd hsz hle hmx hk ih
  refine (callsIn_wide (n := 5)).1 ?_
  refine callsIn_of_wp_marks Try.func19 rfl trivial ?_ rfl
  simp only [Try.ntmps19, List.size_toArray, List.length_cons, List.length_nil, Nat.reduceAdd, Nat.reduceSub, Array.replicate_succ, Array.replicate_zero, List.push_toArray, List.append_toArray, List.nil_append, List.cons_append]
  gi_wp2_with fail
  refine ⟨trivial, (callsIn_wide.2 (w_inside _ _ _ _ _ ⟨6, nm, tx, io, ts.length, icap, ko, keys.length, kcap, rfl, rfl, rfl, rfl, rfl⟩ _)).mono ?_⟩
  rintro e w1 ⟨rfl, rfl⟩
  gi_wp2_with fail
  obtain ⟨W0, hW0⟩ : ∃ W0, (((w.alloc (.cells #[.int .i64 6, .string nm, .string tx, .slice io ts.length icap, .slice ko keys.length kcap] 25)).alloc (.cells #[.int .i64 0] 3)).alloc (.cells #[.int .i64 6, .string nm, .string tx, .slice io ts.length icap, .slice ko keys.length kcap] 25)) = W0 := ⟨_, rfl⟩
  have hsz0 : W0.heap.size = w.heap.size + 3 := by rw [← hW0]; simp
  have hB0 : Below w.heap.size w W0 := by rw [← hW0]; exact (((Below.refl _ w).alloc (Nat.le_refl _) _).alloc (by simp) _).alloc (by simp; omega) _
  have bS : Boxed W0 (w.heap.size + 1) 3 (.int .i64 0) := by
    rw [← hW0]
    have := (Boxed.new (w.alloc (.cells #[.int .i64 6, .string nm, .string tx, .slice io ts.length icap, .slice ko keys.length kcap] 25)) 3 (.int .i64 0)).alloc (.cells #[.int .i64 6, .string nm, .string tx, .slice io ts.length icap, .slice ko keys.length kcap] 25)
    simpa only [World.size_alloc] using this
  have hS0 : InSt W0 w.heap.size (w.heap.size + 1 + 1) ts.length keys.length io icap ko kcap c (fun i => keys.getD i .empty) := by
    refine ⟨by rw [← hW0]; simp [go_sem], by rw [← hW0]; simp [go_sem], fun i hi => ?_, fun i hi => ?_⟩
    · obtain ⟨b, off, e, hb, a0, a1, a2, a3, a4⟩ := HC1.out i hi
      exact ⟨b, off, e, hb, (hB0.cell (p := ⟨_, _, _⟩) hb).trans a0, (hB0.cell (p := ⟨_, _, _⟩) hb).trans a1, (hB0.cell (p := ⟨_, _, _⟩) hb).trans a2, (hB0.cell (p := ⟨_, _, _⟩) hb).trans a3, (hB0.cell (p := ⟨_, _, _⟩) hb).trans a4⟩
    · obtain ⟨b, off, e, hb, hr⟩ := HK.out.row (by omega)
      exact ⟨b, off, e, hb, (hB0.cell (p := ⟨_, _, _⟩) hb).trans (hr i hi)⟩
  have HW0 := Hid.mk hW0
  rw [hW0]
  clear hW0
  refine wpIn_rangeFunc_ownH rfl (by omega) (gf := 67) (lb := #[.pointer (some ⟨w.heap.size + 1 + 1, 0, none⟩)]) rfl trivial (enters_of Try.func67 (by kernel_rfl) rfl)
    (inside_stops (5 - 1) (by omega) w.heap.size (w.heap.size + 1 + 1) ts.length keys.length io icap ko kcap c (fun i => keys.getD i .empty) hcN hcK hN2 HC3.out W0 (by omega) hS0) (fun h k => h.trans k) (KpV.put (by omega)) (Below.refl _ _) (fun _ => rfl)
    (fun pre W => Boxed W (w.heap.size + 1) 3 (.int .i64 ((mxP d pre : Nat) : Int)) ∧ Below w.heap.size w W)
    (fun _ _ _ => False)
    (OwnFrom.and (Own.from (boxed_own _ _ _) _) (ownFrom_below (Nat.le_refl _) (by omega)))
    (fun _ _ _ _ _ hs _ _ => hs)
    ⟨bS, hB0⟩
    (fun x a' W => ∃ Bx, w.heap.size + 1 < Bx ∧ IBox W Bx (c x.1) ∧ a' = { tmps := #[.agg #[.int .i64 6, .string nm, .string tx, .slice io ts.length icap, .slice ko keys.length kcap], .pointer (some ⟨w.heap.size, 0, none⟩), .int .i64 0, .pointer (some ⟨w.heap.size + 1, 0, none⟩), undef, .pointer (some ⟨Bx, 0, none⟩), .pointer (some ⟨w.heap.size, 0, none⟩), .int .i64 6, .bool true, .bool true, .pointer (some ⟨w.heap.size, 0, none⟩), .int .i64 6, .bool false, .bool false, .agg #[.int .i64 6, .string nm, .string tx, .slice io ts.length icap, .slice ko keys.length kcap], .func (.func 67) #[] #[.pointer (some ⟨w.heap.size + 1 + 1, 0, none⟩)], .string (kyAt keys.length (fun i => keys.getD i .empty) x.1), .agg #[c x.1 0, c x.1 1, c x.1 2, c x.1 3, c x.1 4], undef, undef, undef, undef, undef, undef], defers := [] })
    (fun x a' _ X Y row hs hg hr => by
      obtain ⟨Bx, h1, h2, h3⟩ := hs
      exact ⟨Bx, h1, ibox_own _ Bx (c x.1) () X Y row h2 hg hr, h3⟩)
    ?assign ?body ?done ?stop
  case assign =>
    rintro l pre x W KK ⟨bS1, hB1⟩ hKK
    obtain ⟨ik, inm, itx, iio, iN, iicap, iko, iK, ikcap, o0, o1, o2, o3, o4⟩ := HC3.out x.1 x.2
    have hI : IBox (W.alloc (.cells #[c x.1 0, c x.1 1, c x.1 2, c x.1 3, c x.1 4] 25)) W.heap.size (c x.1) := ⟨World.alloc_heap_new W _⟩
    unfold encI
    dsimp only
    have FIN := hKK { tmps := #[.agg #[.int .i64 6, .string nm, .string tx, .slice io ts.length icap, .slice ko keys.length kcap], .pointer (some ⟨w.heap.size, 0, none⟩), .int .i64 0, .pointer (some ⟨w.heap.size + 1, 0, none⟩), undef, .pointer (some ⟨W.heap.size, 0, none⟩), .pointer (some ⟨w.heap.size, 0, none⟩), .int .i64 6, .bool true, .bool true, .pointer (some ⟨w.heap.size, 0, none⟩), .int .i64 6, .bool false, .bool false, .agg #[.int .i64 6, .string nm, .string tx, .slice io ts.length icap, .slice ko keys.length kcap], .func (.func 67) #[] #[.pointer (some ⟨w.heap.size + 1 + 1, 0, none⟩)], .string (kyAt keys.length (fun i => keys.getD i .empty) x.1), .agg #[c x.1 0, c x.1 1, c x.1 2, c x.1 3, c x.1 4], undef, undef, undef, undef, undef, undef], defers := [] } _ ((KeepsOthers.alloc _ _).from _) (KpV.of_below hB1.size (below1 W _)) ⟨bS1.alloc _, hB1.alloc hB1.size _⟩ ⟨W.heap.size, bS1.lt, hI, rfl⟩
    rw [o0, o1, o2, o3, o4] at FIN ⊢
    clear hKK hI bS1 hB1
    gi_wp2_with fail
    exact FIN
  case body =>
    rintro l pre x a' W hl ⟨r, hr⟩ ⟨bS1, hB1⟩ ⟨Bx, hBx, bX, rfl⟩ hlt
    obtain ⟨c0, c1, c2, c3, c4⟩ := bX.cell
    have hIn : Hid (InH W h ts[x.1] (.agg #[c x.1 0, c x.1 1, c x.1 2, c x.1 3, c x.1 4])) := (HC2.out x.1 x.2).keep hB1
    obtain ⟨ik, inm, itx, iio, iN, iicap, iko, iK, ikcap, o0, o1, o2, o3, o4⟩ := HC3.out x.1 x.2
    rw [o0] at c0; rw [o1] at c1; rw [o2] at c2; rw [o3] at c3; rw [o4] at c4
    rw [o0, o1, o2, o3, o4] at hIn
    have HCALL : Hid (∀ u, u = W.drew → Calls Try.prog 19 #[.agg #[.int .i64 ik, .string inm, .string itx, .slice iio iN iicap, .slice iko iK ikcap]] u fun e w' => e = .returned (.int .i64 ((d x.1 : Nat) : Int)) ∧ Hid (Below W.heap.size W w')  ∧ w'.cell? ⟨w.heap.size + 1, 0, none⟩ = some (.int .i64 ((mxP d pre : Nat) : Int)) ∧ w'.frozen? ⟨w.heap.size + 1, 0, none⟩ = false) := by
      rintro u rfl
      refine (HIH.out ts[x.1] _ W.drew (hIn.out.keep (Below.refl _ W).drew) (HSZ.out x.1 x.2)).mono ?_
      rintro e w' ⟨rfl, hb⟩
      have hb' : Below W.heap.size W w' := (Below.refl _ W).drew.trans hb
      exact ⟨by rw [HD.out x.1 x.2], hb', (boxed_low bS1 hb').cell, (boxed_low bS1 hb').frozen⟩
    have cS := bS1.cell
    have fS := bS1.frozen
    have hmx1 := HMX.out pre
    have hmx2 := HLE.out x
    have HX : Hid (∀ w', Below W.heap.size W w' → ∀ m : Int, m = ((mxP d (pre ++ [x]) : Nat) : Int) → KeepsFrom W0.heap.size W (w'.setCell ⟨w.heap.size + 1, 0, none⟩ (.int .i64 m)) ∧ KpV w.heap.size (w.heap.size + 1 + 1) W (w'.setCell ⟨w.heap.size + 1, 0, none⟩ (.int .i64 m)) ∧ Boxed (w'.setCell ⟨w.heap.size + 1, 0, none⟩ (.int .i64 m)) (w.heap.size + 1) 3 (.int .i64 ((mxP d (pre ++ [x]) : Nat) : Int)) ∧ Below w.heap.size w (w'.setCell ⟨w.heap.size + 1, 0, none⟩ (.int .i64 m))) := by
      rintro w' hb m rfl
      refine ⟨(keepsFrom_below hb).trans ((KeepsOthers.setCell _ _ _).from _), (KpV.of_below hB1.size hb).trans (KpV.setO (by omega) (by omega) _), (boxed_low bS1 hb).set _, ?_⟩
      exact (hB1.trans (hb.mono hB1.size)).setCell (p := ⟨w.heap.size + 1, 0, none⟩) (by show _ ≤ w.heap.size + 1; omega) _
    have HM : Hid (∀ m : Int, m = max ((mxP d pre : Nat) : Int) ((d x.1 : Nat) : Int) → m = ((mxP d (pre ++ [x]) : Nat) : Int)) := by
      rintro m rfl
      rw [mxP_snoc]; omega
    clear bS1 hB1 bX hIn o0 o1 o2 o3 o4 hr
    have hmo : Try.prog.follows .mixedOrders = true := by kernel_rfl
    have h1' : 1 ≤ 5 - 1 - 1 := by omega
    gi_wp2_with fail
    gi_region_with_o (refine ⟨trivial, ?_⟩; gi_at_call 19; refine (CallsIn.inRound l (callsIn_wide.2 (HCALL.out _ rfl))).mono ?_; rintro e w' ⟨rfl, hbw, cSw, fSw⟩)
    all_goals
      gi_wp2_with fail
      exact HX.out w' hbw.out _ (HM.out _ rfl)
  case done =>
    rintro D zs W hD hz ⟨bS1, hB1⟩ hK
    have cS := bS1.cell
    have hmz := HMX.out zs
    have hfin : Hid (mxP d zs = mxL (ts.map (dpN h))) := by
      show _ = _
      rw [← range_map_ts (dpN h) d HD.out, ← hz, List.map_map]; rfl
    gi_wp2_with fail
    refine ⟨by simp, .inl ⟨_, _, rfl, run_takeDeferred hK, ?_⟩⟩
    exact ⟨_, results_tmp rfl _ _ _, by rw [← hfin.out]; simp, hB1.trans (belowK_b (w := w) (Nat.le_refl _) W D _ _ (by omega) hK rfl rfl)⟩
  case stop =>
    rintro D cc pre W _ _ h _
    exact h.elim
end Go.Proofs.Ytjfbbdhmcljhnaa
