import Derived.Test.YtdjoelhiahpmlaaM44
import Derived.Deep.RegionHeld3
namespace Go.Proofs.Ytdjoelhiahpmlaa
open Go.RowKit Go.Shelf Go.Sort
set_option linter.unusedVariables false
set_option linter.unusedSimpArgs false
attribute [local go_sem] Oper.semAt_some

/-- an object's type whose blocks all lie from L on -/
def FrO (L : Nat) (W : World) (h : Nat) (o : OB) (v : Value) : Prop := ∃ (ko : Option Addr) (kc : Nat) (fo : Option Addr) (fc : Nat) (mo : Option Addr) (mc : Nat) (c0 c1 c2 c3 c4 c5 c6 c7 c8 : Value),
  v = .agg #[.slice ko o.names.length kc, .slice fo o.fields.length fc, .slice mo o.must.length mc, c0, c1, c2, c3, c4, c5, c6, c7, c8] ∧ ∀ x : World, W.heap.size ≤ x.heap.size → (∀ b, L ≤ b → b < W.heap.size → x.heap[b]? = W.heap[b]?) → InO x h o ko kc fo fc mo mc c0 c1 c2 c3 c4 c5 c6 c7 c8
/-- a type of one array's type, made in a new block -/
theorem fr_arr {L : Nat} {W W2 : World} {b h : Nat} {T : TT} {k : Nat} {c0 c1 c2 c3 c4 c5 c6 c7 c8 : Value} (hF : FrT L W h T (.agg #[c0, c1, c2, c3, c4, c5, c6, c7, c8])) (hb : Below W.heap.size W W2) (hL : L ≤ b)
    (hr : W2.heap[b]? = some (.cells #[c0, c1, c2, c3, c4, c5, c6, c7, c8, .int .i64 (k : Int), .int .i64 (k : Int)] 50 (0, 0))) :
    FrT L W2 (h + 1) (.mk false false false false false [] [] [.mk T (k : Int) (k : Int)] []) (.agg #[.bool false, .bool false, .bool false, .bool false, .slice none 0 0, .bool false, .slice none 0 0, .slice (some ⟨b, 0, none⟩) 1 1, .slice none 0 0]) := by
  intro x hs hx
  have hl := lt_of_row hr
  have hr2 := (hx b hL hl).trans hr
  have hT : InT x h T (.agg #[c0, c1, c2, c3, c4, c5, c6, c7, c8]) := hF.keep hb x hs hx
  refine ⟨none, 0, none, 0, some ⟨b, 0, none⟩, 1, none, 0, rfl, ⟨Nat.le_refl _, Nat.le_refl _, Nat.le_refl _, Nat.le_refl _⟩, ⟨Nat.zero_le _, Nat.zero_le _, by show 1 ≤ _; decide, Nat.zero_le _⟩, fun p hp => absurd hp (List.not_mem_nil), fun p hp => absurd hp (List.not_mem_nil), ⟨fun h => absurd h (Nat.lt_irrefl 0)⟩, ⟨fun h => absurd h (Nat.lt_irrefl 0)⟩, fun _ => ⟨b, 0, rfl, by omega, fun i hi => ?_⟩, fun h => absurd h (Nat.lt_irrefl 0)⟩
  have hi0 : i = 0 := by
    have : i < 1 := hi
    omega
  subst hi0
  exact ⟨c0, c1, c2, c3, c4, c5, c6, c7, c8, ⟨cell_of_row _ _ 0 _ _ _ hr2, cell_of_row _ _ 1 _ _ _ hr2, cell_of_row _ _ 2 _ _ _ hr2, cell_of_row _ _ 3 _ _ _ hr2, cell_of_row _ _ 4 _ _ _ hr2, cell_of_row _ _ 5 _ _ _ hr2, cell_of_row _ _ 6 _ _ _ hr2, cell_of_row _ _ 7 _ _ _ hr2, cell_of_row _ _ 8 _ _ _ hr2⟩, cell_of_row _ _ 9 _ _ _ hr2, cell_of_row _ _ 10 _ _ _ hr2, hT⟩
/-- a type of one object's type, made in a new block -/
theorem fr_obj {L : Nat} {W W2 : World} {b h : Nat} {o : OB} {cs : Array Value} (hF : FrO L W h o (.agg cs)) (hb : Below W.heap.size W W2) (hL : L ≤ b) (hr : W2.heap[b]? = some (.cells cs 55 (0, 0))) :
    FrT L W2 (h + 1) (.mk false false false false false [] [] [] [o]) (.agg #[.bool false, .bool false, .bool false, .bool false, .slice none 0 0, .bool false, .slice none 0 0, .slice none 0 0, .slice (some ⟨b, 0, none⟩) 1 1]) := by
  intro x hs hx
  obtain ⟨ko, kc, fo, fc, mo, mc, c0, c1, c2, c3, c4, c5, c6, c7, c8, e, hI⟩ := hF
  simp only [Value.agg.injEq] at e
  subst e
  have hl := lt_of_row hr
  have hr2 := (hx b hL hl).trans hr
  have hO := hI x (Nat.le_trans hb.size hs) (fun b h1 h2 => (hx b h1 (Nat.lt_of_lt_of_le h2 hb.size)).trans (hb.block b h2))
  refine ⟨none, 0, none, 0, none, 0, some ⟨b, 0, none⟩, 1, rfl, ⟨Nat.le_refl _, Nat.le_refl _, Nat.le_refl _, Nat.le_refl _⟩, ⟨Nat.zero_le _, Nat.zero_le _, Nat.zero_le _, by show 1 ≤ _; decide⟩, fun p hp => absurd hp (List.not_mem_nil), fun p hp => absurd hp (List.not_mem_nil), ⟨fun h => absurd h (Nat.lt_irrefl 0)⟩, ⟨fun h => absurd h (Nat.lt_irrefl 0)⟩, fun h => absurd h (Nat.lt_irrefl 0), fun _ => ⟨b, 0, rfl, by omega, fun i hi => ?_⟩⟩
  have hi0 : i = 0 := by
    have : i < 1 := hi
    omega
  subst hi0
  refine ⟨ko, kc, fo, fc, mo, mc, c0, c1, c2, c3, c4, c5, c6, c7, c8, ⟨cell_of_row _ _ 0 _ _ _ hr2, cell_of_row _ _ 1 _ _ _ hr2, cell_of_row _ _ 2 _ _ _ hr2⟩, ⟨cell_of_row _ _ 3 _ _ _ hr2, cell_of_row _ _ 4 _ _ _ hr2, cell_of_row _ _ 5 _ _ _ hr2, cell_of_row _ _ 6 _ _ _ hr2, cell_of_row _ _ 7 _ _ _ hr2, cell_of_row _ _ 8 _ _ _ hr2, cell_of_row _ _ 9 _ _ _ hr2, cell_of_row _ _ 10 _ _ _ hr2, cell_of_row _ _ 11 _ _ _ hr2⟩, hO.caps, hO.lens, hO.nm, hO.ms, hO.fd, hO.rest⟩

set_option maxRecDepth 100000 in
set_option maxHeartbeats 3200000 in
theorem around_zero (kd : Int) (nm tx : ByteArray) (io : Option Addr) (NI icap : Nat) (ko : Option Addr) (NK kcap : Nat) (w : World) : Calls Try.prog 37 #[.agg #[.int .i64 kd, .string nm, .string tx, .slice io NI icap, .slice ko NK kcap], .int .i64 0] w fun e w' => (∃ v, e = .returned v ∧ Hid (FrT w.heap.size w' 2 ttEv v)) ∧ Below w.heap.size w w' := by
  obtain ⟨W0, hW0⟩ : ∃ W0, (w.alloc (.cells #[.int .i64 kd, .string nm, .string tx, .slice io NI icap, .slice ko NK kcap] 25)).alloc (.cells #[.bool false, .bool false, .bool false, .bool false, .slice none 0 0, .bool false, .slice none 0 0, .slice none 0 0, .slice none 0 0] 33) = W0 := ⟨_, rfl⟩
  have HB0 : Hid (Below w.heap.size w W0) := by rw [← hW0]; exact ((Below.refl _ w).alloc (Nat.le_refl _) _).alloc (by simp) _
  have HR0 : Hid (W0.heap[w.heap.size + 1]? = some (.cells #[.bool false, .bool false, .bool false, .bool false, .slice none 0 0, .bool false, .slice none 0 0, .slice none 0 0, .slice none 0 0] 33 (0, 0))) := by
    show _ = _
    rw [← hW0]
    have h := World.alloc_heap_new (w.alloc (.cells #[.int .i64 kd, .string nm, .string tx, .slice io NI icap, .slice ko NK kcap] 25)) (.cells #[.bool false, .bool false, .bool false, .bool false, .slice none 0 0, .bool false, .slice none 0 0, .slice none 0 0, .slice none 0 0] 33)
    rw [World.size_alloc] at h
    exact h
  have HV0 : Hid (W0.heap[w.heap.size]? = some (.cells #[.int .i64 kd, .string nm, .string tx, .slice io NI icap, .slice ko NK kcap] 25 (0, 0))) := by
    show _ = _
    rw [← hW0]
    exact (Below.heap_alloc _ _ _ (by simp)).trans (World.alloc_heap_new w _)
  have c0 := cell_of_row _ _ 0 _ _ _ HV0.out
  have c1 := cell_of_row _ _ 1 _ _ _ HV0.out
  have c2 := cell_of_row _ _ 2 _ _ _ HV0.out
  have c3 := cell_of_row _ _ 3 _ _ _ HV0.out
  have c4 := cell_of_row _ _ 4 _ _ _ HV0.out
  go_enter Try.func37, Try.ntmps37
  go_wp2_with fail
  refine (w_sfEvery _).mono ?_
  rintro e w1 ⟨rfl, hq⟩
  have HB1 := Hid.mk (HB0.out.trans (hq.mono HB0.out.size))
  have HR1 : Hid (w1.heap[w.heap.size + 1]? = _) := (hq.block _ (lt_of_row HR0.out)).trans HR0.out
  clear hq hW0 c0 c1 c2 c3 c4
  have g0 := cell_of_row _ _ 0 _ _ _ HR1.out
  have f0 := frozen_row9 (j := 0) HR1.out
  have g1 := cell_of_row _ _ 1 _ _ _ HR1.out
  have f1 := frozen_row9 (j := 1) HR1.out
  have g2 := cell_of_row _ _ 2 _ _ _ HR1.out
  have f2 := frozen_row9 (j := 2) HR1.out
  have g3 := cell_of_row _ _ 3 _ _ _ HR1.out
  have f3 := frozen_row9 (j := 3) HR1.out
  have g4 := cell_of_row _ _ 4 _ _ _ HR1.out
  have f4 := frozen_row9 (j := 4) HR1.out
  have g5 := cell_of_row _ _ 5 _ _ _ HR1.out
  have f5 := frozen_row9 (j := 5) HR1.out
  have g6 := cell_of_row _ _ 6 _ _ _ HR1.out
  have f6 := frozen_row9 (j := 6) HR1.out
  have g7 := cell_of_row _ _ 7 _ _ _ HR1.out
  have f7 := frozen_row9 (j := 7) HR1.out
  have g8 := cell_of_row _ _ 8 _ _ _ HR1.out
  have f8 := frozen_row9 (j := 8) HR1.out
  go_wp2_with fail
  (try simp only [Exit.inBlock, Exit.then])
  generalize hz9 : ((((((((w1.setCell ⟨w.heap.size + 1, 0, none⟩ (.bool true)).setCell ⟨w.heap.size + 1, 1, none⟩ (.bool false)).setCell ⟨w.heap.size + 1, 2, none⟩ (.bool false)).setCell ⟨w.heap.size + 1, 3, none⟩ (.bool false)).setCell ⟨w.heap.size + 1, 4, none⟩ (.slice none 0 0)).setCell ⟨w.heap.size + 1, 5, none⟩ (.bool false)).setCell ⟨w.heap.size + 1, 6, none⟩ (.slice none 0 0)).setCell ⟨w.heap.size + 1, 7, none⟩ (.slice none 0 0)).setCell ⟨w.heap.size + 1, 8, none⟩ (.slice none 0 0) = wz
  obtain ⟨e7, k7, s7⟩ := rbox_set9 w1 _ _ _ _ _ _ _ _ _ _ _ _ _ _ _ _ _ _ _ _ (HR1.out) wz hz9.symm
  have d0 := cell_of_row _ _ 0 _ _ _ e7
  have d1 := cell_of_row _ _ 1 _ _ _ e7
  have d2 := cell_of_row _ _ 2 _ _ _ e7
  have d3 := cell_of_row _ _ 3 _ _ _ e7
  have d4 := cell_of_row _ _ 4 _ _ _ e7
  have d5 := cell_of_row _ _ 5 _ _ _ e7
  have d6 := cell_of_row _ _ 6 _ _ _ e7
  have d7 := cell_of_row _ _ 7 _ _ _ e7
  have d8 := cell_of_row _ _ 8 _ _ _ e7
  have hbz : Below w.heap.size w wz := by rw [← hz9]; exact (((((((((HB1.out.setCell (p := ⟨w.heap.size + 1, 0, none⟩) (by show w.heap.size ≤ w.heap.size + 1; omega) _).setCell (p := ⟨w.heap.size + 1, 1, none⟩) (by show w.heap.size ≤ w.heap.size + 1; omega) _).setCell (p := ⟨w.heap.size + 1, 2, none⟩) (by show w.heap.size ≤ w.heap.size + 1; omega) _).setCell (p := ⟨w.heap.size + 1, 3, none⟩) (by show w.heap.size ≤ w.heap.size + 1; omega) _).setCell (p := ⟨w.heap.size + 1, 4, none⟩) (by show w.heap.size ≤ w.heap.size + 1; omega) _).setCell (p := ⟨w.heap.size + 1, 5, none⟩) (by show w.heap.size ≤ w.heap.size + 1; omega) _).setCell (p := ⟨w.heap.size + 1, 6, none⟩) (by show w.heap.size ≤ w.heap.size + 1; omega) _).setCell (p := ⟨w.heap.size + 1, 7, none⟩) (by show w.heap.size ≤ w.heap.size + 1; omega) _).setCell (p := ⟨w.heap.size + 1, 8, none⟩) (by show w.heap.size ≤ w.heap.size + 1; omega) _)
  refine bodyPost_ret (v := .agg #[.bool true, .bool false, .bool false, .bool false, .slice none 0 0, .bool false, .slice none 0 0, .slice none 0 0, .slice none 0 0]) (by simp [results, Try.results37, go_sem, d0, d1, d2, d3, d4, d5, d6, d7, d8]) rfl ?_
  exact ⟨⟨_, rfl, Hid.mk (fun x _ _ => inT_evr x 1)⟩, hbz⟩

set_option maxRecDepth 100000 in
set_option maxHeartbeats 3200000 in
theorem around_arr (nm tx : ByteArray) (io : Option Addr) (NI icap : Nat) (ko : Option Addr) (NK kcap : Nat) (h : Int) (w : World) (m : Nat) (CT : TT) (hh : (h == 0) = false)
    (HI : Hid (∀ u, Below w.heap.size w u → Calls Try.prog 50 #[.slice io NI icap, .int .i64 h] u fun e w' => (∃ v, e = .returned v ∧ Hid (FrT u.heap.size w' m CT v)) ∧ Below u.heap.size u w')) :
    Calls Try.prog 37 #[.agg #[.int .i64 5, .string nm, .string tx, .slice io NI icap, .slice ko NK kcap], .int .i64 h] w fun e w' => (∃ v, e = .returned v ∧ Hid (FrT w.heap.size w' (m + 1) (.mk false false false false false [] [] [.mk CT (NI : Int) (NI : Int)] []) v)) ∧ Below w.heap.size w w' := by
  obtain ⟨W0, hW0⟩ : ∃ W0, (w.alloc (.cells #[.int .i64 5, .string nm, .string tx, .slice io NI icap, .slice ko NK kcap] 25)).alloc (.cells #[.bool false, .bool false, .bool false, .bool false, .slice none 0 0, .bool false, .slice none 0 0, .slice none 0 0, .slice none 0 0] 33) = W0 := ⟨_, rfl⟩
  have HB0 : Hid (Below w.heap.size w W0) := by rw [← hW0]; exact ((Below.refl _ w).alloc (Nat.le_refl _) _).alloc (by simp) _
  have HR0 : Hid (W0.heap[w.heap.size + 1]? = some (.cells #[.bool false, .bool false, .bool false, .bool false, .slice none 0 0, .bool false, .slice none 0 0, .slice none 0 0, .slice none 0 0] 33 (0, 0))) := by
    show _ = _
    rw [← hW0]
    have h := World.alloc_heap_new (w.alloc (.cells #[.int .i64 5, .string nm, .string tx, .slice io NI icap, .slice ko NK kcap] 25)) (.cells #[.bool false, .bool false, .bool false, .bool false, .slice none 0 0, .bool false, .slice none 0 0, .slice none 0 0, .slice none 0 0] 33)
    rw [World.size_alloc] at h
    exact h
  have HV0 : Hid (W0.heap[w.heap.size]? = some (.cells #[.int .i64 5, .string nm, .string tx, .slice io NI icap, .slice ko NK kcap] 25 (0, 0))) := by
    show _ = _
    rw [← hW0]
    exact (Below.heap_alloc _ _ _ (by simp)).trans (World.alloc_heap_new w _)
  have c0 := cell_of_row _ _ 0 _ _ _ HV0.out
  have c1 := cell_of_row _ _ 1 _ _ _ HV0.out
  have c2 := cell_of_row _ _ 2 _ _ _ HV0.out
  have c3 := cell_of_row _ _ 3 _ _ _ HV0.out
  have c4 := cell_of_row _ _ 4 _ _ _ HV0.out

  go_enter Try.func37, Try.ntmps37
  go_wp2_with fail
  refine (HI.out _ HB0.out).mono ?_
  rintro e w3 ⟨⟨vw, rfl, hF⟩, hq⟩
  have hF2 := hF.out.here
  obtain ⟨ta, tb, tc, td, ⟨teo, ten, tec⟩, tf, ⟨tgo, tgn, tgc⟩, ⟨tio, tinn, tic⟩, ⟨tjo, tjn, tjc⟩, esht⟩ := inT_shape hF2
  simp only [Value.agg.injEq, Array.mk.injEq, List.cons.injEq, and_true] at esht
  obtain ⟨rfl, rfl, rfl, rfl, rfl, rfl, rfl, rfl, rfl⟩ := esht
  clear hF2
  obtain ⟨W4, hW4⟩ : ∃ W4, w3.alloc (.cells #[.bool ta, .bool tb, .bool tc, .bool td, .slice teo ten tec, .bool tf, .slice tgo tgn tgc, .slice tio tinn tic, .slice tjo tjn tjc, .int .i64 (NI : Int), .int .i64 (NI : Int)] 50) = W4 := ⟨_, rfl⟩
  have hb4 : Below w3.heap.size w3 W4 := by rw [← hW4]; exact below1 w3 _
  have HB4 := Hid.mk ((HB0.out.trans (hq.mono HB0.out.size)).trans (hb4.mono (HB0.out.trans (hq.mono HB0.out.size)).size))
  have HR4 : Hid (W4.heap[w.heap.size + 1]? = _) := (hb4.block _ (Nat.lt_of_lt_of_le (lt_of_row HR0.out) hq.size)).trans ((hq.block _ (lt_of_row HR0.out)).trans HR0.out)
  have HN4 : Hid (W4.heap[w3.heap.size]? = some (.cells #[.bool ta, .bool tb, .bool tc, .bool td, .slice teo ten tec, .bool tf, .slice tgo tgn tgc, .slice tio tinn tic, .slice tjo tjn tjc, .int .i64 (NI : Int), .int .i64 (NI : Int)] 50 (0, 0))) := by show _ = _; rw [← hW4]; exact World.alloc_heap_new w3 _
  have HL := Hid.mk (lt_of_row HR0.out)
  have HQ := Hid.mk hq.size
  have HF4 := Hid.mk (fr_arr (b := w3.heap.size) hF.out hb4 hq.size HN4.out)
  have HS4 : Hid (W4.heap.size = w3.heap.size + 1) := by show _ = _; rw [← hW4]; simp
  clear hq hb4 c0 c1 c2 c3 c4 hW0
  have g0 := cell_of_row _ _ 0 _ _ _ HR4.out
  have f0 := frozen_row9 (j := 0) HR4.out
  have g1 := cell_of_row _ _ 1 _ _ _ HR4.out
  have f1 := frozen_row9 (j := 1) HR4.out
  have g2 := cell_of_row _ _ 2 _ _ _ HR4.out
  have f2 := frozen_row9 (j := 2) HR4.out
  have g3 := cell_of_row _ _ 3 _ _ _ HR4.out
  have f3 := frozen_row9 (j := 3) HR4.out
  have g4 := cell_of_row _ _ 4 _ _ _ HR4.out
  have f4 := frozen_row9 (j := 4) HR4.out
  have g5 := cell_of_row _ _ 5 _ _ _ HR4.out
  have f5 := frozen_row9 (j := 5) HR4.out
  have g6 := cell_of_row _ _ 6 _ _ _ HR4.out
  have f6 := frozen_row9 (j := 6) HR4.out
  have g7 := cell_of_row _ _ 7 _ _ _ HR4.out
  have f7 := frozen_row9 (j := 7) HR4.out
  have g8 := cell_of_row _ _ 8 _ _ _ HR4.out
  have f8 := frozen_row9 (j := 8) HR4.out
  go_wp2_with fail
  (try simp only [Exit.inBlock, Exit.then])
  generalize hz9 : ((((((((W4.setCell ⟨w.heap.size + 1, 0, none⟩ (.bool false)).setCell ⟨w.heap.size + 1, 1, none⟩ (.bool false)).setCell ⟨w.heap.size + 1, 2, none⟩ (.bool false)).setCell ⟨w.heap.size + 1, 3, none⟩ (.bool false)).setCell ⟨w.heap.size + 1, 4, none⟩ (.slice none 0 0)).setCell ⟨w.heap.size + 1, 5, none⟩ (.bool false)).setCell ⟨w.heap.size + 1, 6, none⟩ (.slice none 0 0)).setCell ⟨w.heap.size + 1, 7, none⟩ (.slice (some ⟨w3.heap.size, 0, none⟩) 1 1)).setCell ⟨w.heap.size + 1, 8, none⟩ (.slice none 0 0) = wz
  obtain ⟨e7, k7, s7⟩ := rbox_set9 W4 _ _ _ _ _ _ _ _ _ _ _ _ _ _ _ _ _ _ _ _ (HR4.out) wz hz9.symm
  have d0 := cell_of_row _ _ 0 _ _ _ e7
  have d1 := cell_of_row _ _ 1 _ _ _ e7
  have d2 := cell_of_row _ _ 2 _ _ _ e7
  have d3 := cell_of_row _ _ 3 _ _ _ e7
  have d4 := cell_of_row _ _ 4 _ _ _ e7
  have d5 := cell_of_row _ _ 5 _ _ _ e7
  have d6 := cell_of_row _ _ 6 _ _ _ e7
  have d7 := cell_of_row _ _ 7 _ _ _ e7
  have d8 := cell_of_row _ _ 8 _ _ _ e7
  have hbz : Below w.heap.size w wz := by rw [← hz9]; exact (((((((((HB4.out.setCell (p := ⟨w.heap.size + 1, 0, none⟩) (by show w.heap.size ≤ w.heap.size + 1; omega) _).setCell (p := ⟨w.heap.size + 1, 1, none⟩) (by show w.heap.size ≤ w.heap.size + 1; omega) _).setCell (p := ⟨w.heap.size + 1, 2, none⟩) (by show w.heap.size ≤ w.heap.size + 1; omega) _).setCell (p := ⟨w.heap.size + 1, 3, none⟩) (by show w.heap.size ≤ w.heap.size + 1; omega) _).setCell (p := ⟨w.heap.size + 1, 4, none⟩) (by show w.heap.size ≤ w.heap.size + 1; omega) _).setCell (p := ⟨w.heap.size + 1, 5, none⟩) (by show w.heap.size ≤ w.heap.size + 1; omega) _).setCell (p := ⟨w.heap.size + 1, 6, none⟩) (by show w.heap.size ≤ w.heap.size + 1; omega) _).setCell (p := ⟨w.heap.size + 1, 7, none⟩) (by show w.heap.size ≤ w.heap.size + 1; omega) _).setCell (p := ⟨w.heap.size + 1, 8, none⟩) (by show w.heap.size ≤ w.heap.size + 1; omega) _)
  refine bodyPost_ret (v := .agg #[.bool false, .bool false, .bool false, .bool false, .slice none 0 0, .bool false, .slice none 0 0, .slice (some ⟨w3.heap.size, 0, none⟩) 1 1, .slice none 0 0]) (by simp [results, Try.results37, go_sem, d0, d1, d2, d3, d4, d5, d6, d7, d8]) rfl ?_
  exact ⟨⟨_, rfl, Hid.mk ((HF4.out.set s7 (fun b hb => k7 b (by have := HL.out; omega))).mono (by have := HL.out; omega))⟩, hbz⟩

set_option maxRecDepth 100000 in
set_option maxHeartbeats 3200000 in
theorem around_obj (nm tx : ByteArray) (io : Option Addr) (NI icap : Nat) (ko : Option Addr) (NK kcap : Nat) (h : Int) (w : World) (m : Nat) (O : OB) (hh : (h == 0) = false)
    (HO : Hid (∀ u, Below w.heap.size w u → Calls Try.prog 49 #[.agg #[.int .i64 6, .string nm, .string tx, .slice io NI icap, .slice ko NK kcap], .int .i64 h] u fun e w' => (∃ v, e = .returned v ∧ Hid (FrO u.heap.size w' m O v)) ∧ Below u.heap.size u w')) :
    Calls Try.prog 37 #[.agg #[.int .i64 6, .string nm, .string tx, .slice io NI icap, .slice ko NK kcap], .int .i64 h] w fun e w' => (∃ v, e = .returned v ∧ Hid (FrT w.heap.size w' (m + 1) (.mk false false false false false [] [] [] [O]) v)) ∧ Below w.heap.size w w' := by
  obtain ⟨W0, hW0⟩ : ∃ W0, (w.alloc (.cells #[.int .i64 6, .string nm, .string tx, .slice io NI icap, .slice ko NK kcap] 25)).alloc (.cells #[.bool false, .bool false, .bool false, .bool false, .slice none 0 0, .bool false, .slice none 0 0, .slice none 0 0, .slice none 0 0] 33) = W0 := ⟨_, rfl⟩
  have HB0 : Hid (Below w.heap.size w W0) := by rw [← hW0]; exact ((Below.refl _ w).alloc (Nat.le_refl _) _).alloc (by simp) _
  have HR0 : Hid (W0.heap[w.heap.size + 1]? = some (.cells #[.bool false, .bool false, .bool false, .bool false, .slice none 0 0, .bool false, .slice none 0 0, .slice none 0 0, .slice none 0 0] 33 (0, 0))) := by
    show _ = _
    rw [← hW0]
    have h := World.alloc_heap_new (w.alloc (.cells #[.int .i64 6, .string nm, .string tx, .slice io NI icap, .slice ko NK kcap] 25)) (.cells #[.bool false, .bool false, .bool false, .bool false, .slice none 0 0, .bool false, .slice none 0 0, .slice none 0 0, .slice none 0 0] 33)
    rw [World.size_alloc] at h
    exact h
  have HV0 : Hid (W0.heap[w.heap.size]? = some (.cells #[.int .i64 6, .string nm, .string tx, .slice io NI icap, .slice ko NK kcap] 25 (0, 0))) := by
    show _ = _
    rw [← hW0]
    exact (Below.heap_alloc _ _ _ (by simp)).trans (World.alloc_heap_new w _)
  have c0 := cell_of_row _ _ 0 _ _ _ HV0.out
  have c1 := cell_of_row _ _ 1 _ _ _ HV0.out
  have c2 := cell_of_row _ _ 2 _ _ _ HV0.out
  have c3 := cell_of_row _ _ 3 _ _ _ HV0.out
  have c4 := cell_of_row _ _ 4 _ _ _ HV0.out

  go_enter Try.func37, Try.ntmps37
  go_wp2_with fail
  refine (HO.out _ HB0.out).mono ?_
  rintro e w3 ⟨⟨vw, rfl, hF⟩, hq⟩
  obtain ⟨ko2, kc2, fo, fc, mo, mc, q0, q1, q2, q3, q4, q5, q6, q7, q8, rfl, hO⟩ := hF.out
  have hF3 : FrO W0.heap.size w3 m O _ := hF.out
  obtain ⟨W4, hW4⟩ : ∃ W4, w3.alloc (.cells #[.slice ko2 O.names.length kc2, .slice fo O.fields.length fc, .slice mo O.must.length mc, q0, q1, q2, q3, q4, q5, q6, q7, q8] 55) = W4 := ⟨_, rfl⟩
  have hb4 : Below w3.heap.size w3 W4 := by rw [← hW4]; exact below1 w3 _
  have HB4 := Hid.mk ((HB0.out.trans (hq.mono HB0.out.size)).trans (hb4.mono (HB0.out.trans (hq.mono HB0.out.size)).size))
  have HR4 : Hid (W4.heap[w.heap.size + 1]? = _) := (hb4.block _ (Nat.lt_of_lt_of_le (lt_of_row HR0.out) hq.size)).trans ((hq.block _ (lt_of_row HR0.out)).trans HR0.out)
  have HN4 : Hid (W4.heap[w3.heap.size]? = some (.cells #[.slice ko2 O.names.length kc2, .slice fo O.fields.length fc, .slice mo O.must.length mc, q0, q1, q2, q3, q4, q5, q6, q7, q8] 55 (0, 0))) := by show _ = _; rw [← hW4]; exact World.alloc_heap_new w3 _
  have HL := Hid.mk (lt_of_row HR0.out)
  have HQ := Hid.mk hq.size
  have HF4 := Hid.mk (fr_obj (b := w3.heap.size) hF3 hb4 hq.size HN4.out)
  have HS4 : Hid (W4.heap.size = w3.heap.size + 1) := by show _ = _; rw [← hW4]; simp
  clear hq hb4 c0 c1 c2 c3 c4 hW0
  have g0 := cell_of_row _ _ 0 _ _ _ HR4.out
  have f0 := frozen_row9 (j := 0) HR4.out
  have g1 := cell_of_row _ _ 1 _ _ _ HR4.out
  have f1 := frozen_row9 (j := 1) HR4.out
  have g2 := cell_of_row _ _ 2 _ _ _ HR4.out
  have f2 := frozen_row9 (j := 2) HR4.out
  have g3 := cell_of_row _ _ 3 _ _ _ HR4.out
  have f3 := frozen_row9 (j := 3) HR4.out
  have g4 := cell_of_row _ _ 4 _ _ _ HR4.out
  have f4 := frozen_row9 (j := 4) HR4.out
  have g5 := cell_of_row _ _ 5 _ _ _ HR4.out
  have f5 := frozen_row9 (j := 5) HR4.out
  have g6 := cell_of_row _ _ 6 _ _ _ HR4.out
  have f6 := frozen_row9 (j := 6) HR4.out
  have g7 := cell_of_row _ _ 7 _ _ _ HR4.out
  have f7 := frozen_row9 (j := 7) HR4.out
  have g8 := cell_of_row _ _ 8 _ _ _ HR4.out
  have f8 := frozen_row9 (j := 8) HR4.out
  go_wp2_with fail
  (try simp only [Exit.inBlock, Exit.then])
  generalize hz9 : ((((((((W4.setCell ⟨w.heap.size + 1, 0, none⟩ (.bool false)).setCell ⟨w.heap.size + 1, 1, none⟩ (.bool false)).setCell ⟨w.heap.size + 1, 2, none⟩ (.bool false)).setCell ⟨w.heap.size + 1, 3, none⟩ (.bool false)).setCell ⟨w.heap.size + 1, 4, none⟩ (.slice none 0 0)).setCell ⟨w.heap.size + 1, 5, none⟩ (.bool false)).setCell ⟨w.heap.size + 1, 6, none⟩ (.slice none 0 0)).setCell ⟨w.heap.size + 1, 7, none⟩ (.slice none 0 0)).setCell ⟨w.heap.size + 1, 8, none⟩ (.slice (some ⟨w3.heap.size, 0, none⟩) 1 1) = wz
  obtain ⟨e7, k7, s7⟩ := rbox_set9 W4 _ _ _ _ _ _ _ _ _ _ _ _ _ _ _ _ _ _ _ _ (HR4.out) wz hz9.symm
  have d0 := cell_of_row _ _ 0 _ _ _ e7
  have d1 := cell_of_row _ _ 1 _ _ _ e7
  have d2 := cell_of_row _ _ 2 _ _ _ e7
  have d3 := cell_of_row _ _ 3 _ _ _ e7
  have d4 := cell_of_row _ _ 4 _ _ _ e7
  have d5 := cell_of_row _ _ 5 _ _ _ e7
  have d6 := cell_of_row _ _ 6 _ _ _ e7
  have d7 := cell_of_row _ _ 7 _ _ _ e7
  have d8 := cell_of_row _ _ 8 _ _ _ e7
  have hbz : Below w.heap.size w wz := by rw [← hz9]; exact (((((((((HB4.out.setCell (p := ⟨w.heap.size + 1, 0, none⟩) (by show w.heap.size ≤ w.heap.size + 1; omega) _).setCell (p := ⟨w.heap.size + 1, 1, none⟩) (by show w.heap.size ≤ w.heap.size + 1; omega) _).setCell (p := ⟨w.heap.size + 1, 2, none⟩) (by show w.heap.size ≤ w.heap.size + 1; omega) _).setCell (p := ⟨w.heap.size + 1, 3, none⟩) (by show w.heap.size ≤ w.heap.size + 1; omega) _).setCell (p := ⟨w.heap.size + 1, 4, none⟩) (by show w.heap.size ≤ w.heap.size + 1; omega) _).setCell (p := ⟨w.heap.size + 1, 5, none⟩) (by show w.heap.size ≤ w.heap.size + 1; omega) _).setCell (p := ⟨w.heap.size + 1, 6, none⟩) (by show w.heap.size ≤ w.heap.size + 1; omega) _).setCell (p := ⟨w.heap.size + 1, 7, none⟩) (by show w.heap.size ≤ w.heap.size + 1; omega) _).setCell (p := ⟨w.heap.size + 1, 8, none⟩) (by show w.heap.size ≤ w.heap.size + 1; omega) _)
  refine bodyPost_ret (v := .agg #[.bool false, .bool false, .bool false, .bool false, .slice none 0 0, .bool false, .slice none 0 0, .slice none 0 0, .slice (some ⟨w3.heap.size, 0, none⟩) 1 1]) (by simp [results, Try.results37, go_sem, d0, d1, d2, d3, d4, d5, d6, d7, d8]) rfl ?_
  exact ⟨⟨_, rfl, Hid.mk ((HF4.out.set s7 (fun b hb => k7 b (by have := HL.out; omega))).mono (by have := HL.out; omega))⟩, hbz⟩
end Go.Proofs.Ytdjoelhiahpmlaa
namespace Go.Proofs.Ytdjoelhiahpmlaa
open Go.RowKit Go.Shelf Go.Sort
set_option linter.unusedVariables false
set_option linter.unusedSimpArgs false
attribute [local go_sem] Oper.semAt_some

set_option maxRecDepth 100000 in
set_option maxHeartbeats 6400000 in
/-- what is told of all items of an array -/
theorem w_nearItem (h : Nat) (ih : NrC h) (H : Int) (hH : H = (h : Int) + 1) (h9 : h ≤ 8) (hv : Nat) (io : Option Addr) (N icap : Nat) (x0 : VT) (r : List VT) (w : World) (hi : IIn w hv io (x0 :: r)) (hN : r.length + 1 = N) (hcap : N ≤ icap) (hN2 : N ≤ 140737488355328) (hf : ∀ x ∈ x0 :: r, formN hv x = true)
    (HSm : Hid (∀ y ∈ r, ∀ u va vb, InT u (h + 2) (nrN h y) va → InT u (h + 2) (nrN h x0) vb → Calls Try.prog 57 #[va, vb] u fun e w' => e = .returned (.bool (sameT (h + 2) (nrN h x0) (nrN h y))) ∧ Below u.heap.size u w')) :
    Calls Try.prog 50 #[.slice io N icap, .int .i64 H] w fun e w' => (∃ v, e = .returned v ∧ Hid (FrT w.heap.size w' (h + 2) (itN h (nrN h) (x0 :: r)) v)) ∧ Below w.heap.size w w' := by
  have HI := Hid.mk hi
  have HNN := Hid.mk hN
  have HFm := Hid.mk hf
  have HIh := Hid.mk ih
  have HCm := Hid.mk (fun u (hu : Below w.heap.size w u) => w_common hv (h + 1) io N icap (x0 :: r) u (hi.keep hu) hN hcap hN2 (fun x hx => isK_of (hf x hx)) (by omega))
  have eH : ((h + 1 : Nat) : Int) = H := by omega
  rw [eH] at HCm
  have HIT := Hid.mk (it_eq h (nrN h) x0 r)
  generalize itN h (nrN h) (x0 :: r) = IT at HIT ⊢
  generalize comN (h + 1) (x0 :: r) = CT at HIT HCm
  have hw1 : IntKind.wrap .i64 (H - 1) = (h : Int) := by rw [hH]; unfold IntKind.wrap; simp [IntKind.min, IntKind.max, IntKind.signed, IntKind.bits]; omega
  have hn0 : ((N : Int) == 0) = false := by have := hN; simp; omega
  have hnp : (0 : Int) < (N : Int) := by omega
  clear hi hf ih hH eH
  obtain ⟨b, off, hio, hbl, hrow⟩ := HI.out.row (by simp)
  subst hio
  obtain ⟨v0, v1, v2, v3, v4, ⟨c0, c1, c2, c3, c4⟩, ht⟩ := hrow 0 (by simp)
  obtain ⟨ik, inm, itx, iio, iN, iicap, iko, iK, ikcap, rfl, rfl, rfl, rfl, rfl⟩ := ht.shape
  have ht0 : InH w hv x0 _ := ht
  rw [Nat.zero_mul, Nat.add_zero] at c0 c1 c2 c3 c4
  obtain ⟨W0, hW0⟩ : ∃ W0, w.alloc (.cells #[.bool false, .bool false, .bool false, .bool false, .slice none 0 0, .bool false, .slice none 0 0, .slice none 0 0, .slice none 0 0] 33) = W0 := ⟨_, rfl⟩
  have HB0 : Hid (Below w.heap.size w W0) := by rw [← hW0]; exact (Below.refl _ w).alloc (Nat.le_refl _) _
  have HR0 : Hid (W0.heap[w.heap.size]? = some (.cells #[.bool false, .bool false, .bool false, .bool false, .slice none 0 0, .bool false, .slice none 0 0, .slice none 0 0, .slice none 0 0] 33 (0, 0))) := by show _ = _; rw [← hW0]; exact World.alloc_heap_new w _
  have d0 := (HB0.out.cell (p := ⟨b, off, none⟩) hbl).trans c0
  have d1 := (HB0.out.cell (p := ⟨b, off + 1, none⟩) hbl).trans c1
  have d2 := (HB0.out.cell (p := ⟨b, off + 2, none⟩) hbl).trans c2
  have d3 := (HB0.out.cell (p := ⟨b, off + 3, none⟩) hbl).trans c3
  have d4 := (HB0.out.cell (p := ⟨b, off + 4, none⟩) hbl).trans c4
  have HC0 := Hid.mk (HIh.out hv x0 _ W0 (ht0.keep HB0.out) (HFm.out x0 (by simp)))
  clear ht ht0 hrow c0 c1 c2 c3 c4
  go_enter Try.func50, Try.ntmps50
  go_wp2_with fail
  refine HC0.out.mono ?_
  rintro e w1 ⟨⟨vw, rfl, hF⟩, hq⟩
  have hF2 := hF.out.here
  obtain ⟨ta, tb, tc, td, ⟨teo, ten, tec⟩, tf, ⟨tgo, tgn, tgc⟩, ⟨tio, tinn, tic⟩, ⟨tjo, tjn, tjc⟩, esht⟩ := inT_shape hF2
  simp only [Value.agg.injEq, Array.mk.injEq, List.cons.injEq, and_true] at esht
  obtain ⟨rfl, rfl, rfl, rfl, rfl, rfl, rfl, rfl, rfl⟩ := esht
  clear hF2 d0 d1 d2 d3 d4
  obtain ⟨W2, hW2⟩ : ∃ W2, w1.alloc (.cells #[.bool ta, .bool tb, .bool tc, .bool td, .slice teo ten tec, .bool tf, .slice tgo tgn tgc, .slice tio tinn tic, .slice tjo tjn tjc] 33) = W2 := ⟨_, rfl⟩
  obtain ⟨Fb, hFb⟩ : ∃ Fb, w1.heap.size = Fb := ⟨_, rfl⟩
  have hb2 : Below w1.heap.size w1 W2 := by rw [← hW2]; exact below1 w1 _
  have HB2 := Hid.mk ((HB0.out.trans (hq.mono HB0.out.size)).trans (hb2.mono (HB0.out.trans (hq.mono HB0.out.size)).size))
  have HR2 : Hid (W2.heap[w.heap.size]? = some (.cells #[.bool false, .bool false, .bool false, .bool false, .slice none 0 0, .bool false, .slice none 0 0, .slice none 0 0, .slice none 0 0] 33 (0, 0))) := (hb2.block _ (Nat.lt_of_lt_of_le (lt_of_row HR0.out) hq.size)).trans ((hq.block _ (lt_of_row HR0.out)).trans HR0.out)
  have HF2 : Hid (W2.heap[Fb]? = some (.cells #[.bool ta, .bool tb, .bool tc, .bool td, .slice teo ten tec, .bool tf, .slice tgo tgn tgc, .slice tio tinn tic, .slice tjo tjn tjc] 33 (0, 0))) := by show _ = _; rw [← hW2, ← hFb]; exact World.alloc_heap_new w1 _
  have HT2 := Hid.mk (hF.out.keep hb2)
  have HL := Hid.mk (lt_of_row HR0.out)
  have HWq := Hid.mk hW2
  have HBq := Hid.mk hFb
  clear hq hb2 hF hW2 hFb hW0 HC0
  have hnm : N - 1 = r.length := by omega
  by_cases hic : icap = 1
  · have hr0 : r = [] := List.eq_nil_of_length_eq_zero (by omega)
    have HIT1 : Hid (IT = nrN h x0) := by show _ = _; rw [HIT.out, hr0]; rfl
    go_wp2_with fail
    try rw [HWq.out]
    try rw [HBq.out]
    clear HWq HBq
    go_loopw [21] (fun i wr => ∃ k : Nat, k ≤ N - 1 ∧ i = .int .i64 (k : Int) ∧ Hid (Below W2.heap.size W2 wr) ∧ Hid (((r.take k).all fun y => sameT (h + 2) (nrN h x0) (nrN h y)) = true)) (fun i _ => (N - 1) - (intOf i).toNat)
    case atStart => exact ⟨0, Nat.zero_le _, rfl, Below.refl _ _, rfl⟩
    case round =>
      obtain ⟨k, hk, rfl, HB, HQ⟩ := hrel
      have hl1 : ¬ (k : Int) < ((N - 1 : Nat) : Int) := by omega
      have HT := HIT1
      have HB9 := Hid.mk (HB2.out.trans (HB.out.mono HB2.out.size))
      have HR9 : Hid (wr.heap[w.heap.size]? = _) := (HB.out.block _ (lt_of_row HR2.out)).trans HR2.out
      have HF9 : Hid (wr.heap[Fb]? = _) := (HB.out.block _ (lt_of_row HF2.out)).trans HF2.out
      have HT9 := Hid.mk (HT2.out.keep HB.out)
      have z0 := cell_of_row _ _ 0 _ _ _ HF9.out
      have z1 := cell_of_row _ _ 1 _ _ _ HF9.out
      have z2 := cell_of_row _ _ 2 _ _ _ HF9.out
      have z3 := cell_of_row _ _ 3 _ _ _ HF9.out
      have z4 := cell_of_row _ _ 4 _ _ _ HF9.out
      have z5 := cell_of_row _ _ 5 _ _ _ HF9.out
      have z6 := cell_of_row _ _ 6 _ _ _ HF9.out
      have z7 := cell_of_row _ _ 7 _ _ _ HF9.out
      have z8 := cell_of_row _ _ 8 _ _ _ HF9.out
      have g0 := cell_of_row _ _ 0 _ _ _ HR9.out
      have f0 := frozen_row9 (j := 0) HR9.out
      have g1 := cell_of_row _ _ 1 _ _ _ HR9.out
      have f1 := frozen_row9 (j := 1) HR9.out
      have g2 := cell_of_row _ _ 2 _ _ _ HR9.out
      have f2 := frozen_row9 (j := 2) HR9.out
      have g3 := cell_of_row _ _ 3 _ _ _ HR9.out
      have f3 := frozen_row9 (j := 3) HR9.out
      have g4 := cell_of_row _ _ 4 _ _ _ HR9.out
      have f4 := frozen_row9 (j := 4) HR9.out
      have g5 := cell_of_row _ _ 5 _ _ _ HR9.out
      have f5 := frozen_row9 (j := 5) HR9.out
      have g6 := cell_of_row _ _ 6 _ _ _ HR9.out
      have f6 := frozen_row9 (j := 6) HR9.out
      have g7 := cell_of_row _ _ 7 _ _ _ HR9.out
      have f7 := frozen_row9 (j := 7) HR9.out
      have g8 := cell_of_row _ _ 8 _ _ _ HR9.out
      have f8 := frozen_row9 (j := 8) HR9.out
      go_wp2_with fail
      (try simp only [Exit.inBlock, Exit.then])
      generalize hz9 : ((((((((wr.setCell ⟨w.heap.size, 0, none⟩ (.bool ta)).setCell ⟨w.heap.size, 1, none⟩ (.bool tb)).setCell ⟨w.heap.size, 2, none⟩ (.bool tc)).setCell ⟨w.heap.size, 3, none⟩ (.bool td)).setCell ⟨w.heap.size, 4, none⟩ (.slice teo ten tec)).setCell ⟨w.heap.size, 5, none⟩ (.bool tf)).setCell ⟨w.heap.size, 6, none⟩ (.slice tgo tgn tgc)).setCell ⟨w.heap.size, 7, none⟩ (.slice tio tinn tic)).setCell ⟨w.heap.size, 8, none⟩ (.slice tjo tjn tjc) = wz
      obtain ⟨e7, k7, s7⟩ := rbox_set9 wr _ _ _ _ _ _ _ _ _ _ _ _ _ _ _ _ _ _ _ _ (HR9.out) wz hz9.symm
      have d0 := cell_of_row _ _ 0 _ _ _ e7
      have d1 := cell_of_row _ _ 1 _ _ _ e7
      have d2 := cell_of_row _ _ 2 _ _ _ e7
      have d3 := cell_of_row _ _ 3 _ _ _ e7
      have d4 := cell_of_row _ _ 4 _ _ _ e7
      have d5 := cell_of_row _ _ 5 _ _ _ e7
      have d6 := cell_of_row _ _ 6 _ _ _ e7
      have d7 := cell_of_row _ _ 7 _ _ _ e7
      have d8 := cell_of_row _ _ 8 _ _ _ e7
      have hbz : Below w.heap.size w wz := by rw [← hz9]; exact (((((((((HB9.out.setCell (p := ⟨w.heap.size, 0, none⟩) (by show w.heap.size ≤ w.heap.size; omega) _).setCell (p := ⟨w.heap.size, 1, none⟩) (by show w.heap.size ≤ w.heap.size; omega) _).setCell (p := ⟨w.heap.size, 2, none⟩) (by show w.heap.size ≤ w.heap.size; omega) _).setCell (p := ⟨w.heap.size, 3, none⟩) (by show w.heap.size ≤ w.heap.size; omega) _).setCell (p := ⟨w.heap.size, 4, none⟩) (by show w.heap.size ≤ w.heap.size; omega) _).setCell (p := ⟨w.heap.size, 5, none⟩) (by show w.heap.size ≤ w.heap.size; omega) _).setCell (p := ⟨w.heap.size, 6, none⟩) (by show w.heap.size ≤ w.heap.size; omega) _).setCell (p := ⟨w.heap.size, 7, none⟩) (by show w.heap.size ≤ w.heap.size; omega) _).setCell (p := ⟨w.heap.size, 8, none⟩) (by show w.heap.size ≤ w.heap.size; omega) _)
      refine bodyPost_ret (v := .agg #[.bool ta, .bool tb, .bool tc, .bool td, .slice teo ten tec, .bool tf, .slice tgo tgn tgc, .slice tio tinn tic, .slice tjo tjn tjc]) (by simp [results, Try.results50, go_sem, d0, d1, d2, d3, d4, d5, d6, d7, d8]) rfl ?_
      exact ⟨⟨_, rfl, by rw [HT.out]; exact Hid.mk ((HT9.out.set s7 (fun b hb => k7 b (by have := HL.out; omega))).mono (by have := HL.out; omega))⟩, hbz⟩
  · have HIT1 : Hid ((r.all fun y => sameT (h + 2) (nrN h x0) (nrN h y)) = true → IT = nrN h x0) := fun e => by rw [HIT.out, if_pos e]
    go_wp2_with fail
    try rw [HWq.out]
    try rw [HBq.out]
    clear HWq HBq
    go_loopw [21] (fun i wr => ∃ k : Nat, k ≤ N - 1 ∧ i = .int .i64 (k : Int) ∧ Hid (Below W2.heap.size W2 wr) ∧ Hid (((r.take k).all fun y => sameT (h + 2) (nrN h x0) (nrN h y)) = true)) (fun i _ => (N - 1) - (intOf i).toNat)
    case atStart => exact ⟨0, Nat.zero_le _, rfl, Below.refl _ _, rfl⟩
    case round =>
      obtain ⟨k, hk, rfl, HB, HQ⟩ := hrel
      by_cases hlt : k < N - 1
      · have hl1 : (k : Int) < ((N - 1 : Nat) : Int) := by omega
        have hkl : k < r.length := by omega
        obtain ⟨b', off', hio, hbl, hrow⟩ := (HI.out.keep (HB2.out.trans (HB.out.mono HB2.out.size))).row (by simp)
        simp only [Option.some.injEq, Addr.mk.injEq, and_true] at hio
        obtain ⟨rfl, rfl⟩ := hio
        obtain ⟨v0, v1, v2, v3, v4, ⟨c0, c1, c2, c3, c4⟩, ht⟩ := hrow (k + 1) (by simpa using hkl)
        obtain ⟨ik, inm, itx, iio, iN, iicap, iko, iK, ikcap, rfl, rfl, rfl, rfl, rfl⟩ := ht.shape
        have ht0 : InH wr hv r[k] _ := ht
        have eo : off + (k + 1) * 5 = off + 5 + k * 5 := by omega
        rw [eo] at c0 c1 c2 c3 c4
        have HUp := Hid.mk (zall_up (f := fun y => sameT (h + 2) (nrN h x0) (nrN h y)) hkl)
        have HNo := Hid.mk (fun hh => zall_no (f := fun y => sameT (h + 2) (nrN h x0) (nrN h y)) hkl hh)
        have HS1 := Hid.mk (HSm.out r[k] (List.getElem_mem _))
        obtain ⟨W5, hW5⟩ : ∃ W5, wr.alloc (.cells #[.int .i64 ik, .string inm, .string itx, .slice iio iN iicap, .slice iko iK ikcap] 25) = W5 := ⟨_, rfl⟩
        obtain ⟨Bx, hBx⟩ : ∃ Bx, wr.heap.size = Bx := ⟨_, rfl⟩
        have hb5 : Below wr.heap.size wr W5 := by rw [← hW5]; exact below1 wr _
        have HB5 := Hid.mk (HB.out.trans (hb5.mono HB.out.size))
        have HX5 : Hid (W5.heap[Bx]? = some (.cells #[.int .i64 ik, .string inm, .string itx, .slice iio iN iicap, .slice iko iK ikcap] 25 (0, 0))) := by show _ = _; rw [← hW5, ← hBx]; exact World.alloc_heap_new wr _
        have HF5 : Hid (W5.heap[Fb]? = some (.cells #[.bool ta, .bool tb, .bool tc, .bool td, .slice teo ten tec, .bool tf, .slice tgo tgn tgc, .slice tio tinn tic, .slice tjo tjn tjc] 33 (0, 0))) := (HB5.out.block _ (lt_of_row HF2.out)).trans HF2.out
        have HN5 := Hid.mk (fun u (hu : Below W5.heap.size W5 u) => HIh.out hv r[k] _ u ((ht0.keep hb5).keep hu) (HFm.out r[k] (List.mem_cons_of_mem _ (List.getElem_mem _))))
        have HWq := Hid.mk hW5
        have HBq := Hid.mk hBx
        clear hrow hbl ht ht0 hW5 hBx hb5
        obtain ⟨y, hy⟩ : ∃ y, r[k] = y := ⟨_, rfl⟩
        rw [hy] at HUp HNo HS1 HN5
        clear hy
        cases hs : sameT (h + 2) (nrN h x0) (nrN h y) with
        | true =>
          rw [hs] at HS1 HUp HNo
          clear hs
          go_wp2_with fail
          try rw [HWq.out]
          try rw [HBq.out]
          clear HWq HBq c0 c1 c2 c3 c4
          have HSS : Hid (∀ u, Below W5.heap.size W5 u → u.cell? ⟨Bx, 0, none⟩ = some (.int .i64 ik) ∧ u.cell? ⟨Bx, 1, none⟩ = some (.string inm) ∧ u.cell? ⟨Bx, 2, none⟩ = some (.string itx) ∧ u.cell? ⟨Bx, 3, none⟩ = some (.slice iio iN iicap) ∧ u.cell? ⟨Bx, 4, none⟩ = some (.slice iko iK ikcap) ∧ u.cell? ⟨Fb, 0, none⟩ = some (.bool ta) ∧ u.cell? ⟨Fb, 1, none⟩ = some (.bool tb) ∧ u.cell? ⟨Fb, 2, none⟩ = some (.bool tc) ∧ u.cell? ⟨Fb, 3, none⟩ = some (.bool td) ∧ u.cell? ⟨Fb, 4, none⟩ = some (.slice teo ten tec) ∧ u.cell? ⟨Fb, 5, none⟩ = some (.bool tf) ∧ u.cell? ⟨Fb, 6, none⟩ = some (.slice tgo tgn tgc) ∧ u.cell? ⟨Fb, 7, none⟩ = some (.slice tio tinn tic) ∧ u.cell? ⟨Fb, 8, none⟩ = some (.slice tjo tjn tjc)) := fun u hu => ⟨(hu.cell (p := ⟨_, _, _⟩) (lt_of_row HX5.out)).trans (cell_of_row _ _ 0 _ _ _ HX5.out), (hu.cell (p := ⟨_, _, _⟩) (lt_of_row HX5.out)).trans (cell_of_row _ _ 1 _ _ _ HX5.out), (hu.cell (p := ⟨_, _, _⟩) (lt_of_row HX5.out)).trans (cell_of_row _ _ 2 _ _ _ HX5.out), (hu.cell (p := ⟨_, _, _⟩) (lt_of_row HX5.out)).trans (cell_of_row _ _ 3 _ _ _ HX5.out), (hu.cell (p := ⟨_, _, _⟩) (lt_of_row HX5.out)).trans (cell_of_row _ _ 4 _ _ _ HX5.out), (hu.cell (p := ⟨_, _, _⟩) (lt_of_row HF5.out)).trans (cell_of_row _ _ 0 _ _ _ HF5.out), (hu.cell (p := ⟨_, _, _⟩) (lt_of_row HF5.out)).trans (cell_of_row _ _ 1 _ _ _ HF5.out), (hu.cell (p := ⟨_, _, _⟩) (lt_of_row HF5.out)).trans (cell_of_row _ _ 2 _ _ _ HF5.out), (hu.cell (p := ⟨_, _, _⟩) (lt_of_row HF5.out)).trans (cell_of_row _ _ 3 _ _ _ HF5.out), (hu.cell (p := ⟨_, _, _⟩) (lt_of_row HF5.out)).trans (cell_of_row _ _ 4 _ _ _ HF5.out), (hu.cell (p := ⟨_, _, _⟩) (lt_of_row HF5.out)).trans (cell_of_row _ _ 5 _ _ _ HF5.out), (hu.cell (p := ⟨_, _, _⟩) (lt_of_row HF5.out)).trans (cell_of_row _ _ 6 _ _ _ HF5.out), (hu.cell (p := ⟨_, _, _⟩) (lt_of_row HF5.out)).trans (cell_of_row _ _ 7 _ _ _ HF5.out), (hu.cell (p := ⟨_, _, _⟩) (lt_of_row HF5.out)).trans (cell_of_row _ _ 8 _ _ _ HF5.out)⟩
          have HD := Hid.mk ((Below.refl W5.heap.size W5).drew)
          refine wp_region_held_drew (S := fun u => u.cell? ⟨Bx, 0, none⟩ = some (.int .i64 ik) ∧ u.cell? ⟨Bx, 1, none⟩ = some (.string inm) ∧ u.cell? ⟨Bx, 2, none⟩ = some (.string itx) ∧ u.cell? ⟨Bx, 3, none⟩ = some (.slice iio iN iicap) ∧ u.cell? ⟨Bx, 4, none⟩ = some (.slice iko iK ikcap) ∧ u.cell? ⟨Fb, 0, none⟩ = some (.bool ta) ∧ u.cell? ⟨Fb, 1, none⟩ = some (.bool tb) ∧ u.cell? ⟨Fb, 2, none⟩ = some (.bool tc) ∧ u.cell? ⟨Fb, 3, none⟩ = some (.bool td) ∧ u.cell? ⟨Fb, 4, none⟩ = some (.slice teo ten tec) ∧ u.cell? ⟨Fb, 5, none⟩ = some (.bool tf) ∧ u.cell? ⟨Fb, 6, none⟩ = some (.slice tgo tgn tgc) ∧ u.cell? ⟨Fb, 7, none⟩ = some (.slice tio tinn tic) ∧ u.cell? ⟨Fb, 8, none⟩ = some (.slice tjo tjn tjc)) (by kernel_rfl) (HSS.out _ HD.out) (fun hHeld => ?_)
          refine wpAnyH_take (i := 0) (oi := _) (v := .agg #[.int .i64 ik, .string inm, .string itx, .slice iio iN iicap, .slice iko iK ikcap]) rfl (by kernel_rfl) (by kernel_rfl) (by kernel_rfl) (fun _ _ _ h => h) (Or.inl ⟨by rfl, ?_⟩) (by assumption) ?_
          · intro w hSw
            go_simp
          try simp only [Act.put, List.getElem_toArray, List.getElem_cons_succ, List.getElem_cons_zero, List.setIfInBounds_toArray, List.set_cons_zero, List.set_cons_succ]
          refine wpAnyH_take (i := 1) (oi := _) (v := .int .i64 H) rfl (by kernel_rfl) (by kernel_rfl) (by kernel_rfl) (fun _ _ _ h => h) (Or.inl ⟨by rfl, ?_⟩) (by assumption) ?_
          · intro w hSw
            go_simp
          try simp only [Act.put, List.getElem_toArray, List.getElem_cons_succ, List.getElem_cons_zero, List.setIfInBounds_toArray, List.set_cons_zero, List.set_cons_succ]
          refine wpAnyH_take (i := 2) (oi := _) (v := .int .i64 (h : Int)) rfl (by kernel_rfl) (by kernel_rfl) (by kernel_rfl) (fun _ _ _ h => h) (Or.inl ⟨by rfl, ?_⟩) (by assumption) ?_
          · intro w hSw
            go_simp
          try simp only [Act.put, List.getElem_toArray, List.getElem_cons_succ, List.getElem_cons_zero, List.setIfInBounds_toArray, List.set_cons_zero, List.set_cons_succ]
          refine wpAnyH_take (i := 4) (oi := _) (v := .agg #[.bool ta, .bool tb, .bool tc, .bool td, .slice teo ten tec, .bool tf, .slice tgo tgn tgc, .slice tio tinn tic, .slice tjo tjn tjc]) rfl (by kernel_rfl) (by kernel_rfl) (by kernel_rfl) (fun _ _ _ h => h) (Or.inl ⟨by rfl, ?_⟩) (by assumption) ?_
          · intro w hSw
            go_simp
          try simp only [Act.put, List.getElem_toArray, List.getElem_cons_succ, List.getElem_cons_zero, List.setIfInBounds_toArray, List.set_cons_zero, List.set_cons_succ]
          refine wpAnyH_ready (rs := [3]) (by kernel_rfl) (by simp) ?_
          refine AllReadyH.cons (o := _) rfl (fun K hK => ?_) AllReadyH.nil
          go_simp
          go_at_call 21
          refine (HN5.out _ HD.out).mono ?_
          rintro e w6 ⟨⟨v6, rfl, hF6⟩, hq⟩
          have HB6 := Hid.mk (HD.out.trans (hq.mono HD.out.size))
          have hI6 := hF6.out.here
          clear hq hF6
          go_wp2_with fail
          refine hK.out _ _ (HSS.out _ HB6.out) (fun hHeld => ?_)
          clear hK K
          try simp only [Act.put, List.getElem_toArray, List.getElem_cons_succ, List.getElem_cons_zero, List.setIfInBounds_toArray, List.set_cons_zero, List.set_cons_succ]
          refine wpAnyH_ready (rs := [5]) (by kernel_rfl) (by simp) ?_
          refine AllReadyH.cons (o := _) rfl (fun K hK => ?_) AllReadyH.nil
          go_simp
          go_at_call 57
          refine (HS1.out _ _ _ hI6 ((HT2.out.keep (HB5.out.trans (HB6.out.mono HB5.out.size))).here)).mono ?_
          rintro e w7 ⟨rfl, hq⟩
          have HB7 := Hid.mk (HB6.out.trans (hq.mono HB6.out.size))
          clear hq hI6
          go_wp2_with fail
          refine hK.out _ _ (HSS.out _ HB7.out) (fun hHeld => ?_)
          clear hK K
          try simp only [Act.put, List.getElem_toArray, List.getElem_cons_succ, List.getElem_cons_zero, List.setIfInBounds_toArray, List.set_cons_zero, List.set_cons_succ]
          refine wpAnyH_take (i := 6) (oi := _) (v := .bool false) rfl (by kernel_rfl) (by kernel_rfl) (by kernel_rfl) (fun _ _ _ h => h) (Or.inl ⟨by rfl, ?_⟩) (by assumption) ?_
          · intro w hSw
            go_simp
          try simp only [Act.put, List.getElem_toArray, List.getElem_cons_succ, List.getElem_cons_zero, List.setIfInBounds_toArray, List.set_cons_zero, List.set_cons_succ]
          refine wpAnyH_done (by kernel_rfl) ?_ _
          try simp only [Act.put, List.getElem_toArray, List.getElem_cons_succ, List.getElem_cons_zero, List.setIfInBounds_toArray, List.set_cons_zero, List.set_cons_succ]
          have HB8 := Hid.mk (HB5.out.trans (HB7.out.mono HB5.out.size))
          clear HSS HD HB6 HB7 hHeld HX5 HF5 HN5 HS1
          have HN : Hid (((r.take (k + 1)).all fun y => sameT (h + 2) (nrN h x0) (nrN h y)) = true) := by show _ = _; rw [HUp.out, HQ.out]; rfl
          clear HUp HNo
          go_wp2_with fail
          go_roundw
          case rel => exact ⟨k + 1, hlt, by go_num, HB8, HN⟩
          case measure => simp [intOf]; omega
        | false =>
          rw [hs] at HS1 HUp HNo
          clear hs
          go_wp2_with fail
          try rw [HWq.out]
          try rw [HBq.out]
          clear HWq HBq c0 c1 c2 c3 c4
          have HSS : Hid (∀ u, Below W5.heap.size W5 u → u.cell? ⟨Bx, 0, none⟩ = some (.int .i64 ik) ∧ u.cell? ⟨Bx, 1, none⟩ = some (.string inm) ∧ u.cell? ⟨Bx, 2, none⟩ = some (.string itx) ∧ u.cell? ⟨Bx, 3, none⟩ = some (.slice iio iN iicap) ∧ u.cell? ⟨Bx, 4, none⟩ = some (.slice iko iK ikcap) ∧ u.cell? ⟨Fb, 0, none⟩ = some (.bool ta) ∧ u.cell? ⟨Fb, 1, none⟩ = some (.bool tb) ∧ u.cell? ⟨Fb, 2, none⟩ = some (.bool tc) ∧ u.cell? ⟨Fb, 3, none⟩ = some (.bool td) ∧ u.cell? ⟨Fb, 4, none⟩ = some (.slice teo ten tec) ∧ u.cell? ⟨Fb, 5, none⟩ = some (.bool tf) ∧ u.cell? ⟨Fb, 6, none⟩ = some (.slice tgo tgn tgc) ∧ u.cell? ⟨Fb, 7, none⟩ = some (.slice tio tinn tic) ∧ u.cell? ⟨Fb, 8, none⟩ = some (.slice tjo tjn tjc)) := fun u hu => ⟨(hu.cell (p := ⟨_, _, _⟩) (lt_of_row HX5.out)).trans (cell_of_row _ _ 0 _ _ _ HX5.out), (hu.cell (p := ⟨_, _, _⟩) (lt_of_row HX5.out)).trans (cell_of_row _ _ 1 _ _ _ HX5.out), (hu.cell (p := ⟨_, _, _⟩) (lt_of_row HX5.out)).trans (cell_of_row _ _ 2 _ _ _ HX5.out), (hu.cell (p := ⟨_, _, _⟩) (lt_of_row HX5.out)).trans (cell_of_row _ _ 3 _ _ _ HX5.out), (hu.cell (p := ⟨_, _, _⟩) (lt_of_row HX5.out)).trans (cell_of_row _ _ 4 _ _ _ HX5.out), (hu.cell (p := ⟨_, _, _⟩) (lt_of_row HF5.out)).trans (cell_of_row _ _ 0 _ _ _ HF5.out), (hu.cell (p := ⟨_, _, _⟩) (lt_of_row HF5.out)).trans (cell_of_row _ _ 1 _ _ _ HF5.out), (hu.cell (p := ⟨_, _, _⟩) (lt_of_row HF5.out)).trans (cell_of_row _ _ 2 _ _ _ HF5.out), (hu.cell (p := ⟨_, _, _⟩) (lt_of_row HF5.out)).trans (cell_of_row _ _ 3 _ _ _ HF5.out), (hu.cell (p := ⟨_, _, _⟩) (lt_of_row HF5.out)).trans (cell_of_row _ _ 4 _ _ _ HF5.out), (hu.cell (p := ⟨_, _, _⟩) (lt_of_row HF5.out)).trans (cell_of_row _ _ 5 _ _ _ HF5.out), (hu.cell (p := ⟨_, _, _⟩) (lt_of_row HF5.out)).trans (cell_of_row _ _ 6 _ _ _ HF5.out), (hu.cell (p := ⟨_, _, _⟩) (lt_of_row HF5.out)).trans (cell_of_row _ _ 7 _ _ _ HF5.out), (hu.cell (p := ⟨_, _, _⟩) (lt_of_row HF5.out)).trans (cell_of_row _ _ 8 _ _ _ HF5.out)⟩
          have HD := Hid.mk ((Below.refl W5.heap.size W5).drew)
          refine wp_region_held_drew (S := fun u => u.cell? ⟨Bx, 0, none⟩ = some (.int .i64 ik) ∧ u.cell? ⟨Bx, 1, none⟩ = some (.string inm) ∧ u.cell? ⟨Bx, 2, none⟩ = some (.string itx) ∧ u.cell? ⟨Bx, 3, none⟩ = some (.slice iio iN iicap) ∧ u.cell? ⟨Bx, 4, none⟩ = some (.slice iko iK ikcap) ∧ u.cell? ⟨Fb, 0, none⟩ = some (.bool ta) ∧ u.cell? ⟨Fb, 1, none⟩ = some (.bool tb) ∧ u.cell? ⟨Fb, 2, none⟩ = some (.bool tc) ∧ u.cell? ⟨Fb, 3, none⟩ = some (.bool td) ∧ u.cell? ⟨Fb, 4, none⟩ = some (.slice teo ten tec) ∧ u.cell? ⟨Fb, 5, none⟩ = some (.bool tf) ∧ u.cell? ⟨Fb, 6, none⟩ = some (.slice tgo tgn tgc) ∧ u.cell? ⟨Fb, 7, none⟩ = some (.slice tio tinn tic) ∧ u.cell? ⟨Fb, 8, none⟩ = some (.slice tjo tjn tjc)) (by kernel_rfl) (HSS.out _ HD.out) (fun hHeld => ?_)
          refine wpAnyH_take (i := 0) (oi := _) (v := .agg #[.int .i64 ik, .string inm, .string itx, .slice iio iN iicap, .slice iko iK ikcap]) rfl (by kernel_rfl) (by kernel_rfl) (by kernel_rfl) (fun _ _ _ h => h) (Or.inl ⟨by rfl, ?_⟩) (by assumption) ?_
          · intro w hSw
            go_simp
          try simp only [Act.put, List.getElem_toArray, List.getElem_cons_succ, List.getElem_cons_zero, List.setIfInBounds_toArray, List.set_cons_zero, List.set_cons_succ]
          refine wpAnyH_take (i := 1) (oi := _) (v := .int .i64 H) rfl (by kernel_rfl) (by kernel_rfl) (by kernel_rfl) (fun _ _ _ h => h) (Or.inl ⟨by rfl, ?_⟩) (by assumption) ?_
          · intro w hSw
            go_simp
          try simp only [Act.put, List.getElem_toArray, List.getElem_cons_succ, List.getElem_cons_zero, List.setIfInBounds_toArray, List.set_cons_zero, List.set_cons_succ]
          refine wpAnyH_take (i := 2) (oi := _) (v := .int .i64 (h : Int)) rfl (by kernel_rfl) (by kernel_rfl) (by kernel_rfl) (fun _ _ _ h => h) (Or.inl ⟨by rfl, ?_⟩) (by assumption) ?_
          · intro w hSw
            go_simp
          try simp only [Act.put, List.getElem_toArray, List.getElem_cons_succ, List.getElem_cons_zero, List.setIfInBounds_toArray, List.set_cons_zero, List.set_cons_succ]
          refine wpAnyH_take (i := 4) (oi := _) (v := .agg #[.bool ta, .bool tb, .bool tc, .bool td, .slice teo ten tec, .bool tf, .slice tgo tgn tgc, .slice tio tinn tic, .slice tjo tjn tjc]) rfl (by kernel_rfl) (by kernel_rfl) (by kernel_rfl) (fun _ _ _ h => h) (Or.inl ⟨by rfl, ?_⟩) (by assumption) ?_
          · intro w hSw
            go_simp
          try simp only [Act.put, List.getElem_toArray, List.getElem_cons_succ, List.getElem_cons_zero, List.setIfInBounds_toArray, List.set_cons_zero, List.set_cons_succ]
          refine wpAnyH_ready (rs := [3]) (by kernel_rfl) (by simp) ?_
          refine AllReadyH.cons (o := _) rfl (fun K hK => ?_) AllReadyH.nil
          go_simp
          go_at_call 21
          refine (HN5.out _ HD.out).mono ?_
          rintro e w6 ⟨⟨v6, rfl, hF6⟩, hq⟩
          have HB6 := Hid.mk (HD.out.trans (hq.mono HD.out.size))
          have hI6 := hF6.out.here
          clear hq hF6
          go_wp2_with fail
          refine hK.out _ _ (HSS.out _ HB6.out) (fun hHeld => ?_)
          clear hK K
          try simp only [Act.put, List.getElem_toArray, List.getElem_cons_succ, List.getElem_cons_zero, List.setIfInBounds_toArray, List.set_cons_zero, List.set_cons_succ]
          refine wpAnyH_ready (rs := [5]) (by kernel_rfl) (by simp) ?_
          refine AllReadyH.cons (o := _) rfl (fun K hK => ?_) AllReadyH.nil
          go_simp
          go_at_call 57
          refine (HS1.out _ _ _ hI6 ((HT2.out.keep (HB5.out.trans (HB6.out.mono HB5.out.size))).here)).mono ?_
          rintro e w7 ⟨rfl, hq⟩
          have HB7 := Hid.mk (HB6.out.trans (hq.mono HB6.out.size))
          clear hq hI6
          go_wp2_with fail
          refine hK.out _ _ (HSS.out _ HB7.out) (fun hHeld => ?_)
          clear hK K
          try simp only [Act.put, List.getElem_toArray, List.getElem_cons_succ, List.getElem_cons_zero, List.setIfInBounds_toArray, List.set_cons_zero, List.set_cons_succ]
          refine wpAnyH_take (i := 6) (oi := _) (v := .bool true) rfl (by kernel_rfl) (by kernel_rfl) (by kernel_rfl) (fun _ _ _ h => h) (Or.inl ⟨by rfl, ?_⟩) (by assumption) ?_
          · intro w hSw
            go_simp
          try simp only [Act.put, List.getElem_toArray, List.getElem_cons_succ, List.getElem_cons_zero, List.setIfInBounds_toArray, List.set_cons_zero, List.set_cons_succ]
          refine wpAnyH_done (by kernel_rfl) ?_ _
          try simp only [Act.put, List.getElem_toArray, List.getElem_cons_succ, List.getElem_cons_zero, List.setIfInBounds_toArray, List.set_cons_zero, List.set_cons_succ]
          have HB8 := Hid.mk (HB5.out.trans (HB7.out.mono HB5.out.size))
          clear HSS HD HB6 HB7 hHeld HX5 HF5 HN5 HS1
          have HT : Hid (IT = CT) := by show _ = _; rw [HIT.out, HNo.out (by first | trivial | rfl)]; rfl
          clear HUp HNo
          have HB9 := Hid.mk (HB2.out.trans (HB8.out.mono HB2.out.size))
          have HR9 : Hid (w7.heap[w.heap.size]? = _) := (HB8.out.block _ (lt_of_row HR2.out)).trans HR2.out
          go_wp2_with fail
          refine (HCm.out _ HB9.out).mono ?_
          rintro e w8 ⟨⟨v8, rfl, hF⟩, hq⟩
          have HBa := Hid.mk (HB9.out.trans (hq.mono HB9.out.size))
          have HRa : Hid (w8.heap[w.heap.size]? = _) := (hq.block _ (lt_of_row HR9.out)).trans HR9.out
          have HLa := Hid.mk (lt_of_row HR9.out)
          clear hq HR9 HB9
          have hF2 := hF.out.here
          obtain ⟨ua, ub, uc, ud, ⟨ueo, uen, uec⟩, uf, ⟨ugo, ugn, ugc⟩, ⟨uio, uinn, uic⟩, ⟨ujo, ujn, ujc⟩, esht⟩ := inT_shape hF2
          simp only [Value.agg.injEq, Array.mk.injEq, List.cons.injEq, and_true] at esht
          obtain ⟨rfl, rfl, rfl, rfl, rfl, rfl, rfl, rfl, rfl⟩ := esht
          clear hF2
          have g0 := cell_of_row _ _ 0 _ _ _ HRa.out
          have f0 := frozen_row9 (j := 0) HRa.out
          have g1 := cell_of_row _ _ 1 _ _ _ HRa.out
          have f1 := frozen_row9 (j := 1) HRa.out
          have g2 := cell_of_row _ _ 2 _ _ _ HRa.out
          have f2 := frozen_row9 (j := 2) HRa.out
          have g3 := cell_of_row _ _ 3 _ _ _ HRa.out
          have f3 := frozen_row9 (j := 3) HRa.out
          have g4 := cell_of_row _ _ 4 _ _ _ HRa.out
          have f4 := frozen_row9 (j := 4) HRa.out
          have g5 := cell_of_row _ _ 5 _ _ _ HRa.out
          have f5 := frozen_row9 (j := 5) HRa.out
          have g6 := cell_of_row _ _ 6 _ _ _ HRa.out
          have f6 := frozen_row9 (j := 6) HRa.out
          have g7 := cell_of_row _ _ 7 _ _ _ HRa.out
          have f7 := frozen_row9 (j := 7) HRa.out
          have g8 := cell_of_row _ _ 8 _ _ _ HRa.out
          have f8 := frozen_row9 (j := 8) HRa.out
          go_wp2_with fail
          (try simp only [Exit.inBlock, Exit.then])
          generalize hz9 : ((((((((w8.setCell ⟨w.heap.size, 0, none⟩ (.bool ua)).setCell ⟨w.heap.size, 1, none⟩ (.bool ub)).setCell ⟨w.heap.size, 2, none⟩ (.bool uc)).setCell ⟨w.heap.size, 3, none⟩ (.bool ud)).setCell ⟨w.heap.size, 4, none⟩ (.slice ueo uen uec)).setCell ⟨w.heap.size, 5, none⟩ (.bool uf)).setCell ⟨w.heap.size, 6, none⟩ (.slice ugo ugn ugc)).setCell ⟨w.heap.size, 7, none⟩ (.slice uio uinn uic)).setCell ⟨w.heap.size, 8, none⟩ (.slice ujo ujn ujc) = wz
          obtain ⟨e7, k7, s7⟩ := rbox_set9 w8 _ _ _ _ _ _ _ _ _ _ _ _ _ _ _ _ _ _ _ _ (HRa.out) wz hz9.symm
          have d0 := cell_of_row _ _ 0 _ _ _ e7
          have d1 := cell_of_row _ _ 1 _ _ _ e7
          have d2 := cell_of_row _ _ 2 _ _ _ e7
          have d3 := cell_of_row _ _ 3 _ _ _ e7
          have d4 := cell_of_row _ _ 4 _ _ _ e7
          have d5 := cell_of_row _ _ 5 _ _ _ e7
          have d6 := cell_of_row _ _ 6 _ _ _ e7
          have d7 := cell_of_row _ _ 7 _ _ _ e7
          have d8 := cell_of_row _ _ 8 _ _ _ e7
          have hbz : Below w.heap.size w wz := by rw [← hz9]; exact (((((((((HBa.out.setCell (p := ⟨w.heap.size, 0, none⟩) (by show w.heap.size ≤ w.heap.size; omega) _).setCell (p := ⟨w.heap.size, 1, none⟩) (by show w.heap.size ≤ w.heap.size; omega) _).setCell (p := ⟨w.heap.size, 2, none⟩) (by show w.heap.size ≤ w.heap.size; omega) _).setCell (p := ⟨w.heap.size, 3, none⟩) (by show w.heap.size ≤ w.heap.size; omega) _).setCell (p := ⟨w.heap.size, 4, none⟩) (by show w.heap.size ≤ w.heap.size; omega) _).setCell (p := ⟨w.heap.size, 5, none⟩) (by show w.heap.size ≤ w.heap.size; omega) _).setCell (p := ⟨w.heap.size, 6, none⟩) (by show w.heap.size ≤ w.heap.size; omega) _).setCell (p := ⟨w.heap.size, 7, none⟩) (by show w.heap.size ≤ w.heap.size; omega) _).setCell (p := ⟨w.heap.size, 8, none⟩) (by show w.heap.size ≤ w.heap.size; omega) _)
          refine bodyPost_ret (v := .agg #[.bool ua, .bool ub, .bool uc, .bool ud, .slice ueo uen uec, .bool uf, .slice ugo ugn ugc, .slice uio uinn uic, .slice ujo ujn ujc]) (by simp [results, Try.results50, go_sem, d0, d1, d2, d3, d4, d5, d6, d7, d8]) rfl ?_
          exact ⟨⟨_, rfl, by rw [HT.out]; exact Hid.mk (((hF.out.le (by omega)).set s7 (fun b hb => k7 b (by have := HLa.out; omega))).mono (by have := HLa.out; omega))⟩, hbz⟩
      · have hl1 : ¬ (k : Int) < ((N - 1 : Nat) : Int) := by omega
        have HT : Hid (IT = nrN h x0) := HIT1.out (by have e := HQ.out; rw [List.take_of_length_le (by omega)] at e; exact e)
        have HB9 := Hid.mk (HB2.out.trans (HB.out.mono HB2.out.size))
        have HR9 : Hid (wr.heap[w.heap.size]? = _) := (HB.out.block _ (lt_of_row HR2.out)).trans HR2.out
        have HF9 : Hid (wr.heap[Fb]? = _) := (HB.out.block _ (lt_of_row HF2.out)).trans HF2.out
        have HT9 := Hid.mk (HT2.out.keep HB.out)
        have z0 := cell_of_row _ _ 0 _ _ _ HF9.out
        have z1 := cell_of_row _ _ 1 _ _ _ HF9.out
        have z2 := cell_of_row _ _ 2 _ _ _ HF9.out
        have z3 := cell_of_row _ _ 3 _ _ _ HF9.out
        have z4 := cell_of_row _ _ 4 _ _ _ HF9.out
        have z5 := cell_of_row _ _ 5 _ _ _ HF9.out
        have z6 := cell_of_row _ _ 6 _ _ _ HF9.out
        have z7 := cell_of_row _ _ 7 _ _ _ HF9.out
        have z8 := cell_of_row _ _ 8 _ _ _ HF9.out
        have g0 := cell_of_row _ _ 0 _ _ _ HR9.out
        have f0 := frozen_row9 (j := 0) HR9.out
        have g1 := cell_of_row _ _ 1 _ _ _ HR9.out
        have f1 := frozen_row9 (j := 1) HR9.out
        have g2 := cell_of_row _ _ 2 _ _ _ HR9.out
        have f2 := frozen_row9 (j := 2) HR9.out
        have g3 := cell_of_row _ _ 3 _ _ _ HR9.out
        have f3 := frozen_row9 (j := 3) HR9.out
        have g4 := cell_of_row _ _ 4 _ _ _ HR9.out
        have f4 := frozen_row9 (j := 4) HR9.out
        have g5 := cell_of_row _ _ 5 _ _ _ HR9.out
        have f5 := frozen_row9 (j := 5) HR9.out
        have g6 := cell_of_row _ _ 6 _ _ _ HR9.out
        have f6 := frozen_row9 (j := 6) HR9.out
        have g7 := cell_of_row _ _ 7 _ _ _ HR9.out
        have f7 := frozen_row9 (j := 7) HR9.out
        have g8 := cell_of_row _ _ 8 _ _ _ HR9.out
        have f8 := frozen_row9 (j := 8) HR9.out
        go_wp2_with fail
        (try simp only [Exit.inBlock, Exit.then])
        generalize hz9 : ((((((((wr.setCell ⟨w.heap.size, 0, none⟩ (.bool ta)).setCell ⟨w.heap.size, 1, none⟩ (.bool tb)).setCell ⟨w.heap.size, 2, none⟩ (.bool tc)).setCell ⟨w.heap.size, 3, none⟩ (.bool td)).setCell ⟨w.heap.size, 4, none⟩ (.slice teo ten tec)).setCell ⟨w.heap.size, 5, none⟩ (.bool tf)).setCell ⟨w.heap.size, 6, none⟩ (.slice tgo tgn tgc)).setCell ⟨w.heap.size, 7, none⟩ (.slice tio tinn tic)).setCell ⟨w.heap.size, 8, none⟩ (.slice tjo tjn tjc) = wz
        obtain ⟨e7, k7, s7⟩ := rbox_set9 wr _ _ _ _ _ _ _ _ _ _ _ _ _ _ _ _ _ _ _ _ (HR9.out) wz hz9.symm
        have d0 := cell_of_row _ _ 0 _ _ _ e7
        have d1 := cell_of_row _ _ 1 _ _ _ e7
        have d2 := cell_of_row _ _ 2 _ _ _ e7
        have d3 := cell_of_row _ _ 3 _ _ _ e7
        have d4 := cell_of_row _ _ 4 _ _ _ e7
        have d5 := cell_of_row _ _ 5 _ _ _ e7
        have d6 := cell_of_row _ _ 6 _ _ _ e7
        have d7 := cell_of_row _ _ 7 _ _ _ e7
        have d8 := cell_of_row _ _ 8 _ _ _ e7
        have hbz : Below w.heap.size w wz := by rw [← hz9]; exact (((((((((HB9.out.setCell (p := ⟨w.heap.size, 0, none⟩) (by show w.heap.size ≤ w.heap.size; omega) _).setCell (p := ⟨w.heap.size, 1, none⟩) (by show w.heap.size ≤ w.heap.size; omega) _).setCell (p := ⟨w.heap.size, 2, none⟩) (by show w.heap.size ≤ w.heap.size; omega) _).setCell (p := ⟨w.heap.size, 3, none⟩) (by show w.heap.size ≤ w.heap.size; omega) _).setCell (p := ⟨w.heap.size, 4, none⟩) (by show w.heap.size ≤ w.heap.size; omega) _).setCell (p := ⟨w.heap.size, 5, none⟩) (by show w.heap.size ≤ w.heap.size; omega) _).setCell (p := ⟨w.heap.size, 6, none⟩) (by show w.heap.size ≤ w.heap.size; omega) _).setCell (p := ⟨w.heap.size, 7, none⟩) (by show w.heap.size ≤ w.heap.size; omega) _).setCell (p := ⟨w.heap.size, 8, none⟩) (by show w.heap.size ≤ w.heap.size; omega) _)
        refine bodyPost_ret (v := .agg #[.bool ta, .bool tb, .bool tc, .bool td, .slice teo ten tec, .bool tf, .slice tgo tgn tgc, .slice tio tinn tic, .slice tjo tjn tjc]) (by simp [results, Try.results50, go_sem, d0, d1, d2, d3, d4, d5, d6, d7, d8]) rfl ?_
        exact ⟨⟨_, rfl, by rw [HT.out]; exact Hid.mk ((HT9.out.set s7 (fun b hb => k7 b (by have := HL.out; omega))).mono (by have := HL.out; omega))⟩, hbz⟩
end Go.Proofs.Ytdjoelhiahpmlaa
