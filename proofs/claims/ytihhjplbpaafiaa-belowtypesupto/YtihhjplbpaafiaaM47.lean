import Derived.Test.YtihhjplbpaafiaaM46
import Derived.WalkKit
import Derived.Maps.AppendAt
import Derived.Deep.AppendLies
namespace Go.Proofs.Ytihhjplbpaafiaa
open Go.RowKit Go.Shelf Go.Sort Go.Maps Go.WideMaps
set_option linter.unusedVariables false
set_option linter.unusedSimpArgs false
attribute [local go_sem] Oper.semAt_some

theorem Try.infoStrB : (Try.prog.info? 9).map (fun i => (i.zero, i.size, i.bytes)) = some (some (.string ⟨#[]⟩), 1, 16) := by kernel_rfl
theorem own_baseB {w : World} {base : Nat} {e : TypeId} {size : Nat} {v : Value} {n : Nat} {xs : List Value} (h : w.ownsRow base e size v n xs) : ∀ k, v.ownBlock = some k → base ≤ k := by
  intro k hk
  obtain ⟨_, ⟨rfl, _⟩ | ⟨g, cap, cur, rfl, hg, _⟩⟩ := h
  · cases hk
  · simp [Value.ownBlock] at hk; omega
theorem own_shapeB {w : World} {base : Nat} {e : TypeId} {size : Nat} {v : Value} {n : Nat} {xs : List Value} (h : w.ownsRow base e size v n xs) : ∃ ao cap, v = .slice ao n cap := by
  rcases h.2 with ⟨e, e2⟩ | ⟨g, cap, cur, e, _⟩
  · exact ⟨none, 0, by rw [e, e2]⟩
  · exact ⟨_, _, e⟩
theorem below_appB {B : Nat} {w wr w1 : World} {e : TypeId} {size : Nat} {v : Value} {n : Nat} {xs : List Value} {o : Obj} (hown : wr.ownsRow B e size v n xs) (hBw : B ≤ wr.heap.size) (hb : Below B w wr) (hg : (wr.alloc o).grownBy w1 v.ownBlock) : Below B w w1 :=
  (hb.alloc hBw o).grown hg (by simp; omega) (own_baseB hown)
/-- a row of texts that is owned lies -/
theorem kin_ownB {W : World} {B : Nat} {so : Option Addr} {n cap : Nat} {l : List ByteArray} (h : W.ownsRow B 9 1 (.slice so n cap) n (l.map .string)) (hl : l.length = n) : KIn W so l ∧ n ≤ cap := by
  rcases h.2 with ⟨e1, e2⟩ | ⟨g, cap', cur, e1, e2, e3, e4, e5, e6, e7⟩
  · cases e1
    exact ⟨⟨fun h0 => absurd h0 (by omega)⟩, Nat.le_refl _⟩
  · cases e1
    refine ⟨⟨fun _ => ⟨g, 0, rfl, lt_of_row' e3, fun i hi => ?_⟩⟩, e4⟩
    rw [Nat.zero_add, cell_of_row _ _ i _ _ _ e3, ← Array.getElem?_toList]
    have h1 : (cur.toList.take (n * 1))[i]? = some (.string l[i]) := by rw [e7, List.getElem?_map, List.getElem?_eq_getElem hi]; rfl
    rw [List.getElem?_take_of_lt (by omega)] at h1
    rw [h1, List.getD_eq_getElem?_getD, List.getElem?_eq_getElem hi]
    rfl

set_option maxRecDepth 100000 in
set_option maxHeartbeats 6400000 in
theorem w_rNames (N1 N2 F1 F2 M1 M2 : Nat) (ko : Option Addr) (kc : Nat) (fo : Option Addr) (fc : Nat) (mo : Option Addr) (mc : Nat) (ko2 : Option Addr) (kc2 : Nat) (fo2 : Option Addr) (fc2 : Nat) (mo2 : Option Addr) (mc2 : Nat) (sa sb sc sd : Bool) (seo : Option Addr) (sen sec : Nat) (sf : Bool) (sgo : Option Addr) (sgn sgc : Nat) (sio : Option Addr) (sinn sic : Nat) (sjo : Option Addr) (sjn sjc : Nat) (ta tb tc td : Bool) (teo : Option Addr) (ten tec : Nat) (tf : Bool) (tgo : Option Addr) (tgn tgc : Nat) (tio : Option Addr) (tinn tic : Nat) (tjo : Option Addr) (tjn tjc : Nat) (xs ys : List ByteArray) (w : World)
    (hx : KIn w ko xs) (hy : KIn w ko2 ys) (lx : xs.length = N1) (ly : ys.length = N2) (c1 : N1 ≤ kc) (c2 : N2 ≤ kc2) (b1 : N1 ≤ 1048576) (b2 : N2 ≤ 1048576) :
    Calls Try.prog 61 #[.agg #[.slice ko N1 kc, .slice fo F1 fc, .slice mo M1 mc, .bool sa, .bool sb, .bool sc, .bool sd, .slice seo sen sec, .bool sf, .slice sgo sgn sgc, .slice sio sinn sic, .slice sjo sjn sjc], .agg #[.slice ko2 N2 kc2, .slice fo2 F2 fc2, .slice mo2 M2 mc2, .bool ta, .bool tb, .bool tc, .bool td, .slice teo ten tec, .bool tf, .slice tgo tgn tgc, .slice tio tinn tic, .slice tjo tjn tjc]] w fun e w' => (∃ lo lc, e = .returned (.slice lo (N1 + N2) lc) ∧ KIn w' lo (xs ++ ys) ∧ N1 + N2 ≤ lc) ∧ Below w.heap.size w w' := by
  obtain ⟨j0, hj0, hy0, hy1, hy2⟩ := info_parts Try.infoStrB
  have hX := bx2_two w #[.slice ko N1 kc, .slice fo F1 fc, .slice mo M1 mc, .bool sa, .bool sb, .bool sc, .bool sd, .slice seo sen sec, .bool sf, .slice sgo sgn sgc, .slice sio sinn sic, .slice sjo sjn sjc] #[.slice ko2 N2 kc2, .slice fo2 F2 fc2, .slice mo2 M2 mc2, .bool ta, .bool tb, .bool tc, .bool td, .slice teo ten tec, .bool tf, .slice tgo tgn tgc, .slice tio tinn tic, .slice tjo tjn tjc] 56 56
  obtain ⟨W0, hW0⟩ : ∃ W0, (w.alloc (.cells #[.slice ko N1 kc, .slice fo F1 fc, .slice mo M1 mc, .bool sa, .bool sb, .bool sc, .bool sd, .slice seo sen sec, .bool sf, .slice sgo sgn sgc, .slice sio sinn sic, .slice sjo sjn sjc] 56)).alloc (.cells #[.slice ko2 N2 kc2, .slice fo2 F2 fc2, .slice mo2 M2 mc2, .bool ta, .bool tb, .bool tc, .bool td, .slice teo ten tec, .bool tf, .slice tgo tgn tgc, .slice tio tinn tic, .slice tjo tjn tjc] 56) = W0 := ⟨_, rfl⟩
  rw [hW0] at hX
  have HBW := Hid.mk hX.below
  have HC0 : Hid (W0.cell? ⟨w.heap.size, 0, none⟩ = some (.slice ko N1 kc)) := hX.one 0
  have HC1 : Hid (W0.cell? ⟨w.heap.size + 1, 0, none⟩ = some (.slice ko2 N2 kc2)) := hX.two 0
  have HZ0 : Hid (w.heap.size < W0.heap.size) := by have := hX.lt; show _ < _; omega
  have HZ1 : Hid (w.heap.size + 1 < W0.heap.size) := hX.lt
  have HKX := Hid.mk (hx.keep hX.below)
  have HKY := Hid.mk (hy.keep hX.below)
  have HLX := Hid.mk lx
  have HLY := Hid.mk ly
  have HB0 := Hid.mk (below1 W0 (.cells #[] 9))
  have HO0 := Hid.mk (World.ownsRow_made (base := W0.heap.size) (e := 9) (size := 1) W0 #[] 0 (Nat.le_refl _) (Nat.zero_le _) rfl)
  have HW := Hid.mk hW0
  clear hx hy lx ly hX hW0
  go_enter Try.func61, Try.ntmps61
  go_upto_region 1 with fail
  try rw [HW.out]
  clear HW
  go_wp2_with fail
  go_loopw [5, 6] (fun l i wr => ∃ (k : Nat) (ao : Option Addr) (cap : Nat), k ≤ N1 ∧ l = .slice ao k cap ∧ i = .int .i64 (k : Int) ∧ Hid (Below W0.heap.size W0 wr) ∧ Hid (wr.ownsRow W0.heap.size 9 1 (.slice ao k cap) k ((xs.take k).map .string))) (fun _ i _ => N1 - (intOf i).toNat)
  case atStart => exact ⟨0, _, 0, Nat.zero_le _, rfl, rfl, HB0, HO0⟩
  case round =>
    obtain ⟨k, ao, cap, hk, rfl, rfl, HB, HO⟩ := hrel
    have z0 := (HB.out.cell (p := ⟨w.heap.size, 0, none⟩) HZ0.out).trans HC0.out
    have hsz := HB.out.size
    by_cases hlt : k < N1
    · have hl1 : (k : Int) < (N1 : Int) := by omega
      have hl0 : (0 : Int) ≤ (k : Int) := by omega
      have hkl : k < xs.length := by rw [HLX.out]; exact hlt
      obtain ⟨kb, koff, hko, hkbl, hkr⟩ := ((HKX.out).keep HB.out).row (by omega)
      subst hko
      have ck := hkr k hkl
      obtain ⟨Y, hY⟩ : ∃ Y, xs.getD k .empty = Y := ⟨_, rfl⟩
      have HT : Hid (xs.take (k + 1) = xs.take k ++ [Y]) := by
        show _ = _
        rw [← hY, List.getD_eq_getElem?_getD, List.getElem?_eq_getElem hkl, List.take_add_one, List.getElem?_eq_getElem hkl]
        rfl
      rw [hY] at ck
      have hown := HO.out
      have hA0 : ∀ o, (wr.alloc o).cell? ⟨w.heap.size, 0, none⟩ = _ := fun o => (((Below.refl wr.heap.size wr).alloc (Nat.le_refl _) o).cell (p := ⟨_, _, _⟩) (World.block_lt_of_cell? _ _ z0)).trans z0
      clear hkr hY
      go_wp2_with (at_builtin; go_loud (refine wpList_append_own_at _ (by rfl) _ _ 23 (by rfl) W0.heap.size 9 j0 (.string ⟨#[]⟩) 1 16 Try.underlying23 hj0 hy0 hy1 hy2 rfl (by decide) _ _ _ (by rfl) (hown.alloc _) ⟨wr.heap.size, 0, none⟩ 1 1 [.string Y] (by rfl) (by rfl) (World.news_of_block (cs := #[.string Y]) (fr := (0, 0)) (heap_alloc_new wr _)) (by simp [Value.oneCell']) (by unfold maxLen; omega) (by omega) (by simp; omega) ?_))
      intro v' w4 hown4 hgrow4 hnil4 hat4
      obtain ⟨so4, c4, hv4⟩ := own_shapeB hown4
      subst hv4
      have HB4 := Hid.mk (below_appB hown hsz HB.out hgrow4)
      have HO4 : Hid (w4.ownsRow W0.heap.size 9 1 (.slice so4 (k + 1) c4) (k + 1) ((xs.take (k + 1)).map .string)) := by
        have e : ((xs.take (k + 1)).map .string) = ((xs.take k).map .string) ++ [Value.string Y] := by rw [HT.out]; simp
        show World.ownsRow _ _ _ _ _ _ _
        rw [e]; simpa [List.map_take, Nat.add_assoc] using hown4
      clear hown4 hgrow4 hnil4 hat4 hown hA0 ck
      go_wp2_with fail
      go_roundw
      case rel => exact ⟨k + 1, so4, c4, hlt, rfl, by go_num, HB4, HO4⟩
      case measure => simp [intOf]; omega
    · have hl1 : ¬ (k : Int) < (N1 : Int) := by omega
      have hkN : N1 = k := by omega
      subst hkN
      have HO1 : Hid (wr.ownsRow W0.heap.size 9 1 (.slice ao (N1 + 0) cap) (N1 + 0) ((xs ++ ys.take 0).map .string)) := by
        show World.ownsRow _ _ _ _ _ _ _
        have h := HO.out
        rw [List.take_of_length_le (by rw [HLX.out]; omega)] at h
        simpa using h
      clear HO
      go_wp2_with fail
      clear z0 hsz hl1
      go_loopw [5, 7] (fun l i wr => ∃ (k : Nat) (ao : Option Addr) (cap : Nat), k ≤ N2 ∧ l = .slice ao (N1 + k) cap ∧ i = .int .i64 (k : Int) ∧ Hid (Below W0.heap.size W0 wr) ∧ Hid (wr.ownsRow W0.heap.size 9 1 (.slice ao (N1 + k) cap) (N1 + k) ((xs ++ ys.take k).map .string))) (fun _ i _ => N2 - (intOf i).toNat)
      case atStart => exact ⟨0, ao, cap, Nat.zero_le _, rfl, rfl, HB, HO1⟩
      case round =>
        obtain ⟨k, ao, cap, hk, rfl, rfl, HB, HO⟩ := hrel
        have z1 := (HB.out.cell (p := ⟨w.heap.size + 1, 0, none⟩) HZ1.out).trans HC1.out
        have hsz := HB.out.size
        by_cases hlt : k < N2
        · have hl1 : (k : Int) < (N2 : Int) := by omega
          have hl0 : (0 : Int) ≤ (k : Int) := by omega
          have hkl : k < ys.length := by rw [HLY.out]; exact hlt
          obtain ⟨kb, koff, hko, hkbl, hkr⟩ := ((HKY.out).keep HB.out).row (by omega)
          subst hko
          have ck := hkr k hkl
          obtain ⟨Y, hY⟩ : ∃ Y, ys.getD k .empty = Y := ⟨_, rfl⟩
          have HT : Hid (ys.take (k + 1) = ys.take k ++ [Y]) := by
            show _ = _
            rw [← hY, List.getD_eq_getElem?_getD, List.getElem?_eq_getElem hkl, List.take_add_one, List.getElem?_eq_getElem hkl]
            rfl
          rw [hY] at ck
          have hown := HO.out
          have hA0 : ∀ o, (wr.alloc o).cell? ⟨w.heap.size + 1, 0, none⟩ = _ := fun o => (((Below.refl wr.heap.size wr).alloc (Nat.le_refl _) o).cell (p := ⟨_, _, _⟩) (World.block_lt_of_cell? _ _ z1)).trans z1
          clear hkr hY
          go_wp2_with (at_builtin; go_loud (refine wpList_append_own_at _ (by rfl) _ _ 23 (by rfl) W0.heap.size 9 j0 (.string ⟨#[]⟩) 1 16 Try.underlying23 hj0 hy0 hy1 hy2 rfl (by decide) _ _ _ (by rfl) (hown.alloc _) ⟨wr.heap.size, 0, none⟩ 1 1 [.string Y] (by rfl) (by rfl) (World.news_of_block (cs := #[.string Y]) (fr := (0, 0)) (heap_alloc_new wr _)) (by simp [Value.oneCell']) (by unfold maxLen; omega) (by omega) (by simp; omega) ?_))
          intro v' w4 hown4 hgrow4 hnil4 hat4
          obtain ⟨so4, c4, hv4⟩ := own_shapeB hown4
          subst hv4
          have HB4 := Hid.mk (below_appB hown hsz HB.out hgrow4)
          have HO4 : Hid (w4.ownsRow W0.heap.size 9 1 (.slice so4 (N1 + (k + 1)) c4) (N1 + (k + 1)) ((xs ++ ys.take (k + 1)).map .string)) := by
            have e : ((xs ++ ys.take (k + 1)).map .string) = ((xs ++ ys.take k).map .string) ++ [Value.string Y] := by rw [HT.out]; simp
            show World.ownsRow _ _ _ _ _ _ _
            rw [e]; simpa [List.map_take, Nat.add_assoc] using hown4
          clear hown4 hgrow4 hnil4 hat4 hown hA0 ck
          go_wp2_with fail
          go_roundw
          case rel => exact ⟨k + 1, so4, c4, hlt, rfl, by go_num, HB4, HO4⟩
          case measure => simp [intOf]; omega
        · have hl1 : ¬ (k : Int) < (N2 : Int) := by omega
          have hkN : N2 = k := by omega
          subst hkN
          have h := HO.out
          rw [List.take_of_length_le (by rw [HLY.out]; omega)] at h
          obtain ⟨hK, hcp⟩ := kin_ownB h (by rw [List.length_append, HLX.out, HLY.out])
          have HK9 := Hid.mk hK
          have hbw := HBW.out.trans (HB.out.mono HBW.out.size)
          clear hK h HO
          go_wp2_with fail
          go_ret
          exact ⟨⟨_, _, rfl, HK9.out, hcp⟩, hbw⟩
end Go.Proofs.Ytihhjplbpaafiaa
namespace Go.Proofs.Ytihhjplbpaafiaa
open Go.RowKit Go.Shelf Go.Sort
set_option linter.unusedVariables false
set_option linter.unusedSimpArgs false
attribute [local go_sem] Oper.semAt_some

set_option maxRecDepth 100000 in
set_option maxHeartbeats 25600000 in
theorem rlies_step (h L : Nat) (N1 N2 F1 F2 M1 M2 : Nat) (ko : Option Addr) (kc : Nat) (fo : Option Addr) (fc : Nat) (mo : Option Addr) (mc : Nat) (ko2 : Option Addr) (kc2 : Nat) (fo2 : Option Addr) (fc2 : Nat) (mo2 : Option Addr) (mc2 : Nat) (sa sb sc sd : Bool) (seo : Option Addr) (sen sec : Nat) (sf : Bool) (sgo : Option Addr) (sgn sgc : Nat) (sio : Option Addr) (sinn sic : Nat) (sjo : Option Addr) (sjn sjc : Nat) (ta tb tc td : Bool) (teo : Option Addr) (ten tec : Nat) (tf : Bool) (tgo : Option Addr) (tgn tgc : Nat) (tio : Option Addr) (tinn tic : Nat) (tjo : Option Addr) (tjn tjc : Nat) (ns : List ByteArray) (fa fb : ByteArray → TT × Bool) (f : TT → TT → Bool) (r : Bool) (w : World) (hL : ns.length = L) (hL2 : L ≤ 140737488355328)
    (HN : Hid (∀ u, Below w.heap.size w u → Calls Try.prog 61 #[.agg #[.slice ko N1 kc, .slice fo F1 fc, .slice mo M1 mc, .bool sa, .bool sb, .bool sc, .bool sd, .slice seo sen sec, .bool sf, .slice sgo sgn sgc, .slice sio sinn sic, .slice sjo sjn sjc], .agg #[.slice ko2 N2 kc2, .slice fo2 F2 fc2, .slice mo2 M2 mc2, .bool ta, .bool tb, .bool tc, .bool td, .slice teo ten tec, .bool tf, .slice tgo tgn tgc, .slice tio tinn tic, .slice tjo tjn tjc]] u fun e w' => (∃ lo lc, e = .returned (.slice lo L lc) ∧ KIn w' lo ns ∧ L ≤ lc) ∧ Below u.heap.size u w'))
    (HF1 : Hid (∀ (s : ByteArray) (u : World), Below w.heap.size w u → Calls Try.prog 62 #[.agg #[.slice ko N1 kc, .slice fo F1 fc, .slice mo M1 mc, .bool sa, .bool sb, .bool sc, .bool sd, .slice seo sen sec, .bool sf, .slice sgo sgn sgc, .slice sio sinn sic, .slice sjo sjn sjc], .string s] u fun e w' => (∃ X9, e = .returned (.tuple #[.agg X9, .bool (fa s).2]) ∧ ∀ v, Below w.heap.size w v → InT v h (fa s).1 (.agg X9)) ∧ Below u.heap.size u w'))
    (HF2 : Hid (∀ (s : ByteArray) (u : World), Below w.heap.size w u → Calls Try.prog 62 #[.agg #[.slice ko2 N2 kc2, .slice fo2 F2 fc2, .slice mo2 M2 mc2, .bool ta, .bool tb, .bool tc, .bool td, .slice teo ten tec, .bool tf, .slice tgo tgn tgc, .slice tio tinn tic, .slice tjo tjn tjc], .string s] u fun e w' => (∃ X9, e = .returned (.tuple #[.agg X9, .bool (fb s).2]) ∧ ∀ v, Below w.heap.size w v → InT v h (fb s).1 (.agg X9)) ∧ Below u.heap.size u w'))
    (HB : Hid (∀ (s : ByteArray) (u : World) (vx vy : Value), Below w.heap.size w u → InT u h (fa s).1 vx → InT u h (fb s).1 vy → Calls Try.prog 9 #[vx, vy] u fun e w' => e = .returned (.bool (f (fa s).1 (fb s).1)) ∧ Below u.heap.size u w'))
    (HR : Hid (∀ u, Below w.heap.size w u → Calls Try.prog 9 #[.agg #[.bool sa, .bool sb, .bool sc, .bool sd, .slice seo sen sec, .bool sf, .slice sgo sgn sgc, .slice sio sinn sic, .slice sjo sjn sjc], .agg #[.bool ta, .bool tb, .bool tc, .bool td, .slice teo ten tec, .bool tf, .slice tgo tgn tgc, .slice tio tinn tic, .slice tjo tjn tjc]] u fun e w' => e = .returned (.bool r) ∧ Below u.heap.size u w')) :
    Calls Try.prog 45 #[.agg #[.slice ko N1 kc, .slice fo F1 fc, .slice mo M1 mc, .bool sa, .bool sb, .bool sc, .bool sd, .slice seo sen sec, .bool sf, .slice sgo sgn sgc, .slice sio sinn sic, .slice sjo sjn sjc], .agg #[.slice ko2 N2 kc2, .slice fo2 F2 fc2, .slice mo2 M2 mc2, .bool ta, .bool tb, .bool tc, .bool td, .slice teo ten tec, .bool tf, .slice tgo tgn tgc, .slice tio tinn tic, .slice tjo tjn tjc]] w fun e w' => e = .returned (.bool ((ns.all fun s => fitF f (fa s) (fb s)) && r)) ∧ Below w.heap.size w w' := by
  have HX := Hid.mk (bx2_two w #[.slice ko N1 kc, .slice fo F1 fc, .slice mo M1 mc, .bool sa, .bool sb, .bool sc, .bool sd, .slice seo sen sec, .bool sf, .slice sgo sgn sgc, .slice sio sinn sic, .slice sjo sjn sjc] #[.slice ko2 N2 kc2, .slice fo2 F2 fc2, .slice mo2 M2 mc2, .bool ta, .bool tb, .bool tc, .bool td, .slice teo ten tec, .bool tf, .slice tgo tgn tgc, .slice tio tinn tic, .slice tjo tjn tjc] 56 56)
  obtain ⟨W0, hW0⟩ : ∃ W0, (w.alloc (.cells #[.slice ko N1 kc, .slice fo F1 fc, .slice mo M1 mc, .bool sa, .bool sb, .bool sc, .bool sd, .slice seo sen sec, .bool sf, .slice sgo sgn sgc, .slice sio sinn sic, .slice sjo sjn sjc] 56)).alloc (.cells #[.slice ko2 N2 kc2, .slice fo2 F2 fc2, .slice mo2 M2 mc2, .bool ta, .bool tb, .bool tc, .bool td, .slice teo ten tec, .bool tf, .slice tgo tgn tgc, .slice tio tinn tic, .slice tjo tjn tjc] 56) = W0 := ⟨_, rfl⟩
  rw [hW0] at HX
  have HLn := Hid.mk hL
  obtain ⟨R, hR⟩ : ∃ R, (ns.all fun s => fitF f (fa s) (fb s)) = R := ⟨_, rfl⟩
  have HR1 : Hid (R = ns.all fun s => fitF f (fa s) (fb s)) := hR.symm
  rw [hR]
  clear hR hL
  have p0 : W0.cell? ⟨w.heap.size, 0, none⟩ = _ := HX.out.one 0
  have p1 : W0.cell? ⟨w.heap.size, 1, none⟩ = _ := HX.out.one 1
  have p2 : W0.cell? ⟨w.heap.size, 2, none⟩ = _ := HX.out.one 2
  have p3 : W0.cell? ⟨w.heap.size, 3, none⟩ = _ := HX.out.one 3
  have p4 : W0.cell? ⟨w.heap.size, 4, none⟩ = _ := HX.out.one 4
  have p5 : W0.cell? ⟨w.heap.size, 5, none⟩ = _ := HX.out.one 5
  have p6 : W0.cell? ⟨w.heap.size, 6, none⟩ = _ := HX.out.one 6
  have p7 : W0.cell? ⟨w.heap.size, 7, none⟩ = _ := HX.out.one 7
  have p8 : W0.cell? ⟨w.heap.size, 8, none⟩ = _ := HX.out.one 8
  have p9 : W0.cell? ⟨w.heap.size, 9, none⟩ = _ := HX.out.one 9
  have p10 : W0.cell? ⟨w.heap.size, 10, none⟩ = _ := HX.out.one 10
  have p11 : W0.cell? ⟨w.heap.size, 11, none⟩ = _ := HX.out.one 11
  have q0 : W0.cell? ⟨w.heap.size + 1, 0, none⟩ = _ := HX.out.two 0
  have q1 : W0.cell? ⟨w.heap.size + 1, 1, none⟩ = _ := HX.out.two 1
  have q2 : W0.cell? ⟨w.heap.size + 1, 2, none⟩ = _ := HX.out.two 2
  have q3 : W0.cell? ⟨w.heap.size + 1, 3, none⟩ = _ := HX.out.two 3
  have q4 : W0.cell? ⟨w.heap.size + 1, 4, none⟩ = _ := HX.out.two 4
  have q5 : W0.cell? ⟨w.heap.size + 1, 5, none⟩ = _ := HX.out.two 5
  have q6 : W0.cell? ⟨w.heap.size + 1, 6, none⟩ = _ := HX.out.two 6
  have q7 : W0.cell? ⟨w.heap.size + 1, 7, none⟩ = _ := HX.out.two 7
  have q8 : W0.cell? ⟨w.heap.size + 1, 8, none⟩ = _ := HX.out.two 8
  have q9 : W0.cell? ⟨w.heap.size + 1, 9, none⟩ = _ := HX.out.two 9
  have q10 : W0.cell? ⟨w.heap.size + 1, 10, none⟩ = _ := HX.out.two 10
  have q11 : W0.cell? ⟨w.heap.size + 1, 11, none⟩ = _ := HX.out.two 11
  go_enter Try.func45, Try.ntmps45
  go_wp2_with fail
  refine (HN.out _ HX.out.below).mono ?_
  rintro e W1 ⟨⟨lo, lc, rfl, hK, hlc⟩, hq⟩
  have HX1 := Hid.mk (HX.out.keep hq)
  have HKN := Hid.mk hK
  clear hq hK HX hW0 p0 q0 p1 q1 p2 q2 p3 q3 p4 q4 p5 q5 p6 q6 p7 q7 p8 q8 p9 q9 p10 q10 p11 q11
  go_wp2_with fail
  go_loopw [6] (fun i wr => ∃ k : Nat, k ≤ L ∧ i = .int .i64 (k : Int) ∧ Hid (Bx2 w wr #[.slice ko N1 kc, .slice fo F1 fc, .slice mo M1 mc, .bool sa, .bool sb, .bool sc, .bool sd, .slice seo sen sec, .bool sf, .slice sgo sgn sgc, .slice sio sinn sic, .slice sjo sjn sjc] #[.slice ko2 N2 kc2, .slice fo2 F2 fc2, .slice mo2 M2 mc2, .bool ta, .bool tb, .bool tc, .bool td, .slice teo ten tec, .bool tf, .slice tgo tgn tgc, .slice tio tinn tic, .slice tjo tjn tjc]) ∧ Hid (Below W1.heap.size W1 wr) ∧ Hid ((ns.take k).all (fun s => fitF f (fa s) (fb s)) = true)) (fun i _ => L - (intOf i).toNat)
  case atStart => exact ⟨0, Nat.zero_le _, rfl, HX1, Below.refl _ _, rfl⟩
  case round =>
    clear HX1
    obtain ⟨k, hk, rfl, HX, HBl, HQ⟩ := hrel
    by_cases hlt : k < L
    · have hl1 : (k : Int) < (L : Int) := by omega
      have hl0 : (0 : Int) ≤ (k : Int) := by omega
      have hkl : k < ns.length := by rw [HLn.out]; exact hlt
      obtain ⟨kb, koff, hko, hkbl, hkr⟩ := ((HKN.out).keep HBl.out).row (by omega)
      subst hko
      have ck := hkr k hkl
      rw [show ns.getD k ByteArray.empty = ns[k] by simp [List.getD, hkl]] at ck
      have HU := Hid.mk (zall_up (f := fun s => fitF f (fa s) (fb s)) hkl)
      have HNo : Hid (fitF f (fa ns[k]) (fb ns[k]) = false → R = false) := fun hh => by rw [HR1.out, zall_no (f := fun s => fitF f (fa s) (fb s)) hkl hh]
      obtain ⟨Y, hY⟩ : ∃ Y, ns[k] = Y := ⟨_, rfl⟩
      rw [hY] at ck HU HNo
      obtain ⟨⟨ft1, mY1⟩, h1⟩ : ∃ p, fa Y = p := ⟨_, rfl⟩
      obtain ⟨⟨ft2, mY2⟩, h2⟩ : ∃ p, fb Y = p := ⟨_, rfl⟩
      have hF1 := fun u hu => HF1.out Y u hu
      have hF2 := fun u hu => HF2.out Y u hu
      have hB := fun u vx vy hu a b => HB.out Y u vx vy hu a b
      rw [h1] at hF1 HU HNo
      rw [h2] at hF2 HU HNo
      rw [h1, h2] at hB
      have HFD1 := Hid.mk (fun (_ : ByteArray) (u : World) (hu : Below wr.heap.size wr u) => hF1 u (HX.out.below.trans (hu.mono HX.out.below.size)))
      have HFD2 := Hid.mk (fun (_ : ByteArray) (W8 : World) (hw : Below w.heap.size w W8) (u : World) (hu : Below W8.heap.size W8 u) => hF2 u (hw.trans (hu.mono hw.size)))
      have HB := Hid.mk (fun (_ : ByteArray) => hB)
      clear hkr hkbl hkl hY h1 h2 hF1 hF2 hB
      have p0 : wr.cell? ⟨w.heap.size, 0, none⟩ = _ := HX.out.one 0
      have p1 : wr.cell? ⟨w.heap.size, 1, none⟩ = _ := HX.out.one 1
      have p2 : wr.cell? ⟨w.heap.size, 2, none⟩ = _ := HX.out.one 2
      have p3 : wr.cell? ⟨w.heap.size, 3, none⟩ = _ := HX.out.one 3
      have p4 : wr.cell? ⟨w.heap.size, 4, none⟩ = _ := HX.out.one 4
      have p5 : wr.cell? ⟨w.heap.size, 5, none⟩ = _ := HX.out.one 5
      have p6 : wr.cell? ⟨w.heap.size, 6, none⟩ = _ := HX.out.one 6
      have p7 : wr.cell? ⟨w.heap.size, 7, none⟩ = _ := HX.out.one 7
      have p8 : wr.cell? ⟨w.heap.size, 8, none⟩ = _ := HX.out.one 8
      have p9 : wr.cell? ⟨w.heap.size, 9, none⟩ = _ := HX.out.one 9
      have p10 : wr.cell? ⟨w.heap.size, 10, none⟩ = _ := HX.out.one 10
      have p11 : wr.cell? ⟨w.heap.size, 11, none⟩ = _ := HX.out.one 11
      go_wp2_with fail
      have KEY1 : ∀ (B : Nat) (W8 : World) (ya yb yc yd : Bool) (yeo : Option Addr) (yen yec : Nat) (yf : Bool) (ygo : Option Addr) (ygn ygc : Nat) (yio : Option Addr) (yinn yic : Nat) (yjo : Option Addr) (yjn yjc : Nat), Hid ((Below wr.heap.size wr W8 ∧ ∀ j, W8.cell? ⟨B, j, none⟩ = (#[.bool ya, .bool yb, .bool yc, .bool yd, .slice yeo yen yec, .bool yf, .slice ygo ygn ygc, .slice yio yinn yic, .slice yjo yjn yjc] : Array Value)[j]?) ∧ ∀ u, Below w.heap.size w u → InT u h ft1 (.agg #[.bool ya, .bool yb, .bool yc, .bool yd, .slice yeo yen yec, .bool yf, .slice ygo ygn ygc, .slice yio yinn yic, .slice yjo yjn yjc])) → (?PP1 : Nat → World → Bool → Bool → Bool → Bool → Option Addr → Nat → Nat → Bool → Option Addr → Nat → Nat → Option Addr → Nat → Nat → Option Addr → Nat → Nat → Prop) B W8 ya yb yc yd yeo yen yec yf ygo ygn ygc yio yinn yic yjo yjn yjc := ?key1
      have HD := Hid.mk ((Below.refl wr.heap.size wr).drew)
      have HSS : Hid (∀ u, Below wr.heap.size wr u → u.cell? ⟨w.heap.size, 0, none⟩ = some (.slice ko N1 kc) ∧ u.cell? ⟨w.heap.size, 1, none⟩ = some (.slice fo F1 fc) ∧ u.cell? ⟨w.heap.size, 2, none⟩ = some (.slice mo M1 mc) ∧ u.cell? ⟨w.heap.size, 3, none⟩ = some (.bool sa) ∧ u.cell? ⟨w.heap.size, 4, none⟩ = some (.bool sb) ∧ u.cell? ⟨w.heap.size, 5, none⟩ = some (.bool sc) ∧ u.cell? ⟨w.heap.size, 6, none⟩ = some (.bool sd) ∧ u.cell? ⟨w.heap.size, 7, none⟩ = some (.slice seo sen sec) ∧ u.cell? ⟨w.heap.size, 8, none⟩ = some (.bool sf) ∧ u.cell? ⟨w.heap.size, 9, none⟩ = some (.slice sgo sgn sgc) ∧ u.cell? ⟨w.heap.size, 10, none⟩ = some (.slice sio sinn sic) ∧ u.cell? ⟨w.heap.size, 11, none⟩ = some (.slice sjo sjn sjc) ∧ u.cell? ⟨kb, koff + k, none⟩ = some (.string Y)) := fun u hu => ⟨(hu.cell (p := ⟨_, _, _⟩) (World.block_lt_of_cell? _ _ p0)).trans p0, (hu.cell (p := ⟨_, _, _⟩) (World.block_lt_of_cell? _ _ p1)).trans p1, (hu.cell (p := ⟨_, _, _⟩) (World.block_lt_of_cell? _ _ p2)).trans p2, (hu.cell (p := ⟨_, _, _⟩) (World.block_lt_of_cell? _ _ p3)).trans p3, (hu.cell (p := ⟨_, _, _⟩) (World.block_lt_of_cell? _ _ p4)).trans p4, (hu.cell (p := ⟨_, _, _⟩) (World.block_lt_of_cell? _ _ p5)).trans p5, (hu.cell (p := ⟨_, _, _⟩) (World.block_lt_of_cell? _ _ p6)).trans p6, (hu.cell (p := ⟨_, _, _⟩) (World.block_lt_of_cell? _ _ p7)).trans p7, (hu.cell (p := ⟨_, _, _⟩) (World.block_lt_of_cell? _ _ p8)).trans p8, (hu.cell (p := ⟨_, _, _⟩) (World.block_lt_of_cell? _ _ p9)).trans p9, (hu.cell (p := ⟨_, _, _⟩) (World.block_lt_of_cell? _ _ p10)).trans p10, (hu.cell (p := ⟨_, _, _⟩) (World.block_lt_of_cell? _ _ p11)).trans p11, (hu.cell (p := ⟨_, _, _⟩) (World.block_lt_of_cell? _ _ ck)).trans ck⟩
      refine wp_region_held_drew (S := fun u => u.cell? ⟨w.heap.size, 0, none⟩ = some (.slice ko N1 kc) ∧ u.cell? ⟨w.heap.size, 1, none⟩ = some (.slice fo F1 fc) ∧ u.cell? ⟨w.heap.size, 2, none⟩ = some (.slice mo M1 mc) ∧ u.cell? ⟨w.heap.size, 3, none⟩ = some (.bool sa) ∧ u.cell? ⟨w.heap.size, 4, none⟩ = some (.bool sb) ∧ u.cell? ⟨w.heap.size, 5, none⟩ = some (.bool sc) ∧ u.cell? ⟨w.heap.size, 6, none⟩ = some (.bool sd) ∧ u.cell? ⟨w.heap.size, 7, none⟩ = some (.slice seo sen sec) ∧ u.cell? ⟨w.heap.size, 8, none⟩ = some (.bool sf) ∧ u.cell? ⟨w.heap.size, 9, none⟩ = some (.slice sgo sgn sgc) ∧ u.cell? ⟨w.heap.size, 10, none⟩ = some (.slice sio sinn sic) ∧ u.cell? ⟨w.heap.size, 11, none⟩ = some (.slice sjo sjn sjc) ∧ u.cell? ⟨kb, koff + k, none⟩ = some (.string Y)) (by kernel_rfl) (HSS.out _ HD.out) (fun hHeld => ?_)
      refine wpAnyH_take (i := 0) (oi := _) (v := .agg #[.slice ko N1 kc, .slice fo F1 fc, .slice mo M1 mc, .bool sa, .bool sb, .bool sc, .bool sd, .slice seo sen sec, .bool sf, .slice sgo sgn sgc, .slice sio sinn sic, .slice sjo sjn sjc]) rfl (by kernel_rfl) (by kernel_rfl) (by kernel_rfl) (fun _ _ _ h => h) (Or.inl ⟨by rfl, ?_⟩) (by assumption) ?_
      · intro w hSw
        go_simp
      try simp only [Act.put, List.setIfInBounds_toArray, List.set_cons_zero, List.set_cons_succ]
      refine wpAnyH_take (i := 1) (oi := _) (v := .slice (some ⟨kb, koff, none⟩) L lc) rfl (by kernel_rfl) (by kernel_rfl) (by kernel_rfl) (fun _ _ _ h => h) (Or.inl ⟨by rfl, ?_⟩) (by assumption) ?_
      · intro w hSw
        go_simp
      try simp only [Act.put, List.setIfInBounds_toArray, List.set_cons_zero, List.set_cons_succ]
      refine wpAnyH_take (i := 2) (oi := _) (v := .int .i64 (k : Int)) rfl (by kernel_rfl) (by kernel_rfl) (by kernel_rfl) (fun _ _ _ h => h) (Or.inl ⟨by rfl, ?_⟩) (by assumption) ?_
      · intro w hSw
        go_simp
      try simp only [Act.put, List.setIfInBounds_toArray, List.set_cons_zero, List.set_cons_succ]
      refine wpAnyH_take (i := 3) (oi := _) (v := .pointer (some ⟨kb, koff + k, none⟩)) rfl (by kernel_rfl) (by kernel_rfl) (by kernel_rfl) (fun _ _ _ h => h) (Or.inl ⟨by rfl, ?_⟩) (by assumption) ?_
      · intro w hSw
        go_simp
      try simp only [Act.put, List.setIfInBounds_toArray, List.set_cons_zero, List.set_cons_succ]
      refine wpAnyH_take (i := 4) (oi := _) (v := .string Y) rfl (by kernel_rfl) (by kernel_rfl) (by kernel_rfl) (fun _ _ _ h => h) (Or.inl ⟨by rfl, ?_⟩) (by assumption) ?_
      · intro w hSw
        go_simp
      try simp only [Act.put, List.setIfInBounds_toArray, List.set_cons_zero, List.set_cons_succ]
      refine wpAnyH_ready (rs := [5, 9]) (by kernel_rfl) (by simp) ?_
      refine AllReadyH.cons (o := _) rfl (fun K hK => ?_) ?_
      · skip
        go_simp
        go_at_call 62
        refine (HFD1.out Y _ (HD.out)).mono ?_
        rintro e w4 ⟨⟨X9, rfl, hT⟩, hq⟩
        have HB4 := Hid.mk ((HD.out).trans (hq.mono (HD.out).size))
        have HQ4 := Hid.mk hq
        have hTw := hT w (Below.refl _ _)
        obtain ⟨ya, yb, yc, yd, ⟨yeo, yen, yec⟩, yf, ⟨ygo, ygn, ygc⟩, ⟨yio, yinn, yic⟩, ⟨yjo, yjn, yjc⟩, esh⟩ := inT_shape hTw
        obtain rfl : X9 = #[.bool ya, .bool yb, .bool yc, .bool yd, .slice yeo yen yec, .bool yf, .slice ygo ygn ygc, .slice yio yinn yic, .slice yjo yjn yjc] := by simpa using esh
        have HIT := Hid.mk hT
        clear hq hT hTw esh
        go_wp2_with fail
        refine hK.out _ _ (HSS.out _ HB4.out) (fun hHeld => ?_)
        clear hK K
        try simp only [Act.put, List.setIfInBounds_toArray, List.set_cons_zero, List.set_cons_succ]
        refine wpAnyH_take (i := 6) (oi := _) (v := .tuple #[.agg #[.bool ya, .bool yb, .bool yc, .bool yd, .slice yeo yen yec, .bool yf, .slice ygo ygn ygc, .slice yio yinn yic, .slice yjo yjn yjc], .bool mY1]) rfl (by kernel_rfl) (by kernel_rfl) (by kernel_rfl) (fun _ _ _ h => h) (Or.inl ⟨by rfl, ?_⟩) (by assumption) ?_
        · intro w hSw
          go_simp
        try simp only [Act.put, List.setIfInBounds_toArray, List.set_cons_zero, List.set_cons_succ]
        refine wpAnyH_take (i := 7) (oi := _) (v := .agg #[.bool ya, .bool yb, .bool yc, .bool yd, .slice yeo yen yec, .bool yf, .slice ygo ygn ygc, .slice yio yinn yic, .slice yjo yjn yjc]) rfl (by kernel_rfl) (by kernel_rfl) (by kernel_rfl) (fun _ _ _ h => h) (Or.inl ⟨by rfl, ?_⟩) (by assumption) ?_
        · intro w hSw
          go_simp
        try simp only [Act.put, List.setIfInBounds_toArray, List.set_cons_zero, List.set_cons_succ]
        refine wpAnyH_take (i := 8) (oi := _) (v := .bool mY1) rfl (by kernel_rfl) (by kernel_rfl) (by kernel_rfl) (fun _ _ _ h => h) (Or.inl ⟨by rfl, ?_⟩) (by assumption) ?_
        · intro w hSw
          go_simp
        try simp only [Act.put, List.setIfInBounds_toArray, List.set_cons_zero, List.set_cons_succ]
        refine wpAnyH_ready (rs := [9]) (by kernel_rfl) (by simp) ?_
        refine AllReadyH.cons (o := _) rfl (fun K hK => ?_) AllReadyH.nil
        go_simp
        have HB5 := Hid.mk (HB4.out.trans ((below1 w4 (.cells #[.bool false, .bool false, .bool false, .bool false, .slice none 0 0, .bool false, .slice none 0 0, .slice none 0 0, .slice none 0 0] 27)).mono HB4.out.size))
        refine hK.out _ _ (HSS.out _ HB5.out) (fun hHeld => ?_)
        clear hK K
        try simp only [Act.put, List.setIfInBounds_toArray, List.set_cons_zero, List.set_cons_succ]
        refine wpAnyH_ready (rs := [10]) (by kernel_rfl) (by simp) ?_
        refine AllReadyH.cons (o := _) rfl (fun K hK => ?_) AllReadyH.nil
        go_simp
        have HF6 : Hid ((Below wr.heap.size wr (w4.alloc (.cells #[.bool ya, .bool yb, .bool yc, .bool yd, .slice yeo yen yec, .bool yf, .slice ygo ygn ygc, .slice yio yinn yic, .slice yjo yjn yjc] 27)) ∧ ∀ j, (w4.alloc (.cells #[.bool ya, .bool yb, .bool yc, .bool yd, .slice yeo yen yec, .bool yf, .slice ygo ygn ygc, .slice yio yinn yic, .slice yjo yjn yjc] 27)).cell? ⟨w4.heap.size, j, none⟩ = (#[.bool ya, .bool yb, .bool yc, .bool yd, .slice yeo yen yec, .bool yf, .slice ygo ygn ygc, .slice yio yinn yic, .slice yjo yjn yjc] : Array Value)[j]?) ∧ ∀ u, Below w.heap.size w u → InT u h ft1 (.agg #[.bool ya, .bool yb, .bool yc, .bool yd, .slice yeo yen yec, .bool yf, .slice ygo ygn ygc, .slice yio yinn yic, .slice yjo yjn yjc])) := ⟨⟨HB4.out.trans ((below1 w4 (.cells #[.bool ya, .bool yb, .bool yc, .bool yd, .slice yeo yen yec, .bool yf, .slice ygo ygn ygc, .slice yio yinn yic, .slice yjo yjn yjc] 27)).mono HB4.out.size), fun j => cell_of_row _ _ j _ _ (0, 0) (World.alloc_heap_new w4 _)⟩, HIT.out⟩
        have HB6 := Hid.mk HF6.out.1.1
        generalize w4.alloc (.cells #[.bool ya, .bool yb, .bool yc, .bool yd, .slice yeo yen yec, .bool yf, .slice ygo ygn ygc, .slice yio yinn yic, .slice yjo yjn yjc] 27) = W8 at HF6 HB6 ⊢
        generalize w4.heap.size = B at HF6 ⊢
        refine hK.out _ _ (HSS.out _ HB6.out) (fun hHeld => ?_)
        clear hK K
        try simp only [Act.put, List.setIfInBounds_toArray, List.set_cons_zero, List.set_cons_succ]
        refine wpAnyH_ready (rs := [11]) (by kernel_rfl) (by simp) ?_
        refine AllReadyH.cons (o := _) rfl (fun K hK => ?_) AllReadyH.nil
        go_simp
        refine hK.out _ _ (HSS.out _ HB6.out) (fun hHeld => ?_)
        clear hK K
        try simp only [Act.put, List.setIfInBounds_toArray, List.set_cons_zero, List.set_cons_succ]
        refine wpAnyH_done (by kernel_rfl) ?_ _
        exact KEY1 _ _ _ _ _ _ _ _ _ _ _ _ _ _ _ _ _ _ _ HF6
      refine AllReadyH.cons (o := _) rfl (fun K hK => ?_) AllReadyH.nil
      have HZ1 := Hid.mk (HD.out.trans ((below1 wr.drew (.cells #[.bool false, .bool false, .bool false, .bool false, .slice none 0 0, .bool false, .slice none 0 0, .slice none 0 0, .slice none 0 0] 27)).mono HD.out.size))
      go_simp
      refine hK.out _ _ (HSS.out _ HZ1.out) (fun hHeld => ?_)
      clear hK K
      try simp only [Act.put, List.setIfInBounds_toArray, List.set_cons_zero, List.set_cons_succ]
      refine wpAnyH_ready (rs := [5]) (by kernel_rfl) (by simp) ?_
      refine AllReadyH.cons (o := _) rfl (fun K hK => ?_) AllReadyH.nil
      go_simp
      go_at_call 62
      refine (HFD1.out Y _ (HZ1.out)).mono ?_
      rintro e w4 ⟨⟨X9, rfl, hT⟩, hq⟩
      have HB4 := Hid.mk ((HZ1.out).trans (hq.mono (HZ1.out).size))
      have HQ4 := Hid.mk hq
      have hTw := hT w (Below.refl _ _)
      obtain ⟨ya, yb, yc, yd, ⟨yeo, yen, yec⟩, yf, ⟨ygo, ygn, ygc⟩, ⟨yio, yinn, yic⟩, ⟨yjo, yjn, yjc⟩, esh⟩ := inT_shape hTw
      obtain rfl : X9 = #[.bool ya, .bool yb, .bool yc, .bool yd, .slice yeo yen yec, .bool yf, .slice ygo ygn ygc, .slice yio yinn yic, .slice yjo yjn yjc] := by simpa using esh
      have HIT := Hid.mk hT
      clear hq hT hTw esh
      go_wp2_with fail
      refine hK.out _ _ (HSS.out _ HB4.out) (fun hHeld => ?_)
      clear hK K
      try simp only [Act.put, List.setIfInBounds_toArray, List.set_cons_zero, List.set_cons_succ]
      refine wpAnyH_take (i := 6) (oi := _) (v := .tuple #[.agg #[.bool ya, .bool yb, .bool yc, .bool yd, .slice yeo yen yec, .bool yf, .slice ygo ygn ygc, .slice yio yinn yic, .slice yjo yjn yjc], .bool mY1]) rfl (by kernel_rfl) (by kernel_rfl) (by kernel_rfl) (fun _ _ _ h => h) (Or.inl ⟨by rfl, ?_⟩) (by assumption) ?_
      · intro w hSw
        go_simp
      try simp only [Act.put, List.setIfInBounds_toArray, List.set_cons_zero, List.set_cons_succ]
      refine wpAnyH_take (i := 7) (oi := _) (v := .agg #[.bool ya, .bool yb, .bool yc, .bool yd, .slice yeo yen yec, .bool yf, .slice ygo ygn ygc, .slice yio yinn yic, .slice yjo yjn yjc]) rfl (by kernel_rfl) (by kernel_rfl) (by kernel_rfl) (fun _ _ _ h => h) (Or.inl ⟨by rfl, ?_⟩) (by assumption) ?_
      · intro w hSw
        go_simp
      try simp only [Act.put, List.setIfInBounds_toArray, List.set_cons_zero, List.set_cons_succ]
      refine wpAnyH_take (i := 8) (oi := _) (v := .bool mY1) rfl (by kernel_rfl) (by kernel_rfl) (by kernel_rfl) (fun _ _ _ h => h) (Or.inl ⟨by rfl, ?_⟩) (by assumption) ?_
      · intro w hSw
        go_simp
      try simp only [Act.put, List.setIfInBounds_toArray, List.set_cons_zero, List.set_cons_succ]
      have HA4 : Hid (w4.heap[wr.heap.size]? = some (.cells #[.bool false, .bool false, .bool false, .bool false, .slice none 0 0, .bool false, .slice none 0 0, .slice none 0 0, .slice none 0 0] 27 (0, 0))) := by
        have h1 := HQ4.out.block wr.heap.size (by show wr.heap.size < (wr.drew.alloc _).heap.size; rw [World.size_alloc]; exact Nat.lt_succ_self _)
        exact h1.trans (World.alloc_heap_new wr.drew _)
      have g0 := cell_of_row _ _ 0 _ _ _ HA4.out
      have ff0 := frozen_row9' (j := 0) HA4.out
      have g1 := cell_of_row _ _ 1 _ _ _ HA4.out
      have ff1 := frozen_row9' (j := 1) HA4.out
      have g2 := cell_of_row _ _ 2 _ _ _ HA4.out
      have ff2 := frozen_row9' (j := 2) HA4.out
      have g3 := cell_of_row _ _ 3 _ _ _ HA4.out
      have ff3 := frozen_row9' (j := 3) HA4.out
      have g4 := cell_of_row _ _ 4 _ _ _ HA4.out
      have ff4 := frozen_row9' (j := 4) HA4.out
      have g5 := cell_of_row _ _ 5 _ _ _ HA4.out
      have ff5 := frozen_row9' (j := 5) HA4.out
      have g6 := cell_of_row _ _ 6 _ _ _ HA4.out
      have ff6 := frozen_row9' (j := 6) HA4.out
      have g7 := cell_of_row _ _ 7 _ _ _ HA4.out
      have ff7 := frozen_row9' (j := 7) HA4.out
      have g8 := cell_of_row _ _ 8 _ _ _ HA4.out
      have ff8 := frozen_row9' (j := 8) HA4.out
      refine wpAnyH_ready (rs := [10]) (by kernel_rfl) (by simp) ?_
      refine AllReadyH.cons (o := _) rfl (fun K hK => ?_) AllReadyH.nil
      go_simp
      generalize hz9 : (((((((((w4.setCell ⟨wr.heap.size, 0, none⟩ (.bool ya)).setCell ⟨wr.heap.size, 1, none⟩ (.bool yb)).setCell ⟨wr.heap.size, 2, none⟩ (.bool yc)).setCell ⟨wr.heap.size, 3, none⟩ (.bool yd)).setCell ⟨wr.heap.size, 4, none⟩ (.slice yeo yen yec)).setCell ⟨wr.heap.size, 5, none⟩ (.bool yf)).setCell ⟨wr.heap.size, 6, none⟩ (.slice ygo ygn ygc)).setCell ⟨wr.heap.size, 7, none⟩ (.slice yio yinn yic)).setCell ⟨wr.heap.size, 8, none⟩ (.slice yjo yjn yjc)) = W8
      have e7 : W8.heap[wr.heap.size]? = some (.cells #[.bool ya, .bool yb, .bool yc, .bool yd, .slice yeo yen yec, .bool yf, .slice ygo ygn ygc, .slice yio yinn yic, .slice yjo yjn yjc] 27 (0, 0)) := by rw [← hz9]; exact box9_row HA4.out
      have HB6 : Hid (Below wr.heap.size wr W8) := by show RowKit.Below _ _ _; rw [← hz9]; exact (((((((((HB4.out.setCell (p := ⟨wr.heap.size, 0, none⟩) (Nat.le_refl _) _).setCell (p := ⟨wr.heap.size, 1, none⟩) (Nat.le_refl _) _).setCell (p := ⟨wr.heap.size, 2, none⟩) (Nat.le_refl _) _).setCell (p := ⟨wr.heap.size, 3, none⟩) (Nat.le_refl _) _).setCell (p := ⟨wr.heap.size, 4, none⟩) (Nat.le_refl _) _).setCell (p := ⟨wr.heap.size, 5, none⟩) (Nat.le_refl _) _).setCell (p := ⟨wr.heap.size, 6, none⟩) (Nat.le_refl _) _).setCell (p := ⟨wr.heap.size, 7, none⟩) (Nat.le_refl _) _).setCell (p := ⟨wr.heap.size, 8, none⟩) (Nat.le_refl _) _)
      have HC6 : Hid (∀ j, W8.cell? ⟨wr.heap.size, j, none⟩ = (#[.bool ya, .bool yb, .bool yc, .bool yd, .slice yeo yen yec, .bool yf, .slice ygo ygn ygc, .slice yio yinn yic, .slice yjo yjn yjc] : Array Value)[j]?) := fun j => cell_of_row _ _ j _ _ (0, 0) e7
      clear hz9 e7 g0 ff0 g1 ff1 g2 ff2 g3 ff3 g4 ff4 g5 ff5 g6 ff6 g7 ff7 g8 ff8
      generalize wr.heap.size = B at HC6 ⊢
      have HF6 := Hid.mk (And.intro (And.intro HB6.out HC6.out) HIT.out)
      refine hK.out _ _ (HSS.out _ HB6.out) (fun hHeld => ?_)
      clear hK K
      try simp only [Act.put, List.setIfInBounds_toArray, List.set_cons_zero, List.set_cons_succ]
      refine wpAnyH_ready (rs := [11]) (by kernel_rfl) (by simp) ?_
      refine AllReadyH.cons (o := _) rfl (fun K hK => ?_) AllReadyH.nil
      go_simp
      refine hK.out _ _ (HSS.out _ HB6.out) (fun hHeld => ?_)
      clear hK K
      try simp only [Act.put, List.setIfInBounds_toArray, List.set_cons_zero, List.set_cons_succ]
      refine wpAnyH_done (by kernel_rfl) ?_ _
      exact KEY1 _ _ _ _ _ _ _ _ _ _ _ _ _ _ _ _ _ _ _ HF6
      case key1 =>
      intro B W8 ya yb yc yd yeo yen yec yf ygo ygn ygc yio yinn yic yjo yjn yjc HF8
      have HX8 := Hid.mk (HX.out.keep HF8.out.1.1)
      have hsz8 := HX8.out.below.size
      have q0 : W8.cell? ⟨w.heap.size + 1, 0, none⟩ = _ := HX8.out.two 0
      have q1 : W8.cell? ⟨w.heap.size + 1, 1, none⟩ = _ := HX8.out.two 1
      have q2 : W8.cell? ⟨w.heap.size + 1, 2, none⟩ = _ := HX8.out.two 2
      have q3 : W8.cell? ⟨w.heap.size + 1, 3, none⟩ = _ := HX8.out.two 3
      have q4 : W8.cell? ⟨w.heap.size + 1, 4, none⟩ = _ := HX8.out.two 4
      have q5 : W8.cell? ⟨w.heap.size + 1, 5, none⟩ = _ := HX8.out.two 5
      have q6 : W8.cell? ⟨w.heap.size + 1, 6, none⟩ = _ := HX8.out.two 6
      have q7 : W8.cell? ⟨w.heap.size + 1, 7, none⟩ = _ := HX8.out.two 7
      have q8 : W8.cell? ⟨w.heap.size + 1, 8, none⟩ = _ := HX8.out.two 8
      have q9 : W8.cell? ⟨w.heap.size + 1, 9, none⟩ = _ := HX8.out.two 9
      have q10 : W8.cell? ⟨w.heap.size + 1, 10, none⟩ = _ := HX8.out.two 10
      have q11 : W8.cell? ⟨w.heap.size + 1, 11, none⟩ = _ := HX8.out.two 11
      have ck8 := (HF8.out.1.1.cell (p := ⟨kb, koff + k, none⟩) (World.block_lt_of_cell? _ _ ck)).trans ck
      clear ck p0 p1 p2 p3 p4 p5 p6 p7 p8 p9 p10 p11
      go_wp2_with fail
      have KEY2 : ∀ (C : Nat) (V8 : World) (za zb zc zd : Bool) (zeo : Option Addr) (zen zec : Nat) (zf : Bool) (zgo : Option Addr) (zgn zgc : Nat) (zio : Option Addr) (zinn zic : Nat) (zjo : Option Addr) (zjn zjc : Nat), Hid ((Below W8.heap.size W8 V8 ∧ ∀ j, V8.cell? ⟨C, j, none⟩ = (#[.bool za, .bool zb, .bool zc, .bool zd, .slice zeo zen zec, .bool zf, .slice zgo zgn zgc, .slice zio zinn zic, .slice zjo zjn zjc] : Array Value)[j]?) ∧ ∀ u, Below w.heap.size w u → InT u h ft2 (.agg #[.bool za, .bool zb, .bool zc, .bool zd, .slice zeo zen zec, .bool zf, .slice zgo zgn zgc, .slice zio zinn zic, .slice zjo zjn zjc])) → (?PP2 : Nat → World → Bool → Bool → Bool → Bool → Option Addr → Nat → Nat → Bool → Option Addr → Nat → Nat → Option Addr → Nat → Nat → Option Addr → Nat → Nat → Prop) C V8 za zb zc zd zeo zen zec zf zgo zgn zgc zio zinn zic zjo zjn zjc := ?key2
      have HD := Hid.mk ((Below.refl W8.heap.size W8).drew)
      have HSS : Hid (∀ u, Below W8.heap.size W8 u → u.cell? ⟨w.heap.size + 1, 0, none⟩ = some (.slice ko2 N2 kc2) ∧ u.cell? ⟨w.heap.size + 1, 1, none⟩ = some (.slice fo2 F2 fc2) ∧ u.cell? ⟨w.heap.size + 1, 2, none⟩ = some (.slice mo2 M2 mc2) ∧ u.cell? ⟨w.heap.size + 1, 3, none⟩ = some (.bool ta) ∧ u.cell? ⟨w.heap.size + 1, 4, none⟩ = some (.bool tb) ∧ u.cell? ⟨w.heap.size + 1, 5, none⟩ = some (.bool tc) ∧ u.cell? ⟨w.heap.size + 1, 6, none⟩ = some (.bool td) ∧ u.cell? ⟨w.heap.size + 1, 7, none⟩ = some (.slice teo ten tec) ∧ u.cell? ⟨w.heap.size + 1, 8, none⟩ = some (.bool tf) ∧ u.cell? ⟨w.heap.size + 1, 9, none⟩ = some (.slice tgo tgn tgc) ∧ u.cell? ⟨w.heap.size + 1, 10, none⟩ = some (.slice tio tinn tic) ∧ u.cell? ⟨w.heap.size + 1, 11, none⟩ = some (.slice tjo tjn tjc) ∧ u.cell? ⟨kb, koff + k, none⟩ = some (.string Y)) := fun u hu => ⟨(hu.cell (p := ⟨_, _, _⟩) (World.block_lt_of_cell? _ _ q0)).trans q0, (hu.cell (p := ⟨_, _, _⟩) (World.block_lt_of_cell? _ _ q1)).trans q1, (hu.cell (p := ⟨_, _, _⟩) (World.block_lt_of_cell? _ _ q2)).trans q2, (hu.cell (p := ⟨_, _, _⟩) (World.block_lt_of_cell? _ _ q3)).trans q3, (hu.cell (p := ⟨_, _, _⟩) (World.block_lt_of_cell? _ _ q4)).trans q4, (hu.cell (p := ⟨_, _, _⟩) (World.block_lt_of_cell? _ _ q5)).trans q5, (hu.cell (p := ⟨_, _, _⟩) (World.block_lt_of_cell? _ _ q6)).trans q6, (hu.cell (p := ⟨_, _, _⟩) (World.block_lt_of_cell? _ _ q7)).trans q7, (hu.cell (p := ⟨_, _, _⟩) (World.block_lt_of_cell? _ _ q8)).trans q8, (hu.cell (p := ⟨_, _, _⟩) (World.block_lt_of_cell? _ _ q9)).trans q9, (hu.cell (p := ⟨_, _, _⟩) (World.block_lt_of_cell? _ _ q10)).trans q10, (hu.cell (p := ⟨_, _, _⟩) (World.block_lt_of_cell? _ _ q11)).trans q11, (hu.cell (p := ⟨_, _, _⟩) (World.block_lt_of_cell? _ _ ck8)).trans ck8⟩
      refine wp_region_held_drew (S := fun u => u.cell? ⟨w.heap.size + 1, 0, none⟩ = some (.slice ko2 N2 kc2) ∧ u.cell? ⟨w.heap.size + 1, 1, none⟩ = some (.slice fo2 F2 fc2) ∧ u.cell? ⟨w.heap.size + 1, 2, none⟩ = some (.slice mo2 M2 mc2) ∧ u.cell? ⟨w.heap.size + 1, 3, none⟩ = some (.bool ta) ∧ u.cell? ⟨w.heap.size + 1, 4, none⟩ = some (.bool tb) ∧ u.cell? ⟨w.heap.size + 1, 5, none⟩ = some (.bool tc) ∧ u.cell? ⟨w.heap.size + 1, 6, none⟩ = some (.bool td) ∧ u.cell? ⟨w.heap.size + 1, 7, none⟩ = some (.slice teo ten tec) ∧ u.cell? ⟨w.heap.size + 1, 8, none⟩ = some (.bool tf) ∧ u.cell? ⟨w.heap.size + 1, 9, none⟩ = some (.slice tgo tgn tgc) ∧ u.cell? ⟨w.heap.size + 1, 10, none⟩ = some (.slice tio tinn tic) ∧ u.cell? ⟨w.heap.size + 1, 11, none⟩ = some (.slice tjo tjn tjc) ∧ u.cell? ⟨kb, koff + k, none⟩ = some (.string Y)) (by kernel_rfl) (HSS.out _ HD.out) (fun hHeld => ?_)
      refine wpAnyH_take (i := 0) (oi := _) (v := .agg #[.slice ko2 N2 kc2, .slice fo2 F2 fc2, .slice mo2 M2 mc2, .bool ta, .bool tb, .bool tc, .bool td, .slice teo ten tec, .bool tf, .slice tgo tgn tgc, .slice tio tinn tic, .slice tjo tjn tjc]) rfl (by kernel_rfl) (by kernel_rfl) (by kernel_rfl) (fun _ _ _ h => h) (Or.inl ⟨by rfl, ?_⟩) (by assumption) ?_
      · intro w hSw
        go_simp
      try simp only [Act.put, List.setIfInBounds_toArray, List.set_cons_zero, List.set_cons_succ]
      refine wpAnyH_take (i := 1) (oi := _) (v := .slice (some ⟨kb, koff, none⟩) L lc) rfl (by kernel_rfl) (by kernel_rfl) (by kernel_rfl) (fun _ _ _ h => h) (Or.inl ⟨by rfl, ?_⟩) (by assumption) ?_
      · intro w hSw
        go_simp
      try simp only [Act.put, List.setIfInBounds_toArray, List.set_cons_zero, List.set_cons_succ]
      refine wpAnyH_take (i := 2) (oi := _) (v := .int .i64 (k : Int)) rfl (by kernel_rfl) (by kernel_rfl) (by kernel_rfl) (fun _ _ _ h => h) (Or.inl ⟨by rfl, ?_⟩) (by assumption) ?_
      · intro w hSw
        go_simp
      try simp only [Act.put, List.setIfInBounds_toArray, List.set_cons_zero, List.set_cons_succ]
      refine wpAnyH_take (i := 3) (oi := _) (v := .pointer (some ⟨kb, koff + k, none⟩)) rfl (by kernel_rfl) (by kernel_rfl) (by kernel_rfl) (fun _ _ _ h => h) (Or.inl ⟨by rfl, ?_⟩) (by assumption) ?_
      · intro w hSw
        go_simp
      try simp only [Act.put, List.setIfInBounds_toArray, List.set_cons_zero, List.set_cons_succ]
      refine wpAnyH_take (i := 4) (oi := _) (v := .string Y) rfl (by kernel_rfl) (by kernel_rfl) (by kernel_rfl) (fun _ _ _ h => h) (Or.inl ⟨by rfl, ?_⟩) (by assumption) ?_
      · intro w hSw
        go_simp
      try simp only [Act.put, List.setIfInBounds_toArray, List.set_cons_zero, List.set_cons_succ]
      refine wpAnyH_ready (rs := [5, 9]) (by kernel_rfl) (by simp) ?_
      refine AllReadyH.cons (o := _) rfl (fun K hK => ?_) ?_
      · skip
        go_simp
        go_at_call 62
        refine (HFD2.out Y W8 HX8.out.below _ (HD.out)).mono ?_
        rintro e w4 ⟨⟨X9, rfl, hT⟩, hq⟩
        have HB4 := Hid.mk ((HD.out).trans (hq.mono (HD.out).size))
        have HQ4 := Hid.mk hq
        have hTw := hT w (Below.refl _ _)
        obtain ⟨za, zb, zc, zd, ⟨zeo, zen, zec⟩, zf, ⟨zgo, zgn, zgc⟩, ⟨zio, zinn, zic⟩, ⟨zjo, zjn, zjc⟩, esh⟩ := inT_shape hTw
        obtain rfl : X9 = #[.bool za, .bool zb, .bool zc, .bool zd, .slice zeo zen zec, .bool zf, .slice zgo zgn zgc, .slice zio zinn zic, .slice zjo zjn zjc] := by simpa using esh
        have HIT := Hid.mk hT
        clear hq hT hTw esh
        go_wp2_with fail
        refine hK.out _ _ (HSS.out _ HB4.out) (fun hHeld => ?_)
        clear hK K
        try simp only [Act.put, List.setIfInBounds_toArray, List.set_cons_zero, List.set_cons_succ]
        refine wpAnyH_take (i := 6) (oi := _) (v := .tuple #[.agg #[.bool za, .bool zb, .bool zc, .bool zd, .slice zeo zen zec, .bool zf, .slice zgo zgn zgc, .slice zio zinn zic, .slice zjo zjn zjc], .bool mY2]) rfl (by kernel_rfl) (by kernel_rfl) (by kernel_rfl) (fun _ _ _ h => h) (Or.inl ⟨by rfl, ?_⟩) (by assumption) ?_
        · intro w hSw
          go_simp
        try simp only [Act.put, List.setIfInBounds_toArray, List.set_cons_zero, List.set_cons_succ]
        refine wpAnyH_take (i := 7) (oi := _) (v := .agg #[.bool za, .bool zb, .bool zc, .bool zd, .slice zeo zen zec, .bool zf, .slice zgo zgn zgc, .slice zio zinn zic, .slice zjo zjn zjc]) rfl (by kernel_rfl) (by kernel_rfl) (by kernel_rfl) (fun _ _ _ h => h) (Or.inl ⟨by rfl, ?_⟩) (by assumption) ?_
        · intro w hSw
          go_simp
        try simp only [Act.put, List.setIfInBounds_toArray, List.set_cons_zero, List.set_cons_succ]
        refine wpAnyH_take (i := 8) (oi := _) (v := .bool mY2) rfl (by kernel_rfl) (by kernel_rfl) (by kernel_rfl) (fun _ _ _ h => h) (Or.inl ⟨by rfl, ?_⟩) (by assumption) ?_
        · intro w hSw
          go_simp
        try simp only [Act.put, List.setIfInBounds_toArray, List.set_cons_zero, List.set_cons_succ]
        refine wpAnyH_ready (rs := [9]) (by kernel_rfl) (by simp) ?_
        refine AllReadyH.cons (o := _) rfl (fun K hK => ?_) AllReadyH.nil
        go_simp
        have HB5 := Hid.mk (HB4.out.trans ((below1 w4 (.cells #[.bool false, .bool false, .bool false, .bool false, .slice none 0 0, .bool false, .slice none 0 0, .slice none 0 0, .slice none 0 0] 27)).mono HB4.out.size))
        refine hK.out _ _ (HSS.out _ HB5.out) (fun hHeld => ?_)
        clear hK K
        try simp only [Act.put, List.setIfInBounds_toArray, List.set_cons_zero, List.set_cons_succ]
        refine wpAnyH_ready (rs := [10]) (by kernel_rfl) (by simp) ?_
        refine AllReadyH.cons (o := _) rfl (fun K hK => ?_) AllReadyH.nil
        go_simp
        have HF6 : Hid ((Below W8.heap.size W8 (w4.alloc (.cells #[.bool za, .bool zb, .bool zc, .bool zd, .slice zeo zen zec, .bool zf, .slice zgo zgn zgc, .slice zio zinn zic, .slice zjo zjn zjc] 27)) ∧ ∀ j, (w4.alloc (.cells #[.bool za, .bool zb, .bool zc, .bool zd, .slice zeo zen zec, .bool zf, .slice zgo zgn zgc, .slice zio zinn zic, .slice zjo zjn zjc] 27)).cell? ⟨w4.heap.size, j, none⟩ = (#[.bool za, .bool zb, .bool zc, .bool zd, .slice zeo zen zec, .bool zf, .slice zgo zgn zgc, .slice zio zinn zic, .slice zjo zjn zjc] : Array Value)[j]?) ∧ ∀ u, Below w.heap.size w u → InT u h ft2 (.agg #[.bool za, .bool zb, .bool zc, .bool zd, .slice zeo zen zec, .bool zf, .slice zgo zgn zgc, .slice zio zinn zic, .slice zjo zjn zjc])) := ⟨⟨HB4.out.trans ((below1 w4 (.cells #[.bool za, .bool zb, .bool zc, .bool zd, .slice zeo zen zec, .bool zf, .slice zgo zgn zgc, .slice zio zinn zic, .slice zjo zjn zjc] 27)).mono HB4.out.size), fun j => cell_of_row _ _ j _ _ (0, 0) (World.alloc_heap_new w4 _)⟩, HIT.out⟩
        have HB6 := Hid.mk HF6.out.1.1
        generalize w4.alloc (.cells #[.bool za, .bool zb, .bool zc, .bool zd, .slice zeo zen zec, .bool zf, .slice zgo zgn zgc, .slice zio zinn zic, .slice zjo zjn zjc] 27) = V8 at HF6 HB6 ⊢
        generalize w4.heap.size = C at HF6 ⊢
        refine hK.out _ _ (HSS.out _ HB6.out) (fun hHeld => ?_)
        clear hK K
        try simp only [Act.put, List.setIfInBounds_toArray, List.set_cons_zero, List.set_cons_succ]
        refine wpAnyH_ready (rs := [11]) (by kernel_rfl) (by simp) ?_
        refine AllReadyH.cons (o := _) rfl (fun K hK => ?_) AllReadyH.nil
        go_simp
        refine hK.out _ _ (HSS.out _ HB6.out) (fun hHeld => ?_)
        clear hK K
        try simp only [Act.put, List.setIfInBounds_toArray, List.set_cons_zero, List.set_cons_succ]
        refine wpAnyH_done (by kernel_rfl) ?_ _
        exact KEY2 _ _ _ _ _ _ _ _ _ _ _ _ _ _ _ _ _ _ _ HF6
      refine AllReadyH.cons (o := _) rfl (fun K hK => ?_) AllReadyH.nil
      have HZ1 := Hid.mk (HD.out.trans ((below1 W8.drew (.cells #[.bool false, .bool false, .bool false, .bool false, .slice none 0 0, .bool false, .slice none 0 0, .slice none 0 0, .slice none 0 0] 27)).mono HD.out.size))
      go_simp
      refine hK.out _ _ (HSS.out _ HZ1.out) (fun hHeld => ?_)
      clear hK K
      try simp only [Act.put, List.setIfInBounds_toArray, List.set_cons_zero, List.set_cons_succ]
      refine wpAnyH_ready (rs := [5]) (by kernel_rfl) (by simp) ?_
      refine AllReadyH.cons (o := _) rfl (fun K hK => ?_) AllReadyH.nil
      go_simp
      go_at_call 62
      refine (HFD2.out Y W8 HX8.out.below _ (HZ1.out)).mono ?_
      rintro e w4 ⟨⟨X9, rfl, hT⟩, hq⟩
      have HB4 := Hid.mk ((HZ1.out).trans (hq.mono (HZ1.out).size))
      have HQ4 := Hid.mk hq
      have hTw := hT w (Below.refl _ _)
      obtain ⟨za, zb, zc, zd, ⟨zeo, zen, zec⟩, zf, ⟨zgo, zgn, zgc⟩, ⟨zio, zinn, zic⟩, ⟨zjo, zjn, zjc⟩, esh⟩ := inT_shape hTw
      obtain rfl : X9 = #[.bool za, .bool zb, .bool zc, .bool zd, .slice zeo zen zec, .bool zf, .slice zgo zgn zgc, .slice zio zinn zic, .slice zjo zjn zjc] := by simpa using esh
      have HIT := Hid.mk hT
      clear hq hT hTw esh
      go_wp2_with fail
      refine hK.out _ _ (HSS.out _ HB4.out) (fun hHeld => ?_)
      clear hK K
      try simp only [Act.put, List.setIfInBounds_toArray, List.set_cons_zero, List.set_cons_succ]
      refine wpAnyH_take (i := 6) (oi := _) (v := .tuple #[.agg #[.bool za, .bool zb, .bool zc, .bool zd, .slice zeo zen zec, .bool zf, .slice zgo zgn zgc, .slice zio zinn zic, .slice zjo zjn zjc], .bool mY2]) rfl (by kernel_rfl) (by kernel_rfl) (by kernel_rfl) (fun _ _ _ h => h) (Or.inl ⟨by rfl, ?_⟩) (by assumption) ?_
      · intro w hSw
        go_simp
      try simp only [Act.put, List.setIfInBounds_toArray, List.set_cons_zero, List.set_cons_succ]
      refine wpAnyH_take (i := 7) (oi := _) (v := .agg #[.bool za, .bool zb, .bool zc, .bool zd, .slice zeo zen zec, .bool zf, .slice zgo zgn zgc, .slice zio zinn zic, .slice zjo zjn zjc]) rfl (by kernel_rfl) (by kernel_rfl) (by kernel_rfl) (fun _ _ _ h => h) (Or.inl ⟨by rfl, ?_⟩) (by assumption) ?_
      · intro w hSw
        go_simp
      try simp only [Act.put, List.setIfInBounds_toArray, List.set_cons_zero, List.set_cons_succ]
      refine wpAnyH_take (i := 8) (oi := _) (v := .bool mY2) rfl (by kernel_rfl) (by kernel_rfl) (by kernel_rfl) (fun _ _ _ h => h) (Or.inl ⟨by rfl, ?_⟩) (by assumption) ?_
      · intro w hSw
        go_simp
      try simp only [Act.put, List.setIfInBounds_toArray, List.set_cons_zero, List.set_cons_succ]
      have HA4 : Hid (w4.heap[W8.heap.size]? = some (.cells #[.bool false, .bool false, .bool false, .bool false, .slice none 0 0, .bool false, .slice none 0 0, .slice none 0 0, .slice none 0 0] 27 (0, 0))) := by
        have h1 := HQ4.out.block W8.heap.size (by show W8.heap.size < (W8.drew.alloc _).heap.size; rw [World.size_alloc]; exact Nat.lt_succ_self _)
        exact h1.trans (World.alloc_heap_new W8.drew _)
      have g0 := cell_of_row _ _ 0 _ _ _ HA4.out
      have ff0 := frozen_row9' (j := 0) HA4.out
      have g1 := cell_of_row _ _ 1 _ _ _ HA4.out
      have ff1 := frozen_row9' (j := 1) HA4.out
      have g2 := cell_of_row _ _ 2 _ _ _ HA4.out
      have ff2 := frozen_row9' (j := 2) HA4.out
      have g3 := cell_of_row _ _ 3 _ _ _ HA4.out
      have ff3 := frozen_row9' (j := 3) HA4.out
      have g4 := cell_of_row _ _ 4 _ _ _ HA4.out
      have ff4 := frozen_row9' (j := 4) HA4.out
      have g5 := cell_of_row _ _ 5 _ _ _ HA4.out
      have ff5 := frozen_row9' (j := 5) HA4.out
      have g6 := cell_of_row _ _ 6 _ _ _ HA4.out
      have ff6 := frozen_row9' (j := 6) HA4.out
      have g7 := cell_of_row _ _ 7 _ _ _ HA4.out
      have ff7 := frozen_row9' (j := 7) HA4.out
      have g8 := cell_of_row _ _ 8 _ _ _ HA4.out
      have ff8 := frozen_row9' (j := 8) HA4.out
      refine wpAnyH_ready (rs := [10]) (by kernel_rfl) (by simp) ?_
      refine AllReadyH.cons (o := _) rfl (fun K hK => ?_) AllReadyH.nil
      go_simp
      generalize hz9 : (((((((((w4.setCell ⟨W8.heap.size, 0, none⟩ (.bool za)).setCell ⟨W8.heap.size, 1, none⟩ (.bool zb)).setCell ⟨W8.heap.size, 2, none⟩ (.bool zc)).setCell ⟨W8.heap.size, 3, none⟩ (.bool zd)).setCell ⟨W8.heap.size, 4, none⟩ (.slice zeo zen zec)).setCell ⟨W8.heap.size, 5, none⟩ (.bool zf)).setCell ⟨W8.heap.size, 6, none⟩ (.slice zgo zgn zgc)).setCell ⟨W8.heap.size, 7, none⟩ (.slice zio zinn zic)).setCell ⟨W8.heap.size, 8, none⟩ (.slice zjo zjn zjc)) = V8
      have e7 : V8.heap[W8.heap.size]? = some (.cells #[.bool za, .bool zb, .bool zc, .bool zd, .slice zeo zen zec, .bool zf, .slice zgo zgn zgc, .slice zio zinn zic, .slice zjo zjn zjc] 27 (0, 0)) := by rw [← hz9]; exact box9_row HA4.out
      have HB6 : Hid (Below W8.heap.size W8 V8) := by show RowKit.Below _ _ _; rw [← hz9]; exact (((((((((HB4.out.setCell (p := ⟨W8.heap.size, 0, none⟩) (Nat.le_refl _) _).setCell (p := ⟨W8.heap.size, 1, none⟩) (Nat.le_refl _) _).setCell (p := ⟨W8.heap.size, 2, none⟩) (Nat.le_refl _) _).setCell (p := ⟨W8.heap.size, 3, none⟩) (Nat.le_refl _) _).setCell (p := ⟨W8.heap.size, 4, none⟩) (Nat.le_refl _) _).setCell (p := ⟨W8.heap.size, 5, none⟩) (Nat.le_refl _) _).setCell (p := ⟨W8.heap.size, 6, none⟩) (Nat.le_refl _) _).setCell (p := ⟨W8.heap.size, 7, none⟩) (Nat.le_refl _) _).setCell (p := ⟨W8.heap.size, 8, none⟩) (Nat.le_refl _) _)
      have HC6 : Hid (∀ j, V8.cell? ⟨W8.heap.size, j, none⟩ = (#[.bool za, .bool zb, .bool zc, .bool zd, .slice zeo zen zec, .bool zf, .slice zgo zgn zgc, .slice zio zinn zic, .slice zjo zjn zjc] : Array Value)[j]?) := fun j => cell_of_row _ _ j _ _ (0, 0) e7
      clear hz9 e7 g0 ff0 g1 ff1 g2 ff2 g3 ff3 g4 ff4 g5 ff5 g6 ff6 g7 ff7 g8 ff8
      generalize W8.heap.size = C at HC6 ⊢
      have HF6 := Hid.mk (And.intro (And.intro HB6.out HC6.out) HIT.out)
      refine hK.out _ _ (HSS.out _ HB6.out) (fun hHeld => ?_)
      clear hK K
      try simp only [Act.put, List.setIfInBounds_toArray, List.set_cons_zero, List.set_cons_succ]
      refine wpAnyH_ready (rs := [11]) (by kernel_rfl) (by simp) ?_
      refine AllReadyH.cons (o := _) rfl (fun K hK => ?_) AllReadyH.nil
      go_simp
      refine hK.out _ _ (HSS.out _ HB6.out) (fun hHeld => ?_)
      clear hK K
      try simp only [Act.put, List.setIfInBounds_toArray, List.set_cons_zero, List.set_cons_succ]
      refine wpAnyH_done (by kernel_rfl) ?_ _
      exact KEY2 _ _ _ _ _ _ _ _ _ _ _ _ _ _ _ _ _ _ _ HF6
      case key2 =>
      intro C V8 za zb zc zd zeo zen zec zf zgo zgn zgc zio zinn zic zjo zjn zjc HG8
      have HB9 := Hid.mk HG8.out.1.1
      have HX9 := Hid.mk (HX8.out.keep HB9.out)
      have HBw9 := Hid.mk HX9.out.below
      have HIx := Hid.mk (HF8.out.2 V8 HBw9.out)
      have HIy := Hid.mk (HG8.out.2 V8 HBw9.out)
      have hBl : B < W8.heap.size := World.block_lt_of_cell? _ _ (show W8.cell? ⟨B, 0, none⟩ = some (.bool ya) from HF8.out.1.2 0)
      have x0 : V8.cell? ⟨B, 0, none⟩ = some (.bool ya) := (HB9.out.cell (p := ⟨_, _, _⟩) hBl).trans (HF8.out.1.2 0)
      have x1 : V8.cell? ⟨B, 1, none⟩ = some (.bool yb) := (HB9.out.cell (p := ⟨_, _, _⟩) hBl).trans (HF8.out.1.2 1)
      have x2 : V8.cell? ⟨B, 2, none⟩ = some (.bool yc) := (HB9.out.cell (p := ⟨_, _, _⟩) hBl).trans (HF8.out.1.2 2)
      have x3 : V8.cell? ⟨B, 3, none⟩ = some (.bool yd) := (HB9.out.cell (p := ⟨_, _, _⟩) hBl).trans (HF8.out.1.2 3)
      have x4 : V8.cell? ⟨B, 4, none⟩ = some (.slice yeo yen yec) := (HB9.out.cell (p := ⟨_, _, _⟩) hBl).trans (HF8.out.1.2 4)
      have x5 : V8.cell? ⟨B, 5, none⟩ = some (.bool yf) := (HB9.out.cell (p := ⟨_, _, _⟩) hBl).trans (HF8.out.1.2 5)
      have x6 : V8.cell? ⟨B, 6, none⟩ = some (.slice ygo ygn ygc) := (HB9.out.cell (p := ⟨_, _, _⟩) hBl).trans (HF8.out.1.2 6)
      have x7 : V8.cell? ⟨B, 7, none⟩ = some (.slice yio yinn yic) := (HB9.out.cell (p := ⟨_, _, _⟩) hBl).trans (HF8.out.1.2 7)
      have x8 : V8.cell? ⟨B, 8, none⟩ = some (.slice yjo yjn yjc) := (HB9.out.cell (p := ⟨_, _, _⟩) hBl).trans (HF8.out.1.2 8)
      have z0 : V8.cell? ⟨C, 0, none⟩ = some (.bool za) := HG8.out.1.2 0
      have z1 : V8.cell? ⟨C, 1, none⟩ = some (.bool zb) := HG8.out.1.2 1
      have z2 : V8.cell? ⟨C, 2, none⟩ = some (.bool zc) := HG8.out.1.2 2
      have z3 : V8.cell? ⟨C, 3, none⟩ = some (.bool zd) := HG8.out.1.2 3
      have z4 : V8.cell? ⟨C, 4, none⟩ = some (.slice zeo zen zec) := HG8.out.1.2 4
      have z5 : V8.cell? ⟨C, 5, none⟩ = some (.bool zf) := HG8.out.1.2 5
      have z6 : V8.cell? ⟨C, 6, none⟩ = some (.slice zgo zgn zgc) := HG8.out.1.2 6
      have z7 : V8.cell? ⟨C, 7, none⟩ = some (.slice zio zinn zic) := HG8.out.1.2 7
      have z8 : V8.cell? ⟨C, 8, none⟩ = some (.slice zjo zjn zjc) := HG8.out.1.2 8
      have HCB := Hid.mk (HB.out Y V8 _ _ HBw9.out HIx.out HIy.out)
      have HLB : Hid (Below W1.heap.size W1 V8) := (HBl.out.trans (HF8.out.1.1.mono HBl.out.size)).trans (HB9.out.mono (Nat.le_trans HBl.out.size HF8.out.1.1.size))
      clear HIx HIy hBl hsz8 q0 q1 q2 q3 q4 q5 q6 q7 q8 q9 q10 q11 ck8
      cases hm : (mY2 && !mY1) with
      | true =>
        have HFf : Hid (fitF f (ft1, mY1) (ft2, mY2) = false) := by show _ = _; unfold fitF; revert hm; cases mY1 <;> cases mY2 <;> simp
        have HF : Hid (R = false) := HNo.out HFf.out
        obtain ⟨rfl, rfl⟩ : mY2 = true ∧ mY1 = false := by revert hm; cases mY1 <;> cases mY2 <;> simp
        go_wp2_with fail
        go_ret
        exact ⟨by rw [HF.out]; rfl, HBw9.out⟩
      | false =>
        obtain ⟨rr, hrr⟩ : ∃ rr, f ft1 ft2 = rr := ⟨_, rfl⟩
        rw [hrr] at HCB
        have HFf : Hid (fitF f (ft1, mY1) (ft2, mY2) = rr) := by show _ = _; unfold fitF; rw [hrr]; revert hm; cases mY1 <;> cases mY2 <;> simp
        rw [HFf.out] at HU HNo
        clear hrr
        cases rr with
        | true =>
          have HN2 : Hid ((ns.take (k + 1)).all (fun s => fitF f (fa s) (fb s)) = true) := by show _ = _; rw [HU.out, HQ.out]; rfl
          clear HU HNo HFf
          cases mY2 with
          | false =>
            go_wp2_with fail
            refine HCB.out.mono ?_
            rintro e w9 ⟨rfl, hq⟩
            have HXA := Hid.mk (HX9.out.keep hq)
            have HLA := Hid.mk (HLB.out.trans (hq.mono HLB.out.size))
            clear hq
            go_wp2_with fail
            go_roundw
            case rel => exact ⟨k + 1, hlt, by go_num, HXA, HLA, HN2⟩
            case measure => simp [intOf]; omega
          | true =>
            obtain rfl : mY1 = true := by simpa using hm
            go_wp2_with fail
            refine HCB.out.mono ?_
            rintro e w9 ⟨rfl, hq⟩
            have HXA := Hid.mk (HX9.out.keep hq)
            have HLA := Hid.mk (HLB.out.trans (hq.mono HLB.out.size))
            clear hq
            go_wp2_with fail
            go_roundw
            case rel => exact ⟨k + 1, hlt, by go_num, HXA, HLA, HN2⟩
            case measure => simp [intOf]; omega
        | false =>
          have HF : Hid (R = false) := HNo.out rfl
          clear HU HNo HFf
          cases mY2 with
          | false =>
            go_wp2_with fail
            refine HCB.out.mono ?_
            rintro e w9 ⟨rfl, hq⟩
            have HXA := Hid.mk (HX9.out.keep hq)
            have HLA := Hid.mk (HLB.out.trans (hq.mono HLB.out.size))
            clear hq
            go_wp2_with fail
            go_ret
            exact ⟨by rw [HF.out]; rfl, HXA.out.below⟩
          | true =>
            obtain rfl : mY1 = true := by simpa using hm
            go_wp2_with fail
            refine HCB.out.mono ?_
            rintro e w9 ⟨rfl, hq⟩
            have HXA := Hid.mk (HX9.out.keep hq)
            have HLA := Hid.mk (HLB.out.trans (hq.mono HLB.out.size))
            clear hq
            go_wp2_with fail
            go_ret
            exact ⟨by rw [HF.out]; rfl, HXA.out.below⟩
    · have hl1 : ¬ (k : Int) < (L : Int) := by omega
      have HF : Hid (R = true) := by
        show _ = _
        have h := HQ.out
        rw [List.take_of_length_le (by rw [HLn.out]; omega)] at h
        rw [HR1.out]; exact h
      have HRc := Hid.mk (HR.out wr HX.out.below)
      have p0 : wr.cell? ⟨w.heap.size, 0, none⟩ = _ := HX.out.one 0
      have p1 : wr.cell? ⟨w.heap.size, 1, none⟩ = _ := HX.out.one 1
      have p2 : wr.cell? ⟨w.heap.size, 2, none⟩ = _ := HX.out.one 2
      have p3 : wr.cell? ⟨w.heap.size, 3, none⟩ = _ := HX.out.one 3
      have p4 : wr.cell? ⟨w.heap.size, 4, none⟩ = _ := HX.out.one 4
      have p5 : wr.cell? ⟨w.heap.size, 5, none⟩ = _ := HX.out.one 5
      have p6 : wr.cell? ⟨w.heap.size, 6, none⟩ = _ := HX.out.one 6
      have p7 : wr.cell? ⟨w.heap.size, 7, none⟩ = _ := HX.out.one 7
      have p8 : wr.cell? ⟨w.heap.size, 8, none⟩ = _ := HX.out.one 8
      have p9 : wr.cell? ⟨w.heap.size, 9, none⟩ = _ := HX.out.one 9
      have p10 : wr.cell? ⟨w.heap.size, 10, none⟩ = _ := HX.out.one 10
      have p11 : wr.cell? ⟨w.heap.size, 11, none⟩ = _ := HX.out.one 11
      have q0 : wr.cell? ⟨w.heap.size + 1, 0, none⟩ = _ := HX.out.two 0
      have q1 : wr.cell? ⟨w.heap.size + 1, 1, none⟩ = _ := HX.out.two 1
      have q2 : wr.cell? ⟨w.heap.size + 1, 2, none⟩ = _ := HX.out.two 2
      have q3 : wr.cell? ⟨w.heap.size + 1, 3, none⟩ = _ := HX.out.two 3
      have q4 : wr.cell? ⟨w.heap.size + 1, 4, none⟩ = _ := HX.out.two 4
      have q5 : wr.cell? ⟨w.heap.size + 1, 5, none⟩ = _ := HX.out.two 5
      have q6 : wr.cell? ⟨w.heap.size + 1, 6, none⟩ = _ := HX.out.two 6
      have q7 : wr.cell? ⟨w.heap.size + 1, 7, none⟩ = _ := HX.out.two 7
      have q8 : wr.cell? ⟨w.heap.size + 1, 8, none⟩ = _ := HX.out.two 8
      have q9 : wr.cell? ⟨w.heap.size + 1, 9, none⟩ = _ := HX.out.two 9
      have q10 : wr.cell? ⟨w.heap.size + 1, 10, none⟩ = _ := HX.out.two 10
      have q11 : wr.cell? ⟨w.heap.size + 1, 11, none⟩ = _ := HX.out.two 11
      go_wp2_with fail
      refine HRc.out.mono ?_
      rintro e w9 ⟨rfl, hq⟩
      have HX9 := Hid.mk (HX.out.keep hq)
      clear hq
      go_wp2_with fail
      go_ret
      exact ⟨by rw [HF.out]; rfl, HX9.out.below⟩
end Go.Proofs.Ytihhjplbpaafiaa
