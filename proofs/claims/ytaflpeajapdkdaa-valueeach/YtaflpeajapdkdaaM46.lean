import Derived.Test.YtaflpeajapdkdaaM44
import Derived.Test.YtaflpeajapdkdaaM45
namespace Go.Proofs.Ytaflpeajapdkdaa
open Go.RowKit Go.Shelf Go.Sort Go.Maps Go.WideMaps
set_option linter.unusedVariables false
set_option linter.unusedSimpArgs false
attribute [local go_sem] Oper.semAt_some

theorem own_keepV {W W' : World} {B : Nat} {e : TypeId} {size : Nat} {v : Value} {n : Nat} {xs : List Value} (h : W.ownsRow B e size v n xs) (hb : ∀ b, v.ownBlock = some b → b < W.heap.size → W'.heap[b]? = W.heap[b]?) : W'.ownsRow B e size v n xs := by
  refine ⟨h.1, h.2.imp id ?_⟩
  rintro ⟨g, cap, cur, rfl, e2, e3, rest⟩
  exact ⟨g, cap, cur, rfl, e2, (hb g rfl (Array.getElem?_eq_some_iff.1 e3).1).trans e3, rest⟩
theorem own_lowV {w : World} {lo : Nat} {e : TypeId} {size : Nat} {v : Value} {n : Nat} {xs : List Value} (h : w.ownsRow lo e size v n xs) {b : Nat} (hb : v.ownBlock = some b) : lo ≤ b ∧ b < w.heap.size := by
  rcases h.2 with ⟨h1, _⟩ | ⟨g2, c2, cur, h1, h2, h3, _⟩
  · rw [h1] at hb; cases hb
  · rw [h1] at hb
    simp [Value.ownBlock] at hb
    subst hb
    exact ⟨h2, (Array.getElem?_eq_some_iff.1 h3).1⟩
/-- the blocks of a row's trees: not the row's own -/
def rowD (lo : Nat) (v : Value) (b : Nat) : Prop := lo ≤ b ∧ v.ownBlock ≠ some b
def cUp (k : Nat) (c : Nat → Fin 5 → Value) (x0 x1 x2 x3 x4 : Value) (i : Nat) : Fin 5 → Value := if i = k then (fun j => match j with | 0 => x0 | 1 => x1 | 2 => x2 | 3 => x3 | 4 => x4) else c i
theorem flat_cUpV (k : Nat) (c : Nat → Fin 5 → Value) (x0 x1 x2 x3 x4 : Value) : flat (cUp k c x0 x1 x2 x3 x4) (k + 1) = flat c k ++ [x0, x1, x2, x3, x4] := by
  rw [flat_up]
  congr 1
  · exact flat_eq (fun i hi => by unfold cUp; rw [if_neg (by omega)])
  · unfold cUp; simp
/-- a row of values so far, its trees in blocks of their own -/
structure RoR (lo h k : Nat) (v : Value) (c : Nat → Fin 5 → Value) (xs : List VT) (w : World) : Prop where
  len : xs.length = k
  ll : lo ≤ w.heap.size
  own : w.ownsRow lo 25 5 v k (flat c k)
  trees : ∀ i, (hi : i < xs.length) → InD (rowD lo v) w h xs[i] (.agg #[c i 0, c i 1, c i 2, c i 3, c i 4])
theorem RoR.low {lo h k : Nat} {v : Value} {c : Nat → Fin 5 → Value} {xs : List VT} {w w' : World} (r : RoR lo h k v c xs w) (hb : Below w.heap.size w w') : RoR lo h k v c xs w' :=
  ⟨r.len, Nat.le_trans r.ll hb.size, own_keepV r.own (fun b _ hl => hb.block b hl), fun i hi => InD.keep hb.size (fun b _ hl => hb.block b hl) (fun b h1 _ => h1) (r.trees i hi)⟩
theorem RoR.app {lo H k : Nat} {v v' : Value} {c : Nat → Fin 5 → Value} {xs : List VT} {W w4 : World} {o : Obj} {T : VT} {x0 x1 x2 x3 x4 : Value} (h : RoR lo H k v c xs W) (hT : InD (rowD lo v) W H T (.agg #[x0, x1, x2, x3, x4]))
    (hown : w4.ownsRow lo 25 5 v' (k + 1) (flat c k ++ [x0, x1, x2, x3, x4])) (hg : (W.alloc o).grownBy w4 v.ownBlock) (hat : v'.ownBlock = v.ownBlock ∨ v'.ownBlock = some (W.heap.size + 1)) :
    RoR lo H (k + 1) v' (cUp k c x0 x1 x2 x3 x4) (xs ++ [T]) w4 := by
  have hll := h.ll
  have hsz := hg.size
  rw [World.size_alloc] at hsz
  have old : ∀ b, rowD lo v b → b < W.heap.size → w4.heap[b]? = W.heap[b]? := fun b hb hl => (hg.block b (by simp; omega) (fun e => hb.2 e.symm)).trans (Below.heap_alloc _ _ b hl)
  have dd : ∀ b, rowD lo v b → b < W.heap.size → rowD lo v' b := fun b hb hl => ⟨hb.1, fun e => by
    rcases hat with h1 | h1
    · exact hb.2 (h1.symm.trans e)
    · rw [h1] at e
      injection e with e
      omega⟩
  refine ⟨by rw [List.length_append, h.len]; rfl, by omega, by rw [flat_cUpV]; exact hown, fun i hi => ?_⟩
  rw [List.length_append] at hi
  have hi' : i < xs.length + 1 := hi
  by_cases hik : i < xs.length
  · rw [List.getElem_append_left hik]
    have e : cUp k c x0 x1 x2 x3 x4 i = c i := by unfold cUp; rw [if_neg (by have := h.len; omega)]
    rw [e]
    exact InD.keep (by omega) old dd (h.trees i hik)
  · have e : i = xs.length := by omega
    subst e
    rw [List.getElem_append_right (Nat.le_refl _)]
    have e0 : cUp k c x0 x1 x2 x3 x4 xs.length = fun j => match j with | 0 => x0 | 1 => x1 | 2 => x2 | 3 => x3 | 4 => x4 := by unfold cUp; rw [if_pos h.len]
    rw [e0]
    simp only [Nat.sub_self, List.getElem_cons_zero]
    exact InD.keep (by omega) old dd hT
/-- the row with room behind it -/
structure RoX (lo h N k : Nat) (v : Value) (c : Nat → Fin 5 → Value) (xs : List VT) (w : World) : Prop where
  len : xs.length = N
  ll : lo ≤ w.heap.size
  own : ∃ ys : List Value, w.ownsRow lo 25 5 v (N + k) (flat c N ++ ys)
  trees : ∀ i, (hi : i < xs.length) → InD (rowD lo v) w h xs[i] (.agg #[c i 0, c i 1, c i 2, c i 3, c i 4])
theorem RoX.app {lo H N k : Nat} {v v' : Value} {c : Nat → Fin 5 → Value} {xs : List VT} {W w4 : World} {o : Obj} {zs : List Value} (h : RoX lo H N k v c xs W)
    (hown : w4.ownsRow lo 25 5 v' (N + (k + 1)) (flat c N ++ zs)) (hg : (W.alloc o).grownBy w4 v.ownBlock) (hat : v'.ownBlock = v.ownBlock ∨ v'.ownBlock = some (W.heap.size + 1)) : RoX lo H N (k + 1) v' c xs w4 := by
  have hll := h.ll
  have hsz := hg.size
  rw [World.size_alloc] at hsz
  have old : ∀ b, rowD lo v b → b < W.heap.size → w4.heap[b]? = W.heap[b]? := fun b hb hl => (hg.block b (by simp; omega) (fun e => hb.2 e.symm)).trans (Below.heap_alloc _ _ b hl)
  have dd : ∀ b, rowD lo v b → b < W.heap.size → rowD lo v' b := fun b hb hl => ⟨hb.1, fun e => by
    rcases hat with h1 | h1
    · exact hb.2 (h1.symm.trans e)
    · rw [h1] at e
      injection e with e
      omega⟩
  exact ⟨h.len, by omega, ⟨zs, hown⟩, fun i hi => InD.keep (by omega) old dd (h.trees i hi)⟩
theorem flat_lenV (c : Nat → Fin 5 → Value) : ∀ k, (flat c k).length = k * 5
  | 0 => rfl
  | k + 1 => by rw [flat_up, List.length_append, flat_lenV c k]; simp; omega
theorem RoX.cut {lo H N k : Nat} {so : Option Addr} {sc : Nat} {c : Nat → Fin 5 → Value} {xs : List VT} {W : World} (h : RoX lo H N k (.slice so (N + k) sc) c xs W) (h0 : 0 < N + k) : RoR lo H N (.slice so N sc) c xs W := by
  obtain ⟨ys, hown⟩ := h.own
  refine ⟨h.len, h.ll, own_cutR hown (by omega) (flat_lenV c N) h0, fun i hi => InD.keep (Nat.le_refl _) (fun b _ _ => rfl) (fun b h1 _ => ⟨h1.1, fun e => h1.2 ?_⟩) (h.trees i hi)⟩
  cases so with
  | none => cases e
  | some a => exact e
/-- Roomy at a height: the same tree in blocks of its own -/
def RoOk (h : Nat) : Prop := ∀ (T : VT) (v : Value) (w : World), InH w h T v → szN h T ≤ 100000 → Calls Try.prog 7 #[v] w fun e w' => ∃ v', e = .returned v' ∧ Hid (InF w.heap.size w' h T v' ∧ Below w.heap.size w w')
end Go.Proofs.Ytaflpeajapdkdaa
namespace Go.Proofs.Ytaflpeajapdkdaa
open Go.RowKit Go.Shelf Go.Sort Go.Maps Go.WideMaps
set_option linter.unusedVariables false
set_option linter.unusedSimpArgs false
attribute [local go_sem] Oper.semAt_some

theorem news5 (w : World) (cs : Array Value) (t : TypeId) : (w.alloc (.cells cs t)).heap[w.heap.size]? = some (.cells cs t (0, 0)) := heap_alloc_new w _
set_option maxRecDepth 100000 in
set_option maxHeartbeats 12800000 in
/-- the reference's RoomyItems, given Roomy one lower -/
theorem w_rRoomyItems (h : Nat) (ih : RoOk h) (io : Option Addr) (N ic : Nat) (ts : List VT) (w : World) (hi : IIn w h io ts) (lt : ts.length = N) (c1 : N ≤ ic) (b1 : N ≤ 100000) (hs : ∀ x ∈ ts, szN h x ≤ 100000) :
    Calls Try.prog 22 #[.slice io N ic] w fun e w' => ∃ so sc c, e = .returned (.slice so N sc) ∧ Hid (Below w.heap.size w w' ∧ RoR w.heap.size h N (.slice so N sc) c ts w') := by
  obtain ⟨i0, hi0, hz0, hz1, hz2⟩ := info_parts Try.infoV
  have HI := Hid.mk hi
  have HL := Hid.mk lt
  have HS := Hid.mk hs
  have HB0 := Hid.mk (below1 w (.cells #[] 25))
  have HR0 : Hid (∃ c, RoR w.heap.size h 0 (.slice (some ⟨w.heap.size, 0, none⟩) 0 0) c (ts.take 0) (w.alloc (.cells #[] 25))) :=
    ⟨fun _ _ => undef, rfl, by simp, World.ownsRow_made (base := w.heap.size) (e := 25) (size := 5) w #[] 0 (Nat.le_refl _) (Nat.zero_le _) rfl, fun i hi => absurd hi (by simp)⟩
  clear hi lt hs
  go_enter Try.func22, Try.ntmps22
  go_wp2_with fail
  go_loopw [3, 4] (fun l i wr => ∃ (k : Nat) (ao : Option Addr) (cap : Nat), k ≤ N ∧ l = .slice ao k cap ∧ i = .int .i64 (k : Int) ∧ Hid (Below w.heap.size w wr) ∧ Hid (∃ c, RoR w.heap.size h k (.slice ao k cap) c (ts.take k) wr)) (fun _ i _ => N - (intOf i).toNat)
  case atStart => exact ⟨0, _, 0, Nat.zero_le _, rfl, rfl, HB0, HR0⟩
  case round =>
    clear HB0 HR0
    obtain ⟨k, ao, cap, hk, rfl, rfl, HB, HO⟩ := hrel
    have hsz := HB.out.size
    by_cases hlt : k < N
    · have hl1 : (k : Int) < (N : Int) := by omega
      have hl0 : (0 : Int) ≤ (k : Int) := by omega
      have hkl : k < ts.length := by rw [HL.out]; exact hlt
      obtain ⟨b, off, hio, hbl, hrow⟩ := ((HI.out).keep HB.out).row (by omega)
      subst hio
      obtain ⟨v0, v1, v2, v3, v4, ⟨a0, a1, a2, a3, a4⟩, ht⟩ := hrow k hkl
      obtain ⟨ik, inm, itx, iio, iN, iicap, iko, iK, ikcap, rfl, rfl, rfl, rfl, rfl⟩ := ht.shape
      have HC := Hid.mk (ih ts[k] _ wr ht (HS.out _ (List.getElem_mem hkl)))
      have HT : Hid (ts.take (k + 1) = ts.take k ++ [ts[k]]) := by
        show _ = _
        rw [List.take_add_one, List.getElem?_eq_getElem hkl]
        rfl
      generalize ts[k] = T at HC HT ht
      clear hrow ht
      go_wp2_with fail
      refine HC.out.mono ?_
      rintro e w2 ⟨v', rfl, HQ⟩
      obtain ⟨hF, hb2⟩ := HQ.out
      obtain ⟨yk, yn, yt, yio, yN, yic, yko, yK, ykc, rfl⟩ := hF.shape
      obtain ⟨c, hR⟩ := HO.out
      have hR2 := hR.low hb2
      have hD2 : InD (rowD w.heap.size (.slice ao k cap)) w2 h T (.agg #[.int .i64 yk, .string yn, .string yt, .slice yio yN yic, .slice yko yK ykc]) :=
        InD.keep (Nat.le_refl _) (fun b _ _ => rfl) (fun b h1 _ => ⟨by omega, fun e => by have := (own_lowV hR.own e).2; omega⟩) (InD.iff.2 hF)
      have hBw2 := below_more HB.out hb2
      obtain ⟨W3, hW3⟩ : ∃ W3, w2.alloc (.cells #[.int .i64 0, .string ⟨#[]⟩, .string ⟨#[]⟩, .slice none 0 0, .slice none 0 0] 25) = W3 := ⟨_, rfl⟩
      have b3 := news5 w2 #[.int .i64 0, .string ⟨#[]⟩, .string ⟨#[]⟩, .slice none 0 0, .slice none 0 0] 25
      rw [hW3] at b3
      have hb3 : Below w2.heap.size w2 W3 := by rw [← hW3]; exact below1 _ _
      have fr : ∀ j, W3.frozen? ⟨w2.heap.size, j, none⟩ = false := fun j => frozen_row b3
      have q0 := cell_of_row _ _ 0 _ _ _ b3
      have q1 := cell_of_row _ _ 1 _ _ _ b3
      have q2 := cell_of_row _ _ 2 _ _ _ b3
      have q3 := cell_of_row _ _ 3 _ _ _ b3
      have q4 := cell_of_row _ _ 4 _ _ _ b3
      obtain ⟨wz, hwz⟩ : ∃ wz, ((((W3.setCell ⟨w2.heap.size, 0, none⟩ (.int .i64 yk)).setCell ⟨w2.heap.size, 1, none⟩ (.string yn)).setCell ⟨w2.heap.size, 2, none⟩ (.string yt)).setCell ⟨w2.heap.size, 3, none⟩ (.slice yio yN yic)).setCell ⟨w2.heap.size, 4, none⟩ (.slice yko yK ykc) = wz := ⟨_, rfl⟩
      obtain ⟨zb, zo, zs', zbl⟩ := set5 W3 w2.heap.size _ _ _ _ _ _ _ _ _ _ _ b3 wz hwz.symm
      have z0 := cell_of_row _ _ 0 _ _ _ zb
      have z1 := cell_of_row _ _ 1 _ _ _ zb
      have z2 := cell_of_row _ _ 2 _ _ _ zb
      have z3 := cell_of_row _ _ 3 _ _ _ zb
      have z4 := cell_of_row _ _ 4 _ _ _ zb
      have hbz : Below w2.heap.size w2 wz := hb3.trans (zbl _ (Nat.le_refl _))
      have hRz := hR2.low hbz
      have hDz : InD (rowD w.heap.size (.slice ao k cap)) wz h T (.agg #[.int .i64 yk, .string yn, .string yt, .slice yio yN yic, .slice yko yK ykc]) := InD.keep hbz.size (fun b _ hl => hbz.block b hl) (fun b h1 _ => h1) hD2
      have hBz := Hid.mk (below_more hBw2 hbz)
      have hown := hRz.own
      have hszz : w.heap.size ≤ wz.heap.size := hBz.out.size
      have HRz := Hid.mk hRz
      have HDz := Hid.mk hDz
      clear hD2 hR2 hR hb2 hF HQ hBw2 b3 hb3 zo zs' zbl hbz hRz hDz HO HC zb
      go_wp2_with (at_builtin; go_loud (refine wpList_append_own_at _ (by rfl) _ _ 22 (by rfl) w.heap.size 25 i0 (.agg #[.int .i64 0, .string ⟨#[]⟩, .string ⟨#[]⟩, .slice none 0 0, .slice none 0 0]) 5 88 Try.underlying22 hi0 hz0 hz1 hz2 rfl (by decide) _ _ _ (by rfl) (hown.alloc _) ⟨wz.heap.size, 0, none⟩ 1 1 [.int .i64 yk, .string yn, .string yt, .slice yio yN yic, .slice yko yK ykc] (by rfl) (by rfl) (World.news_of_block (cs := #[.int .i64 yk, .string yn, .string yt, .slice yio yN yic, .slice yko yK ykc]) (fr := (0, 0)) (heap_alloc_new wz _)) (by simp [Value.oneCell']) (by unfold maxLen; omega) (by omega) (by simp; omega) ?_))
      intro v' w4 hown4 hgrow4 hnil4 hat4
      obtain ⟨so4, c4, hv4⟩ := own_shapeV hown4
      subst hv4
      have HB4 := Hid.mk (below_appR hown hszz hBz.out hgrow4)
      have HO4 : Hid (∃ c, RoR w.heap.size h (k + 1) (.slice so4 (k + 1) c4) c (ts.take (k + 1)) w4) := ⟨_, by rw [HT.out]; exact HRz.out.app HDz.out hown4 hgrow4 hat4⟩
      clear hown4 hgrow4 hnil4 hat4 hown hwz hW3 fr q0 q1 q2 q3 q4 z0 z1 z2 z3 z4 HRz HDz hBz
      go_wp2_with fail
      go_roundw
      case rel => exact ⟨k + 1, so4, c4, hlt, rfl, by go_num, HB4, HO4⟩
      case measure => simp [intOf]; omega
    · have hl1 : ¬ (k : Int) < (N : Int) := by omega
      have hkN : N = k := by omega
      subst hkN
      obtain ⟨c, hR⟩ := HO.out
      rw [List.take_of_length_le (by rw [HL.out]; exact Nat.le_refl _)] at hR
      have HB3 := HB
      have HO3 : Hid (∃ c, RoX w.heap.size h N 0 (.slice ao (N + 0) cap) c ts wr) := ⟨c, hR.len, hR.ll, ⟨[], by rw [List.append_nil]; exact hR.own⟩, hR.trees⟩
      clear hR HB HO
      go_wp2_with fail
      go_loopw [3, 6] (fun l i wr => ∃ (k : Nat) (ao : Option Addr) (cap : Nat), k ≤ 3 ∧ l = .slice ao (N + k) cap ∧ i = .int .i64 (k : Int) ∧ Hid (Below w.heap.size w wr) ∧ Hid (∃ c, RoX w.heap.size h N k (.slice ao (N + k) cap) c ts wr)) (fun _ i _ => 3 - (intOf i).toNat)
      case atStart => exact ⟨0, _, cap, Nat.zero_le _, rfl, rfl, HB3, HO3⟩
      case round =>
        clear HB3 HO3
        obtain ⟨k, ao, cap, hk, rfl, rfl, HB, HO⟩ := hrel
        have hsz := HB.out.size
        obtain ⟨c, hR⟩ := HO.out
        have HRz := Hid.mk hR
        by_cases hlt : k < 3
        · have hl1 : (k : Int) < 3 := by omega
          obtain ⟨ys, hown⟩ := hR.own
          clear hR HO
          go_wp2_with (at_builtin; go_loud (refine wpList_append_own_at _ (by rfl) _ _ 22 (by rfl) w.heap.size 25 i0 (.agg #[.int .i64 0, .string ⟨#[]⟩, .string ⟨#[]⟩, .slice none 0 0, .slice none 0 0]) 5 88 Try.underlying22 hi0 hz0 hz1 hz2 rfl (by decide) _ _ _ (by rfl) (hown.alloc _) ⟨wr.heap.size, 0, none⟩ 1 1 [.int .i64 777, .string ⟨#[]⟩, .string ⟨#[114, 111, 111, 109]⟩, .slice none 0 0, .slice none 0 0] (by rfl) (by rfl) (World.news_of_block (cs := #[.int .i64 777, .string ⟨#[]⟩, .string ⟨#[114, 111, 111, 109]⟩, .slice none 0 0, .slice none 0 0]) (fr := (0, 0)) (heap_alloc_new wr _)) (by simp [Value.oneCell']) (by unfold maxLen; omega) (by omega) (by simp; omega) ?_))
          intro v' w4 hown4 hgrow4 hnil4 hat4
          obtain ⟨so4, c4, hv4⟩ := own_shapeV hown4
          subst hv4
          have HB4 := Hid.mk (below_appR hown hsz HB.out hgrow4)
          have HO4 : Hid (∃ c, RoX w.heap.size h N (k + 1) (.slice so4 (N + (k + 1)) c4) c ts w4) := ⟨c, HRz.out.app hown4 hgrow4 hat4⟩
          clear hown4 hgrow4 hnil4 hat4 hown HRz
          go_wp2_with fail
          go_roundw
          case rel => exact ⟨k + 1, so4, c4, hlt, rfl, by go_num, HB4, HO4⟩
          case measure => simp [intOf]; omega
        · have hl1 : ¬ (k : Int) < 3 := by omega
          have hk3 : k = 3 := by omega
          subst hk3
          obtain ⟨ys, hown⟩ := hR.own
          have HF : Hid (Below w.heap.size w wr ∧ RoR w.heap.size h N (.slice ao N cap) c ts wr) := ⟨HB.out, hR.cut (by omega)⟩
          obtain ⟨g, hg, hcap⟩ : ∃ g, ao = some ⟨g, 0, none⟩ ∧ N + 3 ≤ cap := by
            rcases hown.2 with ⟨_, h2⟩ | ⟨g, cp, cur, e1, _, _, e4, _⟩
            · omega
            · cases e1; exact ⟨g, rfl, e4⟩
          subst hg
          have n1 : (N : Int) ≤ (cap : Int) := by omega
          have n2 : (0 : Int) ≤ (N : Int) := by omega
          clear HB HO hown hR HRz
          go_wp2_with fail
          go_ret
          first | exact ⟨_, _, rfl, _, HF⟩ | exact ⟨_, _, _, rfl, HF⟩
end Go.Proofs.Ytaflpeajapdkdaa
namespace Go.Proofs.Ytaflpeajapdkdaa
open Go.RowKit Go.Shelf Go.Sort Go.Maps Go.WideMaps
set_option linter.unusedVariables false
set_option linter.unusedSimpArgs false
attribute [local go_sem] Oper.semAt_some

/-- two rows of one's own as a tree -/
theorem roomy_in {W : World} {lo a b h : Nat} {T : VT} {io ko : Option Addr} {ic kc : Nat} {c : Nat → Fin 5 → Value} (hk : W.ownsRow a 9 1 (.slice ko T.keys.length kc) T.keys.length (T.keys.map .string)) (hi : RoR b h T.items.length (.slice io T.items.length ic) c T.items W) (ha : lo ≤ a) (hb : lo ≤ b)
    (a1 : T.num.size ≤ 140737488355328) (a2 : T.text.size ≤ 140737488355328) (a3 : T.items.length ≤ 140737488355328) (a4 : T.keys.length ≤ 140737488355328) (a7 : ∀ k ∈ T.keys, k.size ≤ 140737488355328) :
    InF lo W (h + 1) T (.agg #[.int .i64 T.kind, .string T.num, .string T.text, .slice io T.items.length ic, .slice ko T.keys.length kc]) := by
  refine InD.iff.1 ?_
  have capi : T.items.length ≤ ic := by
    rcases hi.own.2 with ⟨e, h0⟩ | ⟨g, cp, cur, e, _, _, h2, _⟩
    · omega
    · simp only [Value.slice.injEq] at e; omega
  have capk : T.keys.length ≤ kc := by
    rcases hk.2 with ⟨e, h0⟩ | ⟨g, cp, cur, e, _, _, h2, _⟩
    · omega
    · simp only [Value.slice.injEq] at e; omega
  refine ⟨io, ic, ko, kc, rfl, a1, a2, a3, a4, capi, capk, a7, fun h0 => ?_, fun h0 => ?_⟩
  · rcases hk.2 with ⟨e, h1⟩ | ⟨g, cp, cur, e, hg, hb', _⟩
    · omega
    · have e' := e
      simp only [Value.slice.injEq] at e'
      obtain ⟨rfl, _, rfl⟩ := e'
      refine ⟨g, 0, rfl, Nat.le_trans ha hg, (Array.getElem?_eq_some_iff.1 hb').1, fun i hi' => ?_⟩
      rw [Nat.zero_add, own_cellAt hk (by omega), List.getElem?_map, List.getElem?_eq_getElem hi', getD_key hi']
      rfl
  · rcases hi.own.2 with ⟨e, h1⟩ | ⟨g, cp, cur, e, hg, hb', _⟩
    · omega
    · have e' := e
      simp only [Value.slice.injEq] at e'
      obtain ⟨rfl, _, rfl⟩ := e'
      refine ⟨g, 0, rfl, Nat.le_trans hb hg, (Array.getElem?_eq_some_iff.1 hb').1, fun i hil => ?_⟩
      have gc : ∀ j : Fin 5, W.cell? ⟨g, i * 5 + j.1, none⟩ = some (c i j) := fun j => by
        have hj := j.2
        rw [own_cellAt hi.own (by omega)]
        exact flat_get c T.items.length i j hil
      refine ⟨c i 0, c i 1, c i 2, c i 3, c i 4, ⟨?_, ?_, ?_, ?_, ?_⟩, InD.keep (Nat.le_refl _) (fun b _ _ => rfl) (fun b' h1 _ => Nat.le_trans hb h1.1) (hi.trees i hil)⟩
      · rw [Nat.zero_add]; exact gc 0
      · rw [Nat.zero_add]; exact gc 1
      · rw [Nat.zero_add]; exact gc 2
      · rw [Nat.zero_add]; exact gc 3
      · rw [Nat.zero_add]; exact gc 4
end Go.Proofs.Ytaflpeajapdkdaa
