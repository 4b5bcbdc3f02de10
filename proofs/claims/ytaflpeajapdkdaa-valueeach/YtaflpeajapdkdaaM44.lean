import Derived.Test.YtaflpeajapdkdaaM40
import Derived.WalkKit
import Derived.Maps.AppendAt
import Derived.Deep.AppendLies
namespace Go.Proofs.Ytaflpeajapdkdaa
open Go.RowKit Go.Shelf Go.Sort Go.Maps Go.WideMaps
set_option linter.unusedVariables false
set_option linter.unusedSimpArgs false
attribute [local go_sem] Oper.semAt_some

theorem own_baseR {w : World} {base : Nat} {e : TypeId} {size : Nat} {v : Value} {n : Nat} {xs : List Value} (h : w.ownsRow base e size v n xs) : ∀ k, v.ownBlock = some k → base ≤ k := by
  intro k hk
  obtain ⟨_, ⟨rfl, _⟩ | ⟨g, cap, cur, rfl, hg, _⟩⟩ := h
  · cases hk
  · simp [Value.ownBlock] at hk; omega
theorem below_appR {B : Nat} {w wr w1 : World} {e : TypeId} {size : Nat} {v : Value} {n : Nat} {xs : List Value} {o : Obj} (hown : wr.ownsRow B e size v n xs) (hBw : B ≤ wr.heap.size) (hb : Below B w wr) (hg : (wr.alloc o).grownBy w1 v.ownBlock) : Below B w w1 :=
  (hb.alloc hBw o).grown hg (by simp; omega) (own_baseR hown)
/-- a shorter view of a row of one's own -/
theorem own_cutR {w : World} {base : Nat} {e : TypeId} {size : Nat} {so : Option Addr} {n m c : Nat} {xs ys : List Value} (h : w.ownsRow base e size (.slice so n c) n (xs ++ ys)) (hm : m ≤ n) (hx : xs.length = m * size) (h0 : 0 < n) : w.ownsRow base e size (.slice so m c) m xs := by
  refine ⟨hx, ?_⟩
  rcases h.2 with ⟨_, h2⟩ | ⟨g, cap, cur, e1, e2, e3, e4, e5, e6, e7⟩
  · omega
  · cases e1
    refine .inr ⟨g, c, cur, rfl, e2, e3, by omega, e5, e6, ?_⟩
    have h9 : cur.toList.take (m * size) = (cur.toList.take (n * size)).take (m * size) := by rw [List.take_take, Nat.min_eq_left (Nat.mul_le_mul_right _ hm)]
    rw [h9, e7, ← hx]
    simp

set_option maxRecDepth 100000 in
set_option maxHeartbeats 6400000 in
/-- the reference's texts: the same texts in a row of their own -/
theorem w_rTexts (ko : Option Addr) (N kc : Nat) (xs : List ByteArray) (w : World) (hx : KIn w ko xs) (lx : xs.length = N) (c1 : N ≤ kc) (b1 : N ≤ 1048576) :
    Calls Try.prog 37 #[.slice ko N kc] w fun e w' => ∃ so sc, e = .returned (.slice so N sc) ∧ Hid (Below w.heap.size w w' ∧ w'.ownsRow w.heap.size 9 1 (.slice so N sc) N (xs.map .string)) := by
  obtain ⟨j0, hj0, hy0, hy1, hy2⟩ := info_parts Try.infoSt
  have HKX := Hid.mk hx
  have HLX := Hid.mk lx
  have HB0 := Hid.mk (below1 w (.cells #[] 9))
  have HO0 := Hid.mk (World.ownsRow_made (base := w.heap.size) (e := 9) (size := 1) w #[] 0 (Nat.le_refl _) (Nat.zero_le _) rfl)
  clear hx lx
  go_enter Try.func37, Try.ntmps37
  go_wp2_with fail
  go_loopw [3, 4] (fun l i wr => ∃ (k : Nat) (ao : Option Addr) (cap : Nat), k ≤ N ∧ l = .slice ao k cap ∧ i = .int .i64 (k : Int) ∧ Hid (Below w.heap.size w wr) ∧ Hid (wr.ownsRow w.heap.size 9 1 (.slice ao k cap) k ((xs.take k).map .string))) (fun _ i _ => N - (intOf i).toNat)
  case atStart => exact ⟨0, _, 0, Nat.zero_le _, rfl, rfl, HB0, HO0⟩
  case round =>
    obtain ⟨k, ao, cap, hk, rfl, rfl, HB, HO⟩ := hrel
    have hsz := HB.out.size
    by_cases hlt : k < N
    · have hl1 : (k : Int) < (N : Int) := by omega
      have hl0 : (0 : Int) ≤ (k : Int) := by omega
      have hkl : k < xs.length := by rw [HLX.out]; exact hlt
      obtain ⟨kb, koff, hko, hkbl, hkr⟩ := ((HKX.out).keep HB.out).row (by omega)
      subst hko
      have ck := hkr k hkl
      obtain ⟨Y, hY⟩ : ∃ Y, xs.getD k .empty = Y := ⟨_, rfl⟩
      have HT : Hid (xs.take (k + 1) = xs.take k ++ [Y]) := by
        show _ = _
        rw [← hY, List.getD_eq_getElem?_getD, List.getElem?_eq_getElem hkl, List.take_add_one, List.getElem?_eq_getElem hkl]
        rfl
      rw [hY] at ck
      have hown := HO.out
      clear hkr hY
      go_wp2_with (at_builtin; go_loud (refine wpList_append_own_at _ (by rfl) _ _ 23 (by rfl) w.heap.size 9 j0 (.string ⟨#[]⟩) 1 16 Try.underlying23 hj0 hy0 hy1 hy2 rfl (by decide) _ _ _ (by rfl) (hown.alloc _) ⟨wr.heap.size, 0, none⟩ 1 1 [.string Y] (by rfl) (by rfl) (World.news_of_block (cs := #[.string Y]) (fr := (0, 0)) (heap_alloc_new wr _)) (by simp [Value.oneCell']) (by unfold maxLen; omega) (by omega) (by simp; omega) ?_))
      intro v' w4 hown4 hgrow4 hnil4 hat4
      obtain ⟨so4, c4, hv4⟩ := own_shapeV hown4
      subst hv4
      have HB4 := Hid.mk (below_appR hown hsz HB.out hgrow4)
      have HO4 : Hid (w4.ownsRow w.heap.size 9 1 (.slice so4 (k + 1) c4) (k + 1) ((xs.take (k + 1)).map .string)) := by
        have e : ((xs.take (k + 1)).map .string) = ((xs.take k).map .string) ++ [Value.string Y] := by rw [HT.out]; simp
        show World.ownsRow _ _ _ _ _ _ _
        rw [e]; simpa [List.map_take, Nat.add_assoc] using hown4
      clear hown4 hgrow4 hnil4 hat4 hown ck
      go_wp2_with fail
      go_roundw
      case rel => exact ⟨k + 1, so4, c4, hlt, rfl, by go_num, HB4, HO4⟩
      case measure => simp [intOf]; omega
    · have hl1 : ¬ (k : Int) < (N : Int) := by omega
      have hkN : N = k := by omega
      subst hkN
      have HF : Hid (Below w.heap.size w wr ∧ wr.ownsRow w.heap.size 9 1 (.slice ao N cap) N (xs.map .string)) := by
        refine ⟨HB.out, ?_⟩
        have h := HO.out
        rw [List.take_of_length_le (by rw [HLX.out]; exact Nat.le_refl _)] at h
        exact h
      clear HB HO
      go_wp2_with fail
      go_ret
      exact ⟨_, _, rfl, HF⟩

set_option maxRecDepth 100000 in
set_option maxHeartbeats 6400000 in
/-- the reference's RoomyKeys: the same texts in a row of their own, with room behind them -/
theorem w_rRoomyKeys (ko : Option Addr) (N kc : Nat) (xs : List ByteArray) (w : World) (hx : KIn w ko xs) (lx : xs.length = N) (c1 : N ≤ kc) (b1 : N ≤ 1048576) :
    Calls Try.prog 21 #[.slice ko N kc] w fun e w' => ∃ so sc, e = .returned (.slice so N sc) ∧ Hid (Below w.heap.size w w' ∧ w'.ownsRow w.heap.size 9 1 (.slice so N sc) N (xs.map .string)) := by
  obtain ⟨j0, hj0, hy0, hy1, hy2⟩ := info_parts Try.infoSt
  have HT := Hid.mk (w_rTexts ko N kc xs w hx lx c1 b1)
  have HL : Hid ((xs.map Value.string).length = N) := by show _ = _; rw [List.length_map]; exact lx
  clear hx lx
  generalize xs.map Value.string = vs at HT HL ⊢
  go_enter Try.func21, Try.ntmps21
  go_wp2_with fail
  refine HT.out.mono ?_
  rintro e w2 ⟨so, sc, rfl, HQ⟩
  have HB2 := Hid.mk HQ.out.1
  have HO2 : Hid (∃ ys : List Value, w2.ownsRow w.heap.size 9 1 (.slice so (N + 0) sc) (N + 0) (vs ++ ys)) := ⟨[], by rw [List.append_nil]; exact HQ.out.2⟩
  clear HQ HT
  go_wp2_with fail
  go_loopw [3, 4] (fun l i wr => ∃ (k : Nat) (ao : Option Addr) (cap : Nat), k ≤ 3 ∧ l = .slice ao (N + k) cap ∧ i = .int .i64 (k : Int) ∧ Hid (Below w.heap.size w wr) ∧ Hid (∃ ys : List Value, wr.ownsRow w.heap.size 9 1 (.slice ao (N + k) cap) (N + k) (vs ++ ys))) (fun _ i _ => 3 - (intOf i).toNat)
  case atStart => exact ⟨0, _, sc, Nat.zero_le _, rfl, rfl, HB2, HO2⟩
  case round =>
    obtain ⟨k, ao, cap, hk, rfl, rfl, HB, HO⟩ := hrel
    have hsz := HB.out.size
    by_cases hlt : k < 3
    · have hl1 : (k : Int) < 3 := by omega
      obtain ⟨ys, hown⟩ := HO.out
      go_wp2_with (at_builtin; go_loud (refine wpList_append_own_at _ (by rfl) _ _ 23 (by rfl) w.heap.size 9 j0 (.string ⟨#[]⟩) 1 16 Try.underlying23 hj0 hy0 hy1 hy2 rfl (by decide) _ _ _ (by rfl) (hown.alloc _) ⟨wr.heap.size, 0, none⟩ 1 1 [.string ⟨#[114, 111, 111, 109]⟩] (by rfl) (by rfl) (World.news_of_block (cs := #[.string ⟨#[114, 111, 111, 109]⟩]) (fr := (0, 0)) (heap_alloc_new wr _)) (by simp [Value.oneCell']) (by unfold maxLen; omega) (by omega) (by simp; omega) ?_))
      intro v' w4 hown4 hgrow4 hnil4 hat4
      obtain ⟨so4, c4, hv4⟩ := own_shapeV hown4
      subst hv4
      have HB4 := Hid.mk (below_appR hown hsz HB.out hgrow4)
      have HO4 : Hid (∃ ys : List Value, w4.ownsRow w.heap.size 9 1 (.slice so4 (N + (k + 1)) c4) (N + (k + 1)) (vs ++ ys)) := ⟨_, hown4⟩
      clear hown4 hgrow4 hnil4 hat4 hown
      go_wp2_with fail
      go_roundw
      case rel => exact ⟨k + 1, so4, c4, hlt, rfl, by go_num, HB4, HO4⟩
      case measure => simp [intOf]; omega
    · have hl1 : ¬ (k : Int) < 3 := by omega
      have hk3 : k = 3 := by omega
      subst hk3
      obtain ⟨ys, hown⟩ := HO.out
      have HF : Hid (Below w.heap.size w wr ∧ wr.ownsRow w.heap.size 9 1 (.slice ao N cap) N vs) := ⟨HB.out, own_cutR hown (by omega) (by rw [HL.out]; omega) (by omega)⟩
      obtain ⟨g, hg, hcap⟩ : ∃ g, ao = some ⟨g, 0, none⟩ ∧ N + 3 ≤ cap := by
        rcases hown.2 with ⟨_, h2⟩ | ⟨g, cp, cur, e1, _, _, e4, _⟩
        · omega
        · cases e1; exact ⟨g, rfl, e4⟩
      subst hg
      have n1 : (N : Int) ≤ (cap : Int) := by omega
      have n2 : (0 : Int) ≤ (N : Int) := by omega
      clear HB HO hown
      go_wp2_with fail
      go_ret
      exact ⟨_, _, rfl, HF⟩
end Go.Proofs.Ytaflpeajapdkdaa
