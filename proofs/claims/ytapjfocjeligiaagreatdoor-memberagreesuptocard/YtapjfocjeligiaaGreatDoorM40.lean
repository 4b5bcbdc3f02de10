import Derived.Test.YtapjfocjeligiaaGreatDoorM28
namespace Go.Proofs.YtapjfocjeligiaaGreatDoor
open Go.RowKit Go.Shelf Go.Sort
set_option linter.unusedVariables false
set_option linter.unusedSimpArgs false
attribute [local go_sem] Oper.semAt_some


set_option maxRecDepth 100000 in
set_option maxHeartbeats 3200000 in
theorem w_rHas (ko : Option Addr) (K cap : Nat) (ks : List ByteArray) (s : ByteArray) (w : World) (hk : KIn w ko ks) (hK : ks.length = K) (hc : K ≤ cap) (hK2 : K ≤ 140737488355328) :
    Calls Tryz.prog 17 #[.slice ko K cap, .string s] w fun e w' => e = .returned (.bool (hasK ks s)) ∧ w' = w := by
  have HA := Hid.mk hk
  have HM := Hid.mk hK
  obtain ⟨R, hR⟩ : ∃ R, hasK ks s = R := ⟨_, rfl⟩
  have HR : Hid (R = ks.any fun k => eqS k s) := hR.symm
  rw [hR]
  clear hk hK hR
  go_enter Tryz.func17, Tryz.ntmps17
  go_wp2_with fail
  go_loopw [5] (fun i wr => ∃ k : Nat, k ≤ K ∧ i = .int .i64 (k : Int) ∧ wr = w ∧ Hid ((ks.take k).any (fun k => eqS k s) = false)) (fun i _ => K - (intOf i).toNat)
  case atStart => exact ⟨0, Nat.zero_le _, rfl, rfl, rfl⟩
  case round =>
    obtain ⟨k, hk, rfl, rfl, HQ⟩ := hrel
    by_cases hlt : k < K
    · have hl1 : (k : Int) < (K : Int) := by omega
      have hl0 : (0 : Int) ≤ (k : Int) := by omega
      have hka : k < ks.length := by rw [HM.out]; exact hlt
      obtain ⟨b, off, hko, hbl, hrow⟩ := HA.out.row (by omega)
      subst hko
      have c0 := hrow k hka
      have eg : ks.getD k ByteArray.empty = ks[k] := by simp [List.getD, hka]
      rw [eg] at c0
      have HU := Hid.mk (any_up (f := fun k => eqS k s) hka)
      have HY := Hid.mk (fun hh => any_yes (f := fun k => eqS k s) hka hh)
      have he : eqS ks[k] s = (ks[k].toList == s.toList) := rfl
      simp only [he] at HU HY
      generalize ks[k] = x at *
      clear hrow hbl hka eg he
      cases hx : (x.toList == s.toList) with
      | true =>
        have HF : Hid (R = true) := by show _ = _; rw [HR.out]; exact HY.out hx
        clear HU HY HQ
        go_wp2_with fail
        go_ret
        exact ⟨by rw [HF.out]; rfl, rfl⟩
      | false =>
        have HN : Hid ((ks.take (k + 1)).any (fun k => eqS k s) = false) := by show _ = _; rw [HU.out, HQ.out, hx]; rfl
        clear HU HY HQ
        go_wp2_with fail
        go_roundw
        case rel => exact ⟨k + 1, hlt, by go_num, by first | trivial | rfl, HN⟩
        case measure => simp [intOf]; omega
    · have hl1 : ¬ (k : Int) < (K : Int) := by omega
      have HF : Hid (R = false) := by
        show _ = _
        have e := HQ.out
        rw [List.take_of_length_le (by rw [HM.out]; omega)] at e
        rw [HR.out, e]
      clear HQ
      go_wp2_with fail
      go_ret
      exact ⟨by rw [HF.out]; rfl, rfl⟩
end Go.Proofs.YtapjfocjeligiaaGreatDoor
namespace Go.Proofs.YtapjfocjeligiaaGreatDoor
open Go.RowKit Go.Shelf Go.Sort
set_option linter.unusedVariables false
set_option linter.unusedSimpArgs false
attribute [local go_sem] Oper.semAt_some


theorem rset5i {u : World} {B i : Nat} {c : Array Value} {t : TypeId} (v : Value) (h : u.heap[B]? = some (.cells c t (0, 0))) : (u.setCell ⟨B, i, none⟩ v).heap[B]? = some (.cells (c.setIfInBounds i v) t (0, 0)) := by
  show (u.heap.modify B _)[B]? = _
  rw [Array.getElem?_modify, if_pos rfl, h]; rfl
theorem frozen5i {w : World} {B j : Nat} {cs : Array Value} {t : TypeId} (h : w.heap[B]? = some (.cells cs t (0, 0))) : w.frozen? ⟨B, j, none⟩ = false := by simp [World.frozen?, h]
theorem rbox5i (w : World) (B : Nat) (t : TypeId) (y0 y1 y2 y3 y4 a0 a1 a2 a3 a4 : Value) (h : w.heap[B]? = some (.cells #[y0, y1, y2, y3, y4] t (0, 0))) (wz : World) (hz : wz = ((((w.setCell ⟨B, 0, none⟩ a0).setCell ⟨B, 1, none⟩ a1).setCell ⟨B, 2, none⟩ a2).setCell ⟨B, 3, none⟩ a3).setCell ⟨B, 4, none⟩ a4) :
    wz.heap[B]? = some (.cells #[a0, a1, a2, a3, a4] t (0, 0)) := by
  subst hz
  exact rset5i (i := 4) (c := #[a0, a1, a2, a3, y4]) a4 (rset5i (i := 3) (c := #[a0, a1, a2, y3, y4]) a3 (rset5i (i := 2) (c := #[a0, a1, y2, y3, y4]) a2 (rset5i (i := 1) (c := #[a0, y1, y2, y3, y4]) a1 (rset5i (i := 0) (c := #[y0, y1, y2, y3, y4]) a0 h))))
end Go.Proofs.YtapjfocjeligiaaGreatDoor
namespace Go.Proofs.YtapjfocjeligiaaGreatDoor
open Go.RowKit Go.Shelf Go.Sort
set_option linter.unusedVariables false
set_option linter.unusedSimpArgs false
attribute [local go_sem] Oper.semAt_some


/-- one box -/
structure Bx1 (w u : World) (xs : Array Value) : Prop where
  below : Below w.heap.size w u
  one : ∀ j, u.cell? ⟨w.heap.size, j, none⟩ = xs[j]?
  lt : w.heap.size < u.heap.size
theorem Bx1.keep {w u u' : World} {xs : Array Value} (x : Bx1 w u xs) (hb : Below u.heap.size u u') : Bx1 w u' xs :=
  ⟨x.below.trans (hb.mono x.below.size), fun j => (hb.cell (p := ⟨_, _, _⟩) x.lt).trans (x.one j), Nat.lt_of_lt_of_le x.lt hb.size⟩
theorem bx1_new (w : World) (xs : Array Value) (t : TypeId) : Bx1 w (w.alloc (.cells xs t)) xs :=
  ⟨(Below.refl _ _).alloc (Nat.le_refl _) _, fun j => cell_of_row _ _ j xs t (0, 0) (World.alloc_heap_new w _), by simp⟩
theorem formN_item {h : Nat} {T : VT} (hf : formN (h + 1) T = true) : ∀ x ∈ T.items, formN h x = true := by
  rcases form_open hf with (rfl | rfl | rfl) | ⟨n, rfl, _⟩ | ⟨n, rfl, _⟩ | ⟨i, rfl, hi⟩ | ⟨i, ks, rfl, _, _, _, hi⟩
  · intro x hx; cases hx
  · intro x hx; cases hx
  · intro x hx; cases hx
  · intro x hx; cases hx
  · intro x hx; cases hx
  · exact hi
  · exact hi
end Go.Proofs.YtapjfocjeligiaaGreatDoor
