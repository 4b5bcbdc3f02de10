import Derived.Test.YtihhjplbpaafiaaM28
namespace Go.Proofs.Ytihhjplbpaafiaa
open Go.RowKit Go.Shelf Go.Sort
set_option linter.unusedVariables false
set_option linter.unusedSimpArgs false
attribute [local go_sem] Oper.semAt_some


set_option maxRecDepth 100000 in
set_option maxHeartbeats 3200000 in
theorem w_rHas (ko : Option Addr) (K cap : Nat) (ks : List ByteArray) (s : ByteArray) (w : World) (hk : KIn w ko ks) (hK : ks.length = K) (hc : K ≤ cap) (hK2 : K ≤ 140737488355328) :
    Calls Try.prog 44 #[.slice ko K cap, .string s] w fun e w' => e = .returned (.bool (hasK ks s)) ∧ w' = w := by
  have HA := Hid.mk hk
  have HM := Hid.mk hK
  obtain ⟨R, hR⟩ : ∃ R, hasK ks s = R := ⟨_, rfl⟩
  have HR : Hid (R = ks.any fun k => eqS k s) := hR.symm
  rw [hR]
  clear hk hK hR
  go_enter Try.func44, Try.ntmps44
  go_wp2_with fail
  go_loopw [5] (fun i wr => ∃ k : Nat, k ≤ K ∧ i = .int .i64 (k : Int) ∧ wr = w ∧ Hid ((ks.take k).any (fun k => eqS k s) = false)) (fun i _ => K - (intOf i).toNat)
  case atStart => exact ⟨0, Nat.zero_le _, rfl, rfl, rfl⟩
  case round =>
    obtain ⟨k, hk, rfl, rfl, HQ⟩ := hrel
    by_cases hlt : k < K
    · have hl1 : (k : Int) < (K : Int) := by omega
      have hl0 : (0 : Int) ≤ (k : Int) := by omega
      have hka : k < ks.length := by rw [HM.out]; exact hlt
      obtain ⟨b, off, hko, hbl, hrow⟩ := HA.out.row (by omega)
      subst hko
      have c0 := hrow k hka
      have eg : ks.getD k ByteArray.empty = ks[k] := by simp [List.getD, hka]
      rw [eg] at c0
      have HU := Hid.mk (any_up (f := fun k => eqS k s) hka)
      have HY := Hid.mk (fun hh => any_yes (f := fun k => eqS k s) hka hh)
      have he : eqS ks[k] s = (ks[k].toList == s.toList) := rfl
      simp only [he] at HU HY
      generalize ks[k] = x at *
      clear hrow hbl hka eg he
      cases hx : (x.toList == s.toList) with
      | true =>
        have HF : Hid (R = true) := by show _ = _; rw [HR.out]; exact HY.out hx
        clear HU HY HQ
        go_wp2_with fail
        go_ret
        exact ⟨by rw [HF.out]; rfl, rfl⟩
      | false =>
        have HN : Hid ((ks.take (k + 1)).any (fun k => eqS k s) = false) := by show _ = _; rw [HU.out, HQ.out, hx]; rfl
        clear HU HY HQ
        go_wp2_with fail
        go_roundw
        case rel => exact ⟨k + 1, hlt, by go_num, by first | trivial | rfl, HN⟩
        case measure => simp [intOf]; omega
    · have hl1 : ¬ (k : Int) < (K : Int) := by omega
      have HF : Hid (R = false) := by
        show _ = _
        have e := HQ.out
        rw [List.take_of_length_le (by rw [HM.out]; omega)] at e
        rw [HR.out, e]
      clear HQ
      go_wp2_with fail
      go_ret
      exact ⟨by rw [HF.out]; rfl, rfl⟩
end Go.Proofs.Ytihhjplbpaafiaa
namespace Go.Proofs.Ytihhjplbpaafiaa
open Go.RowKit Go.Shelf Go.Sort
set_option linter.unusedVariables false
set_option linter.unusedSimpArgs false
attribute [local go_sem] Oper.semAt_some


theorem rset5i {u : World} {B i : Nat} {c : Array Value} {t : TypeId} (v : Value) (h : u.heap[B]? = some (.cells c t (0, 0))) : (u.setCell ⟨B, i, none⟩ v).heap[B]? = some (.cells (c.setIfInBounds i v) t (0, 0)) := by
  show (u.heap.modify B _)[B]? = _
  rw [Array.getElem?_modify, if_pos rfl, h]; rfl
theorem frozen5i {w : World} {B j : Nat} {cs : Array Value} {t : TypeId} (h : w.heap[B]? = some (.cells cs t (0, 0))) : w.frozen? ⟨B, j, none⟩ = false := by simp [World.frozen?, h]
theorem rbox5i (w : World) (B : Nat) (t : TypeId) (y0 y1 y2 y3 y4 a0 a1 a2 a3 a4 : Value) (h : w.heap[B]? = some (.cells #[y0, y1, y2, y3, y4] t (0, 0))) (wz : World) (hz : wz = ((((w.setCell ⟨B, 0, none⟩ a0).setCell ⟨B, 1, none⟩ a1).setCell ⟨B, 2, none⟩ a2).setCell ⟨B, 3, none⟩ a3).setCell ⟨B, 4, none⟩ a4) :
    wz.heap[B]? = some (.cells #[a0, a1, a2, a3, a4] t (0, 0)) := by
  subst hz
  exact rset5i (i := 4) (c := #[a0, a1, a2, a3, y4]) a4 (rset5i (i := 3) (c := #[a0, a1, a2, y3, y4]) a3 (rset5i (i := 2) (c := #[a0, a1, y2, y3, y4]) a2 (rset5i (i := 1) (c := #[a0, y1, y2, y3, y4]) a1 (rset5i (i := 0) (c := #[y0, y1, y2, y3, y4]) a0 h))))
/-- what Get's memory is: the value's box, the answer's -/
structure GBx (w u : World) (a b c d e : Value) : Prop where
  below : Below w.heap.size w u
  c0 : u.cell? ⟨w.heap.size, 0, none⟩ = some a
  c3 : u.cell? ⟨w.heap.size, 3, none⟩ = some d
  c4 : u.cell? ⟨w.heap.size, 4, none⟩ = some e
  ans : u.heap[w.heap.size + 1]? = some (.cells #[.int .i64 0, .string ⟨#[]⟩, .string ⟨#[]⟩, .slice none 0 0, .slice none 0 0] 33 (0, 0))
set_option maxRecDepth 100000 in
set_option maxHeartbeats 6400000 in
theorem get_step (kd : Int) (nm tx : ByteArray) (io : Option Addr) (N icap : Nat) (ko : Option Addr) (K kcap : Nat) (ks : List ByteArray) (s : ByteArray) (w : World) (HK : Hid (KIn w ko ks)) (HM : Hid (ks.length = K)) (h1 : N ≤ icap) (h2 : K ≤ kcap) (h3 : N ≤ 140737488355328) (h4 : K ≤ 140737488355328)
    (y0 : Int) (y1 y2 : ByteArray) (yo : Option Addr) (yN yc : Nat) (zo : Option Addr) (zN zc : Nat) (fd : Bool)
    (HY : Hid (kd = 6 → ∀ k, (hk : k < ks.length) → eqS ks[k] s = true → (∀ i, (hi : i < ks.length) → i < k → eqS ks[i] s = false) → (k < N → fd = true ∧ ∃ b off, io = some ⟨b, off, none⟩ ∧ b < w.heap.size ∧ w.cell? ⟨b, off + k * 5, none⟩ = some (.int .i64 y0) ∧ w.cell? ⟨b, off + k * 5 + 1, none⟩ = some (.string y1) ∧ w.cell? ⟨b, off + k * 5 + 2, none⟩ = some (.string y2) ∧ w.cell? ⟨b, off + k * 5 + 3, none⟩ = some (.slice yo yN yc) ∧ w.cell? ⟨b, off + k * 5 + 4, none⟩ = some (.slice zo zN zc)) ∧ (¬ k < N → fd = false ∧ (y0 = 0 ∧ y1 = ⟨#[]⟩ ∧ y2 = ⟨#[]⟩ ∧ (yo = none ∧ yN = 0 ∧ yc = 0) ∧ zo = none ∧ zN = 0 ∧ zc = 0))))
    (HZ : Hid (kd = 6 → (∀ i, (hi : i < ks.length) → eqS ks[i] s = false) → fd = false ∧ (y0 = 0 ∧ y1 = ⟨#[]⟩ ∧ y2 = ⟨#[]⟩ ∧ (yo = none ∧ yN = 0 ∧ yc = 0) ∧ zo = none ∧ zN = 0 ∧ zc = 0))) (HW : Hid (kd ≠ 6 → fd = false ∧ (y0 = 0 ∧ y1 = ⟨#[]⟩ ∧ y2 = ⟨#[]⟩ ∧ (yo = none ∧ yN = 0 ∧ yc = 0) ∧ zo = none ∧ zN = 0 ∧ zc = 0))) :
    Calls Try.prog 47 #[.agg #[.int .i64 kd, .string nm, .string tx, .slice io N icap, .slice ko K kcap], .string s] w fun e w' => e = .returned (.tuple #[.agg #[.int .i64 y0, .string y1, .string y2, .slice yo yN yc, .slice zo zN zc], .bool fd]) ∧ Below w.heap.size w w' := by
  obtain ⟨W0, hW0⟩ : ∃ W0, (w.alloc (.cells #[.int .i64 kd, .string nm, .string tx, .slice io N icap, .slice ko K kcap] 33)).alloc (.cells #[.int .i64 0, .string ⟨#[]⟩, .string ⟨#[]⟩, .slice none 0 0, .slice none 0 0] 33) = W0 := ⟨_, rfl⟩
  have HG : Hid (GBx w W0 (.int .i64 kd) (.string nm) (.string tx) (.slice io N icap) (.slice ko K kcap)) := by
    rw [← hW0]
    have h := World.alloc_heap_new (w.alloc (.cells #[.int .i64 kd, .string nm, .string tx, .slice io N icap, .slice ko K kcap] 33)) (.cells #[.int .i64 0, .string ⟨#[]⟩, .string ⟨#[]⟩, .slice none 0 0, .slice none 0 0] 33)
    rw [World.size_alloc] at h
    exact ⟨((Below.refl _ w).alloc (Nat.le_refl _) _).alloc (by simp) _, by simp [go_sem], by simp [go_sem], by simp [go_sem], h⟩
  have p0 := HG.out.c0
  have p3 := HG.out.c3
  have p4 := HG.out.c4
  by_cases h6 : kd = 6
  · subst h6
    go_enter Try.func47, Try.ntmps47
    go_wp2_with fail
    try rw [hW0]
    clear hW0
    go_loopw [6] (fun i wr => ∃ k : Nat, k ≤ K ∧ i = .int .i64 (k : Int) ∧ wr = W0 ∧ Hid (∀ i, (hi : i < ks.length) → i < k → eqS ks[i] s = false)) (fun i _ => K - (intOf i).toNat)
    case atStart => exact ⟨0, Nat.zero_le _, rfl, rfl, fun i _ hi => absurd hi (by omega)⟩
    case round =>
      obtain ⟨k, hk, rfl, rfl, HQ⟩ := hrel
      by_cases hlt : k < K
      · have hl1 : (k : Int) < (K : Int) := by omega
        have hl0 : (0 : Int) ≤ (k : Int) := by omega
        have hka : k < ks.length := by rw [HM.out]; exact hlt
        obtain ⟨b, off, hko, hbl, hrow⟩ := HK.out.row (by omega)
        subst hko
        have c0 := (HG.out.below.cell (p := ⟨b, off + k, none⟩) hbl).trans (hrow k hka)
        have eg : ks.getD k ByteArray.empty = ks[k] := by simp [List.getD, hka]
        rw [eg] at c0
        have HYk := Hid.mk (HY.out (by first | trivial | rfl) k hka)
        have HQ2 : Hid (eqS ks[k] s = false → ∀ i, (hi : i < ks.length) → i < k + 1 → eqS ks[i] s = false) := fun hh i hi hi2 => by
          by_cases e : i = k
          · subst e; exact hh
          · exact HQ.out i hi (by omega)
        have he : eqS ks[k] s = (ks[k].toList == s.toList) := rfl
        rw [he] at HYk HQ2
        generalize ks[k] = x at *
        clear hrow hbl hka eg he
        cases hx : (x.toList == s.toList) with
        | true =>
          have hy := HYk.out hx HQ.out
          by_cases hkN : k < N
          · have hl2 : ¬ (N : Int) ≤ (k : Int) := by omega
            have hl3 : (k : Int) < (N : Int) := by omega
            obtain ⟨rfl, b2, off2, hio, hb2, k0, k1, k2, k3, k4⟩ := hy.1 hkN
            subst hio
            replace k0 := (HG.out.below.cell (p := ⟨_, _, _⟩) hb2).trans k0
            replace k1 := (HG.out.below.cell (p := ⟨_, _, _⟩) hb2).trans k1
            replace k2 := (HG.out.below.cell (p := ⟨_, _, _⟩) hb2).trans k2
            replace k3 := (HG.out.below.cell (p := ⟨_, _, _⟩) hb2).trans k3
            replace k4 := (HG.out.below.cell (p := ⟨_, _, _⟩) hb2).trans k4
            clear hy HYk HQ2
            have g0 := cell_of_row _ _ 0 _ _ _ HG.out.ans
            have f0 := frozen5i (j := 0) HG.out.ans
            have g1 := cell_of_row _ _ 1 _ _ _ HG.out.ans
            have f1 := frozen5i (j := 1) HG.out.ans
            have g2 := cell_of_row _ _ 2 _ _ _ HG.out.ans
            have f2 := frozen5i (j := 2) HG.out.ans
            have g3 := cell_of_row _ _ 3 _ _ _ HG.out.ans
            have f3 := frozen5i (j := 3) HG.out.ans
            have g4 := cell_of_row _ _ 4 _ _ _ HG.out.ans
            have f4 := frozen5i (j := 4) HG.out.ans
            go_wp2_with fail
            (try simp only [Exit.inBlock, Exit.then])
            generalize hz9 : ((((wr.setCell ⟨w.heap.size + 1, 0, none⟩ (.int .i64 y0)).setCell ⟨w.heap.size + 1, 1, none⟩ (.string y1)).setCell ⟨w.heap.size + 1, 2, none⟩ (.string y2)).setCell ⟨w.heap.size + 1, 3, none⟩ (.slice yo yN yc)).setCell ⟨w.heap.size + 1, 4, none⟩ (.slice zo zN zc) = wz
            have e7 := rbox5i wr _ _ _ _ _ _ _ _ _ _ _ _ HG.out.ans wz hz9.symm
            have d0 := cell_of_row _ _ 0 _ _ _ e7
            have d1 := cell_of_row _ _ 1 _ _ _ e7
            have d2 := cell_of_row _ _ 2 _ _ _ e7
            have d3 := cell_of_row _ _ 3 _ _ _ e7
            have d4 := cell_of_row _ _ 4 _ _ _ e7
            have hbz : Below w.heap.size w wz := by rw [← hz9]; exact (((((HG.out.below.setCell (p := ⟨w.heap.size + 1, 0, none⟩) (by show w.heap.size ≤ w.heap.size + 1; omega) _).setCell (p := ⟨w.heap.size + 1, 1, none⟩) (by show w.heap.size ≤ w.heap.size + 1; omega) _).setCell (p := ⟨w.heap.size + 1, 2, none⟩) (by show w.heap.size ≤ w.heap.size + 1; omega) _).setCell (p := ⟨w.heap.size + 1, 3, none⟩) (by show w.heap.size ≤ w.heap.size + 1; omega) _).setCell (p := ⟨w.heap.size + 1, 4, none⟩) (by show w.heap.size ≤ w.heap.size + 1; omega) _)
            refine bodyPost_ret (v := .tuple #[.agg #[.int .i64 y0, .string y1, .string y2, .slice yo yN yc, .slice zo zN zc], .bool true]) (by simp [results, Try.results47, go_sem, d0, d1, d2, d3, d4]) rfl ?_
            exact ⟨rfl, hbz⟩
          · have hl2 : (N : Int) ≤ (k : Int) := by omega
            obtain ⟨rfl, rfl, rfl, rfl, ⟨rfl, rfl, rfl⟩, rfl, rfl, rfl⟩ := hy.2 hkN
            clear hy HYk HQ2
            have g0 := cell_of_row _ _ 0 _ _ _ HG.out.ans
            have f0 := frozen5i (j := 0) HG.out.ans
            have g1 := cell_of_row _ _ 1 _ _ _ HG.out.ans
            have f1 := frozen5i (j := 1) HG.out.ans
            have g2 := cell_of_row _ _ 2 _ _ _ HG.out.ans
            have f2 := frozen5i (j := 2) HG.out.ans
            have g3 := cell_of_row _ _ 3 _ _ _ HG.out.ans
            have f3 := frozen5i (j := 3) HG.out.ans
            have g4 := cell_of_row _ _ 4 _ _ _ HG.out.ans
            have f4 := frozen5i (j := 4) HG.out.ans
            go_wp2_with fail
            (try simp only [Exit.inBlock, Exit.then])
            generalize hz9 : ((((wr.setCell ⟨w.heap.size + 1, 0, none⟩ (.int .i64 0)).setCell ⟨w.heap.size + 1, 1, none⟩ (.string ⟨#[]⟩)).setCell ⟨w.heap.size + 1, 2, none⟩ (.string ⟨#[]⟩)).setCell ⟨w.heap.size + 1, 3, none⟩ (.slice none 0 0)).setCell ⟨w.heap.size + 1, 4, none⟩ (.slice none 0 0) = wz
            have e7 := rbox5i wr _ _ _ _ _ _ _ _ _ _ _ _ HG.out.ans wz hz9.symm
            have d0 := cell_of_row _ _ 0 _ _ _ e7
            have d1 := cell_of_row _ _ 1 _ _ _ e7
            have d2 := cell_of_row _ _ 2 _ _ _ e7
            have d3 := cell_of_row _ _ 3 _ _ _ e7
            have d4 := cell_of_row _ _ 4 _ _ _ e7
            have hbz : Below w.heap.size w wz := by rw [← hz9]; exact (((((HG.out.below.setCell (p := ⟨w.heap.size + 1, 0, none⟩) (by show w.heap.size ≤ w.heap.size + 1; omega) _).setCell (p := ⟨w.heap.size + 1, 1, none⟩) (by show w.heap.size ≤ w.heap.size + 1; omega) _).setCell (p := ⟨w.heap.size + 1, 2, none⟩) (by show w.heap.size ≤ w.heap.size + 1; omega) _).setCell (p := ⟨w.heap.size + 1, 3, none⟩) (by show w.heap.size ≤ w.heap.size + 1; omega) _).setCell (p := ⟨w.heap.size + 1, 4, none⟩) (by show w.heap.size ≤ w.heap.size + 1; omega) _)
            refine bodyPost_ret (v := .tuple #[.agg #[.int .i64 0, .string ⟨#[]⟩, .string ⟨#[]⟩, .slice none 0 0, .slice none 0 0], .bool false]) (by simp [results, Try.results47, go_sem, d0, d1, d2, d3, d4]) rfl ?_
            exact ⟨rfl, hbz⟩
        | false =>
          have HN := Hid.mk (HQ2.out hx)
          clear HQ2 HYk HQ
          go_wp2_with fail
          go_roundw
          case rel => exact ⟨k + 1, hlt, by go_num, by first | trivial | rfl, HN⟩
          case measure => simp [intOf]; omega
      · have hl1 : ¬ (k : Int) < (K : Int) := by omega
        obtain ⟨rfl, rfl, rfl, rfl, ⟨rfl, rfl, rfl⟩, rfl, rfl, rfl⟩   := HZ.out (by first | trivial | rfl) (fun i hi => HQ.out i hi (by have := HM.out; omega))
        clear HQ
        have g0 := cell_of_row _ _ 0 _ _ _ HG.out.ans
        have f0 := frozen5i (j := 0) HG.out.ans
        have g1 := cell_of_row _ _ 1 _ _ _ HG.out.ans
        have f1 := frozen5i (j := 1) HG.out.ans
        have g2 := cell_of_row _ _ 2 _ _ _ HG.out.ans
        have f2 := frozen5i (j := 2) HG.out.ans
        have g3 := cell_of_row _ _ 3 _ _ _ HG.out.ans
        have f3 := frozen5i (j := 3) HG.out.ans
        have g4 := cell_of_row _ _ 4 _ _ _ HG.out.ans
        have f4 := frozen5i (j := 4) HG.out.ans
        go_wp2_with fail
        (try simp only [Exit.inBlock, Exit.then])
        generalize hz9 : ((((wr.setCell ⟨w.heap.size + 1, 0, none⟩ (.int .i64 0)).setCell ⟨w.heap.size + 1, 1, none⟩ (.string ⟨#[]⟩)).setCell ⟨w.heap.size + 1, 2, none⟩ (.string ⟨#[]⟩)).setCell ⟨w.heap.size + 1, 3, none⟩ (.slice none 0 0)).setCell ⟨w.heap.size + 1, 4, none⟩ (.slice none 0 0) = wz
        have e7 := rbox5i wr _ _ _ _ _ _ _ _ _ _ _ _ HG.out.ans wz hz9.symm
        have d0 := cell_of_row _ _ 0 _ _ _ e7
        have d1 := cell_of_row _ _ 1 _ _ _ e7
        have d2 := cell_of_row _ _ 2 _ _ _ e7
        have d3 := cell_of_row _ _ 3 _ _ _ e7
        have d4 := cell_of_row _ _ 4 _ _ _ e7
        have hbz : Below w.heap.size w wz := by rw [← hz9]; exact (((((HG.out.below.setCell (p := ⟨w.heap.size + 1, 0, none⟩) (by show w.heap.size ≤ w.heap.size + 1; omega) _).setCell (p := ⟨w.heap.size + 1, 1, none⟩) (by show w.heap.size ≤ w.heap.size + 1; omega) _).setCell (p := ⟨w.heap.size + 1, 2, none⟩) (by show w.heap.size ≤ w.heap.size + 1; omega) _).setCell (p := ⟨w.heap.size + 1, 3, none⟩) (by show w.heap.size ≤ w.heap.size + 1; omega) _).setCell (p := ⟨w.heap.size + 1, 4, none⟩) (by show w.heap.size ≤ w.heap.size + 1; omega) _)
        refine bodyPost_ret (v := .tuple #[.agg #[.int .i64 0, .string ⟨#[]⟩, .string ⟨#[]⟩, .slice none 0 0, .slice none 0 0], .bool false]) (by simp [results, Try.results47, go_sem, d0, d1, d2, d3, d4]) rfl ?_
        exact ⟨rfl, hbz⟩
  · have h6' : (kd != 6) = true := by simpa using h6
    obtain ⟨rfl, rfl, rfl, rfl, ⟨rfl, rfl, rfl⟩, rfl, rfl, rfl⟩ := HW.out h6
    have g0 := cell_of_row _ _ 0 _ _ _ HG.out.ans
    have f0 := frozen5i (j := 0) HG.out.ans
    have g1 := cell_of_row _ _ 1 _ _ _ HG.out.ans
    have f1 := frozen5i (j := 1) HG.out.ans
    have g2 := cell_of_row _ _ 2 _ _ _ HG.out.ans
    have f2 := frozen5i (j := 2) HG.out.ans
    have g3 := cell_of_row _ _ 3 _ _ _ HG.out.ans
    have f3 := frozen5i (j := 3) HG.out.ans
    have g4 := cell_of_row _ _ 4 _ _ _ HG.out.ans
    have f4 := frozen5i (j := 4) HG.out.ans
    go_enter Try.func47, Try.ntmps47
    go_wp2_with fail
    (try simp only [Exit.inBlock, Exit.then])
    generalize hz9 : ((((W0.setCell ⟨w.heap.size + 1, 0, none⟩ (.int .i64 0)).setCell ⟨w.heap.size + 1, 1, none⟩ (.string ⟨#[]⟩)).setCell ⟨w.heap.size + 1, 2, none⟩ (.string ⟨#[]⟩)).setCell ⟨w.heap.size + 1, 3, none⟩ (.slice none 0 0)).setCell ⟨w.heap.size + 1, 4, none⟩ (.slice none 0 0) = wz
    have e7 := rbox5i W0 _ _ _ _ _ _ _ _ _ _ _ _ HG.out.ans wz hz9.symm
    have d0 := cell_of_row _ _ 0 _ _ _ e7
    have d1 := cell_of_row _ _ 1 _ _ _ e7
    have d2 := cell_of_row _ _ 2 _ _ _ e7
    have d3 := cell_of_row _ _ 3 _ _ _ e7
    have d4 := cell_of_row _ _ 4 _ _ _ e7
    have hbz : Below w.heap.size w wz := by rw [← hz9]; exact (((((HG.out.below.setCell (p := ⟨w.heap.size + 1, 0, none⟩) (by show w.heap.size ≤ w.heap.size + 1; omega) _).setCell (p := ⟨w.heap.size + 1, 1, none⟩) (by show w.heap.size ≤ w.heap.size + 1; omega) _).setCell (p := ⟨w.heap.size + 1, 2, none⟩) (by show w.heap.size ≤ w.heap.size + 1; omega) _).setCell (p := ⟨w.heap.size + 1, 3, none⟩) (by show w.heap.size ≤ w.heap.size + 1; omega) _).setCell (p := ⟨w.heap.size + 1, 4, none⟩) (by show w.heap.size ≤ w.heap.size + 1; omega) _)
    refine bodyPost_ret (v := .tuple #[.agg #[.int .i64 0, .string ⟨#[]⟩, .string ⟨#[]⟩, .slice none 0 0, .slice none 0 0], .bool false]) (by simp [results, Try.results47, go_sem, d0, d1, d2, d3, d4]) rfl ?_
    exact ⟨rfl, hbz⟩

theorem first_ix (p : ByteArray → Bool) : ∀ ks : List ByteArray, (∃ j, ∃ hj : j < ks.length, p ks[j] = true ∧ ∀ i, (hi : i < ks.length) → i < j → p ks[i] = false) ∨ ∀ i, (hi : i < ks.length) → p ks[i] = false
  | [] => .inr fun i hi => absurd hi (Nat.not_lt_zero _)
  | c :: ks => by
    cases hc : p c with
    | true => exact .inl ⟨0, by simp, hc, fun i _ hi => absurd hi (Nat.not_lt_zero _)⟩
    | false =>
      rcases first_ix p ks with ⟨j, hj, h1, h2⟩ | h
      · refine .inl ⟨j + 1, by simpa using hj, h1, fun i hi hij => ?_⟩
        cases i with
        | zero => exact hc
        | succ i => exact h2 i (by simpa using hi) (by omega)
      · refine .inr fun i hi => ?_
        cases i with
        | zero => exact hc
        | succ i => exact h i (by simpa using hi)
theorem w_rGet (h : Nat) (V : VT) (vv : Value) (s : ByteArray) (w : World) (hI : InH w (h + 1) V vv) : ∃ (y0 : Int) (y1 y2 : ByteArray) (yo : Option Addr) (yN yc : Nat) (zo : Option Addr) (zN zc : Nat), (∀ x, getV V s = some x → InH w h x (.agg #[.int .i64 y0, .string y1, .string y2, .slice yo yN yc, .slice zo zN zc])) ∧ ∀ u, Below w.heap.size w u → Calls Try.prog 47 #[vv, .string s] u fun e w' => e = .returned (.tuple #[.agg #[.int .i64 y0, .string y1, .string y2, .slice yo yN yc, .slice zo zN zc], .bool (getV V s).isSome]) ∧ Below u.heap.size u w' := by
  obtain ⟨io, icap, ko, kcap, rfl, a1, a2, a3, a4, a5, a6, a7, hk, hi⟩ := hI
  have Z0 : getV V s = none → (∀ x, getV V s = some x → InH w h x (.agg #[.int .i64 0, .string ⟨#[]⟩, .string ⟨#[]⟩, .slice none 0 0, .slice none 0 0])) := fun hn x hx => by rw [hn] at hx; cases hx
  by_cases h6 : V.kind = 6
  · have eg : getV V s = getL V.keys V.items s := by unfold getV; rw [if_pos h6]
    rcases first_ix (fun k => eqS k s) V.keys with ⟨j, hj, e1, e2⟩ | hno
    · have ej : getV V s = V.items[j]? := by rw [eg]; exact getL_at hj e1 e2
      have uq : ∀ k, (hk : k < V.keys.length) → eqS V.keys[k] s = true → (∀ i, (hi : i < V.keys.length) → i < k → eqS V.keys[i] s = false) → k = j := fun k hk q1 q2 => by
        rcases Nat.lt_trichotomy k j with hlt | rfl | hlt
        · rw [e2 k hk hlt] at q1; cases q1
        · rfl
        · have := q2 j hj hlt
          rw [e1] at this; cases this
      by_cases hjN : j < V.items.length
      · rw [List.getElem?_eq_getElem hjN] at ej
        obtain ⟨b, off, hio, hbl, hrow⟩ := hi (by omega)
        obtain ⟨v0, v1, v2, v3, v4, ⟨c0, c1, c2, c3, c4⟩, ht⟩ := hrow j hjN
        obtain ⟨y0, y1, y2, yo, yN, yc, zo, zN, zc, rfl, rfl, rfl, rfl, rfl⟩ := ht.shape
        refine ⟨y0, y1, y2, yo, yN, yc, zo, zN, zc, fun x hx => by rw [ej] at hx; cases hx; exact ht, fun u hu => ?_⟩
        rw [ej]
        exact get_step V.kind V.num V.text io _ icap ko _ kcap V.keys s u (Hid.mk (hk.keep hu)) (Hid.mk rfl) a5 a6 a3 a4 y0 y1 y2 yo yN yc zo zN zc true
          (Hid.mk fun _ k hk q1 q2 => ⟨fun hN => ⟨rfl, b, off, hio, Nat.lt_of_lt_of_le hbl hu.size, by obtain rfl := uq k hk q1 q2; exact ⟨(hu.cell (p := ⟨_, _, _⟩) hbl).trans c0, (hu.cell (p := ⟨_, _, _⟩) hbl).trans c1, (hu.cell (p := ⟨_, _, _⟩) hbl).trans c2, (hu.cell (p := ⟨_, _, _⟩) hbl).trans c3, (hu.cell (p := ⟨_, _, _⟩) hbl).trans c4⟩⟩, fun hN => absurd (by obtain rfl := uq k hk q1 q2; exact hjN) hN⟩)
          (Hid.mk fun _ q => absurd (q j hj) (by rw [e1]; simp)) (Hid.mk fun q => absurd h6 q)
      · rw [List.getElem?_eq_none (by omega)] at ej
        refine ⟨0, ⟨#[]⟩, ⟨#[]⟩, none, 0, 0, none, 0, 0, Z0 ej, fun u hu => ?_⟩
        rw [ej]
        exact get_step V.kind V.num V.text io _ icap ko _ kcap V.keys s u (Hid.mk (hk.keep hu)) (Hid.mk rfl) a5 a6 a3 a4 0 ⟨#[]⟩ ⟨#[]⟩ none 0 0 none 0 0 false
          (Hid.mk fun _ k hk q1 q2 => ⟨fun hN => absurd (by obtain rfl := uq k hk q1 q2; exact hN) hjN, fun _ => ⟨rfl, rfl, rfl, rfl, ⟨rfl, rfl, rfl⟩, rfl, rfl, rfl⟩⟩)
          (Hid.mk fun _ q => ⟨rfl, rfl, rfl, rfl, ⟨rfl, rfl, rfl⟩, rfl, rfl, rfl⟩) (Hid.mk fun q => absurd h6 q)
    · have ej : getV V s = none := by rw [eg]; exact getL_none hno
      refine ⟨0, ⟨#[]⟩, ⟨#[]⟩, none, 0, 0, none, 0, 0, Z0 ej, fun u hu => ?_⟩
      rw [ej]
      exact get_step V.kind V.num V.text io _ icap ko _ kcap V.keys s u (Hid.mk (hk.keep hu)) (Hid.mk rfl) a5 a6 a3 a4 0 ⟨#[]⟩ ⟨#[]⟩ none 0 0 none 0 0 false
        (Hid.mk fun _ k hk q1 q2 => by rw [show eqS V.keys[k] s = false from hno k hk] at q1; cases q1)
        (Hid.mk fun _ q => ⟨rfl, rfl, rfl, rfl, ⟨rfl, rfl, rfl⟩, rfl, rfl, rfl⟩) (Hid.mk fun q => absurd h6 q)
  · have ej : getV V s = none := by unfold getV; rw [if_neg h6]
    refine ⟨0, ⟨#[]⟩, ⟨#[]⟩, none, 0, 0, none, 0, 0, Z0 ej, fun u hu => ?_⟩
    rw [ej]
    exact get_step V.kind V.num V.text io _ icap ko _ kcap V.keys s u (Hid.mk (hk.keep hu)) (Hid.mk rfl) a5 a6 a3 a4 0 ⟨#[]⟩ ⟨#[]⟩ none 0 0 none 0 0 false
      (Hid.mk fun q => absurd q h6) (Hid.mk fun q => absurd q h6) (Hid.mk fun q => ⟨rfl, rfl, rfl, rfl, ⟨rfl, rfl, rfl⟩, rfl, rfl, rfl⟩)
end Go.Proofs.Ytihhjplbpaafiaa
namespace Go.Proofs.Ytihhjplbpaafiaa
open Go.RowKit Go.Shelf Go.Sort
set_option linter.unusedVariables false
set_option linter.unusedSimpArgs false
attribute [local go_sem] Oper.semAt_some


/-- one box -/
structure Bx1 (w u : World) (xs : Array Value) : Prop where
  below : Below w.heap.size w u
  one : ∀ j, u.cell? ⟨w.heap.size, j, none⟩ = xs[j]?
  lt : w.heap.size < u.heap.size
theorem Bx1.keep {w u u' : World} {xs : Array Value} (x : Bx1 w u xs) (hb : Below u.heap.size u u') : Bx1 w u' xs :=
  ⟨x.below.trans (hb.mono x.below.size), fun j => (hb.cell (p := ⟨_, _, _⟩) x.lt).trans (x.one j), Nat.lt_of_lt_of_le x.lt hb.size⟩
theorem bx1_new (w : World) (xs : Array Value) (t : TypeId) : Bx1 w (w.alloc (.cells xs t)) xs :=
  ⟨(Below.refl _ _).alloc (Nat.le_refl _) _, fun j => cell_of_row _ _ j xs t (0, 0) (World.alloc_heap_new w _), by simp⟩
theorem formN_item {h : Nat} {T : VT} (hf : formN (h + 1) T = true) : ∀ x ∈ T.items, formN h x = true := by
  rcases form_open hf with (rfl | rfl | rfl) | ⟨n, rfl, _⟩ | ⟨n, rfl, _⟩ | ⟨i, rfl, hi⟩ | ⟨i, ks, rfl, _, _, _, hi⟩
  · intro x hx; cases hx
  · intro x hx; cases hx
  · intro x hx; cases hx
  · intro x hx; cases hx
  · intro x hx; cases hx
  · exact hi
  · exact hi
set_option maxRecDepth 100000 in
set_option maxHeartbeats 6400000 in
theorem w_rInArr (h : Nat) (ih : IvOk h) (hv : Nat) (io : Option Addr) (N icap : Nat) (its : List VT) (a : AR) (c0 c1 c2 c3 c4 c5 c6 c7 c8 : Value) (w : World) (hi : IIn w hv io its) (hN : its.length = N) (hc : N ≤ icap) (hN2 : N ≤ 140737488355328) (hf : ∀ x ∈ its, formN hv x = true) (hg : goodT h a.item) (ha : InT w h a.item (.agg #[c0, c1, c2, c3, c4, c5, c6, c7, c8])) :
    Calls Try.prog 30 #[.slice io N icap, .agg #[c0, c1, c2, c3, c4, c5, c6, c7, c8, .int .i64 a.min, .int .i64 a.max]] w fun e w' => e = .returned (.bool (inAr (inN h) its a)) ∧ Below w.heap.size w w' := by
  have HIN := Hid.mk hi
  have HNN := Hid.mk hN
  have HIV := Hid.mk (fun (x : VT) (hx : x ∈ its) (vx : Value) (u : World) (hu : Below w.heap.size w u) (hxi : InH u hv x vx) => ih hv x a.item vx _ u hxi (hf x hx) hg (ha.keep hu))
  obtain ⟨sa, sb, sc, sd, ⟨seo, sen, sec⟩, sf, ⟨sgo, sgn, sgc⟩, ⟨sio, sinn, sic⟩, ⟨sjo, sjn, sjc⟩, eshs⟩ := inT_shape ha
  simp only [Value.agg.injEq, Array.mk.injEq, List.cons.injEq, and_true] at eshs
  obtain ⟨rfl, rfl, rfl, rfl, rfl, rfl, rfl, rfl, rfl⟩ := eshs
  obtain ⟨R, hR⟩ : ∃ R, inAr (inN h) its a = R := ⟨_, rfl⟩
  have HR : Hid (R = (!(decide ((N : Int) < a.min) || (decide (0 ≤ a.max) && decide (a.max < (N : Int)))) && its.all fun x => inN h x a.item)) := by show _ = _; rw [← hR, ← hN]; rfl
  rw [hR]
  obtain ⟨IT, hIT⟩ : ∃ IT, a.item = IT := ⟨_, rfl⟩
  simp only [hIT] at HR HIV
  generalize a.min = m1 at *
  generalize a.max = n1 at *
  clear hi hN ih hf hg ha hR hIT
  have HX := Hid.mk (bx1_new w #[.bool sa, .bool sb, .bool sc, .bool sd, .slice seo sen sec, .bool sf, .slice sgo sgn sgc, .slice sio sinn sic, .slice sjo sjn sjc, .int .i64 m1, .int .i64 n1] 51)
  obtain ⟨W0, hW0⟩ : ∃ W0, w.alloc (.cells #[.bool sa, .bool sb, .bool sc, .bool sd, .slice seo sen sec, .bool sf, .slice sgo sgn sgc, .slice sio sinn sic, .slice sjo sjn sjc, .int .i64 m1, .int .i64 n1] 51) = W0 := ⟨_, rfl⟩
  rw [hW0] at HX
  have p9 : W0.cell? ⟨w.heap.size, 9, none⟩ = some (.int .i64 m1) := HX.out.one 9
  have p10 : W0.cell? ⟨w.heap.size, 10, none⟩ = some (.int .i64 n1) := HX.out.one 10
  by_cases q1 : (N : Int) < m1
  · have HF : Hid (R = false) := by show _ = _; rw [HR.out, decide_eq_true q1]; rfl
    clear HR
    go_enter Try.func30, Try.ntmps30
    go_wp2_with fail
    go_ret
    exact ⟨by rw [HF.out]; rfl, HX.out.below⟩
  · by_cases q2 : 0 ≤ n1 ∧ n1 < (N : Int)
    · obtain ⟨q2, q3⟩ := q2
      have HF : Hid (R = false) := by show _ = _; rw [HR.out, decide_eq_true q2, decide_eq_true q3]; simp
      clear HR
      go_enter Try.func30, Try.ntmps30
      go_wp2_with fail
      go_ret
      exact ⟨by rw [HF.out]; rfl, HX.out.below⟩
    · have HR2 : Hid (R = its.all fun x => inN h x IT) := by
        show _ = _
        rw [HR.out, decide_eq_false q1]
        by_cases q3 : 0 ≤ n1
        · rw [decide_eq_true q3, decide_eq_false (by omega)]; rfl
        · rw [decide_eq_false q3]; rfl
      clear HR
      go_enter Try.func30, Try.ntmps30
      by_cases q3 : 0 ≤ n1
      · have q4 : ¬ n1 < (N : Int) := by omega
        clear q2
        go_wp2_with fail
        go_loopw [5] (fun i wr => ∃ k : Nat, k ≤ N ∧ i = .int .i64 (k : Int) ∧ Hid (Bx1 w wr #[.bool sa, .bool sb, .bool sc, .bool sd, .slice seo sen sec, .bool sf, .slice sgo sgn sgc, .slice sio sinn sic, .slice sjo sjn sjc, .int .i64 m1, .int .i64 n1]) ∧ Hid ((its.take k).all (fun x => inN h x IT) = true)) (fun i _ => N - (intOf i).toNat)
        case atStart => exact ⟨0, Nat.zero_le _, rfl, HX, rfl⟩
        case round =>
          clear p9 p10 HX
          obtain ⟨k, hk, rfl, HX, HQ⟩ := hrel
          by_cases hlt : k < N
          · have hl1 : (k : Int) < (N : Int) := by omega
            have hl0 : (0 : Int) ≤ (k : Int) := by omega
            have hkl : k < its.length := by rw [HNN.out]; exact hlt
            obtain ⟨b, off, hko, hbl, hrow⟩ := (HIN.out.keep HX.out.below).row (by omega)
            subst hko
            obtain ⟨v0, v1, v2, v3, v4, ⟨x0, x1, x2, x3, x4⟩, ht⟩ := hrow k hkl
            obtain ⟨ik, inm, itx, iio, iN, iicap, iko, iK, ikcap, rfl, rfl, rfl, rfl, rfl⟩ := ht.shape
            have HC := Hid.mk (fun (d : Nat) (os : Array Obj) => HIV.out its[k] (List.getElem_mem hkl) _ (grow (redrawn wr d) os) (HX.out.below.trans ((below_regrown wr d os).mono HX.out.below.size)) (ht.keep (below_regrown wr d os)))
            have HU := Hid.mk (zall_up (f := fun x => inN h x IT) hkl)
            have HNo : Hid (inN h its[k] IT = false → R = false) := fun hh => by rw [HR2.out]; exact zall_no (f := fun x => inN h x IT) hkl hh
            obtain ⟨r, hr⟩ : ∃ r, inN h its[k] IT = r := ⟨_, rfl⟩
            rw [hr] at HU HNo HC
            clear hr hrow ht hkl
            have Ax0 := fun d os => cell_regrown x0 d os
            have Ax1 := fun d os => cell_regrown x1 d os
            have Ax2 := fun d os => cell_regrown x2 d os
            have Ax3 := fun d os => cell_regrown x3 d os
            have Ax4 := fun d os => cell_regrown x4 d os
            have p0 : wr.cell? ⟨w.heap.size, 0, none⟩ = some (.bool sa) := HX.out.one 0
            have Ap0 := fun d os => cell_regrown p0 d os
            have p1 : wr.cell? ⟨w.heap.size, 1, none⟩ = some (.bool sb) := HX.out.one 1
            have Ap1 := fun d os => cell_regrown p1 d os
            have p2 : wr.cell? ⟨w.heap.size, 2, none⟩ = some (.bool sc) := HX.out.one 2
            have Ap2 := fun d os => cell_regrown p2 d os
            have p3 : wr.cell? ⟨w.heap.size, 3, none⟩ = some (.bool sd) := HX.out.one 3
            have Ap3 := fun d os => cell_regrown p3 d os
            have p4 : wr.cell? ⟨w.heap.size, 4, none⟩ = some (.slice seo sen sec) := HX.out.one 4
            have Ap4 := fun d os => cell_regrown p4 d os
            have p5 : wr.cell? ⟨w.heap.size, 5, none⟩ = some (.bool sf) := HX.out.one 5
            have Ap5 := fun d os => cell_regrown p5 d os
            have p6 : wr.cell? ⟨w.heap.size, 6, none⟩ = some (.slice sgo sgn sgc) := HX.out.one 6
            have Ap6 := fun d os => cell_regrown p6 d os
            have p7 : wr.cell? ⟨w.heap.size, 7, none⟩ = some (.slice sio sinn sic) := HX.out.one 7
            have Ap7 := fun d os => cell_regrown p7 d os
            have p8 : wr.cell? ⟨w.heap.size, 8, none⟩ = some (.slice sjo sjn sjc) := HX.out.one 8
            have Ap8 := fun d os => cell_regrown p8 d os
            cases r with
            | true =>
              have HN : Hid ((its.take (k + 1)).all (fun x => inN h x IT) = true) := by show _ = _; rw [HU.out, HQ.out]; rfl
              clear HU HNo HQ
              go_wp2_with fail
              refine wp_region_quiet_below (by kernel_rfl) (by kernel_rfl) ?_
              repeat (go_big_quiet_step (exact Calls.regrown_of (HC.out _ _)))
              refine wpQuiet_nil ?_
              intro w9 hw'
              have hbw9 : Below wr.heap.size wr w9 := by
                obtain ⟨⟨dq, osq⟩, rfl⟩ := hw'
                exact below_regrown wr dq osq
              clear hw'
              have HX9 := Hid.mk (HX.out.keep hbw9)
              clear hbw9 Ax0 x0 Ax1 x1 Ax2 x2 Ax3 x3 Ax4 x4 Ap0 p0 Ap1 p1 Ap2 p2 Ap3 p3 Ap4 p4 Ap5 p5 Ap6 p6 Ap7 p7 Ap8 p8
              go_wp2_with fail
              go_roundw
              case rel => exact ⟨k + 1, hlt, by go_num, HX9, HN⟩
              case measure => simp [intOf]; omega
            | false =>
              have HF := Hid.mk (HNo.out rfl)
              clear HU HNo HQ
              go_wp2_with fail
              refine wp_region_quiet_below (by kernel_rfl) (by kernel_rfl) ?_
              repeat (go_big_quiet_step (exact Calls.regrown_of (HC.out _ _)))
              refine wpQuiet_nil ?_
              intro w9 hw'
              have hbw9 : Below wr.heap.size wr w9 := by
                obtain ⟨⟨dq, osq⟩, rfl⟩ := hw'
                exact below_regrown wr dq osq
              clear hw'
              have HX9 := Hid.mk (HX.out.keep hbw9)
              clear hbw9 Ax0 x0 Ax1 x1 Ax2 x2 Ax3 x3 Ax4 x4 Ap0 p0 Ap1 p1 Ap2 p2 Ap3 p3 Ap4 p4 Ap5 p5 Ap6 p6 Ap7 p7 Ap8 p8
              go_wp2_with fail
              go_ret
              exact ⟨by rw [HF.out]; rfl, HX9.out.below⟩
          · have hl1 : ¬ (k : Int) < (N : Int) := by omega
            have HF : Hid (R = true) := by
              show _ = _
              have e := HQ.out
              rw [List.take_of_length_le (by rw [HNN.out]; omega)] at e
              rw [HR2.out, e]
            clear HQ
            go_wp2_with fail
            go_ret
            exact ⟨by rw [HF.out]; rfl, HX.out.below⟩
      · clear q2
        go_wp2_with fail
        go_loopw [5] (fun i wr => ∃ k : Nat, k ≤ N ∧ i = .int .i64 (k : Int) ∧ Hid (Bx1 w wr #[.bool sa, .bool sb, .bool sc, .bool sd, .slice seo sen sec, .bool sf, .slice sgo sgn sgc, .slice sio sinn sic, .slice sjo sjn sjc, .int .i64 m1, .int .i64 n1]) ∧ Hid ((its.take k).all (fun x => inN h x IT) = true)) (fun i _ => N - (intOf i).toNat)
        case atStart => exact ⟨0, Nat.zero_le _, rfl, HX, rfl⟩
        case round =>
          clear p9 p10 HX
          obtain ⟨k, hk, rfl, HX, HQ⟩ := hrel
          by_cases hlt : k < N
          · have hl1 : (k : Int) < (N : Int) := by omega
            have hl0 : (0 : Int) ≤ (k : Int) := by omega
            have hkl : k < its.length := by rw [HNN.out]; exact hlt
            obtain ⟨b, off, hko, hbl, hrow⟩ := (HIN.out.keep HX.out.below).row (by omega)
            subst hko
            obtain ⟨v0, v1, v2, v3, v4, ⟨x0, x1, x2, x3, x4⟩, ht⟩ := hrow k hkl
            obtain ⟨ik, inm, itx, iio, iN, iicap, iko, iK, ikcap, rfl, rfl, rfl, rfl, rfl⟩ := ht.shape
            have HC := Hid.mk (fun (d : Nat) (os : Array Obj) => HIV.out its[k] (List.getElem_mem hkl) _ (grow (redrawn wr d) os) (HX.out.below.trans ((below_regrown wr d os).mono HX.out.below.size)) (ht.keep (below_regrown wr d os)))
            have HU := Hid.mk (zall_up (f := fun x => inN h x IT) hkl)
            have HNo : Hid (inN h its[k] IT = false → R = false) := fun hh => by rw [HR2.out]; exact zall_no (f := fun x => inN h x IT) hkl hh
            obtain ⟨r, hr⟩ : ∃ r, inN h its[k] IT = r := ⟨_, rfl⟩
            rw [hr] at HU HNo HC
            clear hr hrow ht hkl
            have Ax0 := fun d os => cell_regrown x0 d os
            have Ax1 := fun d os => cell_regrown x1 d os
            have Ax2 := fun d os => cell_regrown x2 d os
            have Ax3 := fun d os => cell_regrown x3 d os
            have Ax4 := fun d os => cell_regrown x4 d os
            have p0 : wr.cell? ⟨w.heap.size, 0, none⟩ = some (.bool sa) := HX.out.one 0
            have Ap0 := fun d os => cell_regrown p0 d os
            have p1 : wr.cell? ⟨w.heap.size, 1, none⟩ = some (.bool sb) := HX.out.one 1
            have Ap1 := fun d os => cell_regrown p1 d os
            have p2 : wr.cell? ⟨w.heap.size, 2, none⟩ = some (.bool sc) := HX.out.one 2
            have Ap2 := fun d os => cell_regrown p2 d os
            have p3 : wr.cell? ⟨w.heap.size, 3, none⟩ = some (.bool sd) := HX.out.one 3
            have Ap3 := fun d os => cell_regrown p3 d os
            have p4 : wr.cell? ⟨w.heap.size, 4, none⟩ = some (.slice seo sen sec) := HX.out.one 4
            have Ap4 := fun d os => cell_regrown p4 d os
            have p5 : wr.cell? ⟨w.heap.size, 5, none⟩ = some (.bool sf) := HX.out.one 5
            have Ap5 := fun d os => cell_regrown p5 d os
            have p6 : wr.cell? ⟨w.heap.size, 6, none⟩ = some (.slice sgo sgn sgc) := HX.out.one 6
            have Ap6 := fun d os => cell_regrown p6 d os
            have p7 : wr.cell? ⟨w.heap.size, 7, none⟩ = some (.slice sio sinn sic) := HX.out.one 7
            have Ap7 := fun d os => cell_regrown p7 d os
            have p8 : wr.cell? ⟨w.heap.size, 8, none⟩ = some (.slice sjo sjn sjc) := HX.out.one 8
            have Ap8 := fun d os => cell_regrown p8 d os
            cases r with
            | true =>
              have HN : Hid ((its.take (k + 1)).all (fun x => inN h x IT) = true) := by show _ = _; rw [HU.out, HQ.out]; rfl
              clear HU HNo HQ
              go_wp2_with fail
              refine wp_region_quiet_below (by kernel_rfl) (by kernel_rfl) ?_
              repeat (go_big_quiet_step (exact Calls.regrown_of (HC.out _ _)))
              refine wpQuiet_nil ?_
              intro w9 hw'
              have hbw9 : Below wr.heap.size wr w9 := by
                obtain ⟨⟨dq, osq⟩, rfl⟩ := hw'
                exact below_regrown wr dq osq
              clear hw'
              have HX9 := Hid.mk (HX.out.keep hbw9)
              clear hbw9 Ax0 x0 Ax1 x1 Ax2 x2 Ax3 x3 Ax4 x4 Ap0 p0 Ap1 p1 Ap2 p2 Ap3 p3 Ap4 p4 Ap5 p5 Ap6 p6 Ap7 p7 Ap8 p8
              go_wp2_with fail
              go_roundw
              case rel => exact ⟨k + 1, hlt, by go_num, HX9, HN⟩
              case measure => simp [intOf]; omega
            | false =>
              have HF := Hid.mk (HNo.out rfl)
              clear HU HNo HQ
              go_wp2_with fail
              refine wp_region_quiet_below (by kernel_rfl) (by kernel_rfl) ?_
              repeat (go_big_quiet_step (exact Calls.regrown_of (HC.out _ _)))
              refine wpQuiet_nil ?_
              intro w9 hw'
              have hbw9 : Below wr.heap.size wr w9 := by
                obtain ⟨⟨dq, osq⟩, rfl⟩ := hw'
                exact below_regrown wr dq osq
              clear hw'
              have HX9 := Hid.mk (HX.out.keep hbw9)
              clear hbw9 Ax0 x0 Ax1 x1 Ax2 x2 Ax3 x3 Ax4 x4 Ap0 p0 Ap1 p1 Ap2 p2 Ap3 p3 Ap4 p4 Ap5 p5 Ap6 p6 Ap7 p7 Ap8 p8
              go_wp2_with fail
              go_ret
              exact ⟨by rw [HF.out]; rfl, HX9.out.below⟩
          · have hl1 : ¬ (k : Int) < (N : Int) := by omega
            have HF : Hid (R = true) := by
              show _ = _
              have e := HQ.out
              rw [List.take_of_length_le (by rw [HNN.out]; omega)] at e
              rw [HR2.out, e]
            clear HQ
            go_wp2_with fail
            go_ret
            exact ⟨by rw [HF.out]; rfl, HX.out.below⟩
end Go.Proofs.Ytihhjplbpaafiaa
