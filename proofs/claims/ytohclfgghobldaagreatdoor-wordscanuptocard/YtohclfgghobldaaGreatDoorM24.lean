import Derived.Test.YtohclfgghobldaaGreatDoorM23
namespace Go.Proofs.YtohclfgghobldaaGreatDoor
open Go.RowKit
set_option linter.unusedVariables false
set_option linter.unusedSimpArgs false

/-- no rune's encoding stands there -/
theorem none_there {s : ByteArray} {f : Nat} (hf : f < s.size) (h : ∀ m, isR m → ¬ stands s f (enc m)) : decL (s.data.toList.drop f) = (65533, 1) ∧ strayL (s.data.toList.drop f) = true := by
  rcases stray_or _ (drop_ne hf) with ⟨n, post, hn, hl, _⟩ | h2
  · exact absurd ((stands_iff s f (enc n) (by omega)).2 ⟨post, hl⟩) (h n hn)
  · exact h2
theorem some_there {s : ByteArray} {f m : Nat} (hf : f < s.size) (hm : isR m) (h : stands s f (enc m)) : decL (s.data.toList.drop f) = (m, (enc m).length) ∧ strayL (s.data.toList.drop f) = false := by
  obtain ⟨post, hl⟩ := (stands_iff s f (enc m) (by omega)).1 h
  rw [hl]
  exact ⟨dec_enc m hm post, stray_enc m hm post⟩

/-- the reference's piece -/
def pcV (s : ByteArray) (f : Nat) : Value := .agg #[.int .i64 (f : Int), .int .i64 ((f + (decL (s.data.toList.drop f)).2 : Nat) : Int), .int .i64 ((decL (s.data.toList.drop f)).1 : Int), .bool (strayL (s.data.toList.drop f))]

def pz : Obj := .cells #[.int .i64 0, .int .i64 0, .int .i64 0, .bool false] 86
structure PB (w u : World) : Prop where
  row : u.heap[w.heap.size]? = some pz
  below : Below w.heap.size w u
theorem PB.keep {w u u' : World} (h : PB w u) (hb : Below u.heap.size u u') : PB w u' :=
  ⟨by have hl := (Array.getElem?_eq_some_iff.1 h.row).1
      rw [hb.block _ hl]; exact h.row, h.below.trans (hb.mono h.below.size)⟩
theorem PB.new (w : World) : PB w (w.alloc pz) := ⟨heap_alloc_new w pz, below1 w pz⟩
theorem PB.cell {w u : World} (h : PB w u) (i : Nat) (v : Value) (hv : (#[.int .i64 0, .int .i64 0, .int .i64 0, .bool false] : Array Value)[i]? = some v) : u.cell? ⟨w.heap.size, i, none⟩ = some v := by
  rw [cell_of_row u w.heap.size i _ _ _ h.row]; exact hv
theorem PB.free {w u : World} (h : PB w u) (i : Nat) : u.frozen? ⟨w.heap.size, i, none⟩ = false := frozen_of_row u w.heap.size i _ _ h.row

theorem pfill {u : World} {g : Nat} {x0 x1 x2 x3 a b c d : Value} (c0 : u.cell? ⟨g, 0, none⟩ = some x0) (c1 : u.cell? ⟨g, 1, none⟩ = some x1) (c2 : u.cell? ⟨g, 2, none⟩ = some x2) (c3 : u.cell? ⟨g, 3, none⟩ = some x3) :
    ((((u.setCell ⟨g, 0, none⟩ a).setCell ⟨g, 1, none⟩ b).setCell ⟨g, 2, none⟩ c).setCell ⟨g, 3, none⟩ d).cell? ⟨g, 0, none⟩ = some a ∧
    ((((u.setCell ⟨g, 0, none⟩ a).setCell ⟨g, 1, none⟩ b).setCell ⟨g, 2, none⟩ c).setCell ⟨g, 3, none⟩ d).cell? ⟨g, 1, none⟩ = some b ∧
    ((((u.setCell ⟨g, 0, none⟩ a).setCell ⟨g, 1, none⟩ b).setCell ⟨g, 2, none⟩ c).setCell ⟨g, 3, none⟩ d).cell? ⟨g, 2, none⟩ = some c ∧
    ((((u.setCell ⟨g, 0, none⟩ a).setCell ⟨g, 1, none⟩ b).setCell ⟨g, 2, none⟩ c).setCell ⟨g, 3, none⟩ d).cell? ⟨g, 3, none⟩ = some d := by
  have d1 : (u.setCell ⟨g, 0, none⟩ a).cell? ⟨g, 1, none⟩ = some x1 := by rw [World.cell?_setCell_other _ _ _ _ (by simp)]; exact c1
  have d2 : ((u.setCell ⟨g, 0, none⟩ a).setCell ⟨g, 1, none⟩ b).cell? ⟨g, 2, none⟩ = some x2 := by rw [World.cell?_setCell_other _ _ _ _ (by simp), World.cell?_setCell_other _ _ _ _ (by simp)]; exact c2
  have d3 : (((u.setCell ⟨g, 0, none⟩ a).setCell ⟨g, 1, none⟩ b).setCell ⟨g, 2, none⟩ c).cell? ⟨g, 3, none⟩ = some x3 := by rw [World.cell?_setCell_other _ _ _ _ (by simp), World.cell?_setCell_other _ _ _ _ (by simp), World.cell?_setCell_other _ _ _ _ (by simp)]; exact c3
  refine ⟨?_, ?_, ?_, World.cell?_setCell_same _ _ _ d3⟩
  · rw [World.cell?_setCell_other _ _ _ _ (by simp), World.cell?_setCell_other _ _ _ _ (by simp), World.cell?_setCell_other _ _ _ _ (by simp)]; exact World.cell?_setCell_same _ _ _ c0
  · rw [World.cell?_setCell_other _ _ _ _ (by simp), World.cell?_setCell_other _ _ _ _ (by simp)]; exact World.cell?_setCell_same _ _ _ d1
  · rw [World.cell?_setCell_other _ _ _ _ (by simp)]; exact World.cell?_setCell_same _ _ _ d2
theorem pbelow {w u : World} (h : Below w.heap.size w u) (a b c d : Value) : Below w.heap.size w ((((u.setCell ⟨w.heap.size, 0, none⟩ a).setCell ⟨w.heap.size, 1, none⟩ b).setCell ⟨w.heap.size, 2, none⟩ c).setCell ⟨w.heap.size, 3, none⟩ d) :=
  (((h.setCell (Nat.le_refl _) _).setCell (Nat.le_refl _) _).setCell (Nat.le_refl _) _).setCell (Nat.le_refl _) _

/-- while at looks -/
structure AtSt (s : ByteArray) (f : Nat) (w wr : World) (j : Nat) : Prop where
  box : PB w wr
  no : ∀ m, isR m → (enc m).length < j → ¬ stands s f (enc m)

theorem enc_len4 (m : Nat) : 1 ≤ (enc m).length ∧ (enc m).length ≤ 4 := by
  unfold enc
  split
  · simp
  · split
    · simp
    · split <;> simp

set_option maxRecDepth 100000 in
set_option maxHeartbeats 4000000 in
theorem w_at (s : ByteArray) (f : Nat) (w : World) (hf : f < s.size) (hs : s.size ≤ 4611686018427387900) :
    Calls Tryz.prog 91 #[.string s, .int .i64 (f : Int)] w fun e w' => e = .returned (pcV s f) ∧ Below w.heap.size w w' := by
  have HP0 := Hid.mk (PB.new w)
  unfold pz at HP0
  go_enter Tryz.func91, Tryz.ntmps91
  go_wp2_with fail
  go_loopw [5, 6] (fun k _ wr => ∃ j : Nat, 1 ≤ j ∧ j ≤ 5 ∧ k = .int .i64 (j : Int) ∧ Hid (AtSt s f w wr j)) (fun k _ _ => 5 - (intOf k).toNat)
  case atStart => exact ⟨1, Nat.le_refl _, by omega, rfl, HP0.out, fun m _ h => by have := enc_len4 m; omega⟩
  case round =>
    obtain ⟨j, hj1, hj5, rfl, HQ⟩ := hrel
    by_cases hj4 : j ≤ 4
    · have r1 : (j : Int) ≤ 4 := by omega
      by_cases hin : f + j ≤ s.size
      · have r2 : (f : Int) + (j : Int) ≤ (s.size : Int) := by omega
        have HSp := Hid.mk (w_spelled s f j wr hj1 hj4 hin (by omega))
        go_wp2_with fail
        refine HSp.out.mono ?_
        rintro e w1 ⟨v, rfl, HV, hb1⟩
        have HP1 := Hid.mk (HQ.out.box.keep hb1)
        clear hb1 HSp
        rcases HV.out.some with hv | ⟨m, hv, hm, hl⟩
        · have HN : Hid (AtSt s f w w1 (j + 1)) := ⟨HP1.out, fun m h1 h2 h3 => by
            rcases Nat.lt_or_ge (enc m).length j with g | g
            · exact HQ.out.no m h1 g h3
            · have := HV.out.told m h1 (by omega) h3
              omega⟩
          clear HV
          subst hv
          go_wp2_with fail
          go_roundw
          case rel => exact ⟨j + 1, by omega, by omega, by go_num, HN⟩
          case measure => simp [intOf]; omega
        · subst hv
          have r3 : (0 : Int) ≤ (m : Int) := by omega
          have HE := Hid.mk (w_Encoding (m : Int) w1)
          rw [rn_nat hm] at HE
          have HM := Hid.mk hm
          have HL := Hid.mk hl
          clear hm hl
          go_wp2_with fail
          refine HE.out.mono ?_
          rintro e w2 ⟨g, rfl, hg, HB, hb2⟩
          have HP2 := Hid.mk (HP1.out.keep hb2)
          have HSm := Hid.mk (w_same s f g (enc m) w2 HB.out (by omega) (by omega) (by have := enc_len4 m; omega))
          clear hb2 HE
          go_wp2_with fail
          refine HSm.out.mono ?_
          rintro e w3 ⟨rfl, hb3⟩
          have HP3 := Hid.mk (HP2.out.keep hb3)
          clear hb3 HSm
          by_cases hst : stands s f (enc m)
          · rw [decide_eq_true hst]
            have c0 := HP3.out.cell 0 _ rfl
            have c1 := HP3.out.cell 1 _ rfl
            have c2 := HP3.out.cell 2 _ rfl
            have c3 := HP3.out.cell 3 _ rfl
            have f0 := HP3.out.free 0
            have f1 := HP3.out.free 1
            have f2 := HP3.out.free 2
            have f3 := HP3.out.free 3
            obtain ⟨p0, p1, p2, p3⟩ := pfill (a := .int .i64 (f : Int)) (b := .int .i64 ((f : Int) + (j : Int))) (c := .int .i64 (m : Int)) (d := .bool false) c0 c1 c2 c3
            have HBf := Hid.mk (pbelow HP3.out.below (.int .i64 (f : Int)) (.int .i64 ((f : Int) + (j : Int))) (.int .i64 (m : Int)) (.bool false))
            have HPc : Hid (pcV s f = .agg #[.int .i64 (f : Int), .int .i64 ((f : Int) + (j : Int)), .int .i64 (m : Int), .bool false]) := by
              show _ = _
              obtain ⟨t1, t2⟩ := some_there hf HM.out hst
              unfold pcV
              rw [t1, t2, HL.out]
              simp
            clear hst
            go_wp2_with fail
            refine bodyPost_ret (v := .agg #[.int .i64 (f : Int), .int .i64 ((f : Int) + (j : Int)), .int .i64 (m : Int), .bool false]) (by simp [results, Tryz.results91, go_sem, p0, p1, p2, p3]) rfl ?_
            exact ⟨by rw [HPc.out], HBf.out⟩
          · rw [decide_eq_false hst]
            have HN : Hid (AtSt s f w w3 (j + 1)) := ⟨HP3.out, fun m' h1 h2 h3 => by
              rcases Nat.lt_or_ge (enc m').length j with g | g
              · exact HQ.out.no m' h1 g h3
              · have h4 := HV.out.told m' h1 (by omega) h3
                have h5 : m = m' := by omega
                subst h5
                exact hst h3⟩
            clear hst
            go_wp2_with fail
            go_roundw
            case rel => exact ⟨j + 1, by omega, by omega, by go_num, HN⟩
            case measure => simp [intOf]; omega
      · have r2 : ¬ (f : Int) + (j : Int) ≤ (s.size : Int) := by omega
        have HNo : Hid (∀ m, isR m → ¬ stands s f (enc m)) := fun m h1 h3 => by
          rcases Nat.lt_or_ge (enc m).length j with g | g
          · exact HQ.out.no m h1 g h3
          · have := h3.1; omega
        obtain ⟨HP3⟩ : Nonempty (Hid (PB w wr)) := ⟨HQ.out.box⟩
        have c0 := HP3.out.cell 0 _ rfl
        have c1 := HP3.out.cell 1 _ rfl
        have c2 := HP3.out.cell 2 _ rfl
        have c3 := HP3.out.cell 3 _ rfl
        have f0 := HP3.out.free 0
        have f1 := HP3.out.free 1
        have f2 := HP3.out.free 2
        have f3 := HP3.out.free 3
        obtain ⟨p0, p1, p2, p3⟩ := pfill (a := .int .i64 (f : Int)) (b := .int .i64 ((f : Int) + 1)) (c := .int .i64 65533) (d := .bool true) c0 c1 c2 c3
        have HBf := Hid.mk (pbelow HP3.out.below (.int .i64 (f : Int)) (.int .i64 ((f : Int) + 1)) (.int .i64 65533) (.bool true))
        have HPc : Hid (pcV s f = .agg #[.int .i64 (f : Int), .int .i64 ((f : Int) + 1), .int .i64 65533, .bool true]) := by
          show _ = _
          obtain ⟨t1, t2⟩ := none_there hf HNo.out
          unfold pcV
          rw [t1, t2]
          simp
        go_wp2_with fail
        refine bodyPost_ret (v := .agg #[.int .i64 (f : Int), .int .i64 ((f : Int) + 1), .int .i64 65533, .bool true]) (by simp [results, Tryz.results91, go_sem, p0, p1, p2, p3]) rfl ?_
        exact ⟨by rw [HPc.out], HBf.out⟩
    · have r1 : ¬ (j : Int) ≤ 4 := by omega
      have HNo : Hid (∀ m, isR m → ¬ stands s f (enc m)) := fun m h1 h3 => HQ.out.no m h1 (by have := enc_len4 m; omega) h3
      obtain ⟨HP3⟩ : Nonempty (Hid (PB w wr)) := ⟨HQ.out.box⟩
      have c0 := HP3.out.cell 0 _ rfl
      have c1 := HP3.out.cell 1 _ rfl
      have c2 := HP3.out.cell 2 _ rfl
      have c3 := HP3.out.cell 3 _ rfl
      have f0 := HP3.out.free 0
      have f1 := HP3.out.free 1
      have f2 := HP3.out.free 2
      have f3 := HP3.out.free 3
      obtain ⟨p0, p1, p2, p3⟩ := pfill (a := .int .i64 (f : Int)) (b := .int .i64 ((f : Int) + 1)) (c := .int .i64 65533) (d := .bool true) c0 c1 c2 c3
      have HBf := Hid.mk (pbelow HP3.out.below (.int .i64 (f : Int)) (.int .i64 ((f : Int) + 1)) (.int .i64 65533) (.bool true))
      have HPc : Hid (pcV s f = .agg #[.int .i64 (f : Int), .int .i64 ((f : Int) + 1), .int .i64 65533, .bool true]) := by
        show _ = _
        obtain ⟨t1, t2⟩ := none_there hf HNo.out
        unfold pcV
        rw [t1, t2]
        simp
      go_wp2_with fail
      refine bodyPost_ret (v := .agg #[.int .i64 (f : Int), .int .i64 ((f : Int) + 1), .int .i64 65533, .bool true]) (by simp [results, Tryz.results91, go_sem, p0, p1, p2, p3]) rfl ?_
      exact ⟨by rw [HPc.out], HBf.out⟩
end Go.Proofs.YtohclfgghobldaaGreatDoor
