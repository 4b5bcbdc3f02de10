import Derived.Test.YtfgfgcecbodjeaaGreatDoorZS5b
import Derived.Test.YtfgfgcecbodjeaaGreatDoorZRR19
import Derived.Test.YtfgfgcecbodjeaaGreatDoorM40
import Derived.Lib.QuietBelow
import Derived.BigQuiet
import Derived.Test.YtfgfgcecbodjeaaGreatDoorX0
namespace Go.Proofs.YtfgfgcecbodjeaaGreatDoor
open Go.RowKit Go.Shelf Go.Sort
set_option linter.unusedVariables false
set_option linter.unusedSimpArgs false
attribute [local go_sem] Oper.semAt_some

theorem risK_get : ∀ (l : List ByteArray), RisK l → ∀ j, j + 1 < l.length → (l.getD j .empty).data.toList < (l.getD (j + 1) .empty).data.toList
  | [], _, j, h => by simp at h
  | [_], _, j, h => by simp at h
  | a :: b :: r, hr, 0, h => hr.1
  | a :: b :: r, hr, j + 1, h => by
    have := risK_get (b :: r) hr.2 j (by simpa using h)
    simpa using this

set_option maxRecDepth 100000 in
set_option maxHeartbeats 6400000 in
theorem w_5Right_n5 (M : Nat) (hM : M ≤ 16777216) (d h N K : Nat) (hd : d ≤ 1000) (items : List VT) (keys : List ByteArray) (hN : items.length = N) (hK : keys.length = K) (io ko : Option Addr) (ic kc : Nat) (w : World) (l1 : N ≤ 140737488355328) (l2 : K ≤ 140737488355328) (l3 : N ≤ ic) (l4 : K ≤ kc) (hKN : K = 0)
    (hk : KIn w ko keys) (hv : VRw w h items io) (hok : ∀ k ∈ keys, okB k.data.toList = true ∧ k.size ≤ M) (hri : RisK keys)
    (IH : ∀ x ∈ items, ∀ (v : Value) (u : World), InH u h x v → Calls Tryz.prog 18 #[v, .int .i64 (d : Int)] u fun e w' => e = .returned (.bool true) ∧ Below u.heap.size u w') :
    Calls Tryz.prog 18 #[.agg #[.int .i64 5, .string ⟨#[]⟩, .string ⟨#[]⟩, .slice io N ic, .slice ko K kc], .int .i64 ((d : Int) + 1)] w fun e w' => e = .returned (.bool true) ∧ Below w.heap.size w w' := by
  have HVd := Hid.mk (fun (u : World) => w_rValidV ⟨#[]⟩ u (by decide))
  rw [show okB (⟨#[]⟩ : ByteArray).data.toList = true from (by decide)] at HVd
  have hn0 := heap_alloc_new w (.cells #[.int .i64 5, .string ⟨#[]⟩, .string ⟨#[]⟩, .slice io N ic, .slice ko K kc] 37)
  have HN0 := Hid.mk hn0
  have HIH := Hid.mk IH
  have HKK := Hid.mk (And.intro hK hN)
  have HKI := Hid.mk (And.intro hk hv)
  have HOk := Hid.mk (And.intro hok hri)
  have gd : ¬ ((d : Int) + 1 < 1) := by omega
  have gd2 : decide ((d : Int) + 1 < 1) = false := by simp; omega

  have HKN := Hid.mk hKN
  have g0 : ¬ (0 : Int) < (K : Int) ∨ True := .inr trivial
  clear hn0 IH hK hN hk hv hok hri g0 
  subst hKN
  go_enter Tryz.func18, Tryz.ntmps18
  go_wp2_with fail
  all_goals
    refine (HVd.out _).mono ?_
    rintro e w2 ⟨rfl, hb2⟩
    have HBx : Hid (Below w.heap.size w w2 ∧ w2.heap[w.heap.size]? = some (.cells #[.int .i64 5, .string ⟨#[]⟩, .string ⟨#[]⟩, .slice io N ic, .slice ko 0 kc] 37 (0, 0))) := ⟨(below1 w _).trans (hb2.mono (by simp)), (hb2.block _ (by simp)).trans HN0.out⟩
    obtain ⟨b0, b1, b2, b3, b4, _, _, _, _, _⟩ := vbox_cells HBx.out.2
    clear hb2
    by_cases hN0 : N = 0
    · have hNi : ¬ (0 : Int) < (N : Int) := by omega
      have hNn : ¬ 0 < N := by omega
      clear hN0
      go_wp2_with fail
      clear hNi hNn
      go_loopw [6] (fun i wr => i = .int .i64 0 ∧ Hid (Below w.heap.size w wr ∧ wr.heap[w.heap.size]? = some (.cells #[.int .i64 5, .string ⟨#[]⟩, .string ⟨#[]⟩, .slice io N ic, .slice ko 0 kc] 37 (0, 0)))) (fun i _ => 0)
      case atStart => exact ⟨rfl, HBx⟩
      case round =>
        clear HBx b0 b1 b2 b3 b4
        obtain ⟨rfl, HBx⟩ := hrel
        obtain ⟨b0, b1, b2, b3, b4, _, _, _, _, _⟩ := vbox_cells HBx.out.2
        go_wp2_with fail
        go_loopw [7] (fun i wr => ∃ m : Nat, m ≤ N ∧ i = .int .i64 (m : Int) ∧ Hid (Below w.heap.size w wr ∧ wr.heap[w.heap.size]? = some (.cells #[.int .i64 5, .string ⟨#[]⟩, .string ⟨#[]⟩, .slice io N ic, .slice ko 0 kc] 37 (0, 0)))) (fun i _ => N - (intOf i).toNat)
        case atStart => exact ⟨0, Nat.zero_le _, rfl, HBx⟩
        case round =>
          clear HBx b0 b1 b2 b3 b4
          obtain ⟨m, hm, rfl, HBx⟩ := hrel
          obtain ⟨b0, b1, b2, b3, b4, _, _, _, _, _⟩ := vbox_cells HBx.out.2
          by_cases hlt2 : m < N
          · have hl2 : (m : Int) < (N : Int) := by omega
            have hl3 : (0 : Int) ≤ (m : Int) := by omega
            have hml : m < items.length := by rw [HKK.out.2]; exact hlt2
            obtain ⟨ib, ioff, hio, hibl, hirow⟩ := HKI.out.2.row (by omega)
            rw [hio] at b3
            clear hio
            obtain ⟨v0, v1, v2, v3, v4, ⟨c0, c1, c2, c3, c4⟩, hI⟩ := hirow m hml
            have kc' : ∀ {o : Nat} {v : Value}, w.cell? ⟨ib, o, none⟩ = some v → wr.cell? ⟨ib, o, none⟩ = some v := fun {o v} h => (World.cell?_of_block (a := ⟨ib, o, none⟩) (HBx.out.1.block ib hibl)).trans h
            have HC := Hid.mk (HIH.out items[m] (List.getElem_mem hml) _ wr (hI.keep HBx.out.1))
            obtain ⟨_, _, _, _, _, _, _, _, _, ep⟩ := inH_shape hI
            simp only [Value.agg.injEq, Array.mk.injEq, List.cons.injEq, and_true] at ep
            obtain ⟨rfl, rfl, rfl, rfl, rfl⟩ := ep
            have e0 := kc' c0
            have e1 := kc' c1
            have e2 := kc' c2
            have e3 := kc' c3
            have e4 := kc' c4
            clear hirow hibl hml hI kc' c0 c1 c2 c3 c4
            go_wp2_with fail
            refine HC.out.mono ?_
            rintro e w3 ⟨rfl, hb3⟩
            have HB3 : Hid (Below w.heap.size w w3 ∧ w3.heap[w.heap.size]? = some (.cells #[.int .i64 5, .string ⟨#[]⟩, .string ⟨#[]⟩, .slice io N ic, .slice ko 0 kc] 37 (0, 0))) := ⟨HBx.out.1.trans (hb3.mono HBx.out.1.size), (hb3.block _ (Array.getElem?_eq_some_iff.1 HBx.out.2).1).trans HBx.out.2⟩
            clear hb3 HC e0 e1 e2 e3 e4
            go_wp2_with fail
            go_roundw
            case rel => exact ⟨m + 1, hlt2, by go_num, HB3⟩
            case measure => simp [intOf]; omega
          · have hl2 : ¬ (m : Int) < (N : Int) := by omega
            go_wp2_with fail
            go_ret
            exact ⟨rfl, HBx.out.1⟩
    · have hNi : (0 : Int) < (N : Int) := by omega
      have hNn : 0 < N := by omega
      clear hN0
      go_wp2_with fail
      clear hNi hNn
      go_loopw [6] (fun i wr => i = .int .i64 0 ∧ Hid (Below w.heap.size w wr ∧ wr.heap[w.heap.size]? = some (.cells #[.int .i64 5, .string ⟨#[]⟩, .string ⟨#[]⟩, .slice io N ic, .slice ko 0 kc] 37 (0, 0)))) (fun i _ => 0)
      case atStart => exact ⟨rfl, HBx⟩
      case round =>
        clear HBx b0 b1 b2 b3 b4
        obtain ⟨rfl, HBx⟩ := hrel
        obtain ⟨b0, b1, b2, b3, b4, _, _, _, _, _⟩ := vbox_cells HBx.out.2
        go_wp2_with fail
        go_loopw [7] (fun i wr => ∃ m : Nat, m ≤ N ∧ i = .int .i64 (m : Int) ∧ Hid (Below w.heap.size w wr ∧ wr.heap[w.heap.size]? = some (.cells #[.int .i64 5, .string ⟨#[]⟩, .string ⟨#[]⟩, .slice io N ic, .slice ko 0 kc] 37 (0, 0)))) (fun i _ => N - (intOf i).toNat)
        case atStart => exact ⟨0, Nat.zero_le _, rfl, HBx⟩
        case round =>
          clear HBx b0 b1 b2 b3 b4
          obtain ⟨m, hm, rfl, HBx⟩ := hrel
          obtain ⟨b0, b1, b2, b3, b4, _, _, _, _, _⟩ := vbox_cells HBx.out.2
          by_cases hlt2 : m < N
          · have hl2 : (m : Int) < (N : Int) := by omega
            have hl3 : (0 : Int) ≤ (m : Int) := by omega
            have hml : m < items.length := by rw [HKK.out.2]; exact hlt2
            obtain ⟨ib, ioff, hio, hibl, hirow⟩ := HKI.out.2.row (by omega)
            rw [hio] at b3
            clear hio
            obtain ⟨v0, v1, v2, v3, v4, ⟨c0, c1, c2, c3, c4⟩, hI⟩ := hirow m hml
            have kc' : ∀ {o : Nat} {v : Value}, w.cell? ⟨ib, o, none⟩ = some v → wr.cell? ⟨ib, o, none⟩ = some v := fun {o v} h => (World.cell?_of_block (a := ⟨ib, o, none⟩) (HBx.out.1.block ib hibl)).trans h
            have HC := Hid.mk (HIH.out items[m] (List.getElem_mem hml) _ wr (hI.keep HBx.out.1))
            obtain ⟨_, _, _, _, _, _, _, _, _, ep⟩ := inH_shape hI
            simp only [Value.agg.injEq, Array.mk.injEq, List.cons.injEq, and_true] at ep
            obtain ⟨rfl, rfl, rfl, rfl, rfl⟩ := ep
            have e0 := kc' c0
            have e1 := kc' c1
            have e2 := kc' c2
            have e3 := kc' c3
            have e4 := kc' c4
            clear hirow hibl hml hI kc' c0 c1 c2 c3 c4
            go_wp2_with fail
            refine HC.out.mono ?_
            rintro e w3 ⟨rfl, hb3⟩
            have HB3 : Hid (Below w.heap.size w w3 ∧ w3.heap[w.heap.size]? = some (.cells #[.int .i64 5, .string ⟨#[]⟩, .string ⟨#[]⟩, .slice io N ic, .slice ko 0 kc] 37 (0, 0))) := ⟨HBx.out.1.trans (hb3.mono HBx.out.1.size), (hb3.block _ (Array.getElem?_eq_some_iff.1 HBx.out.2).1).trans HBx.out.2⟩
            clear hb3 HC e0 e1 e2 e3 e4
            go_wp2_with fail
            go_roundw
            case rel => exact ⟨m + 1, hlt2, by go_num, HB3⟩
            case measure => simp [intOf]; omega
          · have hl2 : ¬ (m : Int) < (N : Int) := by omega
            go_wp2_with fail
            go_ret
            exact ⟨rfl, HBx.out.1⟩

set_option maxRecDepth 100000 in
set_option maxHeartbeats 6400000 in
theorem w_5Right_n6 (M : Nat) (hM : M ≤ 16777216) (d h N K : Nat) (hd : d ≤ 1000) (items : List VT) (keys : List ByteArray) (hN : items.length = N) (hK : keys.length = K) (io ko : Option Addr) (ic kc : Nat) (w : World) (l1 : N ≤ 140737488355328) (l2 : K ≤ 140737488355328) (l3 : N ≤ ic) (l4 : K ≤ kc) (hKN : K = N)
    (hk : KIn w ko keys) (hv : VRw w h items io) (hok : ∀ k ∈ keys, okB k.data.toList = true ∧ k.size ≤ M) (hri : RisK keys)
    (IH : ∀ x ∈ items, ∀ (v : Value) (u : World), InH u h x v → Calls Tryz.prog 18 #[v, .int .i64 (d : Int)] u fun e w' => e = .returned (.bool true) ∧ Below u.heap.size u w') :
    Calls Tryz.prog 18 #[.agg #[.int .i64 6, .string ⟨#[]⟩, .string ⟨#[]⟩, .slice io N ic, .slice ko K kc], .int .i64 ((d : Int) + 1)] w fun e w' => e = .returned (.bool true) ∧ Below w.heap.size w w' := by
  have HVd := Hid.mk (fun (u : World) => w_rValidV ⟨#[]⟩ u (by decide))
  rw [show okB (⟨#[]⟩ : ByteArray).data.toList = true from (by decide)] at HVd
  have hn0 := heap_alloc_new w (.cells #[.int .i64 6, .string ⟨#[]⟩, .string ⟨#[]⟩, .slice io N ic, .slice ko K kc] 37)
  have HN0 := Hid.mk hn0
  have HIH := Hid.mk IH
  have HKK := Hid.mk (And.intro hK hN)
  have HKI := Hid.mk (And.intro hk hv)
  have HOk := Hid.mk (And.intro hok hri)
  have gd : ¬ ((d : Int) + 1 < 1) := by omega
  have gd2 : decide ((d : Int) + 1 < 1) = false := by simp; omega
  have gk : ((K : Int) != (N : Int)) = false := by simp; omega
  have HKN := Hid.mk hKN
  have g0 : ¬ (0 : Int) < (K : Int) ∨ True := .inr trivial
  clear hn0 IH hK hN hk hv hok hri g0 hKN

  go_enter Tryz.func18, Tryz.ntmps18
  go_wp2_with fail
  all_goals
    refine (HVd.out _).mono ?_
    rintro e w2 ⟨rfl, hb2⟩
    have HBx : Hid (Below w.heap.size w w2 ∧ w2.heap[w.heap.size]? = some (.cells #[.int .i64 6, .string ⟨#[]⟩, .string ⟨#[]⟩, .slice io N ic, .slice ko K kc] 37 (0, 0))) := ⟨(below1 w _).trans (hb2.mono (by simp)), (hb2.block _ (by simp)).trans HN0.out⟩
    obtain ⟨b0, b1, b2, b3, b4, _, _, _, _, _⟩ := vbox_cells HBx.out.2
    clear hb2
    by_cases hN0 : N = 0
    · have hNi : ¬ (0 : Int) < (N : Int) := by omega
      have hNn : ¬ 0 < N := by omega
      clear hN0
      go_wp2_with fail
      clear hNi hNn
      go_loopw [6] (fun i wr => ∃ k : Nat, k ≤ K ∧ i = .int .i64 (k : Int) ∧ Hid (Below w.heap.size w wr ∧ wr.heap[w.heap.size]? = some (.cells #[.int .i64 6, .string ⟨#[]⟩, .string ⟨#[]⟩, .slice io N ic, .slice ko K kc] 37 (0, 0)))) (fun i _ => K - (intOf i).toNat)
      case atStart => exact ⟨0, Nat.zero_le _, rfl, HBx⟩
      case round =>
        clear HBx b0 b1 b2 b3 b4
        obtain ⟨k, hk, rfl, HBx⟩ := hrel
        obtain ⟨b0, b1, b2, b3, b4, _, _, _, _, _⟩ := vbox_cells HBx.out.2
        by_cases hlt : k < K
        · have hl1 : (k : Int) < (K : Int) := by omega
          have hl0 : (0 : Int) ≤ (k : Int) := by omega
          have hkl : k < keys.length := by rw [HKK.out.1]; exact hlt
          obtain ⟨ab, aoff, hao, habl, harow⟩ := HKI.out.1.row (by omega)
          rw [hao] at b4
          clear hao
          have kc' : ∀ {o : Nat} {v : Value}, w.cell? ⟨ab, o, none⟩ = some v → wr.cell? ⟨ab, o, none⟩ = some v := fun {o v} h => (World.cell?_of_block (a := ⟨ab, o, none⟩) (HBx.out.1.block ab habl)).trans h
          have ca := kc' (harow k hkl)
          have hmem : keys.getD k .empty ∈ keys := by simp [List.getD, hkl]
          have HY := Hid.mk (HOk.out.1 _ hmem)
          have A4 := fun d os => cell_regrown b4 d os
          by_cases hk0 : ¬ 0 < k
          · have z1 : decide ((0 : Int) < (k : Int)) = false := by simp; omega
            have z2 : decide (0 < k) = false := by simp; omega
            have z3 : ¬ (0 : Int) < (k : Int) := by omega
            generalize keys.getD k ByteArray.empty = y at ca HY
            have HC := Hid.mk (fun (d : Nat) (os : Array Obj) => w_rValidV y (grow (redrawn wr d) os) (by have := HY.out.2; omega))
            rw [HY.out.1] at HC
            have R1 := fun d os => cell_regrown ca d os
            clear harow habl hkl ca hmem kc'
            go_wp2_with fail
            refine wp_region_quiet_below (by kernel_rfl) (by kernel_rfl) ?_
            repeat (go_big_quiet_step (exact Calls.regrown_of (HC.out _ _)))
            refine wpQuiet_nil ?_
            intro w3 hw'
            have HB3 : Hid (Below w.heap.size w w3 ∧ w3.heap[w.heap.size]? = some (.cells #[.int .i64 6, .string ⟨#[]⟩, .string ⟨#[]⟩, .slice io N ic, .slice ko K kc] 37 (0, 0))) := by
              obtain ⟨⟨dq, osq⟩, rfl⟩ := hw'
              exact ⟨HBx.out.1.trans ((below_regrown wr dq osq).mono HBx.out.1.size), ((below_regrown wr dq osq).block _ (Array.getElem?_eq_some_iff.1 HBx.out.2).1).trans HBx.out.2⟩
            clear hw' R1 A4 HC
            go_wp2_with fail
            go_roundw
            case rel => exact ⟨k + 1, hlt, by go_num, HB3⟩
            case measure => simp [intOf]; omega
          · obtain ⟨j, rfl⟩ : ∃ j, k = j + 1 := ⟨k - 1, by omega⟩
            clear hk0
            have cb := kc' (harow j (by omega))
            have hris := risK_get keys HOk.out.2 j hkl
            have hlss : Op.bytesLess (keys.getD j ByteArray.empty).toList (keys.getD (j + 1) ByteArray.empty).toList = true := by
              rw [bytesLess_lt, decide_eq_true_eq, Lib.toList_data, Lib.toList_data]
              exact hris
            have hj0 : (0 : Int) ≤ (j : Int) := by omega
            have hj1 : (j : Int) < (K : Int) := by omega
            generalize keys.getD (j + 1) ByteArray.empty = y at ca HY hlss
            generalize keys.getD j ByteArray.empty = y' at cb hlss
            have HC := Hid.mk (fun (d : Nat) (os : Array Obj) => w_rValidV y (grow (redrawn wr d) os) (by have := HY.out.2; omega))
            rw [HY.out.1] at HC
            have R1 := fun d os => cell_regrown ca d os
            have R2 := fun d os => cell_regrown cb d os
            clear harow habl hkl ca cb hmem kc' hris
            go_wp2_with fail
            refine wp_region_quiet_below (by kernel_rfl) (by kernel_rfl) ?_
            repeat (go_big_quiet_step (exact Calls.regrown_of (HC.out _ _)))
            refine wpQuiet_nil ?_
            intro w3 hw'
            have HB3 : Hid (Below w.heap.size w w3 ∧ w3.heap[w.heap.size]? = some (.cells #[.int .i64 6, .string ⟨#[]⟩, .string ⟨#[]⟩, .slice io N ic, .slice ko K kc] 37 (0, 0))) := by
              obtain ⟨⟨dq, osq⟩, rfl⟩ := hw'
              exact ⟨HBx.out.1.trans ((below_regrown wr dq osq).mono HBx.out.1.size), ((below_regrown wr dq osq).block _ (Array.getElem?_eq_some_iff.1 HBx.out.2).1).trans HBx.out.2⟩
            clear hw' R1 R2 A4 HC
            go_wp2_with fail
            go_roundw
            case rel => exact ⟨j + 1 + 1, hlt, by go_num, HB3⟩
            case measure => simp [intOf]; omega
        · have hl1 : ¬ (k : Int) < (K : Int) := by omega
          clear hk
          go_wp2_with fail
          go_loopw [7] (fun i wr => ∃ m : Nat, m ≤ N ∧ i = .int .i64 (m : Int) ∧ Hid (Below w.heap.size w wr ∧ wr.heap[w.heap.size]? = some (.cells #[.int .i64 6, .string ⟨#[]⟩, .string ⟨#[]⟩, .slice io N ic, .slice ko K kc] 37 (0, 0)))) (fun i _ => N - (intOf i).toNat)
          case atStart => exact ⟨0, Nat.zero_le _, rfl, HBx⟩
          case round =>
            clear HBx b0 b1 b2 b3 b4
            obtain ⟨m, hm, rfl, HBx⟩ := hrel
            obtain ⟨b0, b1, b2, b3, b4, _, _, _, _, _⟩ := vbox_cells HBx.out.2
            by_cases hlt2 : m < N
            · have hl2 : (m : Int) < (N : Int) := by omega
              have hl3 : (0 : Int) ≤ (m : Int) := by omega
              have hml : m < items.length := by rw [HKK.out.2]; exact hlt2
              obtain ⟨ib, ioff, hio, hibl, hirow⟩ := HKI.out.2.row (by omega)
              rw [hio] at b3
              clear hio
              obtain ⟨v0, v1, v2, v3, v4, ⟨c0, c1, c2, c3, c4⟩, hI⟩ := hirow m hml
              have kc' : ∀ {o : Nat} {v : Value}, w.cell? ⟨ib, o, none⟩ = some v → wr.cell? ⟨ib, o, none⟩ = some v := fun {o v} h => (World.cell?_of_block (a := ⟨ib, o, none⟩) (HBx.out.1.block ib hibl)).trans h
              have HC := Hid.mk (HIH.out items[m] (List.getElem_mem hml) _ wr (hI.keep HBx.out.1))
              obtain ⟨_, _, _, _, _, _, _, _, _, ep⟩ := inH_shape hI
              simp only [Value.agg.injEq, Array.mk.injEq, List.cons.injEq, and_true] at ep
              obtain ⟨rfl, rfl, rfl, rfl, rfl⟩ := ep
              have e0 := kc' c0
              have e1 := kc' c1
              have e2 := kc' c2
              have e3 := kc' c3
              have e4 := kc' c4
              clear hirow hibl hml hI kc' c0 c1 c2 c3 c4
              go_wp2_with fail
              refine HC.out.mono ?_
              rintro e w3 ⟨rfl, hb3⟩
              have HB3 : Hid (Below w.heap.size w w3 ∧ w3.heap[w.heap.size]? = some (.cells #[.int .i64 6, .string ⟨#[]⟩, .string ⟨#[]⟩, .slice io N ic, .slice ko K kc] 37 (0, 0))) := ⟨HBx.out.1.trans (hb3.mono HBx.out.1.size), (hb3.block _ (Array.getElem?_eq_some_iff.1 HBx.out.2).1).trans HBx.out.2⟩
              clear hb3 HC e0 e1 e2 e3 e4
              go_wp2_with fail
              go_roundw
              case rel => exact ⟨m + 1, hlt2, by go_num, HB3⟩
              case measure => simp [intOf]; omega
            · have hl2 : ¬ (m : Int) < (N : Int) := by omega
              go_wp2_with fail
              go_ret
              exact ⟨rfl, HBx.out.1⟩
    · have hNi : (0 : Int) < (N : Int) := by omega
      have hNn : 0 < N := by omega
      clear hN0
      go_wp2_with fail
      clear hNi hNn
      go_loopw [6] (fun i wr => ∃ k : Nat, k ≤ K ∧ i = .int .i64 (k : Int) ∧ Hid (Below w.heap.size w wr ∧ wr.heap[w.heap.size]? = some (.cells #[.int .i64 6, .string ⟨#[]⟩, .string ⟨#[]⟩, .slice io N ic, .slice ko K kc] 37 (0, 0)))) (fun i _ => K - (intOf i).toNat)
      case atStart => exact ⟨0, Nat.zero_le _, rfl, HBx⟩
      case round =>
        clear HBx b0 b1 b2 b3 b4
        obtain ⟨k, hk, rfl, HBx⟩ := hrel
        obtain ⟨b0, b1, b2, b3, b4, _, _, _, _, _⟩ := vbox_cells HBx.out.2
        by_cases hlt : k < K
        · have hl1 : (k : Int) < (K : Int) := by omega
          have hl0 : (0 : Int) ≤ (k : Int) := by omega
          have hkl : k < keys.length := by rw [HKK.out.1]; exact hlt
          obtain ⟨ab, aoff, hao, habl, harow⟩ := HKI.out.1.row (by omega)
          rw [hao] at b4
          clear hao
          have kc' : ∀ {o : Nat} {v : Value}, w.cell? ⟨ab, o, none⟩ = some v → wr.cell? ⟨ab, o, none⟩ = some v := fun {o v} h => (World.cell?_of_block (a := ⟨ab, o, none⟩) (HBx.out.1.block ab habl)).trans h
          have ca := kc' (harow k hkl)
          have hmem : keys.getD k .empty ∈ keys := by simp [List.getD, hkl]
          have HY := Hid.mk (HOk.out.1 _ hmem)
          have A4 := fun d os => cell_regrown b4 d os
          by_cases hk0 : ¬ 0 < k
          · have z1 : decide ((0 : Int) < (k : Int)) = false := by simp; omega
            have z2 : decide (0 < k) = false := by simp; omega
            have z3 : ¬ (0 : Int) < (k : Int) := by omega
            generalize keys.getD k ByteArray.empty = y at ca HY
            have HC := Hid.mk (fun (d : Nat) (os : Array Obj) => w_rValidV y (grow (redrawn wr d) os) (by have := HY.out.2; omega))
            rw [HY.out.1] at HC
            have R1 := fun d os => cell_regrown ca d os
            clear harow habl hkl ca hmem kc'
            go_wp2_with fail
            refine wp_region_quiet_below (by kernel_rfl) (by kernel_rfl) ?_
            repeat (go_big_quiet_step (exact Calls.regrown_of (HC.out _ _)))
            refine wpQuiet_nil ?_
            intro w3 hw'
            have HB3 : Hid (Below w.heap.size w w3 ∧ w3.heap[w.heap.size]? = some (.cells #[.int .i64 6, .string ⟨#[]⟩, .string ⟨#[]⟩, .slice io N ic, .slice ko K kc] 37 (0, 0))) := by
              obtain ⟨⟨dq, osq⟩, rfl⟩ := hw'
              exact ⟨HBx.out.1.trans ((below_regrown wr dq osq).mono HBx.out.1.size), ((below_regrown wr dq osq).block _ (Array.getElem?_eq_some_iff.1 HBx.out.2).1).trans HBx.out.2⟩
            clear hw' R1 A4 HC
            go_wp2_with fail
            go_roundw
            case rel => exact ⟨k + 1, hlt, by go_num, HB3⟩
            case measure => simp [intOf]; omega
          · obtain ⟨j, rfl⟩ : ∃ j, k = j + 1 := ⟨k - 1, by omega⟩
            clear hk0
            have cb := kc' (harow j (by omega))
            have hris := risK_get keys HOk.out.2 j hkl
            have hlss : Op.bytesLess (keys.getD j ByteArray.empty).toList (keys.getD (j + 1) ByteArray.empty).toList = true := by
              rw [bytesLess_lt, decide_eq_true_eq, Lib.toList_data, Lib.toList_data]
              exact hris
            have hj0 : (0 : Int) ≤ (j : Int) := by omega
            have hj1 : (j : Int) < (K : Int) := by omega
            generalize keys.getD (j + 1) ByteArray.empty = y at ca HY hlss
            generalize keys.getD j ByteArray.empty = y' at cb hlss
            have HC := Hid.mk (fun (d : Nat) (os : Array Obj) => w_rValidV y (grow (redrawn wr d) os) (by have := HY.out.2; omega))
            rw [HY.out.1] at HC
            have R1 := fun d os => cell_regrown ca d os
            have R2 := fun d os => cell_regrown cb d os
            clear harow habl hkl ca cb hmem kc' hris
            go_wp2_with fail
            refine wp_region_quiet_below (by kernel_rfl) (by kernel_rfl) ?_
            repeat (go_big_quiet_step (exact Calls.regrown_of (HC.out _ _)))
            refine wpQuiet_nil ?_
            intro w3 hw'
            have HB3 : Hid (Below w.heap.size w w3 ∧ w3.heap[w.heap.size]? = some (.cells #[.int .i64 6, .string ⟨#[]⟩, .string ⟨#[]⟩, .slice io N ic, .slice ko K kc] 37 (0, 0))) := by
              obtain ⟨⟨dq, osq⟩, rfl⟩ := hw'
              exact ⟨HBx.out.1.trans ((below_regrown wr dq osq).mono HBx.out.1.size), ((below_regrown wr dq osq).block _ (Array.getElem?_eq_some_iff.1 HBx.out.2).1).trans HBx.out.2⟩
            clear hw' R1 R2 A4 HC
            go_wp2_with fail
            go_roundw
            case rel => exact ⟨j + 1 + 1, hlt, by go_num, HB3⟩
            case measure => simp [intOf]; omega
        · have hl1 : ¬ (k : Int) < (K : Int) := by omega
          clear hk
          go_wp2_with fail
          go_loopw [7] (fun i wr => ∃ m : Nat, m ≤ N ∧ i = .int .i64 (m : Int) ∧ Hid (Below w.heap.size w wr ∧ wr.heap[w.heap.size]? = some (.cells #[.int .i64 6, .string ⟨#[]⟩, .string ⟨#[]⟩, .slice io N ic, .slice ko K kc] 37 (0, 0)))) (fun i _ => N - (intOf i).toNat)
          case atStart => exact ⟨0, Nat.zero_le _, rfl, HBx⟩
          case round =>
            clear HBx b0 b1 b2 b3 b4
            obtain ⟨m, hm, rfl, HBx⟩ := hrel
            obtain ⟨b0, b1, b2, b3, b4, _, _, _, _, _⟩ := vbox_cells HBx.out.2
            by_cases hlt2 : m < N
            · have hl2 : (m : Int) < (N : Int) := by omega
              have hl3 : (0 : Int) ≤ (m : Int) := by omega
              have hml : m < items.length := by rw [HKK.out.2]; exact hlt2
              obtain ⟨ib, ioff, hio, hibl, hirow⟩ := HKI.out.2.row (by omega)
              rw [hio] at b3
              clear hio
              obtain ⟨v0, v1, v2, v3, v4, ⟨c0, c1, c2, c3, c4⟩, hI⟩ := hirow m hml
              have kc' : ∀ {o : Nat} {v : Value}, w.cell? ⟨ib, o, none⟩ = some v → wr.cell? ⟨ib, o, none⟩ = some v := fun {o v} h => (World.cell?_of_block (a := ⟨ib, o, none⟩) (HBx.out.1.block ib hibl)).trans h
              have HC := Hid.mk (HIH.out items[m] (List.getElem_mem hml) _ wr (hI.keep HBx.out.1))
              obtain ⟨_, _, _, _, _, _, _, _, _, ep⟩ := inH_shape hI
              simp only [Value.agg.injEq, Array.mk.injEq, List.cons.injEq, and_true] at ep
              obtain ⟨rfl, rfl, rfl, rfl, rfl⟩ := ep
              have e0 := kc' c0
              have e1 := kc' c1
              have e2 := kc' c2
              have e3 := kc' c3
              have e4 := kc' c4
              clear hirow hibl hml hI kc' c0 c1 c2 c3 c4
              go_wp2_with fail
              refine HC.out.mono ?_
              rintro e w3 ⟨rfl, hb3⟩
              have HB3 : Hid (Below w.heap.size w w3 ∧ w3.heap[w.heap.size]? = some (.cells #[.int .i64 6, .string ⟨#[]⟩, .string ⟨#[]⟩, .slice io N ic, .slice ko K kc] 37 (0, 0))) := ⟨HBx.out.1.trans (hb3.mono HBx.out.1.size), (hb3.block _ (Array.getElem?_eq_some_iff.1 HBx.out.2).1).trans HBx.out.2⟩
              clear hb3 HC e0 e1 e2 e3 e4
              go_wp2_with fail
              go_roundw
              case rel => exact ⟨m + 1, hlt2, by go_num, HB3⟩
              case measure => simp [intOf]; omega
            · have hl2 : ¬ (m : Int) < (N : Int) := by omega
              go_wp2_with fail
              go_ret
              exact ⟨rfl, HBx.out.1⟩

end Go.Proofs.YtfgfgcecbodjeaaGreatDoor
