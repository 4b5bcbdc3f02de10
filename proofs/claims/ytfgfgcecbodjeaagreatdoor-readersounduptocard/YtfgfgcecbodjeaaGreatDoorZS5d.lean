import Derived.Test.YtfgfgcecbodjeaaGreatDoorZS5b
import Derived.Test.YtfgfgcecbodjeaaGreatDoorZRR19
import Derived.Test.YtfgfgcecbodjeaaGreatDoorM40
import Derived.Lib.QuietBelow
import Derived.BigQuiet
import Derived.Test.YtfgfgcecbodjeaaGreatDoorX0
import Derived.Test.YtfgfgcecbodjeaaGreatDoorM43
namespace Go.Proofs.YtfgfgcecbodjeaaGreatDoor
open Go.RowKit Go.Shelf Go.Sort
set_option linter.unusedVariables false
set_option linter.unusedSimpArgs false
attribute [local go_sem] Oper.semAt_some

theorem risK_get : ∀ (l : List ByteArray), RisK l → ∀ j, j + 1 < l.length → (l.getD j .empty).data.toList < (l.getD (j + 1) .empty).data.toList
  | [], _, j, h => by simp at h
  | [_], _, j, h => by simp at h
  | a :: b :: r, hr, 0, h => hr.1
  | a :: b :: r, hr, j + 1, h => by
    have := risK_get (b :: r) hr.2 j (by simpa using h)
    simpa using this

set_option maxRecDepth 100000 in
set_option maxHeartbeats 6400000 in
theorem w_5Right_n5 (M : Nat) (hM : M ≤ 16777216) (d h N K : Nat) (hd : d ≤ 1000) (items : List VT) (keys : List ByteArray) (hN : items.length = N) (hK : keys.length = K) (io ko : Option Addr) (ic kc : Nat) (w : World) (l1 : N ≤ 140737488355328) (l2 : K ≤ 140737488355328) (l3 : N ≤ ic) (l4 : K ≤ kc) (hKN : K = 0)
    (hk : KIn w ko keys) (hv : VRw w h items io) (hok : ∀ k ∈ keys, okB k.data.toList = true ∧ k.size ≤ M) (hri : RisK keys)
    (IH : ∀ x ∈ items, ∀ (v : Value) (u : World), InH u h x v → Calls Tryz.prog 18 #[v, .int .i64 (d : Int)] u fun e w' => e = .returned (.bool true) ∧ Below u.heap.size u w') :
    Calls Tryz.prog 18 #[.agg #[.int .i64 5, .string ⟨#[]⟩, .string ⟨#[]⟩, .slice io N ic, .slice ko K kc], .int .i64 ((d : Int) + 1)] w fun e w' => e = .returned (.bool true) ∧ Below w.heap.size w w' := by
  have HVd := Hid.mk (fun (u : World) => w_rValidV ⟨#[]⟩ u (by decide))
  rw [show okB (⟨#[]⟩ : ByteArray).data.toList = true from (by decide)] at HVd
  have hn0 := heap_alloc_new w (.cells #[.int .i64 5, .string ⟨#[]⟩, .string ⟨#[]⟩, .slice io N ic, .slice ko K kc] 37)
  have HN0 := Hid.mk hn0
  have HIH := Hid.mk IH
  have HKK := Hid.mk (And.intro hK hN)
  have HKI := Hid.mk (And.intro hk hv)
  have HOk := Hid.mk (And.intro hok hri)
  have gd : ¬ ((d : Int) + 1 < 1) := by omega
  have gd2 : decide ((d : Int) + 1 < 1) = false := by simp; omega

  have HKN := Hid.mk hKN
  have g0 : ¬ (0 : Int) < (K : Int) ∨ True := .inr trivial
  clear hn0 IH hK hN hk hv hok hri g0 
  subst hKN
  go_enter Tryz.func18, Tryz.ntmps18
  go_wp2_with fail
  all_goals
    refine (HVd.out _).mono ?_
    rintro e w2 ⟨rfl, hb2⟩
    have HBx : Hid (Below w.heap.size w w2 ∧ w2.heap[w.heap.size]? = some (.cells #[.int .i64 5, .string ⟨#[]⟩, .string ⟨#[]⟩, .slice io N ic, .slice ko 0 kc] 37 (0, 0))) := ⟨(below1 w _).trans (hb2.mono (by simp)), (hb2.block _ (by simp)).trans HN0.out⟩
    obtain ⟨b0, b1, b2, b3, b4, _, _, _, _, _⟩ := vbox_cells HBx.out.2
    clear hb2
    by_cases hN0 : N = 0
    · have hNi : ¬ (0 : Int) < (N : Int) := by omega
      have hNn : ¬ 0 < N := by omega
      clear hN0
      go_wp2_with fail
      clear hNi hNn
      go_loopw [6] (fun i wr => i = .int .i64 0 ∧ Hid (Below w.heap.size w wr ∧ wr.heap[w.heap.size]? = some (.cells #[.int .i64 5, .string ⟨#[]⟩, .string ⟨#[]⟩, .slice io N ic, .slice ko 0 kc] 37 (0, 0)))) (fun i _ => 0)
      case atStart => exact ⟨rfl, HBx⟩
      case round =>
        clear HBx b0 b1 b2 b3 b4
        obtain ⟨rfl, HBx⟩ := hrel
        obtain ⟨b0, b1, b2, b3, b4, _, _, _, _, _⟩ := vbox_cells HBx.out.2
        go_wp2_with fail
        go_loopw [7] (fun i wr => ∃ m : Nat, m ≤ N ∧ i = .int .i64 (m : Int) ∧ Hid (Below w.heap.size w wr ∧ wr.heap[w.heap.size]? = some (.cells #[.int .i64 5, .string ⟨#[]⟩, .string ⟨#[]⟩, .slice io N ic, .slice ko 0 kc] 37 (0, 0)))) (fun i _ => N - (intOf i).toNat)
        case atStart => exact ⟨0, Nat.zero_le _, rfl, HBx⟩
        case round =>
          clear HBx b0 b1 b2 b3 b4
          obtain ⟨m, hm, rfl, HBx⟩ := hrel
          obtain ⟨b0, b1, b2, b3, b4, _, _, _, _, _⟩ := vbox_cells HBx.out.2
          by_cases hlt2 : m < N
          · have hl2 : (m : Int) < (N : Int) := by omega
            have hl3 : (0 : Int) ≤ (m : Int) := by omega
            have hml : m < items.length := by rw [HKK.out.2]; exact hlt2
            obtain ⟨ib, ioff, hio, hibl, hirow⟩ := HKI.out.2.row (by omega)
            rw [hio] at b3
            clear hio
            obtain ⟨v0, v1, v2, v3, v4, ⟨c0, c1, c2, c3, c4⟩, hI⟩ := hirow m hml
            have kc' : ∀ {o : Nat} {v : Value}, w.cell? ⟨ib, o, none⟩ = some v → wr.cell? ⟨ib, o, none⟩ = some v := fun {o v} h => (World.cell?_of_block (a := ⟨ib, o, none⟩) (HBx.out.1.block ib hibl)).trans h
            have HC := Hid.mk (HIH.out items[m] (List.getElem_mem hml) _ wr (hI.keep HBx.out.1))
            obtain ⟨_, _, _, _, _, _, _, _, _, ep⟩ := inH_shape hI
            simp only [Value.agg.injEq, Array.mk.injEq, List.cons.injEq, and_true] at ep
            obtain ⟨rfl, rfl, rfl, rfl, rfl⟩ := ep
            have e0 := kc' c0
            have e1 := kc' c1
            have e2 := kc' c2
            have e3 := kc' c3
            have e4 := kc' c4
            clear hirow hibl hml hI kc' c0 c1 c2 c3 c4
            go_wp2_with fail
            refine HC.out.mono ?_
            rintro e w3 ⟨rfl, hb3⟩
            have HB3 : Hid (Below w.heap.size w w3 ∧ w3.heap[w.heap.size]? = some (.cells #[.int .i64 5, .string ⟨#[]⟩, .string ⟨#[]⟩, .slice io N ic, .slice ko 0 kc] 37 (0, 0))) := ⟨HBx.out.1.trans (hb3.mono HBx.out.1.size), (hb3.block _ (Array.getElem?_eq_some_iff.1 HBx.out.2).1).trans HBx.out.2⟩
            clear hb3 HC e0 e1 e2 e3 e4
            go_wp2_with fail
            go_roundw
            case rel => exact ⟨m + 1, hlt2, by go_num, HB3⟩
            case measure => simp [intOf]; omega
          · have hl2 : ¬ (m : Int) < (N : Int) := by omega
            go_wp2_with fail
            go_ret
            exact ⟨rfl, HBx.out.1⟩
    · have hNi : (0 : Int) < (N : Int) := by omega
      have hNn : 0 < N := by omega
      clear hN0
      go_wp2_with fail
      clear hNi hNn
      go_loopw [6] (fun i wr => i = .int .i64 0 ∧ Hid (Below w.heap.size w wr ∧ wr.heap[w.heap.size]? = some (.cells #[.int .i64 5, .string ⟨#[]⟩, .string ⟨#[]⟩, .slice io N ic, .slice ko 0 kc] 37 (0, 0)))) (fun i _ => 0)
      case atStart => exact ⟨rfl, HBx⟩
      case round =>
        clear HBx b0 b1 b2 b3 b4
        obtain ⟨rfl, HBx⟩ := hrel
        obtain ⟨b0, b1, b2, b3, b4, _, _, _, _, _⟩ := vbox_cells HBx.out.2
        go_wp2_with fail
        go_loopw [7] (fun i wr => ∃ m : Nat, m ≤ N ∧ i = .int .i64 (m : Int) ∧ Hid (Below w.heap.size w wr ∧ wr.heap[w.heap.size]? = some (.cells #[.int .i64 5, .string ⟨#[]⟩, .string ⟨#[]⟩, .slice io N ic, .slice ko 0 kc] 37 (0, 0)))) (fun i _ => N - (intOf i).toNat)
        case atStart => exact ⟨0, Nat.zero_le _, rfl, HBx⟩
        case round =>
          clear HBx b0 b1 b2 b3 b4
          obtain ⟨m, hm, rfl, HBx⟩ := hrel
          obtain ⟨b0, b1, b2, b3, b4, _, _, _, _, _⟩ := vbox_cells HBx.out.2
          by_cases hlt2 : m < N
          · have hl2 : (m : Int) < (N : Int) := by omega
            have hl3 : (0 : Int) ≤ (m : Int) := by omega
            have hml : m < items.length := by rw [HKK.out.2]; exact hlt2
            obtain ⟨ib, ioff, hio, hibl, hirow⟩ := HKI.out.2.row (by omega)
            rw [hio] at b3
            clear hio
            obtain ⟨v0, v1, v2, v3, v4, ⟨c0, c1, c2, c3, c4⟩, hI⟩ := hirow m hml
            have kc' : ∀ {o : Nat} {v : Value}, w.cell? ⟨ib, o, none⟩ = some v → wr.cell? ⟨ib, o, none⟩ = some v := fun {o v} h => (World.cell?_of_block (a := ⟨ib, o, none⟩) (HBx.out.1.block ib hibl)).trans h
            have HC := Hid.mk (HIH.out items[m] (List.getElem_mem hml) _ wr (hI.keep HBx.out.1))
            obtain ⟨_, _, _, _, _, _, _, _, _, ep⟩ := inH_shape hI
            simp only [Value.agg.injEq, Array.mk.injEq, List.cons.injEq, and_true] at ep
            obtain ⟨rfl, rfl, rfl, rfl, rfl⟩ := ep
            have e0 := kc' c0
            have e1 := kc' c1
            have e2 := kc' c2
            have e3 := kc' c3
            have e4 := kc' c4
            clear hirow hibl hml hI kc' c0 c1 c2 c3 c4
            go_wp2_with fail
            refine HC.out.mono ?_
            rintro e w3 ⟨rfl, hb3⟩
            have HB3 : Hid (Below w.heap.size w w3 ∧ w3.heap[w.heap.size]? = some (.cells #[.int .i64 5, .string ⟨#[]⟩, .string ⟨#[]⟩, .slice io N ic, .slice ko 0 kc] 37 (0, 0))) := ⟨HBx.out.1.trans (hb3.mono HBx.out.1.size), (hb3.block _ (Array.getElem?_eq_some_iff.1 HBx.out.2).1).trans HBx.out.2⟩
            clear hb3 HC e0 e1 e2 e3 e4
            go_wp2_with fail
            go_roundw
            case rel => exact ⟨m + 1, hlt2, by go_num, HB3⟩
            case measure => simp [intOf]; omega
          · have hl2 : ¬ (m : Int) < (N : Int) := by omega
            go_wp2_with fail
            go_ret
            exact ⟨rfl, HBx.out.1⟩

set_option maxRecDepth 100000 in
set_option maxHeartbeats 6400000 in
theorem w_5Right_n6 (M : Nat) (hM : M ≤ 16777216) (d h N K : Nat) (hd : d ≤ 1000) (items : List VT) (keys : List ByteArray) (hN : items.length = N) (hK : keys.length = K) (io ko : Option Addr) (ic kc : Nat) (w : World) (l1 : N ≤ 140737488355328) (l2 : K ≤ 140737488355328) (l3 : N ≤ ic) (l4 : K ≤ kc) (hKN : K = N)
    (hk : KIn w ko keys) (hv : VRw w h items io) (hok : ∀ k ∈ keys, okB k.data.toList = true ∧ k.size ≤ M) (hri : RisK keys)
    (IH : ∀ x ∈ items, ∀ (v : Value) (u : World), InH u h x v → Calls Tryz.prog 18 #[v, .int .i64 (d : Int)] u fun e w' => e = .returned (.bool true) ∧ Below u.heap.size u w') :
    Calls Tryz.prog 18 #[.agg #[.int .i64 6, .string ⟨#[]⟩, .string ⟨#[]⟩, .slice io N ic, .slice ko K kc], .int .i64 ((d : Int) + 1)] w fun e w' => e = .returned (.bool true) ∧ Below w.heap.size w w' := by
  have HVd := Hid.mk (fun (u : World) => w_rValidV ⟨#[]⟩ u (by decide))
  rw [show okB (⟨#[]⟩ : ByteArray).data.toList = true from (by decide)] at HVd
  have hn0 := heap_alloc_new w (.cells #[.int .i64 6, .string ⟨#[]⟩, .string ⟨#[]⟩, .slice io N ic, .slice ko K kc] 37)
  have HN0 := Hid.mk hn0
  have HIH := Hid.mk IH
  have HKK := Hid.mk (And.intro hK hN)
  have HKI := Hid.mk (And.intro hk hv)
  have HOk := Hid.mk (And.intro hok hri)
  have gd : ¬ ((d : Int) + 1 < 1) := by omega
  have gd2 : decide ((d : Int) + 1 < 1) = false := by simp; omega
  have gk : ((K : Int) != (N : Int)) = false := by simp; omega
  have HKN := Hid.mk hKN
  have g0 : ¬ (0 : Int) < (K : Int) ∨ True := .inr trivial
  clear hn0 IH hK hN hk hv hok hri g0 hKN

  go_enter Tryz.func18, Tryz.ntmps18
  go_wp2_with fail
  all_goals
    refine (HVd.out _).mono ?_
    rintro e w2 ⟨rfl, hb2⟩
    have HBx : Hid (Below w.heap.size w w2 ∧ w2.heap[w.heap.size]? = some (.cells #[.int .i64 6, .string ⟨#[]⟩, .string ⟨#[]⟩, .slice io N ic, .slice ko K kc] 37 (0, 0))) := ⟨(below1 w _).trans (hb2.mono (by simp)), (hb2.block _ (by simp)).trans HN0.out⟩
    obtain ⟨b0, b1, b2, b3, b4, _, _, _, _, _⟩ := vbox_cells HBx.out.2
    clear hb2
    by_cases hN0 : N = 0
    · have hNi : ¬ (0 : Int) < (N : Int) := by omega
      have hNn : ¬ 0 < N := by omega
      clear hN0
      go_wp2_with fail
      clear hNi hNn
      go_loopw [6] (fun i wr => ∃ k : Nat, k ≤ K ∧ i = .int .i64 (k : Int) ∧ Hid (Below w.heap.size w wr ∧ wr.heap[w.heap.size]? = some (.cells #[.int .i64 6, .string ⟨#[]⟩, .string ⟨#[]⟩, .slice io N ic, .slice ko K kc] 37 (0, 0)))) (fun i _ => K - (intOf i).toNat)
      case atStart => exact ⟨0, Nat.zero_le _, rfl, HBx⟩
      case round =>
        clear HBx b0 b1 b2 b3 b4
        obtain ⟨k, hk, rfl, HBx⟩ := hrel
        obtain ⟨b0, b1, b2, b3, b4, _, _, _, _, _⟩ := vbox_cells HBx.out.2
        by_cases hlt : k < K
        · have hl1 : (k : Int) < (K : Int) := by omega
          have hl0 : (0 : Int) ≤ (k : Int) := by omega
          have hkl : k < keys.length := by rw [HKK.out.1]; exact hlt
          obtain ⟨ab, aoff, hao, habl, harow⟩ := HKI.out.1.row (by omega)
          rw [hao] at b4
          clear hao
          have kc' : ∀ {o : Nat} {v : Value}, w.cell? ⟨ab, o, none⟩ = some v → wr.cell? ⟨ab, o, none⟩ = some v := fun {o v} h => (World.cell?_of_block (a := ⟨ab, o, none⟩) (HBx.out.1.block ab habl)).trans h
          have ca := kc' (harow k hkl)
          have hmem : keys.getD k .empty ∈ keys := by simp [List.getD, hkl]
          have HY := Hid.mk (HOk.out.1 _ hmem)
          have A4 := fun d os => cell_regrown b4 d os
          by_cases hk0 : ¬ 0 < k
          · have z1 : decide ((0 : Int) < (k : Int)) = false := by simp; omega
            have z2 : decide (0 < k) = false := by simp; omega
            have z3 : ¬ (0 : Int) < (k : Int) := by omega
            generalize keys.getD k ByteArray.empty = y at ca HY
            have HC := Hid.mk (fun (d : Nat) (os : Array Obj) => w_rValidV y (grow (redrawn wr d) os) (by have := HY.out.2; omega))
            rw [HY.out.1] at HC
            have R1 := fun d os => cell_regrown ca d os
            clear harow habl hkl ca hmem kc'
            go_wp2_with fail
            refine wp_region_quiet_below (by kernel_rfl) (by kernel_rfl) ?_
            repeat (go_big_quiet_step (exact Calls.regrown_of (HC.out _ _)))
            refine wpQuiet_nil ?_
            intro w3 hw'
            have HB3 : Hid (Below w.heap.size w w3 ∧ w3.heap[w.heap.size]? = some (.cells #[.int .i64 6, .string ⟨#[]⟩, .string ⟨#[]⟩, .slice io N ic, .slice ko K kc] 37 (0, 0))) := by
              obtain ⟨⟨dq, osq⟩, rfl⟩ := hw'
              exact ⟨HBx.out.1.trans ((below_regrown wr dq osq).mono HBx.out.1.size), ((below_regrown wr dq osq).block _ (Array.getElem?_eq_some_iff.1 HBx.out.2).1).trans HBx.out.2⟩
            clear hw' R1 A4 HC
            go_wp2_with fail
            go_roundw
            case rel => exact ⟨k + 1, hlt, by go_num, HB3⟩
            case measure => simp [intOf]; omega
          · obtain ⟨j, rfl⟩ : ∃ j, k = j + 1 := ⟨k - 1, by omega⟩
            clear hk0
            have cb := kc' (harow j (by omega))
            have hris := risK_get keys HOk.out.2 j hkl
            have hlss : Op.bytesLess (keys.getD j ByteArray.empty).toList (keys.getD (j + 1) ByteArray.empty).toList = true := by
              rw [bytesLess_lt, decide_eq_true_eq, Lib.toList_data, Lib.toList_data]
              exact hris
            have hj0 : (0 : Int) ≤ (j : Int) := by omega
            have hj1 : (j : Int) < (K : Int) := by omega
            generalize keys.getD (j + 1) ByteArray.empty = y at ca HY hlss
            generalize keys.getD j ByteArray.empty = y' at cb hlss
            have HC := Hid.mk (fun (d : Nat) (os : Array Obj) => w_rValidV y (grow (redrawn wr d) os) (by have := HY.out.2; omega))
            rw [HY.out.1] at HC
            have R1 := fun d os => cell_regrown ca d os
            have R2 := fun d os => cell_regrown cb d os
            clear harow habl hkl ca cb hmem kc' hris
            go_wp2_with fail
            refine wp_region_quiet_below (by kernel_rfl) (by kernel_rfl) ?_
            repeat (go_big_quiet_step (exact Calls.regrown_of (HC.out _ _)))
            refine wpQuiet_nil ?_
            intro w3 hw'
            have HB3 : Hid (Below w.heap.size w w3 ∧ w3.heap[w.heap.size]? = some (.cells #[.int .i64 6, .string ⟨#[]⟩, .string ⟨#[]⟩, .slice io N ic, .slice ko K kc] 37 (0, 0))) := by
              obtain ⟨⟨dq, osq⟩, rfl⟩ := hw'
              exact ⟨HBx.out.1.trans ((below_regrown wr dq osq).mono HBx.out.1.size), ((below_regrown wr dq osq).block _ (Array.getElem?_eq_some_iff.1 HBx.out.2).1).trans HBx.out.2⟩
            clear hw' R1 R2 A4 HC
            go_wp2_with fail
            go_roundw
            case rel => exact ⟨j + 1 + 1, hlt, by go_num, HB3⟩
            case measure => simp [intOf]; omega
        · have hl1 : ¬ (k : Int) < (K : Int) := by omega
          clear hk
          go_wp2_with fail
          go_loopw [7] (fun i wr => ∃ m : Nat, m ≤ N ∧ i = .int .i64 (m : Int) ∧ Hid (Below w.heap.size w wr ∧ wr.heap[w.heap.size]? = some (.cells #[.int .i64 6, .string ⟨#[]⟩, .string ⟨#[]⟩, .slice io N ic, .slice ko K kc] 37 (0, 0)))) (fun i _ => N - (intOf i).toNat)
          case atStart => exact ⟨0, Nat.zero_le _, rfl, HBx⟩
          case round =>
            clear HBx b0 b1 b2 b3 b4
            obtain ⟨m, hm, rfl, HBx⟩ := hrel
            obtain ⟨b0, b1, b2, b3, b4, _, _, _, _, _⟩ := vbox_cells HBx.out.2
            by_cases hlt2 : m < N
            · have hl2 : (m : Int) < (N : Int) := by omega
              have hl3 : (0 : Int) ≤ (m : Int) := by omega
              have hml : m < items.length := by rw [HKK.out.2]; exact hlt2
              obtain ⟨ib, ioff, hio, hibl, hirow⟩ := HKI.out.2.row (by omega)
              rw [hio] at b3
              clear hio
              obtain ⟨v0, v1, v2, v3, v4, ⟨c0, c1, c2, c3, c4⟩, hI⟩ := hirow m hml
              have kc' : ∀ {o : Nat} {v : Value}, w.cell? ⟨ib, o, none⟩ = some v → wr.cell? ⟨ib, o, none⟩ = some v := fun {o v} h => (World.cell?_of_block (a := ⟨ib, o, none⟩) (HBx.out.1.block ib hibl)).trans h
              have HC := Hid.mk (HIH.out items[m] (List.getElem_mem hml) _ wr (hI.keep HBx.out.1))
              obtain ⟨_, _, _, _, _, _, _, _, _, ep⟩ := inH_shape hI
              simp only [Value.agg.injEq, Array.mk.injEq, List.cons.injEq, and_true] at ep
              obtain ⟨rfl, rfl, rfl, rfl, rfl⟩ := ep
              have e0 := kc' c0
              have e1 := kc' c1
              have e2 := kc' c2
              have e3 := kc' c3
              have e4 := kc' c4
              clear hirow hibl hml hI kc' c0 c1 c2 c3 c4
              go_wp2_with fail
              refine HC.out.mono ?_
              rintro e w3 ⟨rfl, hb3⟩
              have HB3 : Hid (Below w.heap.size w w3 ∧ w3.heap[w.heap.size]? = some (.cells #[.int .i64 6, .string ⟨#[]⟩, .string ⟨#[]⟩, .slice io N ic, .slice ko K kc] 37 (0, 0))) := ⟨HBx.out.1.trans (hb3.mono HBx.out.1.size), (hb3.block _ (Array.getElem?_eq_some_iff.1 HBx.out.2).1).trans HBx.out.2⟩
              clear hb3 HC e0 e1 e2 e3 e4
              go_wp2_with fail
              go_roundw
              case rel => exact ⟨m + 1, hlt2, by go_num, HB3⟩
              case measure => simp [intOf]; omega
            · have hl2 : ¬ (m : Int) < (N : Int) := by omega
              go_wp2_with fail
              go_ret
              exact ⟨rfl, HBx.out.1⟩
    · have hNi : (0 : Int) < (N : Int) := by omega
      have hNn : 0 < N := by omega
      clear hN0
      go_wp2_with fail
      clear hNi hNn
      go_loopw [6] (fun i wr => ∃ k : Nat, k ≤ K ∧ i = .int .i64 (k : Int) ∧ Hid (Below w.heap.size w wr ∧ wr.heap[w.heap.size]? = some (.cells #[.int .i64 6, .string ⟨#[]⟩, .string ⟨#[]⟩, .slice io N ic, .slice ko K kc] 37 (0, 0)))) (fun i _ => K - (intOf i).toNat)
      case atStart => exact ⟨0, Nat.zero_le _, rfl, HBx⟩
      case round =>
        clear HBx b0 b1 b2 b3 b4
        obtain ⟨k, hk, rfl, HBx⟩ := hrel
        obtain ⟨b0, b1, b2, b3, b4, _, _, _, _, _⟩ := vbox_cells HBx.out.2
        by_cases hlt : k < K
        · have hl1 : (k : Int) < (K : Int) := by omega
          have hl0 : (0 : Int) ≤ (k : Int) := by omega
          have hkl : k < keys.length := by rw [HKK.out.1]; exact hlt
          obtain ⟨ab, aoff, hao, habl, harow⟩ := HKI.out.1.row (by omega)
          rw [hao] at b4
          clear hao
          have kc' : ∀ {o : Nat} {v : Value}, w.cell? ⟨ab, o, none⟩ = some v → wr.cell? ⟨ab, o, none⟩ = some v := fun {o v} h => (World.cell?_of_block (a := ⟨ab, o, none⟩) (HBx.out.1.block ab habl)).trans h
          have ca := kc' (harow k hkl)
          have hmem : keys.getD k .empty ∈ keys := by simp [List.getD, hkl]
          have HY := Hid.mk (HOk.out.1 _ hmem)
          have A4 := fun d os => cell_regrown b4 d os
          by_cases hk0 : ¬ 0 < k
          · have z1 : decide ((0 : Int) < (k : Int)) = false := by simp; omega
            have z2 : decide (0 < k) = false := by simp; omega
            have z3 : ¬ (0 : Int) < (k : Int) := by omega
            generalize keys.getD k ByteArray.empty = y at ca HY
            have HC := Hid.mk (fun (d : Nat) (os : Array Obj) => w_rValidV y (grow (redrawn wr d) os) (by have := HY.out.2; omega))
            rw [HY.out.1] at HC
            have R1 := fun d os => cell_regrown ca d os
            clear harow habl hkl ca hmem kc'
            go_wp2_with fail
            refine wp_region_quiet_below (by kernel_rfl) (by kernel_rfl) ?_
            repeat (go_big_quiet_step (exact Calls.regrown_of (HC.out _ _)))
            refine wpQuiet_nil ?_
            intro w3 hw'
            have HB3 : Hid (Below w.heap.size w w3 ∧ w3.heap[w.heap.size]? = some (.cells #[.int .i64 6, .string ⟨#[]⟩, .string ⟨#[]⟩, .slice io N ic, .slice ko K kc] 37 (0, 0))) := by
              obtain ⟨⟨dq, osq⟩, rfl⟩ := hw'
              exact ⟨HBx.out.1.trans ((below_regrown wr dq osq).mono HBx.out.1.size), ((below_regrown wr dq osq).block _ (Array.getElem?_eq_some_iff.1 HBx.out.2).1).trans HBx.out.2⟩
            clear hw' R1 A4 HC
            go_wp2_with fail
            go_roundw
            case rel => exact ⟨k + 1, hlt, by go_num, HB3⟩
            case measure => simp [intOf]; omega
          · obtain ⟨j, rfl⟩ : ∃ j, k = j + 1 := ⟨k - 1, by omega⟩
            clear hk0
            have cb := kc' (harow j (by omega))
            have hris := risK_get keys HOk.out.2 j hkl
            have hlss : Op.bytesLess (keys.getD j ByteArray.empty).toList (keys.getD (j + 1) ByteArray.empty).toList = true := by
              rw [bytesLess_lt, decide_eq_true_eq, Lib.toList_data, Lib.toList_data]
              exact hris
            have hj0 : (0 : Int) ≤ (j : Int) := by omega
            have hj1 : (j : Int) < (K : Int) := by omega
            generalize keys.getD (j + 1) ByteArray.empty = y at ca HY hlss
            generalize keys.getD j ByteArray.empty = y' at cb hlss
            have HC := Hid.mk (fun (d : Nat) (os : Array Obj) => w_rValidV y (grow (redrawn wr d) os) (by have := HY.out.2; omega))
            rw [HY.out.1] at HC
            have R1 := fun d os => cell_regrown ca d os
            have R2 := fun d os => cell_regrown cb d os
            clear harow habl hkl ca cb hmem kc' hris
            go_wp2_with fail
            refine wp_region_quiet_below (by kernel_rfl) (by kernel_rfl) ?_
            repeat (go_big_quiet_step (exact Calls.regrown_of (HC.out _ _)))
            refine wpQuiet_nil ?_
            intro w3 hw'
            have HB3 : Hid (Below w.heap.size w w3 ∧ w3.heap[w.heap.size]? = some (.cells #[.int .i64 6, .string ⟨#[]⟩, .string ⟨#[]⟩, .slice io N ic, .slice ko K kc] 37 (0, 0))) := by
              obtain ⟨⟨dq, osq⟩, rfl⟩ := hw'
              exact ⟨HBx.out.1.trans ((below_regrown wr dq osq).mono HBx.out.1.size), ((below_regrown wr dq osq).block _ (Array.getElem?_eq_some_iff.1 HBx.out.2).1).trans HBx.out.2⟩
            clear hw' R1 R2 A4 HC
            go_wp2_with fail
            go_roundw
            case rel => exact ⟨j + 1 + 1, hlt, by go_num, HB3⟩
            case measure => simp [intOf]; omega
        · have hl1 : ¬ (k : Int) < (K : Int) := by omega
          clear hk
          go_wp2_with fail
          go_loopw [7] (fun i wr => ∃ m : Nat, m ≤ N ∧ i = .int .i64 (m : Int) ∧ Hid (Below w.heap.size w wr ∧ wr.heap[w.heap.size]? = some (.cells #[.int .i64 6, .string ⟨#[]⟩, .string ⟨#[]⟩, .slice io N ic, .slice ko K kc] 37 (0, 0)))) (fun i _ => N - (intOf i).toNat)
          case atStart => exact ⟨0, Nat.zero_le _, rfl, HBx⟩
          case round =>
            clear HBx b0 b1 b2 b3 b4
            obtain ⟨m, hm, rfl, HBx⟩ := hrel
            obtain ⟨b0, b1, b2, b3, b4, _, _, _, _, _⟩ := vbox_cells HBx.out.2
            by_cases hlt2 : m < N
            · have hl2 : (m : Int) < (N : Int) := by omega
              have hl3 : (0 : Int) ≤ (m : Int) := by omega
              have hml : m < items.length := by rw [HKK.out.2]; exact hlt2
              obtain ⟨ib, ioff, hio, hibl, hirow⟩ := HKI.out.2.row (by omega)
              rw [hio] at b3
              clear hio
              obtain ⟨v0, v1, v2, v3, v4, ⟨c0, c1, c2, c3, c4⟩, hI⟩ := hirow m hml
              have kc' : ∀ {o : Nat} {v : Value}, w.cell? ⟨ib, o, none⟩ = some v → wr.cell? ⟨ib, o, none⟩ = some v := fun {o v} h => (World.cell?_of_block (a := ⟨ib, o, none⟩) (HBx.out.1.block ib hibl)).trans h
              have HC := Hid.mk (HIH.out items[m] (List.getElem_mem hml) _ wr (hI.keep HBx.out.1))
              obtain ⟨_, _, _, _, _, _, _, _, _, ep⟩ := inH_shape hI
              simp only [Value.agg.injEq, Array.mk.injEq, List.cons.injEq, and_true] at ep
              obtain ⟨rfl, rfl, rfl, rfl, rfl⟩ := ep
              have e0 := kc' c0
              have e1 := kc' c1
              have e2 := kc' c2
              have e3 := kc' c3
              have e4 := kc' c4
              clear hirow hibl hml hI kc' c0 c1 c2 c3 c4
              go_wp2_with fail
              refine HC.out.mono ?_
              rintro e w3 ⟨rfl, hb3⟩
              have HB3 : Hid (Below w.heap.size w w3 ∧ w3.heap[w.heap.size]? = some (.cells #[.int .i64 6, .string ⟨#[]⟩, .string ⟨#[]⟩, .slice io N ic, .slice ko K kc] 37 (0, 0))) := ⟨HBx.out.1.trans (hb3.mono HBx.out.1.size), (hb3.block _ (Array.getElem?_eq_some_iff.1 HBx.out.2).1).trans HBx.out.2⟩
              clear hb3 HC e0 e1 e2 e3 e4
              go_wp2_with fail
              go_roundw
              case rel => exact ⟨m + 1, hlt2, by go_num, HB3⟩
              case measure => simp [intOf]; omega
            · have hl2 : ¬ (m : Int) < (N : Int) := by omega
              go_wp2_with fail
              go_ret
              exact ⟨rfl, HBx.out.1⟩

end Go.Proofs.YtfgfgcecbodjeaaGreatDoor
namespace Go.Proofs.YtfgfgcecbodjeaaGreatDoor
open Go.RowKit Go.Shelf Go.Sort
set_option linter.unusedVariables false
set_option linter.unusedSimpArgs false
attribute [local go_sem] Oper.semAt_some

theorem w_5Right_leaf (M : Nat) (hM : M ≤ 16777216) (d h : Nat) (T : VT) (v : Value) (w : World) (hI : InH w h T v) (hL : LeafR M T) : Calls Tryz.prog 18 #[v, .int .i64 (d : Int)] w fun e w' => e = .returned (.bool true) ∧ Below w.heap.size w w' := by
  cases h with
  | zero => exact absurd hI (by intro h; exact h)
  | succ h =>
    obtain ⟨io, ic, ko, kc, rfl, _⟩ := hI
    obtain ⟨kd, nm, tx, its, kys⟩ := T
    obtain ⟨h1, h2, h3⟩ := hL
    dsimp only [VT.items, VT.keys, VT.kind, VT.num, VT.text] at h1 h2 h3 ⊢
    subst h1 h2
    rcases h3 with ⟨a1, a2, rfl, rfl⟩ | ⟨rfl, hn, hs, rfl⟩ | ⟨rfl, rfl, ht, hs⟩
    · have hk : kd = 0 ∨ kd = 1 ∨ kd = 2 := by omega
      rcases hk with rfl | rfl | rfl
      · exact w_5Right_k0 d io ko ic kc w
      · exact w_5Right_k1 d io ko ic kc w
      · exact w_5Right_k2 d io ko ic kc w
    · obtain ⟨⟨c, r, hl, hc⟩, htok⟩ := hn
      have hsz : nm.data.toList.length = nm.size := size_lst nm
      have h0 : 0 < nm.size := by rw [← hsz, hl]; simp
      refine w_5Right_k3 nm h0 (by omega) ?_ (by rw [← hsz]; exact htok) d io ko ic kc w
      have e : nm[0] = c := by
        have h1 := Pl.toList_cons nm h0
        rw [hl] at h1
        injection h1 with h1 _
        exact h1.symm
      rw [e]; exact hc
    · exact w_5Right_k4 tx ht (by omega) d io ko ic kc w
theorem w_5Right (M : Nat) (hM : M ≤ 16777216) : ∀ (d : Nat), d ≤ 1000 → ∀ (h : Nat) (T : VT) (v : Value) (w : World), InH w h T v → Rt M d T → Calls Tryz.prog 18 #[v, .int .i64 (d : Int)] w fun e w' => e = .returned (.bool true) ∧ Below w.heap.size w w'
  | 0, _, h, T, v, w, hI, hR => w_5Right_leaf M hM 0 h T v w hI hR
  | d + 1, hd, h, T, v, w, hI, hR => by
    rcases hR with hR | hR
    · exact w_5Right_leaf M hM (d + 1) h T v w hI hR
    · cases h with
      | zero => exact absurd hI (by intro h; exact h)
      | succ h =>
        obtain ⟨io, ic, ko, kc, rfl, _, _, l1, l2, l3, l4, _, hk, hi⟩ := hI
        obtain ⟨kd, nm, tx, its, kys⟩ := T
        obtain ⟨h1, h2, h3, h4⟩ := hR
        dsimp only [VT.items, VT.keys, VT.kind, VT.num, VT.text] at h1 h2 h3 h4 l1 l2 l3 l4 hk hi ⊢
        subst h1 h2
        have e : (((d + 1 : Nat)) : Int) = (d : Int) + 1 := by omega
        rw [e]
        have IH : ∀ x ∈ its, ∀ (v : Value) (u : World), InH u h x v → Calls Tryz.prog 18 #[v, .int .i64 (d : Int)] u fun e w' => e = .returned (.bool true) ∧ Below u.heap.size u w' := fun x hx v u hu => w_5Right M hM d (by omega) h x v u hu (h3 x hx)
        rcases h4 with ⟨rfl, rfl⟩ | ⟨rfl, hKN, hok, hri⟩
        · exact w_5Right_n5 M hM d h its.length 0 (by omega) its [] rfl rfl io ko ic kc w l1 l2 l3 l4 rfl hk ⟨hi⟩ (fun k hk => by cases hk) trivial IH
        · exact w_5Right_n6 M hM d h its.length kys.length (by omega) its kys rfl rfl io ko ic kc w l1 l2 l3 l4 hKN hk ⟨hi⟩ hok hri IH
/-- an error's place lies within the text -/
def PlB {α : Type} (n : Nat) (r : Rd α) : Prop := ∀ e q, r = .bad e q → q ≤ n
theorem must_pb (l : List UInt8) (p : Nat) : PlB l.length (mustL l p) := by
  intro e q h
  unfold mustL at h
  split at h
  · next h1 =>
    split at h
    · cases h
    · injection h with e1 e2; rw [← e2]; exact (nextT_le h1).1
  · injection h with e1 e2; omega
theorem must_at {l : List UInt8} {p q : Nat} {t : Tok} (h : mustL l p = .ok t q) : t.at_ ≤ l.length := by
  unfold mustL at h
  split at h
  · next h1 =>
    split at h
    · injection h with e1 e2; rw [← e1]; exact (nextT_le h1).1
    · cases h
  · cases h
theorem loop_pb {σ : Type} {l : List UInt8} {cl : Nat} {pt : σ → Tok → Nat → Rd σ} (P : ∀ x t p, t.at_ ≤ l.length → PlB l.length (pt x t p)) : ∀ (n : Nat) (x : σ) (p : Nat), PlB l.length (loopL l cl pt n x p) := by
  intro n
  induction n with
  | zero => intro x p e q h; injection h with h1 h2; omega
  | succ n ih =>
    intro x p e q h
    rw [loopL] at h
    cases e1 : mustL l p with
    | bad e2 z => rw [e1] at h; injection h with h1 h2; rw [← h2]; exact must_pb l p _ _ e1
    | ok t q1 =>
      rw [e1] at h
      dsimp only at h
      split at h
      · cases h
      · split at h
        · cases e2 : mustL l q1 with
          | bad e3 z => rw [e2] at h; injection h with h1 h2; rw [← h2]; exact must_pb l q1 _ _ e2
          | ok t2 q2 =>
            rw [e2] at h
            dsimp only at h
            cases e3 : pt x t2 q2 with
            | bad e4 z => rw [e3] at h; injection h with h1 h2; rw [← h2]; exact P x t2 q2 (must_at e2) _ _ e3
            | ok y q3 => rw [e3] at h; exact ih y q3 e q h
        · injection h with h1 h2; rw [← h2]; exact must_at e1
theorem row_pb {σ : Type} {l : List UInt8} {cl : Nat} {pt : σ → Tok → Nat → Rd σ} (P : ∀ x t p, t.at_ ≤ l.length → PlB l.length (pt x t p)) (x : σ) (p : Nat) : PlB l.length (rowL l cl pt x p) := by
  intro e q h
  unfold rowL at h
  cases e1 : mustL l p with
  | bad e2 z => rw [e1] at h; injection h with h1 h2; rw [← h2]; exact must_pb l p _ _ e1
  | ok t q1 =>
    rw [e1] at h
    dsimp only at h
    split at h
    · cases h
    · cases e3 : pt x t q1 with
      | bad e4 z => rw [e3] at h; injection h with h1 h2; rw [← h2]; exact P x t q1 (must_at e1) _ _ e3
      | ok y q3 => rw [e3] at h; exact loop_pb P _ y q3 e q h
theorem val_pb {l : List UInt8} : ∀ (f d : Nat) (t : Tok) (p : Nat), t.at_ ≤ l.length → PlB l.length (valL l (obL l) f d t p) := by
  have leaf : ∀ (t : Tok) (p : Nat), t.at_ ≤ l.length → PlB l.length (leafL t p) := by
    intro t p ht e q h
    unfold leafL at h
    repeat' split at h
    all_goals first | (cases h; done) | (injection h with h1 h2; omega)
  intro f
  induction f with
  | zero =>
    intro d t p ht e q h
    unfold valL valAt at h
    split at h
    · split at h <;> (injection h with h1 h2; omega)
    · split at h
      · split at h <;> (injection h with h1 h2; omega)
      · exact leaf t p ht e q h
  | succ f ih =>
    intro d t p ht e q h
    have ihv := ih (d + 1)
    unfold valL valAt at h
    generalize hvl : valL l (obL l) f (d + 1) = vl at ihv h
    split at h
    · split at h
      · unfold arrL at h
        cases hr : rowL l 4 (aPt vl) [] p with
        | ok xs q3 => rw [hr] at h; cases h
        | bad e2 z =>
          rw [hr] at h
          injection h with h1 h2
          rw [← h2]
          refine row_pb ?_ [] p _ _ hr
          intro x t p ht2 e3 q3 h3
          unfold aPt at h3
          split at h3
          · cases h3
          · next h4 => injection h3 with e1 e2; rw [← e2]; exact ihv _ _ ht2 _ _ h4
      · injection h with h1 h2; omega
    · split at h
      · split at h
        · unfold obL at h
          cases hr : rowL l 2 (oPt l vl) [] p with
          | ok xs q3 => rw [hr] at h; cases h
          | bad e2 z =>
            rw [hr] at h
            injection h with h1 h2
            rw [← h2]
            refine row_pb ?_ [] p _ _ hr
            intro x t p ht2 e3 q3 h3
            unfold oPt at h3
            split at h3
            · split at h3
              · injection h3 with e1 e2; omega
              · split at h3
                · next h4 => injection h3 with e1 e2; rw [← e2]; exact must_pb _ _ _ _ h4
                · next c q4 h4 =>
                  have hc := must_at h4
                  split at h3
                  · split at h3
                    · next h5 => injection h3 with e1 e2; rw [← e2]; exact must_pb _ _ _ _ h5
                    · next t2 q5 h5 =>
                      split at h3
                      · next h6 => injection h3 with e1 e2; rw [← e2]; exact ihv _ _ (must_at h5) _ _ h6
                      · cases h3
                  · injection h3 with e1 e2; omega
            · injection h3 with e1 e2; omega
        · injection h with h1 h2; omega
      · exact leaf t p ht e q h
theorem each_pb {s : ByteArray} : ∀ (n : Nat) (xs : List VT) (p : Nat), (eachL s.data.toList (vL s) n xs p).2.2 ≤ s.size := by
  have hl : s.data.toList.length = s.size := size_lst s
  intro n
  induction n with
  | zero => intro xs p; exact Nat.zero_le _
  | succ n ih =>
    intro xs p
    unfold eachL
    cases hr : folL s.data.toList (vL s) p with
    | bad e q =>
      show q ≤ s.size
      rw [← hl]
      unfold folL at hr
      split at hr
      · next h1 =>
        split at hr
        · split at hr
          · cases hr
          · next hv => injection hr with e1 e2; rw [← e2]; exact val_pb 64 1 _ _ (nextT_le h1).1 _ _ hv
        · injection hr with e1 e2; rw [← e2]; exact (nextT_le h1).1
      · cases hr
    | ok o q =>
      cases o with
      | none => exact Nat.zero_le _
      | some T => exact ih (xs ++ [T]) q

set_option maxRecDepth 100000 in
set_option maxHeartbeats 6400000 in
theorem w_ReaderSound (s : ByteArray) (w : World) (ss : s.size ≤ 1048576) (hE : ErrIn w) : Calls Tryz.prog 8 #[.string s] w fun e w' => Below w.heap.size w w' ∧ e = .returned (.bool true) := by
  have HF := Hid.mk (w_fixed5 w hE)
  have HM := Hid.mk (fun (u : World) (hu : ErrIn u) => w_Many5 s (by omega) u hu)
  have HLe := Hid.mk (eachL_len s (vL s) (vL_up (by omega)) (s.size + 1) [] 0 (Nat.zero_le _) (Nat.zero_le _))
  have HRt := Hid.mk (each_rt (s := s) (s.size + 1) [] 0 (fun x hx => by cases hx))
  have HPb := Hid.mk (each_pb (s := s) (s.size + 1) [] 0)
  have HRi := Hid.mk (fun (T : VT) (v : Value) (u : World) (hI : InH u 65 T v) (hT : Rt (4 * s.size) 64 T) => (show Calls Tryz.prog 18 #[v, .int .i64 64] u (fun e w' => e = .returned (.bool true) ∧ Below u.heap.size u w') from w_5Right (4 * s.size) (by omega) 64 (by omega) 65 T v u hI hT))
  have HE := Hid.mk hE
  have HSs := Hid.mk ss
  clear hE
  obtain ⟨R, hR⟩ : ∃ R, eachL s.data.toList (vL s) (s.size + 1) [] 0 = R := ⟨_, rfl⟩
  rw [hR] at HM HLe HRt HPb
  clear hR
  obtain ⟨xs, er, q⟩ := R
  go_enter Tryz.func8, Tryz.ntmps8
  go_wp2_with fail
  refine HF.out.mono ?_
  rintro e w0 ⟨hb0, rfl⟩
  have HB0 := Hid.mk hb0
  clear hb0 HF
  go_wp2_with fail
  refine (HM.out _ (HE.out.keep HB0.out)).mono ?_
  rintro e w1 ⟨hb1, hm1⟩
  have HB1 : Hid (Below w.heap.size w w1) := HB0.out.trans (hb1.mono HB0.out.size)
  clear hb1
  rcases hm1 with ⟨h0, N, io, cap, c, rfl, hMa⟩ | ⟨h0, rfl⟩
  · dsimp only at h0 hMa
    subst h0
    obtain ⟨hV, hcap⟩ := VRw.of hMa.len hMa.own hMa.trees
    have HV := Hid.mk hV
    have HN := Hid.mk hMa.len
    have hN : N ≤ 1048576 := by have h1 := HN.out; have h2 : xs.length ≤ s.size := HLe.out; omega
    clear hMa hV
    go_wp2_with fail
    go_loopw [6] (fun i wr => ∃ m : Nat, m ≤ N ∧ i = .int .i64 (m : Int) ∧ Hid (Below w1.heap.size w1 wr)) (fun i _ => N - (intOf i).toNat)
    case atStart => exact ⟨0, Nat.zero_le _, rfl, Below.refl _ _⟩
    case round =>
      obtain ⟨m, hm, rfl, HBx⟩ := hrel
      by_cases hlt : m < N
      · have hl2 : (m : Int) < (N : Int) := by omega
        have hl3 : (0 : Int) ≤ (m : Int) := by omega
        have hml : m < xs.length := by rw [HN.out]; exact hlt
        obtain ⟨ib, ioff, hio, hibl, hirow⟩ := HV.out.row (by omega)
        subst hio
        obtain ⟨v0, v1, v2, v3, v4, ⟨c0, c1, c2, c3, c4⟩, hI⟩ := hirow m hml
        have kc' : ∀ {o : Nat} {v : Value}, w1.cell? ⟨ib, o, none⟩ = some v → wr.cell? ⟨ib, o, none⟩ = some v := fun {o v} h => (World.cell?_of_block (a := ⟨ib, o, none⟩) (HBx.out.block ib hibl)).trans h
        have HC := Hid.mk (HRi.out xs[m] _ wr (hI.keep HBx.out) (HRt.out _ (List.getElem_mem hml)))
        obtain ⟨_, _, _, _, _, _, _, _, _, ep⟩ := inH_shape hI
        simp only [Value.agg.injEq, Array.mk.injEq, List.cons.injEq, and_true] at ep
        obtain ⟨rfl, rfl, rfl, rfl, rfl⟩ := ep
        have e0 := kc' c0
        have e1 := kc' c1
        have e2 := kc' c2
        have e3 := kc' c3
        have e4 := kc' c4
        clear hirow hibl hml hI kc' c0 c1 c2 c3 c4
        go_wp2_with fail
        refine HC.out.mono ?_
        rintro e w3 ⟨rfl, hb3⟩
        have HB3 : Hid (Below w1.heap.size w1 w3) := HBx.out.trans (hb3.mono HBx.out.size)
        clear hb3 HC e0 e1 e2 e3 e4
        go_wp2_with fail
        go_roundw
        case rel => exact ⟨m + 1, hlt, by go_num, HB3⟩
        case measure => simp [intOf]; omega
      · have hl2 : ¬ (m : Int) < (N : Int) := by omega
        have HB4 : Hid (Below w.heap.size w wr) := HB1.out.trans (HBx.out.mono HB1.out.size)
        go_wp2_with fail
        refine bodyPost_ret (v := .bool true) (by simp [results, Tryz.results8, go_sem]) rfl ?_
        exact ⟨HB4.out, rfl⟩
  · dsimp only at h0 ⊢
    have hcb : (((er : Nat) : Int) == 0) = false := by rw [beq_eq_false_iff_ne]; omega
    have hcn : ¬ ((er : Nat) : Int) = 0 := by omega
    have hq : q ≤ s.size := HPb.out
    have hq1 : (q : Int) ≤ (s.size : Int) := by omega
    have hq0 : (0 : Int) ≤ (q : Int) := by omega
    clear h0
    go_wp2_with fail
    refine bodyPost_ret (v := .bool true) (by simp [results, Tryz.results8, go_sem]) rfl ?_
    exact ⟨HB1.out, rfl⟩
end Go.Proofs.YtfgfgcecbodjeaaGreatDoor
