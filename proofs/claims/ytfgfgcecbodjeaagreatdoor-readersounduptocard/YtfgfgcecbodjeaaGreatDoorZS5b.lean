import Derived.Test.YtfgfgcecbodjeaaGreatDoorZS5a
import Derived.Test.YtfgfgcecbodjeaaGreatDoorZS5v
import Derived.Test.YtfgfgcecbodjeaaGreatDoorM44
import Derived.Test.YtfgfgcecbodjeaaGreatDoorM40
import Derived.Test.YtfgfgcecbodjeaaGreatDoorX0
namespace Go.Proofs.YtfgfgcecbodjeaaGreatDoor
open Go.RowKit Go.Shelf Go.Sort
set_option linter.unusedVariables false
set_option linter.unusedSimpArgs false
attribute [local go_sem] Oper.semAt_some

set_option maxRecDepth 100000 in
set_option maxHeartbeats 3200000 in
theorem w_5Right_k0  (d : Nat) (io ko : Option Addr) (ic kc : Nat) (w : World) : Calls Tryz.prog 18 #[.agg #[.int .i64 0, .string ⟨#[]⟩, .string ⟨#[]⟩, .slice io 0 ic, .slice ko 0 kc], .int .i64 (d : Int)] w fun e w' => e = .returned (.bool true) ∧ Below w.heap.size w w' := by
  have HVd := Hid.mk (fun (u : World) => w_rValidV ⟨#[]⟩ u (by decide))
  rw [show okB (⟨#[]⟩ : ByteArray).data.toList = true from (by decide)] at HVd
  have hn0 := heap_alloc_new w (.cells #[.int .i64 0, .string ⟨#[]⟩, .string ⟨#[]⟩, .slice io 0 ic, .slice ko 0 kc] 37)
  have HN0 := Hid.mk hn0
  clear hn0
  go_enter Tryz.func18, Tryz.ntmps18
  go_wp2_with fail
  refine (HVd.out _).mono ?_
  rintro e w2 ⟨rfl, hb2⟩
  have HBx : Hid (Below w.heap.size w w2 ∧ w2.heap[w.heap.size]? = some (.cells #[.int .i64 0, .string ⟨#[]⟩, .string ⟨#[]⟩, .slice io 0 ic, .slice ko 0 kc] 37 (0, 0))) := ⟨(below1 w _).trans (hb2.mono (by simp)), (hb2.block _ (by simp)).trans HN0.out⟩
  obtain ⟨b0, b1, b2, b3, b4, _, _, _, _, _⟩ := vbox_cells HBx.out.2
  clear hb2
  go_wp2_with fail
  go_loopw [6] (fun i wr => i = .int .i64 0 ∧ Hid (Below w.heap.size w wr ∧ wr.heap[w.heap.size]? = some (.cells #[.int .i64 0, .string ⟨#[]⟩, .string ⟨#[]⟩, .slice io 0 ic, .slice ko 0 kc] 37 (0, 0)))) (fun i _ => 0)
  case atStart => exact ⟨rfl, HBx⟩
  case round =>
    clear HBx
    obtain ⟨rfl, HBx⟩ := hrel
    obtain ⟨b0, b1, b2, b3, b4, _, _, _, _, _⟩ := vbox_cells HBx.out.2
    go_wp2_with fail
    go_loopw [7] (fun i wr => i = .int .i64 0 ∧ Hid (Below w.heap.size w wr ∧ wr.heap[w.heap.size]? = some (.cells #[.int .i64 0, .string ⟨#[]⟩, .string ⟨#[]⟩, .slice io 0 ic, .slice ko 0 kc] 37 (0, 0)))) (fun i _ => 0)
    case atStart => exact ⟨rfl, HBx⟩
    case round =>
      clear HBx b0 b1 b2 b3 b4
      obtain ⟨rfl, HBx⟩ := hrel
      obtain ⟨b0, b1, b2, b3, b4, _, _, _, _, _⟩ := vbox_cells HBx.out.2
      go_wp2_with fail
      go_ret
      exact ⟨rfl, HBx.out.1⟩

set_option maxRecDepth 100000 in
set_option maxHeartbeats 3200000 in
theorem w_5Right_k1  (d : Nat) (io ko : Option Addr) (ic kc : Nat) (w : World) : Calls Tryz.prog 18 #[.agg #[.int .i64 1, .string ⟨#[]⟩, .string ⟨#[]⟩, .slice io 0 ic, .slice ko 0 kc], .int .i64 (d : Int)] w fun e w' => e = .returned (.bool true) ∧ Below w.heap.size w w' := by
  have HVd := Hid.mk (fun (u : World) => w_rValidV ⟨#[]⟩ u (by decide))
  rw [show okB (⟨#[]⟩ : ByteArray).data.toList = true from (by decide)] at HVd
  have hn0 := heap_alloc_new w (.cells #[.int .i64 1, .string ⟨#[]⟩, .string ⟨#[]⟩, .slice io 0 ic, .slice ko 0 kc] 37)
  have HN0 := Hid.mk hn0
  clear hn0
  go_enter Tryz.func18, Tryz.ntmps18
  go_wp2_with fail
  refine (HVd.out _).mono ?_
  rintro e w2 ⟨rfl, hb2⟩
  have HBx : Hid (Below w.heap.size w w2 ∧ w2.heap[w.heap.size]? = some (.cells #[.int .i64 1, .string ⟨#[]⟩, .string ⟨#[]⟩, .slice io 0 ic, .slice ko 0 kc] 37 (0, 0))) := ⟨(below1 w _).trans (hb2.mono (by simp)), (hb2.block _ (by simp)).trans HN0.out⟩
  obtain ⟨b0, b1, b2, b3, b4, _, _, _, _, _⟩ := vbox_cells HBx.out.2
  clear hb2
  go_wp2_with fail
  go_loopw [6] (fun i wr => i = .int .i64 0 ∧ Hid (Below w.heap.size w wr ∧ wr.heap[w.heap.size]? = some (.cells #[.int .i64 1, .string ⟨#[]⟩, .string ⟨#[]⟩, .slice io 0 ic, .slice ko 0 kc] 37 (0, 0)))) (fun i _ => 0)
  case atStart => exact ⟨rfl, HBx⟩
  case round =>
    clear HBx
    obtain ⟨rfl, HBx⟩ := hrel
    obtain ⟨b0, b1, b2, b3, b4, _, _, _, _, _⟩ := vbox_cells HBx.out.2
    go_wp2_with fail
    go_loopw [7] (fun i wr => i = .int .i64 0 ∧ Hid (Below w.heap.size w wr ∧ wr.heap[w.heap.size]? = some (.cells #[.int .i64 1, .string ⟨#[]⟩, .string ⟨#[]⟩, .slice io 0 ic, .slice ko 0 kc] 37 (0, 0)))) (fun i _ => 0)
    case atStart => exact ⟨rfl, HBx⟩
    case round =>
      clear HBx b0 b1 b2 b3 b4
      obtain ⟨rfl, HBx⟩ := hrel
      obtain ⟨b0, b1, b2, b3, b4, _, _, _, _, _⟩ := vbox_cells HBx.out.2
      go_wp2_with fail
      go_ret
      exact ⟨rfl, HBx.out.1⟩

set_option maxRecDepth 100000 in
set_option maxHeartbeats 3200000 in
theorem w_5Right_k2  (d : Nat) (io ko : Option Addr) (ic kc : Nat) (w : World) : Calls Tryz.prog 18 #[.agg #[.int .i64 2, .string ⟨#[]⟩, .string ⟨#[]⟩, .slice io 0 ic, .slice ko 0 kc], .int .i64 (d : Int)] w fun e w' => e = .returned (.bool true) ∧ Below w.heap.size w w' := by
  have HVd := Hid.mk (fun (u : World) => w_rValidV ⟨#[]⟩ u (by decide))
  rw [show okB (⟨#[]⟩ : ByteArray).data.toList = true from (by decide)] at HVd
  have hn0 := heap_alloc_new w (.cells #[.int .i64 2, .string ⟨#[]⟩, .string ⟨#[]⟩, .slice io 0 ic, .slice ko 0 kc] 37)
  have HN0 := Hid.mk hn0
  clear hn0
  go_enter Tryz.func18, Tryz.ntmps18
  go_wp2_with fail
  refine (HVd.out _).mono ?_
  rintro e w2 ⟨rfl, hb2⟩
  have HBx : Hid (Below w.heap.size w w2 ∧ w2.heap[w.heap.size]? = some (.cells #[.int .i64 2, .string ⟨#[]⟩, .string ⟨#[]⟩, .slice io 0 ic, .slice ko 0 kc] 37 (0, 0))) := ⟨(below1 w _).trans (hb2.mono (by simp)), (hb2.block _ (by simp)).trans HN0.out⟩
  obtain ⟨b0, b1, b2, b3, b4, _, _, _, _, _⟩ := vbox_cells HBx.out.2
  clear hb2
  go_wp2_with fail
  go_loopw [6] (fun i wr => i = .int .i64 0 ∧ Hid (Below w.heap.size w wr ∧ wr.heap[w.heap.size]? = some (.cells #[.int .i64 2, .string ⟨#[]⟩, .string ⟨#[]⟩, .slice io 0 ic, .slice ko 0 kc] 37 (0, 0)))) (fun i _ => 0)
  case atStart => exact ⟨rfl, HBx⟩
  case round =>
    clear HBx
    obtain ⟨rfl, HBx⟩ := hrel
    obtain ⟨b0, b1, b2, b3, b4, _, _, _, _, _⟩ := vbox_cells HBx.out.2
    go_wp2_with fail
    go_loopw [7] (fun i wr => i = .int .i64 0 ∧ Hid (Below w.heap.size w wr ∧ wr.heap[w.heap.size]? = some (.cells #[.int .i64 2, .string ⟨#[]⟩, .string ⟨#[]⟩, .slice io 0 ic, .slice ko 0 kc] 37 (0, 0)))) (fun i _ => 0)
    case atStart => exact ⟨rfl, HBx⟩
    case round =>
      clear HBx b0 b1 b2 b3 b4
      obtain ⟨rfl, HBx⟩ := hrel
      obtain ⟨b0, b1, b2, b3, b4, _, _, _, _, _⟩ := vbox_cells HBx.out.2
      go_wp2_with fail
      go_ret
      exact ⟨rfl, HBx.out.1⟩

set_option maxRecDepth 100000 in
set_option maxHeartbeats 3200000 in
theorem w_5Right_k4 (t : ByteArray) (ht : okB t.data.toList = true) (hs : t.size ≤ 16777216) (d : Nat) (io ko : Option Addr) (ic kc : Nat) (w : World) : Calls Tryz.prog 18 #[.agg #[.int .i64 4, .string ⟨#[]⟩, .string t, .slice io 0 ic, .slice ko 0 kc], .int .i64 (d : Int)] w fun e w' => e = .returned (.bool true) ∧ Below w.heap.size w w' := by
  have HVd := Hid.mk (fun (u : World) => w_rValidV t u hs)
  rw [show okB (t : ByteArray).data.toList = true from ht] at HVd
  have hn0 := heap_alloc_new w (.cells #[.int .i64 4, .string ⟨#[]⟩, .string t, .slice io 0 ic, .slice ko 0 kc] 37)
  have HN0 := Hid.mk hn0
  clear hn0
  go_enter Tryz.func18, Tryz.ntmps18
  go_wp2_with fail
  all_goals
    refine (HVd.out _).mono ?_
    rintro e w2 ⟨rfl, hb2⟩
    have HBx : Hid (Below w.heap.size w w2 ∧ w2.heap[w.heap.size]? = some (.cells #[.int .i64 4, .string ⟨#[]⟩, .string t, .slice io 0 ic, .slice ko 0 kc] 37 (0, 0))) := ⟨(below1 w _).trans (hb2.mono (by simp)), (hb2.block _ (by simp)).trans HN0.out⟩
    obtain ⟨b0, b1, b2, b3, b4, _, _, _, _, _⟩ := vbox_cells HBx.out.2
    clear hb2
    go_wp2_with fail
    go_loopw [6] (fun i wr => i = .int .i64 0 ∧ Hid (Below w.heap.size w wr ∧ wr.heap[w.heap.size]? = some (.cells #[.int .i64 4, .string ⟨#[]⟩, .string t, .slice io 0 ic, .slice ko 0 kc] 37 (0, 0)))) (fun i _ => 0)
    case atStart => exact ⟨rfl, HBx⟩
    case round =>
      clear HBx
      obtain ⟨rfl, HBx⟩ := hrel
      obtain ⟨b0, b1, b2, b3, b4, _, _, _, _, _⟩ := vbox_cells HBx.out.2
      go_wp2_with fail
      go_loopw [7] (fun i wr => i = .int .i64 0 ∧ Hid (Below w.heap.size w wr ∧ wr.heap[w.heap.size]? = some (.cells #[.int .i64 4, .string ⟨#[]⟩, .string t, .slice io 0 ic, .slice ko 0 kc] 37 (0, 0)))) (fun i _ => 0)
      case atStart => exact ⟨rfl, HBx⟩
      case round =>
        clear HBx b0 b1 b2 b3 b4
        obtain ⟨rfl, HBx⟩ := hrel
        obtain ⟨b0, b1, b2, b3, b4, _, _, _, _, _⟩ := vbox_cells HBx.out.2
        go_wp2_with fail
        go_ret
        exact ⟨rfl, HBx.out.1⟩

set_option maxRecDepth 100000 in
set_option maxHeartbeats 3200000 in
theorem w_5Right_k3 (n : ByteArray) (hn0s : 0 < n.size) (hs : n.size ≤ 16777216) (hc : cDm.contains n[0] = true) (htok : numeralT n.data.toList 0 = ⟨10, 0, n.size, n.data.toList, 0⟩) (d : Nat) (io ko : Option Addr) (ic kc : Nat) (w : World) : Calls Tryz.prog 18 #[.agg #[.int .i64 3, .string n, .string ⟨#[]⟩, .slice io 0 ic, .slice ko 0 kc], .int .i64 (d : Int)] w fun e w' => e = .returned (.bool true) ∧ Below w.heap.size w w' := by
  have HNm := Hid.mk (fun (u : World) => (show Calls Tryz.prog 28 #[.string n, .int .i64 0] u (fun e w' => Below u.heap.size u w' ∧ PcT (numeralT n.data.toList 0) e) from w_5numeral n 0 u hn0s (by omega) hc))
  have HDg := Hid.mk (fun (u : World) => w_5digit n[0] u)
  have HTk := Hid.mk htok
  have g0 : (0 : Int) < (n.size : Int) := by omega
  have gnp : ¬ n.toList = ([] : List UInt8) := by
    intro e
    have e2 : n.data.toList = [] := by rw [← e, Lib.toList_data]
    have h1 := size_lst n
    rw [e2] at h1
    have h2 : 0 = n.size := h1
    omega
  have gem : n.toList.isEmpty = false := by
    cases h : n.toList with
    | nil => exact absurd h gnp
    | cons a l => rfl
  have H45 : Hid (cDg.contains n[0] = false → ((n[0].toNat : Nat) : Int) = 45) := fun hf => by
    have h1 : n[0] ∈ cDm := by simpa using hc
    have h2 : n[0] ∉ cDg := by simpa using hf
    have h3 : ∀ x ∈ cDm, x ∈ cDg ∨ x = 45 := by decide
    rcases h3 _ h1 with h | h
    · exact absurd h h2
    · rw [h]; rfl
  clear htok hc
  have HVd := Hid.mk (fun (u : World) => w_rValidV ⟨#[]⟩ u (by decide))
  rw [show okB (⟨#[]⟩ : ByteArray).data.toList = true from (by decide)] at HVd
  have hn0 := heap_alloc_new w (.cells #[.int .i64 3, .string n, .string ⟨#[]⟩, .slice io 0 ic, .slice ko 0 kc] 37)
  have HN0 := Hid.mk hn0
  clear hn0
  go_enter Tryz.func18, Tryz.ntmps18
  go_wp2_with fail
  have HP0 : Hid (((w.alloc (.cells #[.int .i64 3, .string n, .string ⟨#[]⟩, .slice io 0 ic, .slice ko 0 kc] 37)).alloc (.cells #[.int .u8 0, .int .i64 0, .int .i64 0, .string ⟨#[]⟩, .int .i64 42] 50)).heap[w.heap.size + 1]? = some (.cells #[.int .u8 0, .int .i64 0, .int .i64 0, .string ⟨#[]⟩, .int .i64 42] 50 (0, 0))) := by
    show _ = _
    have h := heap_alloc_new (w.alloc (.cells #[.int .i64 3, .string n, .string ⟨#[]⟩, .slice io 0 ic, .slice ko 0 kc] 37)) (.cells #[.int .u8 0, .int .i64 0, .int .i64 0, .string ⟨#[]⟩, .int .i64 42] 50)
    rw [World.size_alloc] at h
    exact h
  have HV0 : Hid (((w.alloc (.cells #[.int .i64 3, .string n, .string ⟨#[]⟩, .slice io 0 ic, .slice ko 0 kc] 37)).alloc (.cells #[.int .u8 0, .int .i64 0, .int .i64 0, .string ⟨#[]⟩, .int .i64 42] 50)).heap[w.heap.size]? = some (.cells #[.int .i64 3, .string n, .string ⟨#[]⟩, .slice io 0 ic, .slice ko 0 kc] 37 (0, 0))) := by
    show _ = _
    rw [Below.heap_alloc _ _ _ (by simp)]
    exact HN0.out
  refine (HDg.out _).mono ?_
  rintro e w1 ⟨rfl, rfl⟩
  cases hcd : cDg.contains n[0] with
  | true =>
    go_wp2_with fail
    refine (HNm.out _).mono ?_
    rintro e w3 ⟨hb3, hpc⟩
    rw [HTk.out] at hpc
    rcases hpc with ⟨_, rfl⟩ | ⟨h2, _⟩
    · have hpb := (hb3.block (w.heap.size + 1) (by simp)).trans HP0.out
      have hvb := (hb3.block w.heap.size (by simp; omega)).trans HV0.out
      obtain ⟨p0, p1, p2, p3, p4, pf0, pf1, pf2, pf3, pf4⟩ := vbox_cells hpb
      have hbw : Below w.heap.size w w3 := ((below1 w _).alloc (by simp) _).trans (hb3.mono (by simp; omega))
      have hz3 : w.heap.size + 1 < w3.heap.size := (Array.getElem?_eq_some_iff.1 hpb).1
      have HH := Hid.mk (And.intro hpb (And.intro hvb hbw))
      unfold pc5
      dsimp only
      rw [show (⟨n.data.toList.toArray⟩ : ByteArray) = n from by cases n; simp, show sg5 10 = 0 from rfl]
      clear hb3 hpb hvb hbw
      obtain ⟨W4, hW4⟩ : ∃ W4, (((((w3.setCell ⟨w.heap.size + 1, 0, none⟩ (.int .u8 0)).setCell ⟨w.heap.size + 1, 1, none⟩ (.int .i64 0)).setCell ⟨w.heap.size + 1, 2, none⟩ (.int .i64 (n.size : Int))).setCell ⟨w.heap.size + 1, 3, none⟩ (.string n)).setCell ⟨w.heap.size + 1, 4, none⟩ (.int .i64 0)) = W4 := ⟨_, rfl⟩
      obtain ⟨e5, k5, s5⟩ := rbox_set5 w3 _ _ _ _ _ _ _ _ _ _ _ _ HH.out.1 W4 hW4.symm
      have hvb4 := (k5 w.heap.size (by omega)).trans HH.out.2.1
      obtain ⟨r0, r1, r2, r3, r4, _, _, _, _, _⟩ := vbox_cells e5
      obtain ⟨v0, v1, v2, v3, v4, _, _, _, _, _⟩ := vbox_cells hvb4
      have hbw4 : Below w.heap.size w W4 := by
        rw [← hW4]
        exact ((((HH.out.2.2.setCell (p := ⟨w.heap.size + 1, 0, none⟩) (by show w.heap.size ≤ w.heap.size + 1; omega) _).setCell (p := ⟨w.heap.size + 1, 1, none⟩) (by show w.heap.size ≤ w.heap.size + 1; omega) _).setCell (p := ⟨w.heap.size + 1, 2, none⟩) (by show w.heap.size ≤ w.heap.size + 1; omega) _).setCell (p := ⟨w.heap.size + 1, 3, none⟩) (by show w.heap.size ≤ w.heap.size + 1; omega) _).setCell (p := ⟨w.heap.size + 1, 4, none⟩) (by show w.heap.size ≤ w.heap.size + 1; omega) _
      have hl4 : w.heap.size + 1 < W4.heap.size := by omega
      have HH4 := Hid.mk (And.intro hvb4 hbw4)
      clear e5 k5 s5 hvb4 hbw4
      go_wp2_with fail
      refine (HVd.out _).mono ?_
      rintro e w2 ⟨rfl, hb2⟩
      have HBx : Hid (Below w.heap.size w w2 ∧ w2.heap[w.heap.size]? = some (.cells #[.int .i64 3, .string n, .string ⟨#[]⟩, .slice io 0 ic, .slice ko 0 kc] 37 (0, 0))) := ⟨HH4.out.2.trans (hb2.mono HH4.out.2.size), (hb2.block _ (by omega)).trans HH4.out.1⟩
      obtain ⟨b0, b1, b2, b3, b4, _, _, _, _, _⟩ := vbox_cells HBx.out.2
      clear hb2 p0 p1 p2 p3 p4 pf0 pf1 pf2 pf3 pf4 hW4 r0 r1 r2 r3 r4 v0 v1 v2 v3 v4
      go_wp2_with fail
      go_loopw [6] (fun i wr => i = .int .i64 0 ∧ Hid (Below w.heap.size w wr ∧ wr.heap[w.heap.size]? = some (.cells #[.int .i64 3, .string n, .string ⟨#[]⟩, .slice io 0 ic, .slice ko 0 kc] 37 (0, 0)))) (fun i _ => 0)
      case atStart => exact ⟨rfl, HBx⟩
      case round =>
        clear HBx
        obtain ⟨rfl, HBx⟩ := hrel
        obtain ⟨b0, b1, b2, b3, b4, _, _, _, _, _⟩ := vbox_cells HBx.out.2
        go_wp2_with fail
        go_loopw [7] (fun i wr => i = .int .i64 0 ∧ Hid (Below w.heap.size w wr ∧ wr.heap[w.heap.size]? = some (.cells #[.int .i64 3, .string n, .string ⟨#[]⟩, .slice io 0 ic, .slice ko 0 kc] 37 (0, 0)))) (fun i _ => 0)
        case atStart => exact ⟨rfl, HBx⟩
        case round =>
          clear HBx b0 b1 b2 b3 b4
          obtain ⟨rfl, HBx⟩ := hrel
          obtain ⟨b0, b1, b2, b3, b4, _, _, _, _, _⟩ := vbox_cells HBx.out.2
          go_wp2_with fail
          go_ret
          exact ⟨rfl, HBx.out.1⟩
    · exact absurd rfl h2
  | false =>
    have h45 := H45.out hcd
    go_wp2_with fail
    refine (HNm.out _).mono ?_
    rintro e w3 ⟨hb3, hpc⟩
    rw [HTk.out] at hpc
    rcases hpc with ⟨_, rfl⟩ | ⟨h2, _⟩
    · have hpb := (hb3.block (w.heap.size + 1) (by simp)).trans HP0.out
      have hvb := (hb3.block w.heap.size (by simp; omega)).trans HV0.out
      obtain ⟨p0, p1, p2, p3, p4, pf0, pf1, pf2, pf3, pf4⟩ := vbox_cells hpb
      have hbw : Below w.heap.size w w3 := ((below1 w _).alloc (by simp) _).trans (hb3.mono (by simp; omega))
      have hz3 : w.heap.size + 1 < w3.heap.size := (Array.getElem?_eq_some_iff.1 hpb).1
      have HH := Hid.mk (And.intro hpb (And.intro hvb hbw))
      unfold pc5
      dsimp only
      rw [show (⟨n.data.toList.toArray⟩ : ByteArray) = n from by cases n; simp, show sg5 10 = 0 from rfl]
      clear hb3 hpb hvb hbw
      obtain ⟨W4, hW4⟩ : ∃ W4, (((((w3.setCell ⟨w.heap.size + 1, 0, none⟩ (.int .u8 0)).setCell ⟨w.heap.size + 1, 1, none⟩ (.int .i64 0)).setCell ⟨w.heap.size + 1, 2, none⟩ (.int .i64 (n.size : Int))).setCell ⟨w.heap.size + 1, 3, none⟩ (.string n)).setCell ⟨w.heap.size + 1, 4, none⟩ (.int .i64 0)) = W4 := ⟨_, rfl⟩
      obtain ⟨e5, k5, s5⟩ := rbox_set5 w3 _ _ _ _ _ _ _ _ _ _ _ _ HH.out.1 W4 hW4.symm
      have hvb4 := (k5 w.heap.size (by omega)).trans HH.out.2.1
      obtain ⟨r0, r1, r2, r3, r4, _, _, _, _, _⟩ := vbox_cells e5
      obtain ⟨v0, v1, v2, v3, v4, _, _, _, _, _⟩ := vbox_cells hvb4
      have hbw4 : Below w.heap.size w W4 := by
        rw [← hW4]
        exact ((((HH.out.2.2.setCell (p := ⟨w.heap.size + 1, 0, none⟩) (by show w.heap.size ≤ w.heap.size + 1; omega) _).setCell (p := ⟨w.heap.size + 1, 1, none⟩) (by show w.heap.size ≤ w.heap.size + 1; omega) _).setCell (p := ⟨w.heap.size + 1, 2, none⟩) (by show w.heap.size ≤ w.heap.size + 1; omega) _).setCell (p := ⟨w.heap.size + 1, 3, none⟩) (by show w.heap.size ≤ w.heap.size + 1; omega) _).setCell (p := ⟨w.heap.size + 1, 4, none⟩) (by show w.heap.size ≤ w.heap.size + 1; omega) _
      have hl4 : w.heap.size + 1 < W4.heap.size := by omega
      have HH4 := Hid.mk (And.intro hvb4 hbw4)
      clear e5 k5 s5 hvb4 hbw4
      go_wp2_with fail
      refine (HVd.out _).mono ?_
      rintro e w2 ⟨rfl, hb2⟩
      have HBx : Hid (Below w.heap.size w w2 ∧ w2.heap[w.heap.size]? = some (.cells #[.int .i64 3, .string n, .string ⟨#[]⟩, .slice io 0 ic, .slice ko 0 kc] 37 (0, 0))) := ⟨HH4.out.2.trans (hb2.mono HH4.out.2.size), (hb2.block _ (by omega)).trans HH4.out.1⟩
      obtain ⟨b0, b1, b2, b3, b4, _, _, _, _, _⟩ := vbox_cells HBx.out.2
      clear hb2 p0 p1 p2 p3 p4 pf0 pf1 pf2 pf3 pf4 hW4 r0 r1 r2 r3 r4 v0 v1 v2 v3 v4
      go_wp2_with fail
      go_loopw [6] (fun i wr => i = .int .i64 0 ∧ Hid (Below w.heap.size w wr ∧ wr.heap[w.heap.size]? = some (.cells #[.int .i64 3, .string n, .string ⟨#[]⟩, .slice io 0 ic, .slice ko 0 kc] 37 (0, 0)))) (fun i _ => 0)
      case atStart => exact ⟨rfl, HBx⟩
      case round =>
        clear HBx
        obtain ⟨rfl, HBx⟩ := hrel
        obtain ⟨b0, b1, b2, b3, b4, _, _, _, _, _⟩ := vbox_cells HBx.out.2
        go_wp2_with fail
        go_loopw [7] (fun i wr => i = .int .i64 0 ∧ Hid (Below w.heap.size w wr ∧ wr.heap[w.heap.size]? = some (.cells #[.int .i64 3, .string n, .string ⟨#[]⟩, .slice io 0 ic, .slice ko 0 kc] 37 (0, 0)))) (fun i _ => 0)
        case atStart => exact ⟨rfl, HBx⟩
        case round =>
          clear HBx b0 b1 b2 b3 b4
          obtain ⟨rfl, HBx⟩ := hrel
          obtain ⟨b0, b1, b2, b3, b4, _, _, _, _, _⟩ := vbox_cells HBx.out.2
          go_wp2_with fail
          go_ret
          exact ⟨rfl, HBx.out.1⟩
    · exact absurd rfl h2

end Go.Proofs.YtfgfgcecbodjeaaGreatDoor
