import Derived.Test.YtbfjpmbninlbbabGreatDoorM13
import Derived.Test.YtbfjpmbninlbbabGreatDoorM8
import Derived.Deep.RegionWith
import Derived.Deep.RegionHeld3
import Derived.Laws.MakeOwn
namespace Go.Proofs.YtbfjpmbninlbbabGreatDoor
open Go.RowKit
set_option linter.unusedVariables false
set_option linter.unusedSimpArgs false

/-- the borders so far: those of the first n beginnings -/
def Bords (w : World) (p : List UInt8) (g n : Nat) : Prop := g < w.heap.size ∧ ∀ i, i < n → ∃ k : Nat, w.cell? ⟨g, i, none⟩ = some (.int .i64 (k : Int)) ∧ IsMax p k ((p.take (i + 1)).tail)
theorem Bords.keep {w w' : World} {p : List UInt8} {g n : Nat} (h : Bords w p g n) (hb : Below w.heap.size w w') : Bords w' p g n :=
  ⟨Nat.lt_of_lt_of_le h.1 hb.size, fun i hi => by obtain ⟨k, h1, h2⟩ := h.2 i hi; exact ⟨k, (hb.cell (p := ⟨g, i, none⟩) h.1).trans h1, h2⟩⟩

theorem byte_eq (s : ByteArray) (k : Nat) (hk : k < s.size) : s.data.toList[k]'(by rw [Array.length_toList]; exact hk) = s[k] := by
  simp [ByteArray.getElem_eq_getElem_data]
theorem size_len (s : ByteArray) : s.data.toList.length = s.size := Array.length_toList

theorem byte_of {x b : UInt8} (h : ((x.toNat : Int) == (b.toNat : Int)) = true) : x = b := by
  have := eq_of_beq h
  exact UInt8.toNat_inj.1 (by omega)
theorem byte_ne {x b : UInt8} (h : ((x.toNat : Int) == (b.toNat : Int)) = false) : x ≠ b := by
  rintro rfl
  simp at h

set_option maxRecDepth 100000 in
set_option maxHeartbeats 1600000 in
/-- goOn: the longest beginning that ends what there was and b -/
theorem w_goOn (p : ByteArray) (g n cap k : Nat) (b : UInt8) (u : List UInt8) (w : World) (hp : 0 < p.size) (hs : p.size ≤ 140737488355328) (hB : Bords w p.data.toList g n) (hn : n ≤ p.size) (hm : IsMax p.data.toList k u) (hk : k ≤ n) (hc : p.size ≤ cap) :
    Calls Tryz.prog 66 #[.string p, .slice (some ⟨g, 0, none⟩) p.size cap, .int .i64 (k : Int), .int .u8 (b.toNat : Int)] w fun e w' => (∃ k' : Nat, e = .returned (.int .i64 (k' : Int)) ∧ IsMax p.data.toList k' (u ++ [b])) ∧ w' = w := by
  have HB := Hid.mk hB
  have HC : Hid (Cand p.data.toList u b k) := hm.cand b
  clear hB hm
  go_enter Tryz.func66, Tryz.ntmps66
  go_wp2_with fail
  go_loopw [2] (fun m wr => ∃ k : Nat, k ≤ n ∧ m = .int .i64 (k : Int) ∧ Hid (Cand p.data.toList u b k) ∧ w = wr) (fun m _ => (intOf m).toNat)
  case atStart => exact ⟨k, hk, rfl, HC, rfl⟩
  case round =>
    clear HC hk k
    obtain ⟨k, hk, rfl, HC, rfl⟩ := hrel
    have hle := HC.out.1
    rw [size_len] at hle
    by_cases h0 : k = 0
    · subst h0
      have hpz : (0 : Int) < (p.size : Int) := by omega
      have hpl : 0 < p.data.toList.length := by rw [size_len]; exact hp
      cases hb : (((p[0] : UInt8).toNat : Int) == (b.toNat : Int)) with
      | true =>
        have HE : Hid (IsMax p.data.toList 1 (u ++ [b])) := HC.out.hit hpl (by rw [byte_eq p 0 hp]; exact byte_of hb)
        go_wp2_with fail
        go_ret
        exact ⟨⟨1, rfl, HE.out⟩, rfl⟩
      | false =>
        have HE : Hid (IsMax p.data.toList 0 (u ++ [b])) := HC.out.miss hpl (by rw [byte_eq p 0 hp]; exact byte_ne hb)
        go_wp2_with fail
        go_ret
        exact ⟨⟨0, rfl, HE.out⟩, rfl⟩
    · obtain ⟨k0, rfl⟩ : ∃ k0, k = k0 + 1 := ⟨k - 1, by omega⟩
      obtain ⟨k1, c1, hm1⟩ := HB.out.2 k0 (by omega)
      have HM1 := Hid.mk hm1
      clear hm1
      have i1 : (k0 : Int) < (p.size : Int) := by omega
      by_cases hend : k0 + 1 = p.size
      · have HF := Hid.mk (HC.out.fall (k' := k1) (by omega) (.inl (by rw [size_len]; exact hend)) HM1.out)
        have hq : ((k0 : Int) + 1 == (p.size : Int)) = true := by simp; omega
        have hk1 := HF.out.2
        clear hend
        go_wp2_with fail
        go_roundw
        case rel => exact ⟨k1, by omega, rfl, HF.out.1, trivial⟩
        case measure => simp [intOf]; omega
      · have hlt : k0 + 1 < p.size := by omega
        have hq : ((k0 : Int) + 1 == (p.size : Int)) = false := by simp; omega
        have i2 : (k0 : Int) + 1 < (p.size : Int) := by omega
        have hpl : k0 + 1 < p.data.toList.length := by rw [size_len]; exact hlt
        cases hb : (((p[k0 + 1] : UInt8).toNat : Int) == (b.toNat : Int)) with
        | true =>
          have HE : Hid (IsMax p.data.toList (k0 + 1 + 1) (u ++ [b])) := HC.out.hit hpl (by rw [byte_eq p (k0 + 1) hlt]; exact byte_of hb)
          have hb2 : (((p[k0 + 1] : UInt8).toNat : Int) != (b.toNat : Int)) = false := by rw [bne, hb]; rfl
          go_wp2_with fail
          go_ret
          exact ⟨⟨k0 + 1 + 1, by simp, HE.out⟩, rfl⟩
        | false =>
          have HF := Hid.mk (HC.out.fall (k' := k1) (by omega) (.inr ⟨hpl, by rw [byte_eq p (k0 + 1) hlt]; exact byte_ne hb⟩) HM1.out)
          have hb2 : (((p[k0 + 1] : UInt8).toNat : Int) != (b.toNat : Int)) = true := by rw [bne, hb]; rfl
          have hk1 := HF.out.2
          go_wp2_with fail
          go_roundw
          case rel => exact ⟨k1, by omega, rfl, HF.out.1, trivial⟩
          case measure => simp [intOf]; omega

theorem goOn_le {p u : List UInt8} {b : UInt8} {k : Nat} (h : IsMax p k (u ++ [b])) : k ≤ u.length + 1 := by
  have h1 := h.2.1.length_le
  rw [len_take h.1] at h1
  simpa using h1

/-- the row of the borders while it is filled -/
structure BoSt (w wr : World) (p : List UInt8) (g n i : Nat) : Prop where
  row : ∃ cs : List Int, cs.length = n ∧ wr.heap[g]? = some (.cells (ivals .i64 cs).toArray 3 (0, 0))
  bords : Bords wr p g i
  below : Below w.heap.size w wr
  new : w.heap.size ≤ g

theorem BoSt.cell {w wr : World} {p : List UInt8} {g n i : Nat} (h : BoSt w wr p g n i) (j : Nat) (hj : j < n) : ∃ v, wr.cell? ⟨g, j, none⟩ = some v := by
  obtain ⟨cs, hl, hg⟩ := h.row
  refine ⟨.int .i64 (cs.getD j 0), ?_⟩
  rw [cell_of_row wr g j _ _ _ hg]
  simp [ivals, List.getD, hl, hj]
theorem BoSt.free {w wr : World} {p : List UInt8} {g n i : Nat} (h : BoSt w wr p g n i) (j : Nat) : wr.frozen? ⟨g, j, none⟩ = false := by
  obtain ⟨cs, hl, hg⟩ := h.row
  exact frozen_of_row wr g j _ _ hg

theorem BoSt.step {w wr : World} {p : List UInt8} {g n i k : Nat} (h : BoSt w wr p g n i) (hi : i < n) (hm : IsMax p k ((p.take (i + 1)).tail)) : BoSt w (wr.setCell ⟨g, i, none⟩ (.int .i64 (k : Int))) p g n (i + 1) := by
  obtain ⟨cs, hl, hg⟩ := h.row
  refine ⟨⟨cs.set i (k : Int), by rw [List.length_set]; exact hl, ?_⟩, ⟨by simp; exact h.bords.1, fun j hj => ?_⟩, h.below.setCell (p := ⟨g, i, none⟩) h.new _, h.new⟩
  · have h1 : (wr.setCell ⟨g, i, none⟩ (.int .i64 (k : Int))).heap[g]? = some (.cells ((ivals .i64 cs).toArray.setIfInBounds i (.int .i64 (k : Int))) 3 (0, 0)) := heap_setCell_same wr g i _ _ _ hg
    rw [h1]
    simp [ivals, List.map_set]
  · by_cases he : j = i
    · subst he
      obtain ⟨v, hv⟩ := h.cell j hi
      exact ⟨k, World.cell?_setCell_same _ _ _ hv, hm⟩
    · obtain ⟨k', h1, h2⟩ := h.bords.2 j (by omega)
      exact ⟨k', by rw [World.cell?_setCell_other _ _ _ _ (by simp <;> omega)]; exact h1, h2⟩

/-- a new row of noughts -/
def kzrow (n : Nat) : Obj := .cells (ivals .i64 (List.replicate n 0)).toArray 3 (0, 0)
theorem kmade_zeros (n : Nat) : madeCells #[.int .i64 0] n = (ivals .i64 (List.replicate n 0)).toArray := by
  unfold madeCells ivals
  apply Array.ext
  · simp
  · intro i h1 h2
    have e : i % 1 = 0 := by omega
    simp [e]
theorem run_make_krow (n : Nat) (hn : n ≤ 1099511627776) (u : World) : (Instr.makeSlice 39 (.int .i64 (n : Int)) (.int .i64 (n : Int))).run Tryz.prog u = .ok (.slice (some ⟨u.heap.size, 0, none⟩) n n) (u.alloc (kzrow n)) := by
  obtain ⟨i0, hi, hz0, hz1, hz2⟩ := info_parts Tryz.infoI
  have h := run_make (P := Tryz.prog) u 39 3 i0 (.int .i64 0) Tryz.underlying39 hi hz0 .i64 .i64 (n : Int) (n : Int) (by omega) (Int.le_refl _) (by rw [hz2]; omega) (by omega)
  have e : ((n : Int)).toNat = n := by omega
  rw [e] at h
  unfold kzrow
  rw [← kmade_zeros]
  simpa [hz1, Value.cells] using h

theorem boSt_new (w : World) (p : List UInt8) (n : Nat) (hn : 0 < n) : BoSt w (w.alloc (kzrow n)) p w.heap.size n 1 := by
  have hg : (w.alloc (kzrow n)).heap[w.heap.size]? = some (kzrow n) := heap_alloc_new w _
  refine ⟨⟨List.replicate n 0, by simp, hg⟩, ⟨by simp, fun i hi => ?_⟩, (Below.refl _ _).alloc (Nat.le_refl _) _, Nat.le_refl _⟩
  obtain rfl : i = 0 := by omega
  refine ⟨0, ?_, ?_⟩
  · rw [cell_of_row _ w.heap.size 0 _ _ _ hg]
    simp [ivals, hn]
  · have : (p.take 1).tail = [] := by cases p <;> simp
    rw [this]; exact isMax_nil
theorem BoSt.drew {w wr : World} {p : List UInt8} {g n i : Nat} (h : BoSt w wr p g n i) : BoSt w wr.drew p g n i := ⟨h.row, h.bords, h.below.drew, h.new⟩

set_option maxRecDepth 100000 in
set_option maxHeartbeats 3200000 in
theorem w_bordersOf (p : ByteArray) (w : World) (hp : 0 < p.size) (hs : p.size ≤ 4294967296) :
    Calls Tryz.prog 65 #[.string p] w fun e w' => ∃ g, e = .returned (.slice (some ⟨g, 0, none⟩) p.size p.size) ∧ Hid (w.heap.size ≤ g ∧ Bords w' p.data.toList g p.size) ∧ Below w.heap.size w w' := by
  have hmk := fun u => run_make_krow p.size (by omega) u
  have HS : Hid (BoSt w (w.alloc (kzrow p.size)) p.data.toList w.heap.size p.size 1) := boSt_new w _ _ hp
  go_enter Tryz.func65, Tryz.ntmps65
  go_wp2_with fail
  clear hmk
  go_loopw [4] (fun i wr => ∃ k : Nat, 1 ≤ k ∧ k ≤ p.size ∧ i = .int .i64 (k : Int) ∧ Hid (BoSt w wr p.data.toList w.heap.size p.size k)) (fun i _ => p.size - (intOf i).toNat)
  case atStart => exact ⟨1, by omega, by omega, rfl, HS⟩
  case round =>
    obtain ⟨k, h1, hk, rfl, HQ⟩ := hrel
    by_cases hlt : k < p.size
    · obtain ⟨j, rfl⟩ : ∃ j, k = j + 1 := ⟨k - 1, by omega⟩
      have i1 : (j : Int) + 1 < (p.size : Int) := by omega
      have i2 : (j : Int) < (p.size : Int) := by omega
      obtain ⟨m, c1, hm⟩ := HQ.out.bords.2 j (by omega)
      have HM := Hid.mk hm
      have hmj : m ≤ j := by
        have h2 := hm.2.1.length_le
        rw [len_take hm.1, List.length_tail, len_take (by rw [size_len]; omega)] at h2
        omega
      obtain ⟨v, c2⟩ := HQ.out.cell (j + 1) hlt
      have f2 := HQ.out.free (j + 1)
      obtain ⟨b, hb⟩ : ∃ b, b = p[j + 1] := ⟨_, rfl⟩
      have HG : Hid (Calls Tryz.prog 66 #[.string p, .slice (some ⟨w.heap.size, 0, none⟩) p.size p.size, .int .i64 (m : Int), .int .u8 (p[j + 1].toNat : Int)] wr.drew fun e w' => (∃ k' : Nat, e = .returned (.int .i64 (k' : Int)) ∧ Hid (BoSt w (wr.setCell ⟨w.heap.size, j + 1, none⟩ (.int .i64 (k' : Int))).drew p.data.toList w.heap.size p.size (j + 1 + 1))) ∧ w' = wr.drew) := by
        refine (w_goOn p w.heap.size (j + 1) p.size m p[j + 1] _ wr.drew hp (by omega) HQ.out.bords (by omega) HM.out (by omega) (Nat.le_refl _)).mono ?_
        rintro e w' ⟨⟨k', rfl, hk'⟩, rfl⟩
        refine ⟨⟨k', rfl, (HQ.out.step hlt ?_).drew⟩, rfl⟩
        have := tail_up (p := p.data.toList) (i := j + 1) (by omega) (by rw [size_len]; exact hlt)
        rw [byte_eq p (j + 1) hlt] at this
        rw [this] at hk'
        exact hk'
      clear hm hb
      have z0 : (0 : Int) ≤ (j : Int) := by omega
      have z1 : (0 : Int) ≤ (j : Int) + 1 := by omega
      have wj : IntKind.i64.wrap (j : Int) = (j : Int) := by rw [IntKind.wrap_i64]; omega
      have wj1 : IntKind.i64.wrap ((j : Int) + 1 - 1) = (j : Int) := by rw [IntKind.wrap_i64]; omega
      go_wp2_with fail
      go_region_held3 (fun u => u.cell? ⟨w.heap.size, j, none⟩ = some (.int .i64 (m : Int))) (first | exact c1 | (exact (World.cell?_setCell_other wr _ _ _ (by simp)).trans c1) | assumption | go_keep) (first | (go_at_call 66; refine HG.out.mono ?_; rintro e w' ⟨⟨k', rfl, HN⟩, hw⟩; obtain rfl := hw.symm))
      all_goals go_wp2_with fail
      all_goals go_roundw
      case rel => exact ⟨j + 1 + 1, by omega, by omega, by go_num, HN⟩
      case measure => simp [intOf]; omega
    · have hn : ¬ (k : Int) < (p.size : Int) := by omega
      have hkp : k = p.size := by omega
      have HF : Hid (Bords wr p.data.toList w.heap.size p.size ∧ Below w.heap.size w wr) := ⟨by have := HQ.out.bords; rwa [hkp] at this, HQ.out.below⟩
      clear hkp
      go_wp2_with fail
      go_ret
      exact ⟨_, rfl, ⟨Nat.le_refl _, HF.out.1⟩, HF.out.2⟩
end Go.Proofs.YtbfjpmbninlbbabGreatDoor
