import Derived.Test.YtfjmgccbpiolhaaGreatDoorMW2
import Derived.Test.YtfjmgccbpiolhaaGreatDoorMW7
import Derived.Lib.OthersKept
import Derived.Lib.Builder
import Derived.Lib.AppendStr
import Derived.Lib.UnsafeStr
import Derived.Shelf.RegionOpenPlain
import Derived.WalkKit
namespace Go.Proofs.YtfjmgccbpiolhaaGreatDoor
open Go.RowKit
set_option linter.unusedVariables false
set_option linter.unusedSimpArgs false

structure Sheet (B S : Nat) (w : World) (l : List UInt8) : Prop where
  lo : B ≤ S
  at_ : ∃ p v, w.heap[S]? = some (.cells #[p, v, .int .i64 0] 76 (0, 0)) ∧ (p = .pointer none ∨ p = .pointer (some ⟨S, 0, none⟩)) ∧ w.ownsRow B 5 1 v l.length (Lib.byteCells l) ∧ (l = [] → v = .slice none 0 0)
structure SheetN (B S : Nat) (w : World) (l : List UInt8) : Prop where
  lo : B ≤ S
  at_ : w.heap[S]? = some (.cells #[.pointer none, .slice none 0 0, .int .i64 (l.length : Int)] 76 (0, 0))

theorem heap_lt {w : World} {k : Nat} {o : Obj} (h : w.heap[k]? = some o) : k < w.heap.size := (Array.getElem?_eq_some_iff.1 h).1

theorem sizeB : (Tryz.prog.info? 74).map (·.size) = some 2 := by kernel_rfl
theorem liesB : liesAt Tryz.prog Tryz.prog.depth 76 (3 / Tryz.prog.cellsOf 76) 0 74 1 = true := by kernel_rfl

set_option maxHeartbeats 1000000 in
set_option maxRecDepth 100000 in
theorem copy_used (b : Nat) (w : World) (h0 : w.cell? ⟨b, 0, none⟩ = some (.pointer (some ⟨b, 0, none⟩))) :
    Calls Tryz.prog 107 #[.pointer (some ⟨b, 0, none⟩)] w fun e w' => e = .returned (.tuple #[]) ∧ w' = w := by
  obtain ⟨j, hj, _⟩ := Option.map_eq_some_iff.1 sizeB
  go_enter Tryz.func107, Tryz.ntmps107
  go_wp2
  rw [Lib.run_neq_ptr_same w _ Tryz.underlying71 hj]
  go_wp2
  go_end0
  exact ⟨rfl, rfl⟩

set_option maxHeartbeats 1000000 in
set_option maxRecDepth 100000 in
theorem copy_fresh (b : Nat) (w : World) (h0 : w.cell? ⟨b, 0, none⟩ = some (.pointer none)) (hsh : w.shape? b = some (76, 3)) (hfz : w.frozen? ⟨b, 0, none⟩ = false) :
    Calls Tryz.prog 107 #[.pointer (some ⟨b, 0, none⟩)] w fun e w' => e = .returned (.tuple #[]) ∧ w' = w.setCell ⟨b, 0, none⟩ (.pointer (some ⟨b, 0, none⟩)) := by
  obtain ⟨j, hj, hjs⟩ := Option.map_eq_some_iff.1 sizeB
  have hc1 := Lib.run_to_unsafe (P := Tryz.prog) w ⟨b, 0, none⟩ Tryz.underlying71 Tryz.underlying212 hj (by rw [hjs]; decide) hsh (by show 0 < 3; omega)
  have hc2 := Lib.run_from_unsafe (P := Tryz.prog) w ⟨b, 0, none⟩ Tryz.underlying212 Tryz.underlying71 hj hsh liesB
  have hc3 : (callFunc 130 #[.pointer (some ⟨b, 0, none⟩)]).run Tryz.prog w = .ok (.value (.pointer (some ⟨b, 0, none⟩))) w := by
    rw [run_callFunc_extern Tryz.func130 (by kernel_rfl) (by kernel_rfl) (by kernel_rfl) (e := Extern.AbiNoEscape.same) (by kernel_rfl), Lib.run_noEscape]
    rfl
  go_enter Tryz.func107, Tryz.ntmps107
  go_wp2
  go_end0
  exact ⟨rfl, rfl⟩

theorem Sheet.keep {B S : Nat} {w w' : World} {l : List UInt8} (h : Sheet B S w l) (hk : ∀ k o, w.heap[k]? = some o → (k = S ∨ ∃ c fz, o = .cells c 5 fz) → w'.heap[k]? = some o) : Sheet B S w' l := by
  obtain ⟨p, v, hb, hp, hown, h0⟩ := h.at_
  refine ⟨h.lo, p, v, hk S _ hb (.inl rfl), hp, ⟨hown.1, ?_⟩, h0⟩
  rcases hown.2 with hn | ⟨g, cap, cur, hv, hbg, hg, rest⟩
  · exact .inl hn
  · exact .inr ⟨g, cap, cur, hv, hbg, hk g _ hg (.inr ⟨_, _, rfl⟩), rest⟩
theorem SheetN.keep {B S : Nat} {w w' : World} {l : List UInt8} (h : SheetN B S w l) (hk : ∀ k o, w.heap[k]? = some o → (k = S ∨ ∃ c fz, o = .cells c 5 fz) → w'.heap[k]? = some o) : SheetN B S w' l :=
  ⟨h.lo, hk S _ h.at_ (.inl rfl)⟩

set_option maxHeartbeats 2000000 in
set_option maxRecDepth 100000 in
theorem w_WriteString (B S : Nat) (l : List UInt8) (s : ByteArray) (w : World) (h : Sheet B S w l) (hlen : l.length + s.size ≤ 140737488355328) (hBw : B ≤ w.heap.size) :
    Calls Tryz.prog 64 #[.pointer (some ⟨S, 0, none⟩), .string s] w fun e w' => e = .returned (.tuple #[.int .i64 s.size, .nilIface]) ∧ Sheet B S w' (l ++ s.data.toList) ∧ Below B w w' ∧ Lib.OthersKept 5 (some S) w w' := by
  obtain ⟨i0, hi, hz0, hz1, hz2⟩ := info_parts Tryz.infoB
  have hB := h.lo
  have HC : Calls Tryz.prog 107 #[.pointer (some ⟨S, 0, none⟩)] w fun e w1 => e = .returned (.tuple #[]) ∧ ∃ v, w1.heap[S]? = some (.cells #[.pointer (some ⟨S, 0, none⟩), v, .int .i64 0] 76 (0, 0)) ∧ w1.ownsRow B 5 1 v l.length (Lib.byteCells l) ∧ (l = [] → v = .slice none 0 0) ∧ Below B w w1 ∧ Lib.OthersKept 5 (some S) w w1 ∧ w1.heap.size = w.heap.size := by
    obtain ⟨p, v, hb, hp, hown, h0⟩ := h.at_
    have c0 : w.cell? ⟨S, 0, none⟩ = some p := by rw [Lib.cell_of_heap hb]; rfl
    rcases hp with rfl | rfl
    · refine (copy_fresh S w c0 (by simp [World.shape?, hb]) (Lib.frozen_of_heap hb 0)).mono ?_
      rintro e w' ⟨rfl, rfl⟩
      have hne : v.ownBlock ≠ some S := by
        intro e1
        rcases hown.2 with ⟨rfl, _⟩ | ⟨g, cap, cur, rfl, _, hg, _⟩
        · simp [Value.ownBlock] at e1
        · simp [Value.ownBlock] at e1
          rw [e1, hb] at hg
          simp at hg
      refine ⟨rfl, v, ?_, ?_, h0, (Below.refl B w).setCell (p := ⟨S, 0, none⟩) hB _, (Lib.OthersKept.refl _ _ w).setCell ⟨S, 0, none⟩ rfl _, by simp [World.setCell]⟩
      · simp [World.setCell, Array.getElem?_modify, hb]
      · exact hown.kept (row := some S) ⟨rfl, rfl, rfl, by simp [World.setCell], fun k _ hk => Below.heap_setCell _ _ _ _ (fun e => hk (by simp [e]))⟩ (Or.inr hne)
    · refine (copy_used S w c0).mono ?_
      rintro e w' ⟨rfl, rfl⟩
      exact ⟨rfl, v, hb, hown, h0, Below.refl B _, Lib.OthersKept.refl _ _ _, rfl⟩
  have HCH := Hid.mk HC
  clear HC
  go_enter Tryz.func64, Tryz.ntmps64
  go_wp2_with fail
  refine HCH.out.mono ?_
  rintro e w1 ⟨rfl, v, hbk, hown, h0, hb1, hk1, hsz⟩
  have c1 : w1.cell? ⟨S, 1, none⟩ = some v := by rw [Lib.cell_of_heap hbk]; rfl
  have HH := Hid.mk h0
  have HS := Hid.mk hsz
  clear h0 hsz
  go_wp2_with (at_builtin; refine Lib.wpList_append_own_string _ rfl _ _ 72 9 rfl B 5 i0 Tryz.underlying72 Tryz.underlying9 hi hz0 hz1 hz2 _ _ _ rfl hown s rfl ?c3 ?c4 ?c5 ?_)
  case c3 => unfold maxLen; omega
  case c4 => omega
  case c5 => have := hb1.size; omega
  intro v' w2 hown' hgrow hnil
  have HN := Hid.mk hnil
  clear hnil
  have hlt : S < w1.heap.size := heap_lt hbk
  have hne : v.ownBlock ≠ some S := by
    intro e1
    rcases hown.2 with ⟨rfl, _⟩ | ⟨g, cap, cur, rfl, _, hg, _⟩
    · simp [Value.ownBlock] at e1
    · simp [Value.ownBlock] at e1
      rw [e1, hbk] at hg
      simp at hg
  have hb2 : w2.heap[S]? = some (.cells #[.pointer (some ⟨S, 0, none⟩), v, .int .i64 0] 76 (0, 0)) := by
    rw [hgrow.block S hlt (fun e => hne e.symm)]
    exact hbk
  have d1 : w2.cell? ⟨S, 1, none⟩ = some v := by rw [Lib.cell_of_heap hb2]; rfl
  have f1 : w2.frozen? ⟨S, 1, none⟩ = false := Lib.frozen_of_heap hb2 1
  have hne' : v'.ownBlock ≠ some S := by
    intro e1
    rcases hown'.2 with ⟨rfl, _⟩ | ⟨g, cap, cur, rfl, _, hg, _⟩
    · simp [Value.ownBlock] at e1
    · simp [Value.ownBlock] at e1
      rw [e1, hb2] at hg
      simp at hg
  obtain ⟨ao, n', cap, rfl⟩ : ∃ ao n' cap, v' = .slice ao n' cap := by
    rcases hown'.2 with ⟨hv, _⟩ | ⟨g, cap, cur, hv, _⟩
    · exact ⟨_, _, _, hv⟩
    · exact ⟨_, _, _, hv⟩
  go_wp2
  go_ret2
  refine ⟨rfl, ⟨hB, .pointer (some ⟨S, 0, none⟩), .slice ao n' cap, ?_, .inr rfl, ?_, ?_⟩, ?_, ?_⟩
  · simp [World.setCell, Array.getElem?_modify, hb2]
  · have hl2 : (l ++ s.data.toList).length = l.length + s.size := by simp
    rw [hl2, Lib.byteCells_append]
    exact hown'.kept (row := some S) ⟨rfl, rfl, rfl, by simp [World.setCell], fun k _ hk => Below.heap_setCell _ _ _ _ (fun e => hk (by simp [e]))⟩ (Or.inr hne')
  · intro he
    have e1 := List.append_eq_nil_iff.1 he
    refine HN.out.2 ⟨HH.out e1.1, ?_⟩
    have : s.data.toList.length = s.size := by rw [Array.length_toList]; rfl
    rw [e1.2] at this
    simpa using this.symm
  · exact (hb1.grown hgrow (by have := hb1.size; omega) (fun k hk => (hown.lt k hk).1)).setCell (p := ⟨S, 1, none⟩) hB _
  · exact (hk1.grown hgrow (Lib.ownsRowF_kind (World.ownsRowF_of hown))).setCell ⟨S, 1, none⟩ rfl _

set_option maxHeartbeats 800000 in
set_option maxRecDepth 100000 in
theorem w_keep (B S : Nat) (l : List UInt8) (s : ByteArray) (w : World) (h : Sheet B S w l) (hlen : l.length + s.size ≤ 140737488355328) (hBw : B ≤ w.heap.size) :
    Calls Tryz.prog 25 #[.pointer (some ⟨S, 0, none⟩), .string s] w fun e w' => e = .returned (.tuple #[]) ∧ Sheet B S w' (l ++ s.data.toList) ∧ Below B w w' ∧ Lib.OthersKept 5 (some S) w w' := by
  have HW := Hid.mk (w_WriteString B S l s w h hlen hBw)
  clear h
  go_enter Tryz.func25, Tryz.ntmps25
  go_wp2_with fail
  refine HW.out.mono ?_
  rintro e w1 ⟨rfl, hR⟩
  have HR := Hid.mk hR
  clear hR
  go_wp2_with fail
  go_end0
  exact ⟨rfl, HR.out⟩

set_option maxHeartbeats 800000 in
set_option maxRecDepth 100000 in
theorem w_count (B S : Nat) (l : List UInt8) (s : ByteArray) (w : World) (h : SheetN B S w l) (hlen : l.length + s.size ≤ 140737488355328) (hBw : B ≤ w.heap.size) :
    Calls Tryz.prog 28 #[.pointer (some ⟨S, 0, none⟩), .string s] w fun e w' => e = .returned (.tuple #[]) ∧ SheetN B S w' (l ++ s.data.toList) ∧ Below B w w' ∧ Lib.OthersKept 5 (some S) w w' := by
  have hb := h.at_
  have hB := h.lo
  have c2 : w.cell? ⟨S, 2, none⟩ = some (.int .i64 (l.length : Int)) := by rw [Lib.cell_of_heap hb]; rfl
  have f2 : w.frozen? ⟨S, 2, none⟩ = false := Lib.frozen_of_heap hb 2
  have HB := Hid.mk hb
  clear hb h
  go_enter Tryz.func28, Tryz.ntmps28
  go_wp2_with fail
  go_end0
  refine ⟨rfl, ⟨hB, ?_⟩, (Below.refl B w).setCell (p := ⟨S, 2, none⟩) hB _, (Lib.OthersKept.refl _ _ w).setCell ⟨S, 2, none⟩ rfl _⟩
  have hl2 : (l ++ s.data.toList).length = l.length + s.size := by simp
  simp [World.setCell, Array.getElem?_modify, HB.out, hl2]
end Go.Proofs.YtfjmgccbpiolhaaGreatDoor
namespace Go.Proofs.YtfjmgccbpiolhaaGreatDoor
open Go.RowKit
set_option linter.unusedVariables false
set_option linter.unusedSimpArgs false

set_option maxHeartbeats 1600000 in
set_option maxRecDepth 100000 in
theorem w_String (B S : Nat) (l : List UInt8) (w : World) (h : Sheet B S w l) :
    Calls Tryz.prog 27 #[.pointer (some ⟨S, 0, none⟩)] w fun e w' => e = .returned (.string ⟨l.toArray⟩) ∧ Below B w w' := by
  obtain ⟨p, v, hb, hp, hown, hnil⟩ := h.at_
  by_cases h0 : l = []
  · subst h0
    obtain rfl := hnil rfl
    have hUS := fun (W : World) (q : Option Addr) => Lib.run_unsafeString_none (P := Tryz.prog) W 118 3 9 q
    have c1 : w.drew.cell? ⟨S, 1, none⟩ = some (.slice none 0 0) := by
      have : w.drew.heap[S]? = some (.cells #[p, .slice none 0 0, .int .i64 0] 76 (0, 0)) := hb
      rw [Lib.cell_of_heap this]; rfl
    have hSD : (Builtin.unsafeSliceData_ #[72] 118 #[.slice none 0 0]).run Tryz.prog w.drew = .ok (.pointer none) w.drew := rfl
    clear h hb hp hown hnil
    have mixed : Tryz.prog.follows .mixedOrders = true := by kernel_rfl
    go_enter Tryz.func27, Tryz.ntmps27
    go_wp2
    go_region_o
    all_goals (go_wp2; go_ret; exact ⟨rfl, Below.drew (Below.refl B w)⟩)
  · have hl0 : l.length ≠ 0 := by simpa using h0
    obtain ⟨g, cap, cur, rfl, hbg, hg, hnc, hcm, hcs, htake⟩ : ∃ g cap cur, v = .slice (some ⟨g, 0, none⟩) l.length cap ∧ B ≤ g ∧ w.heap[g]? = some (.cells cur 5 (0, 0)) ∧ l.length ≤ cap ∧ cap ≤ maxLen ∧ cur.size = cap * 1 ∧ cur.toList.take (l.length * 1) = Lib.byteCells l := by
      rcases hown.2 with ⟨_, hz⟩ | ⟨g, cap, cur, hv, r⟩
      · exact absurd hz hl0
      · exact ⟨g, cap, cur, hv, r⟩
    have c1 : w.drew.cell? ⟨S, 1, none⟩ = some (.slice (some ⟨g, 0, none⟩) l.length cap) := by
      have : w.drew.heap[S]? = some (.cells #[p, .slice (some ⟨g, 0, none⟩) l.length cap, .int .i64 0] 76 (0, 0)) := hb
      rw [Lib.cell_of_heap this]; rfl
    have hSD : (Builtin.unsafeSliceData_ #[72] 118 #[.slice (some ⟨g, 0, none⟩) l.length cap]).run Tryz.prog w.drew = .ok (.pointer (some ⟨g, 0, none⟩)) w.drew :=
      Lib.run_unsafeSliceData_row _ _ _ _ _ _ (by omega)
    have hUS : (Builtin.unsafeString_ #[118, 3] 9 #[.pointer (some ⟨g, 0, none⟩), .int .i64 l.length]).run Tryz.prog w.drew = .ok (.string ⟨l.toArray⟩) (w.drew.freeze ⟨g, 0, none⟩ l.length) := by
      refine Lib.run_unsafeString_row w.drew 118 3 9 5 Tryz.underlying118 (by kernel_rfl) g cur.size (by have hg' : w.drew.heap[g]? = some (.cells cur 5 (0, 0)) := hg; simp [World.shape?, hg']) l h0 (by omega) (by unfold maxLen at hcm; omega) ?_
      intro j x hx
      have := hown.cells (g := g) rfl j (.int .u8 x.toNat) (by simp [Lib.byteCells, hx])
      exact this
    have HF := Hid.mk (Lib.below_freeze (Below.drew (Below.refl B w)) (p := ⟨g, 0, none⟩) hbg l.length)
    clear h hb hp hown hnil hg hnc hcm hcs htake h0 hl0 hbg
    have mixed : Tryz.prog.follows .mixedOrders = true := by kernel_rfl
    go_enter Tryz.func27, Tryz.ntmps27
    go_wp2
    go_region_o
    all_goals (go_wp2; go_ret; exact ⟨rfl, HF.out⟩)

end Go.Proofs.YtfjmgccbpiolhaaGreatDoor
