import Derived.Test.YtcadknhedfnaoaaGreatDoorM0
import Derived.Test.YtcadknhedfnaoaaGreatDoorM28
import Derived.Lib.OthersKept
import Derived.Lib.Builder
import Derived.Lib.AppendStr
import Derived.Lib.UnsafeStr
import Derived.Shelf.RegionOpenPlain
import Derived.WalkKit
import Derived.Deep.RegionHeld3
namespace Go.Proofs.YtcadknhedfnaoaaGreatDoor
open Go.RowKit
set_option linter.unusedVariables false
set_option linter.unusedSimpArgs false

/-- the pen: a builder, in memory -/
structure Pen (B S : Nat) (w : World) (l : List UInt8) : Prop where
  lo : B ≤ S
  at_ : ∃ p v, w.heap[S]? = some (.cells #[p, v] 43 (0, 0)) ∧ (p = .pointer none ∨ p = .pointer (some ⟨S, 0, none⟩)) ∧ w.ownsRow B 5 1 v l.length (Lib.byteCells l) ∧ (l = [] → v = .slice none 0 0)

theorem heap_lt {w : World} {k : Nat} {o : Obj} (h : w.heap[k]? = some o) : k < w.heap.size := (Array.getElem?_eq_some_iff.1 h).1

theorem sizeB : (Tryz.prog.info? 41).map (·.size) = some 2 := by kernel_rfl
theorem liesB : liesAt Tryz.prog Tryz.prog.depth 43 (2 / Tryz.prog.cellsOf 43) 0 41 1 = true := by kernel_rfl

set_option maxHeartbeats 1000000 in
set_option maxRecDepth 100000 in
theorem copy_used (b : Nat) (w : World) (h0 : w.cell? ⟨b, 0, none⟩ = some (.pointer (some ⟨b, 0, none⟩))) :
    Calls Tryz.prog 144 #[.pointer (some ⟨b, 0, none⟩)] w fun e w' => e = .returned (.tuple #[]) ∧ w' = w := by
  obtain ⟨j, hj, _⟩ := Option.map_eq_some_iff.1 sizeB
  go_enter Tryz.func144, Tryz.ntmps144
  go_wp2
  rw [Lib.run_neq_ptr_same w _ Tryz.underlying38 hj]
  go_wp2
  go_end0
  exact ⟨rfl, rfl⟩

set_option maxHeartbeats 1000000 in
set_option maxRecDepth 100000 in
theorem copy_fresh (b : Nat) (w : World) (h0 : w.cell? ⟨b, 0, none⟩ = some (.pointer none)) (hsh : w.shape? b = some (43, 2)) (hfz : w.frozen? ⟨b, 0, none⟩ = false) :
    Calls Tryz.prog 144 #[.pointer (some ⟨b, 0, none⟩)] w fun e w' => e = .returned (.tuple #[]) ∧ w' = w.setCell ⟨b, 0, none⟩ (.pointer (some ⟨b, 0, none⟩)) := by
  obtain ⟨j, hj, hjs⟩ := Option.map_eq_some_iff.1 sizeB
  have hc1 := Lib.run_to_unsafe (P := Tryz.prog) w ⟨b, 0, none⟩ Tryz.underlying38 Tryz.underlying119 hj (by rw [hjs]; decide) hsh (by show 0 < 2; omega)
  have hc2 := Lib.run_from_unsafe (P := Tryz.prog) w ⟨b, 0, none⟩ Tryz.underlying119 Tryz.underlying38 hj hsh liesB
  have hc3 : (callFunc 150 #[.pointer (some ⟨b, 0, none⟩)]).run Tryz.prog w = .ok (.value (.pointer (some ⟨b, 0, none⟩))) w := by
    rw [run_callFunc_extern Tryz.func150 (by kernel_rfl) (by kernel_rfl) (by kernel_rfl) (e := Extern.AbiNoEscape.same) (by kernel_rfl), Lib.run_noEscape]
    rfl
  go_enter Tryz.func144, Tryz.ntmps144
  go_wp2
  go_end0
  exact ⟨rfl, rfl⟩

/-- what was put is kept: the block and the row behind it -/
theorem Pen.keep {B S : Nat} {w w' : World} {l : List UInt8} (h : Pen B S w l) (hk : ∀ k o, w.heap[k]? = some o → (k = S ∨ ∃ c fz, o = .cells c 5 fz) → w'.heap[k]? = some o) : Pen B S w' l := by
  obtain ⟨p, v, hb, hp, hown, h0⟩ := h.at_
  refine ⟨h.lo, p, v, hk S _ hb (.inl rfl), hp, ⟨hown.1, ?_⟩, h0⟩
  rcases hown.2 with hn | ⟨g, cap, cur, hv, hbg, hg, rest⟩
  · exact .inl hn
  · exact .inr ⟨g, cap, cur, hv, hbg, hk g _ hg (.inr ⟨_, _, rfl⟩), rest⟩

set_option maxHeartbeats 2000000 in
set_option maxRecDepth 100000 in
theorem w_WriteString (B S : Nat) (l : List UInt8) (s : ByteArray) (w : World) (h : Pen B S w l) (hlen : l.length + s.size ≤ 140737488355328) (hBw : B ≤ w.heap.size) :
    Calls Tryz.prog 134 #[.pointer (some ⟨S, 0, none⟩), .string s] w fun e w' => e = .returned (.tuple #[.int .i64 s.size, .nilIface]) ∧ Pen B S w' (l ++ s.data.toList) ∧ Below B w w' ∧ Lib.OthersKept 5 (some S) w w' := by
  obtain ⟨i0, hi, hz0, hz1, hz2⟩ := info_parts Tryz.infoB
  have hB := h.lo
  have HC : Calls Tryz.prog 144 #[.pointer (some ⟨S, 0, none⟩)] w fun e w1 => e = .returned (.tuple #[]) ∧ ∃ v, w1.heap[S]? = some (.cells #[.pointer (some ⟨S, 0, none⟩), v] 43 (0, 0)) ∧ w1.ownsRow B 5 1 v l.length (Lib.byteCells l) ∧ (l = [] → v = .slice none 0 0) ∧ Below B w w1 ∧ Lib.OthersKept 5 (some S) w w1 ∧ w1.heap.size = w.heap.size := by
    obtain ⟨p, v, hb, hp, hown, h0⟩ := h.at_
    have c0 : w.cell? ⟨S, 0, none⟩ = some p := by rw [Lib.cell_of_heap hb]; rfl
    rcases hp with rfl | rfl
    · refine (copy_fresh S w c0 (by simp [World.shape?, hb]) (Lib.frozen_of_heap hb 0)).mono ?_
      rintro e w' ⟨rfl, rfl⟩
      have hne : v.ownBlock ≠ some S := by
        intro e1
        rcases hown.2 with ⟨rfl, _⟩ | ⟨g, cap, cur, rfl, _, hg, _⟩
        · simp [Value.ownBlock] at e1
        · simp [Value.ownBlock] at e1
          rw [e1, hb] at hg
          simp at hg
      refine ⟨rfl, v, ?_, ?_, h0, (Below.refl B w).setCell (p := ⟨S, 0, none⟩) hB _, (Lib.OthersKept.refl _ _ w).setCell ⟨S, 0, none⟩ rfl _, by simp [World.setCell]⟩
      · simp [World.setCell, Array.getElem?_modify, hb]
      · exact hown.kept (row := some S) ⟨rfl, rfl, rfl, by simp [World.setCell], fun k _ hk => Below.heap_setCell _ _ _ _ (fun e => hk (by simp [e]))⟩ (Or.inr hne)
    · refine (copy_used S w c0).mono ?_
      rintro e w' ⟨rfl, rfl⟩
      exact ⟨rfl, v, hb, hown, h0, Below.refl B _, Lib.OthersKept.refl _ _ _, rfl⟩
  have HCH := Hid.mk HC
  clear HC
  go_enter Tryz.func134, Tryz.ntmps134
  go_wp2_with fail
  refine HCH.out.mono ?_
  rintro e w1 ⟨rfl, v, hbk, hown, h0, hb1, hk1, hsz⟩
  have c1 : w1.cell? ⟨S, 1, none⟩ = some v := by rw [Lib.cell_of_heap hbk]; rfl
  have HH := Hid.mk h0
  have HS := Hid.mk hsz
  clear h0 hsz
  go_wp2_with (at_builtin; refine Lib.wpList_append_own_string _ rfl _ _ 39 9 rfl B 5 i0 Tryz.underlying39 Tryz.underlying9 hi hz0 hz1 hz2 _ _ _ rfl hown s rfl ?c3 ?c4 ?c5 ?_)
  case c3 => unfold maxLen; omega
  case c4 => omega
  case c5 => have := hb1.size; omega
  intro v' w2 hown' hgrow hnil
  have HN := Hid.mk hnil
  clear hnil
  have hlt : S < w1.heap.size := heap_lt hbk
  have hne : v.ownBlock ≠ some S := by
    intro e1
    rcases hown.2 with ⟨rfl, _⟩ | ⟨g, cap, cur, rfl, _, hg, _⟩
    · simp [Value.ownBlock] at e1
    · simp [Value.ownBlock] at e1
      rw [e1, hbk] at hg
      simp at hg
  have hb2 : w2.heap[S]? = some (.cells #[.pointer (some ⟨S, 0, none⟩), v] 43 (0, 0)) := by
    rw [hgrow.block S hlt (fun e => hne e.symm)]
    exact hbk
  have d1 : w2.cell? ⟨S, 1, none⟩ = some v := by rw [Lib.cell_of_heap hb2]; rfl
  have f1 : w2.frozen? ⟨S, 1, none⟩ = false := Lib.frozen_of_heap hb2 1
  have hne' : v'.ownBlock ≠ some S := by
    intro e1
    rcases hown'.2 with ⟨rfl, _⟩ | ⟨g, cap, cur, rfl, _, hg, _⟩
    · simp [Value.ownBlock] at e1
    · simp [Value.ownBlock] at e1
      rw [e1, hb2] at hg
      simp at hg
  obtain ⟨ao, n', cap, rfl⟩ : ∃ ao n' cap, v' = .slice ao n' cap := by
    rcases hown'.2 with ⟨hv, _⟩ | ⟨g, cap, cur, hv, _⟩
    · exact ⟨_, _, _, hv⟩
    · exact ⟨_, _, _, hv⟩
  go_wp2
  go_ret2
  refine ⟨rfl, ⟨hB, .pointer (some ⟨S, 0, none⟩), .slice ao n' cap, ?_, .inr rfl, ?_, ?_⟩, ?_, ?_⟩
  · simp [World.setCell, Array.getElem?_modify, hb2]
  · have hl2 : (l ++ s.data.toList).length = l.length + s.size := by simp
    rw [hl2, Lib.byteCells_append]
    exact hown'.kept (row := some S) ⟨rfl, rfl, rfl, by simp [World.setCell], fun k _ hk => Below.heap_setCell _ _ _ _ (fun e => hk (by simp [e]))⟩ (Or.inr hne')
  · intro he
    have e1 := List.append_eq_nil_iff.1 he
    refine HN.out.2 ⟨HH.out e1.1, ?_⟩
    have : s.data.toList.length = s.size := by rw [Array.length_toList]; rfl
    rw [e1.2] at this
    simpa using this.symm
  · exact (hb1.grown hgrow (by have := hb1.size; omega) (fun k hk => (hown.lt k hk).1)).setCell (p := ⟨S, 1, none⟩) hB _
  · exact (hk1.grown hgrow (Lib.ownsRowF_kind (World.ownsRowF_of hown))).setCell ⟨S, 1, none⟩ rfl _

end Go.Proofs.YtcadknhedfnaoaaGreatDoor
namespace Go.Proofs.YtcadknhedfnaoaaGreatDoor
open Go.RowKit Go.Shelf Go.Sort
set_option linter.unusedVariables false
set_option linter.unusedSimpArgs false
attribute [local go_sem] Oper.semAt_some

/-- the program's table of operations in memory -/
def pTabA : Array Value := (pTab.flatMap fun r => [.string ⟨r.1.toArray⟩, .int .i64 (r.2.1 : Int), .int .i64 (r.2.2.1 : Int), .int .i64 (r.2.2.2 : Int)]).toArray
def PTabIn (w : World) : Prop := ∃ t, w.heap[(0 : Nat)]? = some (.cells pTabA t (0, 0))
theorem PTabIn.lt {w : World} (h : PTabIn w) : (0 : Nat) < w.heap.size := by
  obtain ⟨t, h⟩ := h
  exact heap_lt h
theorem PTabIn.keep {w w' : World} (h : PTabIn w) (hb : Below w.heap.size w w') : PTabIn w' := by
  have hl := h.lt
  obtain ⟨t, h⟩ := h
  exact ⟨t, (hb.block _ hl).trans h⟩

/-- the pen as it lies, over a world in which what is written lies -/
structure PS (w0 : World) (S : Nat) (w : World) (l : List UInt8) : Prop where
  pen : Pen w0.heap.size S w l
  low : Below w0.heap.size w0 w
  tab : PTabIn w0
theorem PS.alloc {w0 w : World} {S : Nat} {l : List UInt8} (h : PS w0 S w l) (o : Obj) : PS w0 S (w.alloc o) l :=
  ⟨h.pen.keep (fun k x hk _ => (Below.heap_alloc _ _ _ (heap_lt hk)).trans hk), h.low.alloc h.low.size o, h.tab⟩
theorem PS.type {w0 w : World} {S : Nat} {l : List UInt8} (h : PS w0 S w l) : ∃ cs, w.heap[S]? = some (.cells cs 43 (0, 0)) := by
  obtain ⟨p, v, hb, _⟩ := h.pen.at_
  exact ⟨_, hb⟩
theorem PS.lt {w0 w : World} {S : Nat} {l : List UInt8} (h : PS w0 S w l) : S < w.heap.size := by
  obtain ⟨cs, hb⟩ := h.type
  exact heap_lt hb
theorem PS.drew {w0 w : World} {S : Nat} {l : List UInt8} (h : PS w0 S w l) : PS w0 S w.drew l := ⟨h.pen.keep (fun k x hk _ => hk), Below.drew h.low, h.tab⟩
/-- a block that is no row of bytes and not the pen's is kept -/
theorem ok_block {w w' : World} {S b : Nat} {cs : Array Value} {t : TypeId} {fz : Nat × Nat} (hk : Lib.OthersKept 5 (some S) w w') (h : w.heap[b]? = some (.cells cs t fz)) (hb : b ≠ S) (ht : t ≠ 5) : w'.heap[b]? = some (.cells cs t fz) :=
  hk b _ h (fun e => hb (Option.some.inj e)) (fun c f e => by injection e with _ e2 _; exact ht e2)
theorem PS.ne {w0 w : World} {S b : Nat} {l : List UInt8} {cs : Array Value} {t : TypeId} {fz : Nat × Nat} (h : PS w0 S w l) (hb : w.heap[b]? = some (.cells cs t fz)) (ht : t ≠ 43) : b ≠ S := by
  rintro rfl
  obtain ⟨cs', h'⟩ := h.type
  rw [hb] at h'
  injection h' with h'
  injection h' with _ e2 _
  exact ht e2
/-- what a call says -/
def Say (w0 : World) (S f : Nat) (args : Array Value) (X : List UInt8) : Prop := ∀ w l, PS w0 S w l → l.length + X.length ≤ 140737488355328 → Calls Tryz.prog f args w fun e w' => e = .returned (.tuple #[]) ∧ PS w0 S w' (l ++ X) ∧ Lib.OthersKept 5 (some S) w w'
def psT (ps : List ByteArray) : List UInt8 := ps.flatMap (fun p => p.data.toList)
theorem psT_up {ps : List ByteArray} {k : Nat} (hk : k < ps.length) : psT (ps.take (k + 1)) = psT (ps.take k) ++ ps[k].data.toList := by
  unfold psT
  rw [List.take_succ_eq_append_getElem hk, List.flatMap_append]
  simp
theorem psT_le {ps : List ByteArray} {k : Nat} : (psT (ps.take k)).length ≤ (psT ps).length := by
  unfold psT
  conv => rhs; rw [← List.take_append_drop k ps, List.flatMap_append, List.length_append]
  omega
theorem row_cell {w : World} {b : Nat} {ps : List ByteArray} {t : TypeId} {fz : Nat × Nat} (h : w.heap[b]? = some (.cells (ps.map Value.string).toArray t fz)) {k : Nat} (hk : k < ps.length) : w.cell? ⟨b, k, none⟩ = some (.string ps[k]) := by
  rw [cell_of_row _ _ _ _ _ _ h]
  simp [hk]

set_option maxHeartbeats 3200000 in
set_option maxRecDepth 100000 in
theorem w_put (w0 : World) (S b : Nat) (ps : List ByteArray) (hn : ps.length ≤ 1000) (w : World) (l : List UInt8) (hP : PS w0 S w l) (hrow : w.heap[b]? = some (.cells (ps.map Value.string).toArray 9 (0, 0))) (hlen : l.length + (psT ps).length ≤ 140737488355328) :
    Calls Tryz.prog 104 #[.pointer (some ⟨S, 0, none⟩), .slice (some ⟨b, 0, none⟩) ps.length ps.length] w fun e w' => e = .returned (.tuple #[]) ∧ PS w0 S w' (l ++ psT ps) ∧ Lib.OthersKept 5 (some S) w w' := by
  have hbS := hP.ne hrow (by decide)
  have HP := Hid.mk hP
  have HR := Hid.mk hrow
  obtain ⟨N, hN⟩ : ∃ N, N = ps.length := ⟨_, rfl⟩
  rw [← hN] at hn ⊢
  have HN := Hid.mk hN
  have HL := Hid.mk hlen
  clear hP hrow hN hlen
  go_enter Tryz.func104, Tryz.ntmps104
  go_wp2_with fail
  go_loopw [8] (fun i wr => ∃ k : Nat, k ≤ N ∧ i = .int .i64 (k : Int) ∧ Hid (PS w0 S wr (l ++ psT (ps.take k))) ∧ Hid (Lib.OthersKept 5 (some S) w wr)) (fun i _ => N - (intOf i).toNat)
  case atStart => exact ⟨0, Nat.zero_le _, rfl, by show PS _ _ _ _; simpa [psT] using HP.out, Lib.OthersKept.refl _ _ _⟩
  case round =>
    obtain ⟨k, hk, rfl, HPk, HKk⟩ := hrel
    by_cases hlt : k < N
    · have hl1 : (k : Int) < (N : Int) := by omega
      have hl0 : (0 : Int) ≤ (k : Int) := by omega
      have hkx : k < ps.length := by rw [← HN.out]; exact hlt
      have hrk := row_cell (ok_block HKk.out HR.out hbS (by decide)) hkx
      have HU := Hid.mk (psT_up hkx)
      have hll : (l ++ psT (ps.take k)).length + (ps[k]).size ≤ 140737488355328 := by
        have h1 := psT_le (ps := ps) (k := k + 1)
        rw [HU.out] at h1
        have h2 := HL.out
        have h3 : ps[k].data.toList.length = ps[k].size := by rw [Array.length_toList]; rfl
        simp only [List.length_append] at h1 h2 ⊢
        omega
      have HW := Hid.mk (w_WriteString w0.heap.size S _ ps[k] wr HPk.out.pen hll HPk.out.low.size)
      generalize ps[k] = x at *
      clear hkx hll
      go_wp2_with fail
      refine HW.out.mono ?_
      rintro e w2 ⟨rfl, hp2, hb2, hk2⟩
      have HP2 : Hid (PS w0 S w2 (l ++ psT (ps.take (k + 1)))) := by
        refine ⟨?_, HPk.out.low.trans hb2, HPk.out.tab⟩
        rw [HU.out, ← List.append_assoc]
        exact hp2
      have HK2 : Hid (Lib.OthersKept 5 (some S) w w2) := HKk.out.trans hk2
      clear hp2 hb2 hk2 hrk
      go_wp2_with fail
      go_roundw
      case rel => exact ⟨k + 1, by omega, by go_num, HP2, HK2⟩
      case measure => simp [intOf]; omega
    · have hl1 : ¬ (k : Int) < (N : Int) := by omega
      have HPe : Hid (PS w0 S wr (l ++ psT ps)) := by
        have := HPk.out
        rw [List.take_of_length_le (by rw [← HN.out]; omega)] at this
        exact this
      go_wp2_with fail
      go_end0
      exact ⟨rfl, HPe.out, HKk.out⟩

/-- one, two, three pieces -/
theorem w_put1 {w0 : World} {S : Nat} {w : World} {l : List UInt8} (hP : PS w0 S w l) (x : ByteArray) (X : List UInt8) (hx : x.data.toList = X) (hlen : l.length + X.length ≤ 140737488355328) :
    Calls Tryz.prog 104 #[.pointer (some ⟨S, 0, none⟩), .slice (some ⟨w.heap.size, 0, none⟩) 1 1] (w.alloc (.cells #[.string x] 9)) fun e w' => e = .returned (.tuple #[]) ∧ PS w0 S w' (l ++ X) ∧ Lib.OthersKept 5 (some S) w w' := by
  subst hx
  have e1 : psT [x] = x.data.toList := by simp [psT]
  refine (w_put w0 S w.heap.size [x] (by simp) _ l (hP.alloc _) (heap_alloc_new w _) (by rw [e1]; exact hlen)).mono ?_
  rintro e w' ⟨rfl, hp, hk⟩
  rw [e1] at hp
  exact ⟨rfl, hp, ((Lib.OthersKept.refl _ _ w).alloc _).trans hk⟩
theorem w_put2 {w0 : World} {S : Nat} {w : World} {l : List UInt8} (hP : PS w0 S w l) (x y : ByteArray) (X : List UInt8) (hx : x.data.toList ++ y.data.toList = X) (hlen : l.length + X.length ≤ 140737488355328) :
    Calls Tryz.prog 104 #[.pointer (some ⟨S, 0, none⟩), .slice (some ⟨w.heap.size, 0, none⟩) 2 2] (w.alloc (.cells #[.string x, .string y] 9)) fun e w' => e = .returned (.tuple #[]) ∧ PS w0 S w' (l ++ X) ∧ Lib.OthersKept 5 (some S) w w' := by
  subst hx
  have e1 : psT [x, y] = x.data.toList ++ y.data.toList := by simp [psT]
  refine (w_put w0 S w.heap.size [x, y] (by simp) _ l (hP.alloc _) (heap_alloc_new w _) (by rw [e1]; exact hlen)).mono ?_
  rintro e w' ⟨rfl, hp, hk⟩
  rw [e1] at hp
  exact ⟨rfl, hp, ((Lib.OthersKept.refl _ _ w).alloc _).trans hk⟩
theorem w_put3 {w0 : World} {S : Nat} {w : World} {l : List UInt8} (hP : PS w0 S w l) (x y z : ByteArray) (X : List UInt8) (hx : x.data.toList ++ (y.data.toList ++ z.data.toList) = X) (hlen : l.length + X.length ≤ 140737488355328) :
    Calls Tryz.prog 104 #[.pointer (some ⟨S, 0, none⟩), .slice (some ⟨w.heap.size, 0, none⟩) 3 3] (w.alloc (.cells #[.string x, .string y, .string z] 9)) fun e w' => e = .returned (.tuple #[]) ∧ PS w0 S w' (l ++ X) ∧ Lib.OthersKept 5 (some S) w w' := by
  subst hx
  have e1 : psT [x, y, z] = x.data.toList ++ (y.data.toList ++ z.data.toList) := by simp [psT]
  refine (w_put w0 S w.heap.size [x, y, z] (by simp) _ l (hP.alloc _) (heap_alloc_new w _) (by rw [e1]; exact hlen)).mono ?_
  rintro e w' ⟨rfl, hp, hk⟩
  rw [e1] at hp
  exact ⟨rfl, hp, ((Lib.OthersKept.refl _ _ w).alloc _).trans hk⟩
end Go.Proofs.YtcadknhedfnaoaaGreatDoor
namespace Go.Proofs.YtcadknhedfnaoaaGreatDoor
open Go.RowKit Go.Shelf Go.Sort
set_option linter.unusedVariables false
set_option linter.unusedSimpArgs false
attribute [local go_sem] Oper.semAt_some

theorem flat4 {R : Type} (f : R → List Value) (hf : ∀ r, (f r).length = 4) : ∀ (l : List R) (i j : Nat), j < 4 → (h : i < l.length) → (l.flatMap f)[i * 4 + j]? = (f l[i])[j]?
  | [], i, j, _, h => absurd h (Nat.not_lt_zero _)
  | r :: l, 0, j, hj, _ => by
    rw [List.flatMap_cons, List.getElem?_append_left (by rw [hf]; omega)]
    simp
  | r :: l, i + 1, j, hj, h => by
    rw [List.flatMap_cons, List.getElem?_append_right (by rw [hf]; omega), hf, show (i + 1) * 4 + j - 4 = i * 4 + j by omega, flat4 f hf l i j hj (by simpa using h)]
    simp
theorem pTab_len : pTab.length = 44 := rfl
theorem pRow_at {k : Nat} (hk : k < 44) : pRow (k : Int) = pTab[k]'(by rw [pTab_len]; exact hk) := by
  unfold pRow
  rw [if_neg (by omega), Int.toNat_natCast, List.getD_eq_getElem?_getD, List.getElem?_eq_getElem (by rw [pTab_len]; exact hk)]
  rfl
theorem tab_all {k : Nat} (hk : k < 44) : pTabA[k * 4]? = some (.string ⟨(pRow (k : Int)).1.toArray⟩) ∧ pTabA[k * 4 + 1]? = some (.int .i64 ((pRow (k : Int)).2.1 : Int)) ∧ pTabA[k * 4 + 2]? = some (.int .i64 ((pRow (k : Int)).2.2.1 : Int)) ∧ pTabA[k * 4 + 3]? = some (.int .i64 ((pRow (k : Int)).2.2.2 : Int)) := by
  rw [pRow_at hk]
  unfold pTabA
  simp only [List.getElem?_toArray]
  have h := fun j hj => flat4 (fun r : List UInt8 × Nat × Nat × Nat => ([.string ⟨r.1.toArray⟩, .int .i64 (r.2.1 : Int), .int .i64 (r.2.2.1 : Int), .int .i64 (r.2.2.2 : Int)] : List Value)) (fun _ => rfl) pTab k j hj (by rw [pTab_len]; exact hk)
  exact ⟨h 0 (by omega), h 1 (by omega), h 2 (by omega), h 3 (by omega)⟩
theorem tab_at {w : World} (h : PTabIn w) {k : Nat} (hk : k < 44) : w.cell? ⟨0, k * 4, none⟩ = some (.string ⟨(pRow (k : Int)).1.toArray⟩) ∧ w.cell? ⟨0, k * 4 + 1, none⟩ = some (.int .i64 ((pRow (k : Int)).2.1 : Int)) ∧ w.cell? ⟨0, k * 4 + 2, none⟩ = some (.int .i64 ((pRow (k : Int)).2.2.1 : Int)) ∧ w.cell? ⟨0, k * 4 + 3, none⟩ = some (.int .i64 ((pRow (k : Int)).2.2.2 : Int)) := by
  obtain ⟨t, h⟩ := h
  have := tab_all hk
  refine ⟨?_, ?_, ?_, ?_⟩ <;> rw [cell_of_row _ _ _ _ _ _ h]
  · exact this.1
  · exact this.2.1
  · exact this.2.2.1
  · exact this.2.2.2

set_option maxRecDepth 100000 in
set_option maxHeartbeats 1600000 in
theorem w_isOperation (k : Nat) (hk : k < 44) (w : World) (hT : PTabIn w) : Calls Tryz.prog 145 #[.int .i64 (k : Int)] w fun e w' => e = .returned (.bool (decide (pSg (k : Int) ≠ []))) ∧ w' = w := by
  obtain ⟨c0, c1, c2, c3⟩ := tab_at hT hk
  have hl0 : (0 : Int) ≤ (k : Int) := by omega
  have hl1 : (k : Int) < 44 := by omega
  obtain ⟨R, HR⟩ : ∃ R, Hid (decide (pSg (k : Int) ≠ []) = R) := ⟨_, rfl⟩
  rw [HR.out]
  have HS : Hid ((!(⟨(pRow (k : Int)).1.toArray⟩ : ByteArray).toList.isEmpty) = R) := by
    show _ = _
    rw [← HR.out, Lib.toList_data]
    unfold pSg
    cases hx : (pRow (k : Int)).1 with
    | nil => rfl
    | cons a r => rfl
  have hs := HS.out
  generalize (⟨(pRow (k : Int)).1.toArray⟩ : ByteArray) = x at *
  clear c1 c2 c3 HR
  clear hs
  go_enter Tryz.func145, Tryz.ntmps145
  go_wp2_with fail
  go_ret
  exact ⟨by rw [← HS.out]; rfl, rfl⟩

set_option maxRecDepth 100000 in
set_option maxHeartbeats 1600000 in
theorem w_isTextP (h : Nat) (A : NT) (g o : Nat) (w : World) (hA : NAt w (h + 1) A g o) : Calls Tryz.prog 109 #[.pointer (some ⟨g, o, none⟩)] w fun e w' => e = .returned (.bool (pTx A)) ∧ w' = w := by
  obtain ⟨aio, aic, ayo, ayc, ano, anc, ako, akc, HA⟩ := hA.open_
  have c0 := HA.c0
  have c3 := HA.c3
  clear HA hA
  unfold pTx
  generalize A.op = op at *
  generalize A.value.kind = kd at *
  by_cases h2 : op = 2
  · subst h2
    by_cases h4 : kd = 4
    · subst h4
      go_enter Tryz.func109, Tryz.ntmps109
      go_wp2_with fail
      go_ret
      exact ⟨rfl, rfl⟩
    · have b4 : (kd == 4) = false := by rw [beq_eq_false_iff_ne]; exact h4
      rw [decide_eq_false h4]
      go_enter Tryz.func109, Tryz.ntmps109
      go_wp2_with fail
      go_ret
      exact ⟨rfl, rfl⟩
  · have b2 : (op == 2) = false := by rw [beq_eq_false_iff_ne]; exact h2
    rw [decide_eq_false h2]
    go_enter Tryz.func109, Tryz.ntmps109
    go_wp2_with fail
    go_ret
    exact ⟨rfl, rfl⟩

set_option maxRecDepth 100000 in
set_option maxHeartbeats 3200000 in
theorem w_looseness (h : Nat) (A : NT) (g o : Nat) (w : World) (hA : NAt w (h + 1) A g o) (hT : PTabIn w) (hop : 0 ≤ A.op ∧ A.op < 44) : Calls Tryz.prog 136 #[.pointer (some ⟨g, o, none⟩)] w fun e w' => e = .returned (.int .i64 (pLo A)) ∧ w' = w := by
  obtain ⟨aio, aic, ayo, ayc, ano, anc, ako, akc, HA⟩ := hA.open_
  have c0 := HA.c0
  have c9 := HA.c9
  have hbig := HA.kl.2
  clear HA hA
  unfold pLo
  generalize A.kids.length = N at *
  generalize A.op = op at *
  obtain ⟨k, rfl⟩ : ∃ k : Nat, op = (k : Int) := ⟨op.toNat, by omega⟩
  have hk : k < 44 := by omega
  have HI := Hid.mk (w_isOperation k hk w hT)
  obtain ⟨d0, d1, d2, d3⟩ := tab_at hT hk
  have hl0 : (0 : Int) ≤ (k : Int) := by omega
  have hl1 : (k : Int) < 44 := by omega
  clear d0 d2 d3 hop hT
  have hne : ∀ z : Nat, z ≠ k → ((k : Int) == (z : Int)) = false := fun z hz => by rw [beq_eq_false_iff_ne]; omega
  by_cases k29 : k = 29
  · subst k29
    rw [if_pos (by decide)]
    go_enter Tryz.func136, Tryz.ntmps136
    go_wp2_with fail
    go_ret
    exact ⟨rfl, rfl⟩
  have b29 := hne 29 (fun e => k29 e.symm)
  simp only [Int.cast_ofNat_Int] at b29
  by_cases k32 : k = 32
  · subst k32
    rw [if_pos (by decide)]
    go_enter Tryz.func136, Tryz.ntmps136
    go_wp2_with fail
    go_ret
    exact ⟨rfl, rfl⟩
  have b32 := hne 32 (fun e => k32 e.symm)
  simp only [Int.cast_ofNat_Int] at b32
  by_cases k34 : k = 34
  · subst k34
    rw [if_pos (by decide)]
    go_enter Tryz.func136, Tryz.ntmps136
    go_wp2_with fail
    go_ret
    exact ⟨rfl, rfl⟩
  have b34 := hne 34 (fun e => k34 e.symm)
  simp only [Int.cast_ofNat_Int] at b34
  by_cases k11 : k = 11
  · subst k11
    rw [if_neg (by decide), if_pos (by decide)]
    go_enter Tryz.func136, Tryz.ntmps136
    go_wp2_with fail
    go_ret
    exact ⟨rfl, rfl⟩
  have b11 := hne 11 (fun e => k11 e.symm)
  simp only [Int.cast_ofNat_Int] at b11
  by_cases k10 : k = 10
  · subst k10
    rw [if_neg (by decide), if_neg (by decide), if_pos (by decide)]
    have hwr : IntKind.i64.wrap (11 - (N : Int)) = 11 - (N : Int) := by rw [IntKind.wrap_i64]; omega
    go_enter Tryz.func136, Tryz.ntmps136
    go_wp2_with fail
    go_ret
    exact ⟨rfl, rfl⟩
  have b10 := hne 10 (fun e => k10 e.symm)
  simp only [Int.cast_ofNat_Int] at b10
  rw [if_neg (by omega), if_neg (by omega), if_neg (by omega)]
  clear hne
  by_cases hs : pSg (k : Int) ≠ []
  · rw [decide_eq_true hs] at HI
    rw [if_pos hs]
    generalize (pRow (k : Int)).2.1 = lo at *
    clear hs
    go_enter Tryz.func136, Tryz.ntmps136
    go_wp2_with fail
    refine HI.out.mono ?_
    rintro e w2 ⟨rfl, hw2⟩
    obtain rfl := hw2.symm
    go_wp2_with fail
    go_ret
    exact ⟨rfl, rfl⟩
  · rw [decide_eq_false hs] at HI
    rw [if_neg hs]
    clear hs
    go_enter Tryz.func136, Tryz.ntmps136
    go_wp2_with fail
    refine HI.out.mono ?_
    rintro e w2 ⟨rfl, hw2⟩
    obtain rfl := hw2.symm
    go_wp2_with fail
    go_ret
    exact ⟨rfl, rfl⟩
end Go.Proofs.YtcadknhedfnaoaaGreatDoor
namespace Go.Proofs.YtcadknhedfnaoaaGreatDoor
open Go.RowKit Go.Shelf Go.Sort
set_option linter.unusedVariables false
set_option linter.unusedSimpArgs false
attribute [local go_sem] Oper.semAt_some

set_option maxRecDepth 100000 in
set_option maxHeartbeats 1600000 in
theorem w_held (S : Nat) (k : Int) (w : World) : Calls Tryz.prog 107 #[.pointer (some ⟨S, 0, none⟩), .int .i64 k] w fun e w' => e = .returned (.func (.func 135) #[] #[.pointer (some ⟨w.heap.size + 1, 0, none⟩), .pointer (some ⟨w.heap.size, 0, none⟩)]) ∧ w' = (w.alloc (.cells #[.pointer (some ⟨S, 0, none⟩)] 60)).alloc (.cells #[.int .i64 k] 3) := by
  go_enter Tryz.func107, Tryz.ntmps107
  go_wp2_with fail
  go_ret
  exact ⟨rfl, rfl⟩
theorem box_cell {w : World} {b : Nat} {v : Value} {t : TypeId} (h : w.heap[b]? = some (.cells #[v] t (0, 0))) : w.cell? ⟨b, 0, none⟩ = some v := by
  rw [cell_of_row _ _ _ _ _ _ h]
  rfl

set_option maxRecDepth 100000 in
set_option maxHeartbeats 3200000 in
theorem w_held1 (w0 : World) (S h : Nat) (A : NT) (g o : Nat) (k : Int) (bk bp : Nat) (X : List UInt8) (hA : NAt w0 (h + 1) A g o) (hop : 0 ≤ A.op ∧ A.op < 44) (HT : Say w0 S 15 #[.pointer (some ⟨S, 0, none⟩), .pointer (some ⟨g, o, none⟩)] X) (w : World) (l : List UInt8) (hP : PS w0 S w l)
    (hbk : w.heap[bk]? = some (.cells #[.int .i64 k] 3 (0, 0))) (hbp : w.heap[bp]? = some (.cells #[.pointer (some ⟨S, 0, none⟩)] 60 (0, 0))) (hlen : l.length + (pHd X A k).length ≤ 140737488355328) :
    Calls Tryz.prog 135 #[.pointer (some ⟨g, o, none⟩), .pointer (some ⟨bk, 0, none⟩), .pointer (some ⟨bp, 0, none⟩)] w fun e w' => e = .returned (.tuple #[]) ∧ PS w0 S w' (l ++ pHd X A k) ∧ Lib.OthersKept 5 (some S) w w' := by
  have hpS := hP.ne hbp (by decide)
  have HLo : Hid (∀ d os, Calls Tryz.prog 136 #[.pointer (some ⟨g, o, none⟩)] (grow (redrawn w d) os) fun e w' => e = .returned (.int .i64 (pLo A)) ∧ Below (grow (redrawn w d) os).heap.size (grow (redrawn w d) os) w') := fun d os => (w_looseness h A g o _ (hA.keep (hP.low.trans ((below_regrown w d os).mono hP.low.size))) (hP.tab.keep (hP.low.trans ((below_regrown w d os).mono hP.low.size))) hop).mono (by rintro e w' ⟨rfl, rfl⟩; exact ⟨rfl, Below.refl _ _⟩)
  have HS := Hid.mk HT
  have HP := Hid.mk hP
  have HBp := Hid.mk hbp
  have ck := box_cell hbk
  have CK := fun d os => cell_regrown ck d os
  have HL := Hid.mk hlen
  clear hP HT hA hop hbp hlen
  unfold pHd at HL ⊢
  obtain ⟨lo, HLO⟩ : ∃ lo, Hid (lo = pLo A) := ⟨_, rfl⟩
  rw [← HLO.out] at HLo HL ⊢
  clear HLO ck
  by_cases hlo : lo < k
  · have hge : decide (k ≤ lo) = false := by rw [decide_eq_false_iff_not]; omega
    have hge2 : ¬ k ≤ lo := by omega
    rw [decide_eq_true hlo] at HL ⊢
    simp only [pBr, if_true] at HL ⊢
    go_enter Tryz.func135, Tryz.ntmps135
    go_wp2_with fail
    refine wp_region_quiet_below (by kernel_rfl) (by kernel_rfl) ?_
    repeat (go_big_quiet_step (exact Calls.regrown_of (HLo.out _ _)))
    refine wpQuiet_nil ?_
    intro w2 hw'
    have HP2 : Hid (PS w0 S w2 l ∧ Lib.OthersKept 5 (some S) w w2) := by
      obtain ⟨⟨dq, osq⟩, rfl⟩ := hw'
      have hb := below_regrown w dq osq
      exact ⟨⟨HP.out.pen.keep (fun j x hj _ => (hb.block _ (heap_lt hj)).trans hj), HP.out.low.trans (hb.mono HP.out.low.size), HP.out.tab⟩, fun j x hj _ _ => (hb.block _ (heap_lt hj)).trans hj⟩
    clear hw' CK
    have c2 := box_cell (ok_block HP2.out.2 HBp.out hpS (by decide))
    go_wp2_with fail
    refine (w_put1 HP2.out.1 _ [40] rfl (by have := HL.out; simp only [List.length_append, List.length_cons, List.length_nil] at this ⊢; omega)).mono ?_
    rintro e w3 ⟨rfl, hp3, hk3⟩
    have HP3 : Hid (PS w0 S w3 (l ++ [40]) ∧ Lib.OthersKept 5 (some S) w w3) := ⟨hp3, HP2.out.2.trans hk3⟩
    clear hp3 hk3 c2
    have c3 := box_cell (ok_block HP3.out.2 HBp.out hpS (by decide))
    go_wp2_with fail
    refine (HS.out _ _ HP3.out.1 (by have := HL.out; simp only [List.length_append, List.length_cons, List.length_nil] at this ⊢; omega)).mono ?_
    rintro e w4 ⟨rfl, hp4, hk4⟩
    have HP4 : Hid (PS w0 S w4 (l ++ [40] ++ X) ∧ Lib.OthersKept 5 (some S) w w4) := ⟨hp4, HP3.out.2.trans hk4⟩
    clear hp4 hk4 c3
    have c4 := box_cell (ok_block HP4.out.2 HBp.out hpS (by decide))
    go_wp2_with fail
    refine (w_put1 HP4.out.1 _ [41] rfl (by have := HL.out; simp only [List.length_append, List.length_cons, List.length_nil] at this ⊢; omega)).mono ?_
    rintro e w5 ⟨rfl, hp5, hk5⟩
    have HP5 : Hid (PS w0 S w5 (l ++ ([40] ++ (X ++ [41]))) ∧ Lib.OthersKept 5 (some S) w w5) := ⟨by rw [show l ++ ([40] ++ (X ++ [41])) = l ++ [40] ++ X ++ [41] by simp only [List.append_assoc]]; exact hp5, HP4.out.2.trans hk5⟩
    clear hp5 hk5 c4
    go_wp2_with fail
    go_end0
    exact ⟨rfl, HP5.out⟩
  · have hge2 : k ≤ lo := by omega
    rw [decide_eq_false hlo] at HL ⊢
    simp only [pBr] at HL ⊢
    go_enter Tryz.func135, Tryz.ntmps135
    go_wp2_with fail
    refine wp_region_quiet_below (by kernel_rfl) (by kernel_rfl) ?_
    repeat (go_big_quiet_step (exact Calls.regrown_of (HLo.out _ _)))
    refine wpQuiet_nil ?_
    intro w2 hw'
    have HP2 : Hid (PS w0 S w2 l ∧ Lib.OthersKept 5 (some S) w w2) := by
      obtain ⟨⟨dq, osq⟩, rfl⟩ := hw'
      have hb := below_regrown w dq osq
      exact ⟨⟨HP.out.pen.keep (fun j x hj _ => (hb.block _ (heap_lt hj)).trans hj), HP.out.low.trans (hb.mono HP.out.low.size), HP.out.tab⟩, fun j x hj _ _ => (hb.block _ (heap_lt hj)).trans hj⟩
    clear hw' CK
    have c2 := box_cell (ok_block HP2.out.2 HBp.out hpS (by decide))
    go_wp2_with fail
    refine (HS.out _ _ HP2.out.1 (by have := HL.out; simpa using this)).mono ?_
    rintro e w4 ⟨rfl, hp4, hk4⟩
    have HP4 : Hid (PS w0 S w4 (l ++ X) ∧ Lib.OthersKept 5 (some S) w w4) := ⟨hp4, HP2.out.2.trans hk4⟩
    clear hp4 hk4 c2
    go_wp2_with fail
    (try simp only [Exit.inBlock, Exit.then])
    refine bodyPost_ret (results_none rfl _ _ _) rfl ?_
    exact ⟨rfl, by simpa using HP4.out⟩
end Go.Proofs.YtcadknhedfnaoaaGreatDoor
