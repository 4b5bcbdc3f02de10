import Derived.Test.YtcadknhedfnaoaaGreatDoorM6
import Derived.Test.YtcadknhedfnaoaaGreatDoorM5
import Derived.Deep.AppendLies
import Derived.Deep.RegionWith
import Derived.Deep.RegionHeld3
import Derived.Laws.MakeOwn
namespace Go.Proofs.YtcadknhedfnaoaaGreatDoor
set_option linter.unusedVariables false

/-! Knuth, Morris and Pratt: the longest beginning of p that ends u. -/
def IsMax (p : List UInt8) (k : Nat) (u : List UInt8) : Prop := k ≤ p.length ∧ p.take k <:+ u ∧ ∀ j, j ≤ p.length → p.take j <:+ u → j ≤ k

theorem suf_snoc {a u : List UInt8} {x b : UInt8} : (a ++ [x]) <:+ (u ++ [b]) ↔ x = b ∧ a <:+ u := by
  constructor
  · rintro ⟨t, ht⟩
    rw [← List.append_assoc] at ht
    have h := List.append_inj' ht rfl
    exact ⟨by simpa using h.2, ⟨t, h.1⟩⟩
  · rintro ⟨rfl, t, rfl⟩
    exact ⟨t, by simp⟩

theorem take_up {p : List UInt8} {k : Nat} (hk : k < p.length) : p.take (k + 1) = p.take k ++ [p[k]] := by
  rw [List.take_succ_eq_append_getElem hk]

theorem suf_step {p u : List UInt8} {b : UInt8} {k : Nat} (hk : k < p.length) : p.take (k + 1) <:+ u ++ [b] ↔ p[k] = b ∧ p.take k <:+ u := by
  rw [take_up hk, suf_snoc]

theorem suf_tail {a b : List UInt8} (h : a <:+ b) (hl : a.length < b.length) : a <:+ b.tail := by
  obtain ⟨t, rfl⟩ := h
  cases t with
  | nil => simp at hl
  | cons c t => exact ⟨t, rfl⟩

theorem len_take {p : List UInt8} {k : Nat} (h : k ≤ p.length) : (p.take k).length = k := by rw [List.length_take]; omega

theorem IsMax.uniq {p u : List UInt8} {k j : Nat} (h : IsMax p k u) (g : IsMax p j u) : k = j := Nat.le_antisymm (g.2.2 k h.1 h.2.1) (h.2.2 j g.1 g.2.1)

/-- while it is sought which beginning goes on -/
def Cand (p u : List UInt8) (b : UInt8) (k : Nat) : Prop := k ≤ p.length ∧ p.take k <:+ u ∧ ∀ j, j < p.length → p.take (j + 1) <:+ u ++ [b] → j ≤ k

theorem IsMax.cand {p u : List UInt8} {k : Nat} (h : IsMax p k u) (b : UInt8) : Cand p u b k :=
  ⟨h.1, h.2.1, fun j hj hs => h.2.2 j (by omega) ((suf_step hj).1 hs).2⟩

theorem Cand.fall {p u : List UInt8} {b : UInt8} {k k' : Nat} (h : Cand p u b k) (hk : 0 < k) (hne : k = p.length ∨ ∃ hl : k < p.length, p[k] ≠ b) (hm : IsMax p k' ((p.take k).tail)) : Cand p u b k' ∧ k' < k := by
  have hlt : k' < k := by
    have h1 := hm.2.1.length_le
    rw [len_take hm.1, List.length_tail, len_take h.1] at h1
    omega
  refine ⟨⟨hm.1, (hm.2.1.trans (List.tail_suffix _)).trans h.2.1, fun j hj hs => ?_⟩, hlt⟩
  have hjk := h.2.2 j hj hs
  have hj2 := (suf_step hj).1 hs
  have hjlt : j < k := by
    rcases Nat.lt_or_ge j k with g | g
    · exact g
    · have e : j = k := by omega
      subst e
      rcases hne with rfl | ⟨hl, hne⟩
      · omega
      · exact absurd hj2.1 hne
  refine hm.2.2 j (by omega) (suf_tail ?_ ?_)
  · exact List.suffix_of_suffix_length_le hj2.2 h.2.1 (by rw [len_take (by omega), len_take h.1]; omega)
  · rw [len_take (by omega), len_take h.1]; exact hjlt

theorem Cand.hit {p u : List UInt8} {b : UInt8} {k : Nat} (h : Cand p u b k) (hk : k < p.length) (hb : p[k] = b) : IsMax p (k + 1) (u ++ [b]) := by
  refine ⟨hk, (suf_step hk).2 ⟨hb, h.2.1⟩, fun j hj hs => ?_⟩
  cases j with
  | zero => omega
  | succ j => have := h.2.2 j (by omega) hs; omega

theorem Cand.miss {p u : List UInt8} {b : UInt8} (h : Cand p u b 0) (hk : 0 < p.length) (hb : p[0] ≠ b) : IsMax p 0 (u ++ [b]) := by
  refine ⟨by omega, by simp, fun j hj hs => ?_⟩
  cases j with
  | zero => omega
  | succ j =>
    have := h.2.2 j (by omega) hs
    have e : j = 0 := by omega
    subst e
    exact absurd ((suf_step hk).1 hs).1 hb

theorem isMax_nil {p : List UInt8} : IsMax p 0 [] := ⟨by omega, by simp, fun j hj hs => by
  have h := hs.length_le
  rw [len_take hj] at h
  simpa using h⟩

theorem tail_up {p : List UInt8} {i : Nat} (h0 : 0 < i) (hi : i < p.length) : (p.take i).tail ++ [p[i]] = (p.take (i + 1)).tail := by
  rw [take_up hi]
  rcases hp : p.take i with _ | ⟨c, t⟩
  · have := congrArg List.length hp
    rw [len_take (by omega)] at this
    simp at this
    omega
  · rfl

theorem IsMax.whole {p u : List UInt8} {k : Nat} (h : IsMax p k u) : k = p.length ↔ p <:+ u := by
  constructor
  · intro e
    have := h.2.1
    rwa [e, List.take_length] at this
  · intro hs
    have := h.2.2 p.length (Nat.le_refl _) (by rw [List.take_length]; exact hs)
    have := h.1
    omega

/-- p stands in t from q on -/
def OccAt (p t : List UInt8) (q : Nat) : Prop := q + p.length ≤ t.length ∧ (t.drop q).take p.length = p
instance (p t : List UInt8) (q : Nat) : Decidable (OccAt p t q) := by unfold OccAt; infer_instance

theorem occ_end {p t : List UInt8} {q i : Nat} (hi : i < t.length) (hq : q + p.length = i + 1) : p <:+ t.take (i + 1) ↔ OccAt p t q := by
  have hsp : t.take (i + 1) = t.take q ++ (t.drop q).take p.length := by
    rw [← hq, List.take_add]
  have hl : ((t.drop q).take p.length).length = p.length := by rw [List.length_take, List.length_drop]; omega
  constructor
  · intro h
    refine ⟨by omega, ?_⟩
    rw [hsp] at h
    have h2 : (t.drop q).take p.length <:+ t.take q ++ (t.drop q).take p.length := List.suffix_append _ _
    have h3 := List.suffix_of_suffix_length_le h h2 (by omega)
    exact (h3.eq_of_length hl.symm).symm
  · rintro ⟨_, h⟩
    rw [hsp, h]
    exact List.suffix_append _ _

/-- the places whose end lies within the first n bytes -/
def occs (p t : List UInt8) (n : Nat) : List Nat := (List.range n).filterMap fun i => if p.length ≤ i + 1 ∧ OccAt p t (i + 1 - p.length) then some (i + 1 - p.length) else none

theorem occs_up (p t : List UInt8) (n : Nat) : occs p t (n + 1) = occs p t n ++ (if p.length ≤ n + 1 ∧ OccAt p t (n + 1 - p.length) then [n + 1 - p.length] else []) := by
  unfold occs
  rw [List.range_succ, List.filterMap_append]
  congr 1
  by_cases hc : p.length ≤ n + 1 ∧ OccAt p t (n + 1 - p.length)
  · simp [hc]
  · rw [if_neg hc]; simp only [List.filterMap_cons, List.filterMap_nil, if_neg hc]

theorem occs_mem {p t : List UInt8} (hp : 0 < p.length) {n q : Nat} : q ∈ occs p t n ↔ q + p.length ≤ n ∧ OccAt p t q := by
  unfold occs
  rw [List.mem_filterMap]
  constructor
  · rintro ⟨i, hi, h⟩
    simp at hi
    split at h
    · rename_i hc
      simp at h
      subst h
      exact ⟨by omega, hc.2⟩
    · cases h
  · rintro ⟨h1, h2⟩
    refine ⟨q + p.length - 1, by simp; omega, ?_⟩
    have e : q + p.length - 1 + 1 - p.length = q := by omega
    rw [if_pos ⟨by omega, by rw [e]; exact h2⟩, e]

theorem occs_len {p t : List UInt8} (n : Nat) : (occs p t n).length ≤ n := by
  induction n with
  | zero => simp [occs]
  | succ n ih =>
    rw [occs_up, List.length_append]
    split <;> simp <;> omega

theorem occs_rise {p t : List UInt8} (hp : 0 < p.length) (n : Nat) : (occs p t n).Pairwise (· < ·) := by
  induction n with
  | zero => simp [occs]
  | succ n ih =>
    rw [occs_up, List.pairwise_append]
    refine ⟨ih, ?_, ?_⟩
    · split <;> simp
    · intro a ha b hb
      split at hb
      · simp at hb
        have := (occs_mem hp).1 ha
        omega
      · simp at hb
end Go.Proofs.YtcadknhedfnaoaaGreatDoor
namespace Go.Proofs.YtcadknhedfnaoaaGreatDoor
open Go.RowKit
set_option linter.unusedVariables false
set_option linter.unusedSimpArgs false

/-- the slice value v reads, in w, as the numbers xs of kind k -/
def Ints (k : IntKind) (w : World) (v : Value) (xs : List Int) : Prop :=
  ∃ (ao : Option Addr) (cap : Nat), v = .slice ao xs.length cap ∧ xs.length ≤ cap ∧ (0 < xs.length → ∃ b off, ao = some ⟨b, off, none⟩ ∧ b < w.heap.size ∧ ∀ i, i < xs.length → w.cell? ⟨b, off + i, none⟩ = some (.int k (xs.getD i 0)))
theorem Ints.keep {k : IntKind} {w w' : World} {v : Value} {xs : List Int} (h : Ints k w v xs) (hb : Below w.heap.size w w') : Ints k w' v xs := by
  obtain ⟨ao, cap, hv, hc, hr⟩ := h
  refine ⟨ao, cap, hv, hc, fun hn => ?_⟩
  obtain ⟨b, off, ha, hlt, hcell⟩ := hr hn
  refine ⟨b, off, ha, Nat.lt_of_lt_of_le hlt hb.size, fun i hi => ?_⟩
  rw [hb.cell (p := ⟨b, off + i, none⟩) hlt]
  exact hcell i hi
def ivals (k : IntKind) (xs : List Int) : List Value := xs.map fun (x : Int) => Value.int k x
theorem ivals_get (k : IntKind) (xs : List Int) (i : Nat) (h : i < xs.length) : (ivals k xs)[i]? = some (.int k (xs.getD i 0)) := by
  simp [ivals, List.getElem?_eq_getElem h]
theorem own_ints {w : World} {base : Nat} {e : TypeId} {k : IntKind} {v : Value} {n : Nat} {xs : List Int} (h : w.ownsRow base e 1 v n (ivals k xs)) : Ints k w v xs := by
  obtain ⟨hl, h⟩ := h
  have hn : xs.length = n := by
    have : (ivals k xs).length = xs.length := by simp [ivals]
    omega
  rcases h with ⟨rfl, rfl⟩ | ⟨g, cap, cur, rfl, hg, hh, hcap, hm, hcs, ht⟩
  · have : xs = [] := List.eq_nil_of_length_eq_zero hn
    subst this
    exact ⟨none, 0, rfl, Nat.le_refl _, fun h => by cases h⟩
  · refine ⟨some ⟨g, 0, none⟩, cap, by rw [hn], by omega, fun _ => ⟨g, 0, rfl, (Array.getElem?_eq_some_iff.1 hh).1, fun i hi => ?_⟩⟩
    rw [cell_of_row w g (0 + i) cur e (0, 0) hh, Nat.zero_add]
    have h1 := ivals_get k xs i hi
    rw [← ht, List.getElem?_take, if_pos (by omega)] at h1
    simpa using h1
theorem take_isnoc (xs : List Int) (k : Nat) (h : k < xs.length) : xs.take (k + 1) = xs.take k ++ [xs.getD k 0] := by
  rw [List.take_succ_eq_append_getElem h, List.getD_eq_getElem?_getD, List.getElem?_eq_getElem h]; rfl
theorem own_empty (w : World) (e : TypeId) : (w.alloc (.cells #[] e)).ownsRow w.heap.size e 1 (.slice (some ⟨w.heap.size, 0, none⟩) 0 0) 0 [] :=
  ⟨rfl, Or.inr ⟨w.heap.size, 0, #[], rfl, Nat.le_refl _, heap_alloc_new w _, Nat.le_refl _, by decide, rfl, rfl⟩⟩
theorem Tryz.infoI : (Tryz.prog.info? 3).map (fun i => (i.zero, i.size, i.bytes)) = some (some (.int .i64 0), 1, 8) := by kernel_rfl

/-- while a list is copied -/
structure CopySt (k : IntKind) (e : TypeId) (w wr : World) (v : Value) (xs : List Int) (i : Nat) : Prop where
  own : wr.ownsRow w.heap.size e 1 v i (ivals k (xs.take i))
  below : Below w.heap.size w wr
theorem CopySt.next {k : IntKind} {e : TypeId} {w wr w1 : World} {v v1 : Value} {xs : List Int} {i : Nat} {o : Obj} (h : CopySt k e w wr v xs i) (hi : i < xs.length) (hown : w1.ownsRow w.heap.size e 1 v1 (i + 1) (ivals k (xs.take i) ++ [.int k (xs.getD i 0)])) (hg : (wr.alloc o).grownBy w1 v.ownBlock) : CopySt k e w w1 v1 xs (i + 1) := by
  refine ⟨?_, below_app h.own h.below.size h.below hg⟩
  rw [take_isnoc xs i hi]
  have : ivals k (xs.take i ++ [xs.getD i 0]) = ivals k (xs.take i) ++ [.int k (xs.getD i 0)] := by simp [ivals]
  rw [this]
  exact hown

/-- a call that answers a new list -/
def ListR (k : IntKind) (w w' : World) (e : Ending) (xs : List Int) : Prop := ∃ so sc, e = .returned (.slice so xs.length sc) ∧ Hid (Ints k w' (.slice so xs.length sc) xs) ∧ Below w.heap.size w w'
end Go.Proofs.YtcadknhedfnaoaaGreatDoor
namespace Go.Proofs.YtcadknhedfnaoaaGreatDoor
open Go.RowKit
set_option linter.unusedVariables false
set_option linter.unusedSimpArgs false

/-- the borders so far: those of the first n beginnings -/
def Bords (w : World) (p : List UInt8) (g n : Nat) : Prop := g < w.heap.size ∧ ∀ i, i < n → ∃ k : Nat, w.cell? ⟨g, i, none⟩ = some (.int .i64 (k : Int)) ∧ IsMax p k ((p.take (i + 1)).tail)
theorem Bords.keep {w w' : World} {p : List UInt8} {g n : Nat} (h : Bords w p g n) (hb : Below w.heap.size w w') : Bords w' p g n :=
  ⟨Nat.lt_of_lt_of_le h.1 hb.size, fun i hi => by obtain ⟨k, h1, h2⟩ := h.2 i hi; exact ⟨k, (hb.cell (p := ⟨g, i, none⟩) h.1).trans h1, h2⟩⟩

theorem byte_eq (s : ByteArray) (k : Nat) (hk : k < s.size) : s.data.toList[k]'(by rw [Array.length_toList]; exact hk) = s[k] := by
  simp [ByteArray.getElem_eq_getElem_data]
theorem size_len (s : ByteArray) : s.data.toList.length = s.size := Array.length_toList

theorem byte_of {x b : UInt8} (h : ((x.toNat : Int) == (b.toNat : Int)) = true) : x = b := by
  have := eq_of_beq h
  exact UInt8.toNat_inj.1 (by omega)
theorem byte_ne {x b : UInt8} (h : ((x.toNat : Int) == (b.toNat : Int)) = false) : x ≠ b := by
  rintro rfl
  simp at h

theorem goOn_le {p u : List UInt8} {b : UInt8} {k : Nat} (h : IsMax p k (u ++ [b])) : k ≤ u.length + 1 := by
  have h1 := h.2.1.length_le
  rw [len_take h.1] at h1
  simpa using h1

/-- the row of the borders while it is filled -/
structure BoSt (w wr : World) (p : List UInt8) (g n i : Nat) : Prop where
  row : ∃ cs : List Int, cs.length = n ∧ wr.heap[g]? = some (.cells (ivals .i64 cs).toArray 3 (0, 0))
  bords : Bords wr p g i
  below : Below w.heap.size w wr
  new : w.heap.size ≤ g

theorem BoSt.cell {w wr : World} {p : List UInt8} {g n i : Nat} (h : BoSt w wr p g n i) (j : Nat) (hj : j < n) : ∃ v, wr.cell? ⟨g, j, none⟩ = some v := by
  obtain ⟨cs, hl, hg⟩ := h.row
  refine ⟨.int .i64 (cs.getD j 0), ?_⟩
  rw [cell_of_row wr g j _ _ _ hg]
  simp [ivals, List.getD, hl, hj]
theorem BoSt.free {w wr : World} {p : List UInt8} {g n i : Nat} (h : BoSt w wr p g n i) (j : Nat) : wr.frozen? ⟨g, j, none⟩ = false := by
  obtain ⟨cs, hl, hg⟩ := h.row
  exact frozen_of_row wr g j _ _ hg

theorem BoSt.step {w wr : World} {p : List UInt8} {g n i k : Nat} (h : BoSt w wr p g n i) (hi : i < n) (hm : IsMax p k ((p.take (i + 1)).tail)) : BoSt w (wr.setCell ⟨g, i, none⟩ (.int .i64 (k : Int))) p g n (i + 1) := by
  obtain ⟨cs, hl, hg⟩ := h.row
  refine ⟨⟨cs.set i (k : Int), by rw [List.length_set]; exact hl, ?_⟩, ⟨by simp; exact h.bords.1, fun j hj => ?_⟩, h.below.setCell (p := ⟨g, i, none⟩) h.new _, h.new⟩
  · have h1 : (wr.setCell ⟨g, i, none⟩ (.int .i64 (k : Int))).heap[g]? = some (.cells ((ivals .i64 cs).toArray.setIfInBounds i (.int .i64 (k : Int))) 3 (0, 0)) := heap_setCell_same wr g i _ _ _ hg
    rw [h1]
    simp [ivals, List.map_set]
  · by_cases he : j = i
    · subst he
      obtain ⟨v, hv⟩ := h.cell j hi
      exact ⟨k, World.cell?_setCell_same _ _ _ hv, hm⟩
    · obtain ⟨k', h1, h2⟩ := h.bords.2 j (by omega)
      exact ⟨k', by rw [World.cell?_setCell_other _ _ _ _ (by simp <;> omega)]; exact h1, h2⟩

/-- a new row of noughts -/
def kzrow (n : Nat) : Obj := .cells (ivals .i64 (List.replicate n 0)).toArray 3 (0, 0)
theorem kmade_zeros (n : Nat) : madeCells #[.int .i64 0] n = (ivals .i64 (List.replicate n 0)).toArray := by
  unfold madeCells ivals
  apply Array.ext
  · simp
  · intro i h1 h2
    have e : i % 1 = 0 := by omega
    simp [e]
theorem run_make_krow (n : Nat) (hn : n ≤ 1099511627776) (u : World) : (Instr.makeSlice 68 (.int .i64 (n : Int)) (.int .i64 (n : Int))).run Tryz.prog u = .ok (.slice (some ⟨u.heap.size, 0, none⟩) n n) (u.alloc (kzrow n)) := by
  obtain ⟨i0, hi, hz0, hz1, hz2⟩ := info_parts Tryz.infoI
  have h := run_make (P := Tryz.prog) u 68 3 i0 (.int .i64 0) Tryz.underlying68 hi hz0 .i64 .i64 (n : Int) (n : Int) (by omega) (Int.le_refl _) (by rw [hz2]; omega) (by omega)
  have e : ((n : Int)).toNat = n := by omega
  rw [e] at h
  unfold kzrow
  rw [← kmade_zeros]
  simpa [hz1, Value.cells] using h
end Go.Proofs.YtcadknhedfnaoaaGreatDoor
