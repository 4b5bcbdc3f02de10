import Derived.Test.YthcohnnikmpjkaaRows
import Derived.Test.YthcohnnikmpjkaaG6
import Derived.Test.YthcohnnikmpjkaaTY0
import Derived.WideKeyArgs
import Derived.WideKeyElems4
import Derived.Deep.Slices
import Derived.OpenShut
import Derived.WalkKit
namespace Go.Proofs.Ythcohnnikmpjkaa
open Go.ChangeShapes Go.WideShapes Go.RowKit
set_option linter.unusedVariables false

theorem bulk_memT {H : Type} {d : DataW H} : ∀ {l : List (DataW H)}, d ∈ l → Rows.uptoBulk d ≤ Rows.uptoBulkAll l
  | a :: r, h => by
    simp only [Rows.uptoBulkAll]
    rcases List.mem_cons.1 h with rfl | h
    · omega
    · have := bulk_memT h; omega
theorem bulk_posT {H : Type} (d : DataW H) : 1 ≤ Rows.uptoBulk d := by
  cases d with
  | lit l => cases l <;> simp [Rows.uptoBulk]
  | _ => simp [Rows.uptoBulk]
theorem bulk_lenT {H : Type} : ∀ (l : List (DataW H)), l.length ≤ Rows.uptoBulkAll l
  | [] => Nat.zero_le _
  | a :: r => by
    have := bulk_lenT r
    have := bulk_posT a
    simp only [Rows.uptoBulkAll, List.length_cons]; omega
theorem cells4T : Try.prog.cellsOf 4 = 1 := by kernel_rfl
theorem cellsSpT : Try.prog.cellsOf 46 = 2 := by kernel_rfl
theorem cellsTyT : Try.prog.cellsOf 27 = 9 := by kernel_rfl
theorem cellsArT : Try.prog.cellsOf 69 = 11 := by kernel_rfl
theorem cellsObT : Try.prog.cellsOf 37 = 12 := by kernel_rfl
theorem cellsSpsT : Try.prog.cellsOf 22 = 1 := by kernel_rfl
theorem cellsStsT : Try.prog.cellsOf 23 = 1 := by kernel_rfl
theorem cellsArsT : Try.prog.cellsOf 24 = 1 := by kernel_rfl
theorem cellsObsT : Try.prog.cellsOf 25 = 1 := by kernel_rfl
theorem cellsTysT : Try.prog.cellsOf 34 = 1 := by kernel_rfl
theorem cellsBosT : Try.prog.cellsOf 35 = 1 := by kernel_rfl

section
variable {H : Type} {enc : TypeId × Value → H} {W : World}

/-- a row, opened: each element as P says -/
theorem row_open {α : Type} [Inhabited α] {t e : TypeId} {k fuel : Nat} {cs : List Value} {x : DataW H × List MemPlace} (ht : Try.prog.underlying t = some (.slice e)) (hk : Try.prog.cellsOf e = k) (hk0 : 0 < k) (h : DataW.trod enc Try.prog W 0 (fun _ => true) true fuel t cs = some x) (P : α → List Value → Nat → Prop)
    (hel : ∀ (n : Nat) (cs' : List Value) (d : DataW H) (ps : List MemPlace), n < fuel → DataW.trod enc Try.prog W 0 (fun _ => true) true n e cs' = some (d, ps) → Rows.uptoBulk d ≤ Rows.uptoBulk x.1 → ∃ a, P a cs' (Rows.uptoBulk d)) :
    ∃ (io : Option Addr) (cap : Nat) (zs : List α) (g : Nat → Nat), cs = [.slice io zs.length cap] ∧ zs.length ≤ cap ∧ zs.length ≤ Rows.uptoBulk x.1 ∧ sumL ((List.range zs.length).map g) ≤ Rows.uptoBulk x.1 ∧ (0 < zs.length → ∃ b off, io = some ⟨b, off, none⟩ ∧ b < W.heap.size ∧ ∀ i, (hi : i < zs.length) → ∃ cs', P zs[i] cs' (g i) ∧ cs'.length = k ∧ ∀ j, j < k → W.cell? ⟨b, off + i * k + j, none⟩ = cs'[j]?) := by
  rcases elems_open ht h with ⟨e3, _⟩ | ⟨a, len, cap, n, elems, sp, hfn, e3, hlc, hlen, hd, hcell⟩
  · exact ⟨none, 0, [], fun _ => 0, e3, Nat.le_refl _, Nat.zero_le _, Nat.zero_le _, fun h => absurd h (by show ¬ 0 < 0; omega)⟩
  · have hbk : Rows.uptoBulkAll elems ≤ Rows.uptoBulk x.1 := by
      rw [hd]
      simp only [Rows.uptoBulk]
      omega
    have hbl := bulk_lenT elems
    obtain ⟨g, hg⟩ : ∃ g : Nat → Nat, ∀ i, (hi : i < elems.length) → g i = Rows.uptoBulk elems[i] := ⟨fun i => if hi : i < elems.length then Rows.uptoBulk elems[i] else 0, fun i hi => by simp [hi]⟩
    have hsum := bulk_sum (H := H) elems g (fun i hi => Nat.le_of_eq (hg i hi))
    rw [hlen] at hsum
    obtain ⟨f, hf⟩ := Go.Deep.choose_lt (α := α) (n := len) (p := fun i z => ∃ cs', P z cs' (g i) ∧ cs'.length = k ∧ ∀ j, j < k → W.cell? (a.add (i * k + j)) = cs'[j]?) (fun i hi => by
      obtain ⟨cs', ps, h1, h2⟩ := hcell i (by omega)
      rw [hk] at h1
      obtain ⟨_, hl, hc⟩ := World.cells?_some h1
      obtain ⟨z, hz⟩ := hel n cs' _ ps (by omega) h2 (Nat.le_trans (bulk_memT (List.getElem_mem _)) hbk)
      exact ⟨z, cs', by rw [hg i (by omega)]; exact hz, hl, fun j hj => by rw [← Go.Deep.add_add]; exact hc j hj⟩)
    refine ⟨some a, cap, (List.range len).map f, g, by rw [e3]; simp, by simpa using hlc, by simp; omega, by simp only [List.length_map, List.length_range]; omega, fun hp => ?_⟩
    have hp' : 0 < len := by simpa using hp
    obtain ⟨cs0, hP0, hl0, hc0⟩ := hf 0 hp'
    have hc00 := hc0 0 hk0
    rw [List.getElem?_eq_getElem (by omega)] at hc00
    obtain ⟨b, off, spot⟩ := a
    have hspot : spot = none := by
      have : W.cell? ((⟨b, off, spot⟩ : Addr).add 0) = some (cs0[0]'(by omega)) := by simpa using hc00
      simpa [Addr.add] using World.cell?_spot this
    subst hspot
    refine ⟨b, off, rfl, ?_, fun i hi => ?_⟩
    · have : W.cell? ((⟨b, off, none⟩ : Addr).add 0) = some (cs0[0]'(by omega)) := by simpa using hc00
      have h := World.block_lt_of_cell? W _ this
      simpa [Addr.add] using h
    · have hi' : i < len := by simpa using hi
      obtain ⟨cs', hP, hl, hc⟩ := hf i hi'
      refine ⟨cs', by simpa using hP, hl, fun j hj => ?_⟩
      have := hc j hj
      rw [Go.WideShapes.add_plain, ← Nat.add_assoc] at this
      exact this
end
instance : Inhabited TT := ⟨.mk false false false false false [] [] [] []⟩
instance : Inhabited AR := ⟨.mk default 0 0⟩
instance : Inhabited OB := ⟨.mk [] [] [] default⟩

section
variable {H : Type} {enc : TypeId × Value → H} {W : World}

set_option maxRecDepth 100000 in
theorem spans_open {fuel : Nat} {cs : List Value} {x : DataW H × List MemPlace} (h : DataW.trod enc Try.prog W 0 (fun _ => true) true fuel 22 cs = some x) :
    ∃ (io : Option Addr) (cap : Nat) (ps : List (ByteArray × ByteArray)), cs = [.slice io ps.length cap] ∧ ps.length ≤ cap ∧ ps.length ≤ Rows.uptoBulk x.1 ∧ (∀ p ∈ ps, p.1.size ≤ Rows.uptoBulk x.1 ∧ p.2.size ≤ Rows.uptoBulk x.1) ∧ SpIn W io ps := by
  obtain ⟨io, cap, ps, _, h1, h2, h3, _, h4⟩ := row_open (α := ByteArray × ByteArray) Try.underlying22 cellsSpT (by omega) h (fun p cs' _ => cs' = [.string p.1, .string p.2] ∧ p.1.size ≤ Rows.uptoBulk x.1 ∧ p.2.size ≤ Rows.uptoBulk x.1) (by
    intro n cs' d ps hn ht hb
    obtain ⟨xs, m, rfl, hd, hl, hxn, hi⟩ := DataW.trod_struct Try.underlying46 ht
    rw [cellsSpT] at hl
    have hn2 : xs.length = 2 := hxn
    have h0 := hi 0 _ rfl
    have h1 := hi 1 _ rfl
    match xs, hn2, cs', hl with
    | [y0, y1], _, [v0, v1], _ =>
      simp [g_cells9] at h0 h1
      obtain ⟨A, e0, d0, _⟩ := DataW.trod_string Try.underlying9 h0
      obtain ⟨B, e1, d1, _⟩ := DataW.trod_string Try.underlying9 h1
      simp at e0 e1
      subst e0 e1
      have l0 : A.data.toList.length = A.size := by rw [Array.length_toList]; rfl
      have l1 : B.data.toList.length = B.size := by rw [Array.length_toList]; rfl
      have hd' : d = _ := congrArg Prod.fst hd
      rw [hd'] at hb
      simp only [List.map_cons, List.map_nil, Rows.uptoBulk, Rows.uptoBulkAll, d0, d1] at hb
      exact ⟨(A, B), rfl, by show A.size ≤ _; omega, by show B.size ≤ _; omega⟩)
  refine ⟨io, cap, ps, h1, h2, h3, ?_, ⟨fun h0 => ?_⟩⟩
  · intro p hp
    obtain ⟨i, hi, rfl⟩ := List.getElem_of_mem hp
    obtain ⟨b, off, _, _, hc⟩ := h4 (by omega)
    obtain ⟨cs', hP, _⟩ := hc i hi
    exact hP.2
  · obtain ⟨b, off, e, hl, hc⟩ := h4 h0
    refine ⟨b, off, e, hl, fun i hi => ?_⟩
    obtain ⟨cs', hP, _, hcell⟩ := hc i hi
    rw [hP.1] at hcell
    exact ⟨hcell 0 (by omega), hcell 1 (by omega)⟩
theorem bools_open {fuel : Nat} {cs : List Value} {x : DataW H × List MemPlace} (h : DataW.trod enc Try.prog W 0 (fun _ => true) true fuel 35 cs = some x) :
    ∃ (io : Option Addr) (cap : Nat) (bs : List Bool), cs = [.slice io bs.length cap] ∧ bs.length ≤ cap ∧ bs.length ≤ Rows.uptoBulk x.1 ∧ BoIn W io bs := by
  obtain ⟨io, cap, bs, _, h1, h2, h3, _, h4⟩ := row_open (α := Bool) Try.underlying35 cells4T (by omega) h (fun p cs' _ => cs' = [.bool p]) (by
    intro n cs' d ps hn ht hb
    obtain ⟨z, hz, _⟩ := DataW.trod_bool Try.underlying4 ht
    exact ⟨z, hz⟩)
  refine ⟨io, cap, bs, h1, h2, h3, ⟨fun h0 => ?_⟩⟩
  obtain ⟨b, off, e, hl, hc⟩ := h4 h0
  refine ⟨b, off, e, hl, fun i hi => ?_⟩
  obtain ⟨cs', hP, _, hcell⟩ := hc i hi
  rw [hP] at hcell
  have := hcell 0 (by omega)
  simpa using this
theorem texts_open {fuel : Nat} {cs : List Value} {x : DataW H × List MemPlace} (h : DataW.trod enc Try.prog W 0 (fun _ => true) true fuel 23 cs = some x) :
    ∃ (io : Option Addr) (cap : Nat) (ks : List ByteArray), cs = [.slice io ks.length cap] ∧ ks.length ≤ cap ∧ ks.length ≤ Rows.uptoBulk x.1 ∧ (∀ k ∈ ks, k.size ≤ Rows.uptoBulk x.1) ∧ KIn W io ks := by
  obtain ⟨io, cap, ks, _, h1, h2, h3, _, h4⟩ := row_open (α := ByteArray) Try.underlying23 g_cells9 (by omega) h (fun p cs' _ => cs' = [.string p] ∧ p.size ≤ Rows.uptoBulk x.1) (by
    intro n cs' d ps hn ht hb
    obtain ⟨A, hz, hd, _⟩ := DataW.trod_string Try.underlying9 ht
    have l0 : A.data.toList.length = A.size := by rw [Array.length_toList]; rfl
    have hd' : d = _ := congrArg Prod.fst hd
    rw [hd'] at hb
    simp only [Rows.uptoBulk] at hb
    exact ⟨A, hz, by omega⟩)
  refine ⟨io, cap, ks, h1, h2, h3, ?_, ⟨fun h0 => ?_⟩⟩
  · intro p hp
    obtain ⟨i, hi, rfl⟩ := List.getElem_of_mem hp
    obtain ⟨b, off, _, _, hc⟩ := h4 (by omega)
    obtain ⟨cs', hP, _⟩ := hc i hi
    exact hP.2
  · obtain ⟨b, off, e, hl, hc⟩ := h4 h0
    refine ⟨b, off, e, hl, fun i hi => ?_⟩
    obtain ⟨cs', hP, _, hcell⟩ := hc i hi
    rw [hP.1] at hcell
    have := hcell 0 (by omega)
    have hg : ks.getD i .empty = ks[i] := by simp [List.getD, hi]
    rw [hg]
    simpa using this
end
end Go.Proofs.Ythcohnnikmpjkaa
