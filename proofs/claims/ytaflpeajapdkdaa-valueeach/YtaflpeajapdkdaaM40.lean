import Derived.Test.YtaflpeajapdkdaaM27
import Derived.Test.YtaflpeajapdkdaaM39
import Derived.Test.YtaflpeajapdkdaaM35
import Derived.Test.YtaflpeajapdkdaaM37
namespace Go.Proofs.Ytaflpeajapdkdaa
open Go.RowKit Go.Maps Go.Sort Go.Shelf
set_option linter.unusedVariables false
set_option linter.unusedSimpArgs false

/-- two rows as a tree -/
theorem rows_in {w w' : World} {h M : Nat} {ky : Nat → ByteArray} {c : Nat → Fin 5 → Value} {io ko : Option Addr} {ic kc : Nat} (hR : GaR w w' ky c M (.slice io M ic) (.slice ko M kc)) (T : Nat → VT) (hT : ∀ i, i < M → InH w' h (T i) (.agg #[c i 0, c i 1, c i 2, c i 3, c i 4])) (hM : M ≤ 100000) (hk : ∀ i, i < M → (ky i).size ≤ 140737488355328) :
    InH w' (h + 1) (.mk 6 .empty .empty ((List.range M).map T) ((List.range M).map ky)) (.agg #[.int .i64 6, .string ⟨#[]⟩, .string ⟨#[]⟩, .slice io M ic, .slice ko M kc]) := by
  have hil : (VT.mk 6 .empty .empty ((List.range M).map T) ((List.range M).map ky)).items.length = M := by simp [VT.items]
  have hkl : (VT.mk 6 .empty .empty ((List.range M).map T) ((List.range M).map ky)).keys.length = M := by simp [VT.keys]
  have capi : M ≤ ic := by
    rcases hR.items.2 with ⟨e, h0⟩ | ⟨g, cp, cur, e, _, _, h2, _⟩
    · omega
    · simp only [Value.slice.injEq] at e; omega
  have capk : M ≤ kc := by
    rcases hR.keys.2 with ⟨e, h0⟩ | ⟨g, cp, cur, e, _, _, h2, _⟩
    · omega
    · simp only [Value.slice.injEq] at e; omega
  refine ⟨io, ic, ko, kc, by rw [hil, hkl]; rfl, by show (ByteArray.empty).size ≤ _; decide, by show (ByteArray.empty).size ≤ _; decide, by rw [hil]; omega, by rw [hkl]; omega, by rw [hil]; exact capi, by rw [hkl]; exact capk, ?_, ⟨fun h0 => ?_⟩, fun h0 => ?_⟩
  · intro k hk'
    obtain ⟨i, hi, rfl⟩ := List.mem_map.1 (show k ∈ (List.range M).map ky from hk')
    exact hk i (List.mem_range.1 hi)
  · have h0' : 0 < M := by rw [← hkl]; exact h0
    rcases hR.keys.2 with ⟨e, h1⟩ | ⟨g, cp, cur, e, _, hb, _⟩
    · omega
    · have e' := e
      simp only [Value.slice.injEq] at e'
      obtain ⟨rfl, _, rfl⟩ := e'
      refine ⟨g, 0, rfl, (Array.getElem?_eq_some_iff.1 hb).1, fun i hi => ?_⟩
      have hiM : i < M := by rw [← hkl]; exact hi
      rw [Nat.zero_add, own_cellAt hR.keys (by omega)]
      have e3 : ((List.range M).map ky).getD i .empty = ky i := by simp [List.getD, hiM]
      show (kyL ky (List.range M))[i]? = some (.string (((List.range M).map ky).getD i .empty))
      rw [e3]
      unfold kyL
      rw [List.getElem?_map, List.getElem?_range hiM]; rfl
  · have h0' : 0 < M := by rw [← hil]; exact h0
    rcases hR.items.2 with ⟨e, h1⟩ | ⟨g, cp, cur, e, _, hb, _⟩
    · omega
    · have e' := e
      simp only [Value.slice.injEq] at e'
      obtain ⟨rfl, _, rfl⟩ := e'
      refine ⟨g, 0, rfl, (Array.getElem?_eq_some_iff.1 hb).1, fun i hi => ?_⟩
      have hiM : i < M := by rw [← hil]; exact hi
      have gc : ∀ j : Fin 5, w'.cell? ⟨g, i * 5 + j.1, none⟩ = some (c i j) := fun j => by
        have hj := j.2
        rw [own_cellAt hR.items (by omega)]
        exact flat_get c M i j hiM
      have eT : (VT.mk 6 .empty .empty ((List.range M).map T) ((List.range M).map ky)).items[i]'hi = T i := by simp [VT.items]
      rw [eT]
      refine ⟨c i 0, c i 1, c i 2, c i 3, c i 4, ⟨?_, ?_, ?_, ?_, ?_⟩, hT i hiM⟩
      · rw [Nat.zero_add]; exact gc 0
      · rw [Nat.zero_add]; exact gc 1
      · rw [Nat.zero_add]; exact gc 2
      · rw [Nat.zero_add]; exact gc 3
      · rw [Nat.zero_add]; exact gc 4
end Go.Proofs.Ytaflpeajapdkdaa
namespace Go.Proofs.Ytaflpeajapdkdaa
open Go.RowKit Go.Maps Go.Sort Go.Shelf
set_option linter.unusedVariables false
set_option linter.unusedSimpArgs false
end Go.Proofs.Ytaflpeajapdkdaa
namespace Go.Proofs.Ytaflpeajapdkdaa
open Go.RowKit Go.Maps Go.Sort Go.Shelf
set_option linter.unusedVariables false
set_option linter.unusedSimpArgs false

def lvK : List ByteArray := [⟨#[98]⟩, ⟨#[97]⟩, ⟨#[98]⟩]
def lv1 : VT := .mk 3 ⟨#[49]⟩ ⟨#[]⟩ [] []
def lv2 : VT := .mk 2 ⟨#[]⟩ ⟨#[]⟩ [] []
def lv3 : VT := .mk 4 ⟨#[]⟩ ⟨#[120]⟩ [] []
def lvO : VT := .mk 6 ⟨#[]⟩ ⟨#[]⟩ [lv2, lv3] [⟨#[97]⟩, ⟨#[98]⟩]
theorem lv_map : LC lvK lvK.length = .map [(.string [97], .lit (.int .i64 1)), (.string [98], .lit (.int .i64 2))] := rfl
theorem lv_sk : SK lvK = [[97], [98]] := by
  unfold SK
  rw [lv_map]
  show ([[97], [98]] : List (List UInt8)).mergeSort leB = _
  exact List.mergeSort_of_pairwise (by decide)
theorem lv_ix : ixK lvK 0 = 1 ∧ ixK lvK 1 = 2 := by
  have h0 := (ixK_at lvK 0 (by rw [lv_sk]; decide)).2.1
  have h1 := (ixK_at lvK 1 (by rw [lv_sk]; decide)).2.1
  rw [lv_sk, lv_map] at h0 h1
  have e0 : (DataW.lit (H := Unit) (.int .i64 1)) = .lit (.int .i64 (ixK lvK 0 : Int)) := h0
  have e1 : (DataW.lit (H := Unit) (.int .i64 2)) = .lit (.int .i64 (ixK lvK 1 : Int)) := h1
  simp only [DataW.lit.injEq, Lit.int.injEq, true_and] at e0 e1
  omega
theorem lv_mk : mkT lvK [lv1, lv2, lv3] = lvO := by
  unfold mkT
  rw [lv_sk]
  have hr : List.range [([97] : List UInt8), [98]].length = [0, 1] := rfl
  rw [hr]
  simp only [List.map_cons, List.map_nil, lv_ix.1, lv_ix.2]
  rfl
theorem lv_sz : szN 2 (mkT lvK [lv1, lv2, lv3]) ≤ 100000 := by rw [lv_mk]; decide
theorem emT : (⟨#[]⟩ : ByteArray).toList.isEmpty = true := by rw [Lib.toList_data]; rfl
theorem emT2 : ByteArray.empty.toList.isEmpty = true := by rw [Lib.toList_data]; rfl
theorem lv_form : [lv1, lv2, lv3].all (formN 1) = true := by
  have f1 : formN 1 lv1 = true := by
    show (Pl.formed [49] && bareB .empty ⟨#[]⟩ 0 0) = true
    unfold bareB; rw [emT, emT2]; decide
  have f2 : formN 1 lv2 = true := by
    show bareB ⟨#[]⟩ ⟨#[]⟩ 0 0 = true
    unfold bareB; rw [emT]; decide
  have f3 : formN 1 lv3 = true := by
    show (okB [120] && bareB ⟨#[]⟩ .empty 0 0) = true
    unfold bareB; rw [emT, emT2]; decide
  simp only [List.all_cons, List.all_nil, f1, f2, f3, Bool.and_self]
theorem lv_ok : oK lvK 3 = true := by decide

/-- a row of values whose items have no parts -/
theorem flat_in {W : World} {b : Nat} {n : Nat} (T : Nat → VT) (hT : ∀ i, i < n → (T i).items = [] ∧ (T i).keys = [] ∧ (T i).num.size ≤ 10 ∧ (T i).text.size ≤ 10)
    (hb : b < W.heap.size) (hc : ∀ i, i < n → W.cell? ⟨b, i * 5, none⟩ = some (.int .i64 (T i).kind) ∧ W.cell? ⟨b, i * 5 + 1, none⟩ = some (.string (T i).num) ∧ W.cell? ⟨b, i * 5 + 2, none⟩ = some (.string (T i).text) ∧ W.cell? ⟨b, i * 5 + 3, none⟩ = some (.slice none 0 0) ∧ W.cell? ⟨b, i * 5 + 4, none⟩ = some (.slice none 0 0)) :
    IIn W 1 (some ⟨b, 0, none⟩) ((List.range n).map T) := by
  refine ⟨fun h0 => ⟨b, 0, rfl, hb, fun i hi => ?_⟩⟩
  have hi' : i < n := by simpa using hi
  obtain ⟨c0, c1, c2, c3, c4⟩ := hc i hi'
  obtain ⟨t1, t2, t3, t4⟩ := hT i hi'
  have e : ((List.range n).map T)[i] = T i := by simp
  rw [e]
  refine ⟨_, _, _, _, _, ⟨by rw [Nat.zero_add]; exact c0, by rw [Nat.zero_add]; exact c1, by rw [Nat.zero_add]; exact c2, by rw [Nat.zero_add]; exact c3, by rw [Nat.zero_add]; exact c4⟩, ?_⟩
  refine ⟨none, 0, none, 0, by rw [t1, t2]; rfl, by omega, by omega, by rw [t1]; simp, by rw [t2]; simp, by rw [t1]; simp, by rw [t2]; simp, by rw [t2]; simp, ⟨fun h => by rw [t2] at h; cases h⟩, fun h => by rw [t1] at h; cases h⟩

/-- the object that lives asks for -/
theorem lv_want (w : World) : InH ((w.alloc (.cells #[.string ⟨#[97]⟩, .string ⟨#[98]⟩] 9)).alloc (.cells #[.int .i64 2, .string ⟨#[]⟩, .string ⟨#[]⟩, .slice none 0 0, .slice none 0 0, .int .i64 4, .string ⟨#[]⟩, .string ⟨#[120]⟩, .slice none 0 0, .slice none 0 0] 25)) 2 lvO (.agg #[.int .i64 6, .string ⟨#[]⟩, .string ⟨#[]⟩, .slice (some ⟨w.heap.size + 1, 0, none⟩) 2 2, .slice (some ⟨w.heap.size, 0, none⟩) 2 2]) := by
  have hb1 : ((w.alloc (.cells #[.string ⟨#[97]⟩, .string ⟨#[98]⟩] 9)).alloc (.cells #[.int .i64 2, .string ⟨#[]⟩, .string ⟨#[]⟩, .slice none 0 0, .slice none 0 0, .int .i64 4, .string ⟨#[]⟩, .string ⟨#[120]⟩, .slice none 0 0, .slice none 0 0] 25)).heap[w.heap.size]? = some (.cells #[.string ⟨#[97]⟩, .string ⟨#[98]⟩] 9) := by rw [Below.heap_alloc _ _ _ (by simp), heap_alloc_new]
  have hb2 : ((w.alloc (.cells #[.string ⟨#[97]⟩, .string ⟨#[98]⟩] 9)).alloc (.cells #[.int .i64 2, .string ⟨#[]⟩, .string ⟨#[]⟩, .slice none 0 0, .slice none 0 0, .int .i64 4, .string ⟨#[]⟩, .string ⟨#[120]⟩, .slice none 0 0, .slice none 0 0] 25)).heap[w.heap.size + 1]? = some (.cells #[.int .i64 2, .string ⟨#[]⟩, .string ⟨#[]⟩, .slice none 0 0, .slice none 0 0, .int .i64 4, .string ⟨#[]⟩, .string ⟨#[120]⟩, .slice none 0 0, .slice none 0 0] 25) := by
    have := heap_alloc_new (w.alloc (.cells #[.string ⟨#[97]⟩, .string ⟨#[98]⟩] 9)) (.cells #[.int .i64 2, .string ⟨#[]⟩, .string ⟨#[]⟩, .slice none 0 0, .slice none 0 0, .int .i64 4, .string ⟨#[]⟩, .string ⟨#[120]⟩, .slice none 0 0, .slice none 0 0] 25)
    rwa [World.size_alloc] at this
  have hI : IIn ((w.alloc (.cells #[.string ⟨#[97]⟩, .string ⟨#[98]⟩] 9)).alloc (.cells #[.int .i64 2, .string ⟨#[]⟩, .string ⟨#[]⟩, .slice none 0 0, .slice none 0 0, .int .i64 4, .string ⟨#[]⟩, .string ⟨#[120]⟩, .slice none 0 0, .slice none 0 0] 25)) 1 (some ⟨w.heap.size + 1, 0, none⟩) [lv2, lv3] := flat_in (W := (w.alloc (.cells #[.string ⟨#[97]⟩, .string ⟨#[98]⟩] 9)).alloc (.cells #[.int .i64 2, .string ⟨#[]⟩, .string ⟨#[]⟩, .slice none 0 0, .slice none 0 0, .int .i64 4, .string ⟨#[]⟩, .string ⟨#[120]⟩, .slice none 0 0, .slice none 0 0] 25)) (b := w.heap.size + 1) (n := 2) (fun i => match i with | 0 => lv2 | _ => lv3) (fun i hi => by
      match i, hi with
      | 0, _ => decide
      | 1, _ => decide) (by simp) (fun i hi => by
      rw [cell_of_row _ _ _ _ _ _ hb2, cell_of_row _ _ _ _ _ _ hb2, cell_of_row _ _ _ _ _ _ hb2, cell_of_row _ _ _ _ _ _ hb2, cell_of_row _ _ _ _ _ _ hb2]
      match i, hi with
      | 0, _ => exact ⟨rfl, rfl, rfl, rfl, rfl⟩
      | 1, _ => exact ⟨rfl, rfl, rfl, rfl, rfl⟩)
  refine ⟨some ⟨w.heap.size + 1, 0, none⟩, 2, some ⟨w.heap.size, 0, none⟩, 2, rfl, by decide, by decide, by decide, by decide, by decide, by decide, by decide, ⟨fun _ => ⟨w.heap.size, 0, rfl, by simp; omega, fun i hi => ?_⟩⟩, hI.row⟩
  have hi3 : i < 2 := hi
  rw [Nat.zero_add, cell_of_row _ _ _ _ _ _ hb1]
  match i, hi3 with
  | 0, _ => rfl
  | 1, _ => rfl
end Go.Proofs.Ytaflpeajapdkdaa
