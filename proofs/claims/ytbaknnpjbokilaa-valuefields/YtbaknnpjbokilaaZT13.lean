import Derived.Test.YtbaknnpjbokilaaM34
import Derived.Test.YtbaknnpjbokilaaM43
namespace Go.Proofs.Ytbaknnpjbokilaa
open Go.RowKit Go.Maps Go.Sort Go.Shelf
set_option linter.unusedVariables false
set_option linter.unusedSimpArgs false

def lvK : List ByteArray := [⟨#[98]⟩, ⟨#[97]⟩, ⟨#[98]⟩]
def lv1 : VT := .mk 3 ⟨#[49]⟩ ⟨#[]⟩ [] []
def lv2 : VT := .mk 2 ⟨#[]⟩ ⟨#[]⟩ [] []
def lv3 : VT := .mk 4 ⟨#[]⟩ ⟨#[120]⟩ [] []
def lvO : VT := .mk 6 ⟨#[]⟩ ⟨#[]⟩ [lv2, lv3] [⟨#[97]⟩, ⟨#[98]⟩]
theorem lv_map : LC lvK lvK.length = .map [(.string [97], .lit (.int .i64 1)), (.string [98], .lit (.int .i64 2))] := rfl
theorem lv_sk : SK lvK = [[97], [98]] := by
  unfold SK
  rw [lv_map]
  show ([[97], [98]] : List (List UInt8)).mergeSort leB = _
  exact List.mergeSort_of_pairwise (by decide)
theorem lv_ix : ixK lvK 0 = 1 ∧ ixK lvK 1 = 2 := by
  have h0 := (ixK_at lvK 0 (by rw [lv_sk]; decide)).2.1
  have h1 := (ixK_at lvK 1 (by rw [lv_sk]; decide)).2.1
  rw [lv_sk, lv_map] at h0 h1
  have e0 : (DataW.lit (H := Unit) (.int .i64 1)) = .lit (.int .i64 (ixK lvK 0 : Int)) := h0
  have e1 : (DataW.lit (H := Unit) (.int .i64 2)) = .lit (.int .i64 (ixK lvK 1 : Int)) := h1
  simp only [DataW.lit.injEq, Lit.int.injEq, true_and] at e0 e1
  omega
theorem lv_mk : mkT lvK [lv1, lv2, lv3] = lvO := by
  unfold mkT
  rw [lv_sk]
  have hr : List.range [([97] : List UInt8), [98]].length = [0, 1] := rfl
  rw [hr]
  simp only [List.map_cons, List.map_nil, lv_ix.1, lv_ix.2]
  rfl
theorem lv_sz : szN 2 (mkT lvK [lv1, lv2, lv3]) ≤ 100000 := by rw [lv_mk]; decide
theorem emT : (⟨#[]⟩ : ByteArray).toList.isEmpty = true := by rw [Lib.toList_data]; rfl
theorem emT2 : ByteArray.empty.toList.isEmpty = true := by rw [Lib.toList_data]; rfl
theorem lv_form : [lv1, lv2, lv3].all (formN 1) = true := by
  have f1 : formN 1 lv1 = true := by
    show (Pl.formed [49] && bareB .empty ⟨#[]⟩ 0 0) = true
    unfold bareB; rw [emT, emT2]; decide
  have f2 : formN 1 lv2 = true := by
    show bareB ⟨#[]⟩ ⟨#[]⟩ 0 0 = true
    unfold bareB; rw [emT]; decide
  have f3 : formN 1 lv3 = true := by
    show (okB [120] && bareB ⟨#[]⟩ .empty 0 0) = true
    unfold bareB; rw [emT, emT2]; decide
  simp only [List.all_cons, List.all_nil, f1, f2, f3, Bool.and_self]
theorem lv_ok : oK lvK 3 = true := by decide

/-- a row of values whose items have no parts -/
theorem flat_in {W : World} {b : Nat} {n : Nat} (T : Nat → VT) (hT : ∀ i, i < n → (T i).items = [] ∧ (T i).keys = [] ∧ (T i).num.size ≤ 10 ∧ (T i).text.size ≤ 10)
    (hb : b < W.heap.size) (hc : ∀ i, i < n → W.cell? ⟨b, i * 5, none⟩ = some (.int .i64 (T i).kind) ∧ W.cell? ⟨b, i * 5 + 1, none⟩ = some (.string (T i).num) ∧ W.cell? ⟨b, i * 5 + 2, none⟩ = some (.string (T i).text) ∧ W.cell? ⟨b, i * 5 + 3, none⟩ = some (.slice none 0 0) ∧ W.cell? ⟨b, i * 5 + 4, none⟩ = some (.slice none 0 0)) :
    IIn W 1 (some ⟨b, 0, none⟩) ((List.range n).map T) := by
  refine ⟨fun h0 => ⟨b, 0, rfl, hb, fun i hi => ?_⟩⟩
  have hi' : i < n := by simpa using hi
  obtain ⟨c0, c1, c2, c3, c4⟩ := hc i hi'
  obtain ⟨t1, t2, t3, t4⟩ := hT i hi'
  have e : ((List.range n).map T)[i] = T i := by simp
  rw [e]
  refine ⟨_, _, _, _, _, ⟨by rw [Nat.zero_add]; exact c0, by rw [Nat.zero_add]; exact c1, by rw [Nat.zero_add]; exact c2, by rw [Nat.zero_add]; exact c3, by rw [Nat.zero_add]; exact c4⟩, ?_⟩
  refine ⟨none, 0, none, 0, by rw [t1, t2]; rfl, by omega, by omega, by rw [t1]; simp, by rw [t2]; simp, by rw [t1]; simp, by rw [t2]; simp, by rw [t2]; simp, ⟨fun h => by rw [t2] at h; cases h⟩, fun h => by rw [t1] at h; cases h⟩


theorem lv_make (w : World) : Calls Try.prog 12 #[.slice (some ⟨w.heap.size, 0, none⟩) 3 3, .slice (some ⟨w.heap.size + 1, 0, none⟩) 3 3] ((w.alloc (.cells #[.string ⟨#[98]⟩, .string ⟨#[97]⟩, .string ⟨#[98]⟩] 9)).alloc (.cells #[.int .i64 3, .string ⟨#[49]⟩, .string ⟨#[]⟩, .slice none 0 0, .slice none 0 0, .int .i64 2, .string ⟨#[]⟩, .string ⟨#[]⟩, .slice none 0 0, .slice none 0 0, .int .i64 4, .string ⟨#[]⟩, .string ⟨#[120]⟩, .slice none 0 0, .slice none 0 0] 25)) fun e w' => ∃ v, e = .returned (.tuple #[v, .int .i64 0]) ∧ Hid (InF ((w.alloc (.cells #[.string ⟨#[98]⟩, .string ⟨#[97]⟩, .string ⟨#[98]⟩] 9)).alloc (.cells #[.int .i64 3, .string ⟨#[49]⟩, .string ⟨#[]⟩, .slice none 0 0, .slice none 0 0, .int .i64 2, .string ⟨#[]⟩, .string ⟨#[]⟩, .slice none 0 0, .slice none 0 0, .int .i64 4, .string ⟨#[]⟩, .string ⟨#[120]⟩, .slice none 0 0, .slice none 0 0] 25)).heap.size w' 2 lvO v ∧ Below ((w.alloc (.cells #[.string ⟨#[98]⟩, .string ⟨#[97]⟩, .string ⟨#[98]⟩] 9)).alloc (.cells #[.int .i64 3, .string ⟨#[49]⟩, .string ⟨#[]⟩, .slice none 0 0, .slice none 0 0, .int .i64 2, .string ⟨#[]⟩, .string ⟨#[]⟩, .slice none 0 0, .slice none 0 0, .int .i64 4, .string ⟨#[]⟩, .string ⟨#[120]⟩, .slice none 0 0, .slice none 0 0] 25)).heap.size ((w.alloc (.cells #[.string ⟨#[98]⟩, .string ⟨#[97]⟩, .string ⟨#[98]⟩] 9)).alloc (.cells #[.int .i64 3, .string ⟨#[49]⟩, .string ⟨#[]⟩, .slice none 0 0, .slice none 0 0, .int .i64 2, .string ⟨#[]⟩, .string ⟨#[]⟩, .slice none 0 0, .slice none 0 0, .int .i64 4, .string ⟨#[]⟩, .string ⟨#[120]⟩, .slice none 0 0, .slice none 0 0] 25)) w') := by
  have hb1 : ((w.alloc (.cells #[.string ⟨#[98]⟩, .string ⟨#[97]⟩, .string ⟨#[98]⟩] 9)).alloc (.cells #[.int .i64 3, .string ⟨#[49]⟩, .string ⟨#[]⟩, .slice none 0 0, .slice none 0 0, .int .i64 2, .string ⟨#[]⟩, .string ⟨#[]⟩, .slice none 0 0, .slice none 0 0, .int .i64 4, .string ⟨#[]⟩, .string ⟨#[120]⟩, .slice none 0 0, .slice none 0 0] 25)).heap[w.heap.size]? = some (.cells #[.string ⟨#[98]⟩, .string ⟨#[97]⟩, .string ⟨#[98]⟩] 9) := by rw [Below.heap_alloc _ _ _ (by simp), heap_alloc_new]
  have hb2 : ((w.alloc (.cells #[.string ⟨#[98]⟩, .string ⟨#[97]⟩, .string ⟨#[98]⟩] 9)).alloc (.cells #[.int .i64 3, .string ⟨#[49]⟩, .string ⟨#[]⟩, .slice none 0 0, .slice none 0 0, .int .i64 2, .string ⟨#[]⟩, .string ⟨#[]⟩, .slice none 0 0, .slice none 0 0, .int .i64 4, .string ⟨#[]⟩, .string ⟨#[120]⟩, .slice none 0 0, .slice none 0 0] 25)).heap[w.heap.size + 1]? = some (.cells #[.int .i64 3, .string ⟨#[49]⟩, .string ⟨#[]⟩, .slice none 0 0, .slice none 0 0, .int .i64 2, .string ⟨#[]⟩, .string ⟨#[]⟩, .slice none 0 0, .slice none 0 0, .int .i64 4, .string ⟨#[]⟩, .string ⟨#[120]⟩, .slice none 0 0, .slice none 0 0] 25) := by
    have := heap_alloc_new (w.alloc (.cells #[.string ⟨#[98]⟩, .string ⟨#[97]⟩, .string ⟨#[98]⟩] 9)) (.cells #[.int .i64 3, .string ⟨#[49]⟩, .string ⟨#[]⟩, .slice none 0 0, .slice none 0 0, .int .i64 2, .string ⟨#[]⟩, .string ⟨#[]⟩, .slice none 0 0, .slice none 0 0, .int .i64 4, .string ⟨#[]⟩, .string ⟨#[120]⟩, .slice none 0 0, .slice none 0 0] 25)
    rwa [World.size_alloc] at this
  have h := w_Make_ok 1 lvK [lv1, lv2, lv3] 3 (some ⟨w.heap.size, 0, none⟩) 3 (some ⟨w.heap.size + 1, 0, none⟩) 3 ((w.alloc (.cells #[.string ⟨#[98]⟩, .string ⟨#[97]⟩, .string ⟨#[98]⟩] 9)).alloc (.cells #[.int .i64 3, .string ⟨#[49]⟩, .string ⟨#[]⟩, .slice none 0 0, .slice none 0 0, .int .i64 2, .string ⟨#[]⟩, .string ⟨#[]⟩, .slice none 0 0, .slice none 0 0, .int .i64 4, .string ⟨#[]⟩, .string ⟨#[120]⟩, .slice none 0 0, .slice none 0 0] 25)) ⟨fun _ => ⟨w.heap.size, 0, rfl, by simp; omega, fun i hi => ?_⟩⟩ ?_ rfl rfl (Nat.le_refl _) (Nat.le_refl _) (by decide) (by decide) lv_ok lv_form lv_sz
  · rw [lv_mk] at h; exact h
  · have hi3 : i < 3 := hi
    rw [Nat.zero_add, cell_of_row _ _ _ _ _ _ hb1]
    match i, hi3 with
    | 0, _ => rfl
    | 1, _ => rfl
    | 2, _ => rfl
  · have := flat_in (W := (w.alloc (.cells #[.string ⟨#[98]⟩, .string ⟨#[97]⟩, .string ⟨#[98]⟩] 9)).alloc (.cells #[.int .i64 3, .string ⟨#[49]⟩, .string ⟨#[]⟩, .slice none 0 0, .slice none 0 0, .int .i64 2, .string ⟨#[]⟩, .string ⟨#[]⟩, .slice none 0 0, .slice none 0 0, .int .i64 4, .string ⟨#[]⟩, .string ⟨#[120]⟩, .slice none 0 0, .slice none 0 0] 25)) (b := w.heap.size + 1) (n := 3) (fun i => match i with | 0 => lv1 | 1 => lv2 | _ => lv3) (fun i hi => by
      match i, hi with
      | 0, _ => decide
      | 1, _ => decide
      | 2, _ => decide) (by simp) (fun i hi => by
      rw [cell_of_row _ _ _ _ _ _ hb2, cell_of_row _ _ _ _ _ _ hb2, cell_of_row _ _ _ _ _ _ hb2, cell_of_row _ _ _ _ _ _ hb2, cell_of_row _ _ _ _ _ _ hb2]
      match i, hi with
      | 0, _ => exact ⟨rfl, rfl, rfl, rfl, rfl⟩
      | 1, _ => exact ⟨rfl, rfl, rfl, rfl, rfl⟩
      | 2, _ => exact ⟨rfl, rfl, rfl, rfl, rfl⟩)
    exact this

/-- the object that lives asks for -/
theorem lv_want (w : World) : InH ((w.alloc (.cells #[.string ⟨#[97]⟩, .string ⟨#[98]⟩] 9)).alloc (.cells #[.int .i64 2, .string ⟨#[]⟩, .string ⟨#[]⟩, .slice none 0 0, .slice none 0 0, .int .i64 4, .string ⟨#[]⟩, .string ⟨#[120]⟩, .slice none 0 0, .slice none 0 0] 25)) 2 lvO (.agg #[.int .i64 6, .string ⟨#[]⟩, .string ⟨#[]⟩, .slice (some ⟨w.heap.size + 1, 0, none⟩) 2 2, .slice (some ⟨w.heap.size, 0, none⟩) 2 2]) := by
  have hb1 : ((w.alloc (.cells #[.string ⟨#[97]⟩, .string ⟨#[98]⟩] 9)).alloc (.cells #[.int .i64 2, .string ⟨#[]⟩, .string ⟨#[]⟩, .slice none 0 0, .slice none 0 0, .int .i64 4, .string ⟨#[]⟩, .string ⟨#[120]⟩, .slice none 0 0, .slice none 0 0] 25)).heap[w.heap.size]? = some (.cells #[.string ⟨#[97]⟩, .string ⟨#[98]⟩] 9) := by rw [Below.heap_alloc _ _ _ (by simp), heap_alloc_new]
  have hb2 : ((w.alloc (.cells #[.string ⟨#[97]⟩, .string ⟨#[98]⟩] 9)).alloc (.cells #[.int .i64 2, .string ⟨#[]⟩, .string ⟨#[]⟩, .slice none 0 0, .slice none 0 0, .int .i64 4, .string ⟨#[]⟩, .string ⟨#[120]⟩, .slice none 0 0, .slice none 0 0] 25)).heap[w.heap.size + 1]? = some (.cells #[.int .i64 2, .string ⟨#[]⟩, .string ⟨#[]⟩, .slice none 0 0, .slice none 0 0, .int .i64 4, .string ⟨#[]⟩, .string ⟨#[120]⟩, .slice none 0 0, .slice none 0 0] 25) := by
    have := heap_alloc_new (w.alloc (.cells #[.string ⟨#[97]⟩, .string ⟨#[98]⟩] 9)) (.cells #[.int .i64 2, .string ⟨#[]⟩, .string ⟨#[]⟩, .slice none 0 0, .slice none 0 0, .int .i64 4, .string ⟨#[]⟩, .string ⟨#[120]⟩, .slice none 0 0, .slice none 0 0] 25)
    rwa [World.size_alloc] at this
  have hI : IIn ((w.alloc (.cells #[.string ⟨#[97]⟩, .string ⟨#[98]⟩] 9)).alloc (.cells #[.int .i64 2, .string ⟨#[]⟩, .string ⟨#[]⟩, .slice none 0 0, .slice none 0 0, .int .i64 4, .string ⟨#[]⟩, .string ⟨#[120]⟩, .slice none 0 0, .slice none 0 0] 25)) 1 (some ⟨w.heap.size + 1, 0, none⟩) [lv2, lv3] := flat_in (W := (w.alloc (.cells #[.string ⟨#[97]⟩, .string ⟨#[98]⟩] 9)).alloc (.cells #[.int .i64 2, .string ⟨#[]⟩, .string ⟨#[]⟩, .slice none 0 0, .slice none 0 0, .int .i64 4, .string ⟨#[]⟩, .string ⟨#[120]⟩, .slice none 0 0, .slice none 0 0] 25)) (b := w.heap.size + 1) (n := 2) (fun i => match i with | 0 => lv2 | _ => lv3) (fun i hi => by
      match i, hi with
      | 0, _ => decide
      | 1, _ => decide) (by simp) (fun i hi => by
      rw [cell_of_row _ _ _ _ _ _ hb2, cell_of_row _ _ _ _ _ _ hb2, cell_of_row _ _ _ _ _ _ hb2, cell_of_row _ _ _ _ _ _ hb2, cell_of_row _ _ _ _ _ _ hb2]
      match i, hi with
      | 0, _ => exact ⟨rfl, rfl, rfl, rfl, rfl⟩
      | 1, _ => exact ⟨rfl, rfl, rfl, rfl, rfl⟩)
  refine ⟨some ⟨w.heap.size + 1, 0, none⟩, 2, some ⟨w.heap.size, 0, none⟩, 2, rfl, by decide, by decide, by decide, by decide, by decide, by decide, by decide, ⟨fun _ => ⟨w.heap.size, 0, rfl, by simp; omega, fun i hi => ?_⟩⟩, hI.row⟩
  have hi3 : i < 2 := hi
  rw [Nat.zero_add, cell_of_row _ _ _ _ _ _ hb1]
  match i, hi3 with
  | 0, _ => rfl
  | 1, _ => rfl

set_option maxRecDepth 100000 in
set_option maxHeartbeats 3200000 in
theorem w_lives (w : World) : Calls Try.prog 4 #[] w fun e w' => e = .returned (.bool true) ∧ Below w.heap.size w w' := by
  have HB := Hid.mk (below2 w (.cells #[.string ⟨#[98]⟩, .string ⟨#[97]⟩, .string ⟨#[98]⟩] 9) (.cells #[.int .i64 3, .string ⟨#[49]⟩, .string ⟨#[]⟩, .slice none 0 0, .slice none 0 0, .int .i64 2, .string ⟨#[]⟩, .string ⟨#[]⟩, .slice none 0 0, .slice none 0 0, .int .i64 4, .string ⟨#[]⟩, .string ⟨#[120]⟩, .slice none 0 0, .slice none 0 0] 25))
  have HM := Hid.mk (lv_make w)
  go_enter Try.func4, Try.ntmps4
  go_wp2_with fail
  refine HM.out.mono ?_
  rintro e w3 ⟨v, rfl, H3⟩
  obtain ⟨yk, yn, yt, yio, yN, yic, yko, yK, ykc, hv⟩ := H3.out.1.shape
  subst hv
  have HL : Hid (Calls Try.prog 10 #[.agg #[.int .i64 yk, .string yn, .string yt, .slice yio yN yic, .slice yko yK ykc], .agg #[.int .i64 6, .string ⟨#[]⟩, .string ⟨#[]⟩, .slice (some ⟨w3.heap.size + 1 + 1, 0, none⟩) 2 2, .slice (some ⟨w3.heap.size + 1, 0, none⟩) 2 2]] (((w3.alloc (.cells #[.int .i64 yk, .string yn, .string yt, .slice yio yN yic, .slice yko yK ykc] 25)).alloc (.cells #[.string ⟨#[97]⟩, .string ⟨#[98]⟩] 9)).alloc (.cells #[.int .i64 2, .string ⟨#[]⟩, .string ⟨#[]⟩, .slice none 0 0, .slice none 0 0, .int .i64 4, .string ⟨#[]⟩, .string ⟨#[120]⟩, .slice none 0 0, .slice none 0 0] 25)) fun e w' => e = .returned (.bool true) ∧ Below (((w3.alloc (.cells #[.int .i64 yk, .string yn, .string yt, .slice yio yN yic, .slice yko yK ykc] 25)).alloc (.cells #[.string ⟨#[97]⟩, .string ⟨#[98]⟩] 9)).alloc (.cells #[.int .i64 2, .string ⟨#[]⟩, .string ⟨#[]⟩, .slice none 0 0, .slice none 0 0, .int .i64 4, .string ⟨#[]⟩, .string ⟨#[120]⟩, .slice none 0 0, .slice none 0 0] 25)).heap.size (((w3.alloc (.cells #[.int .i64 yk, .string yn, .string yt, .slice yio yN yic, .slice yko yK ykc] 25)).alloc (.cells #[.string ⟨#[97]⟩, .string ⟨#[98]⟩] 9)).alloc (.cells #[.int .i64 2, .string ⟨#[]⟩, .string ⟨#[]⟩, .slice none 0 0, .slice none 0 0, .int .i64 4, .string ⟨#[]⟩, .string ⟨#[120]⟩, .slice none 0 0, .slice none 0 0] 25)) w') := by
    have hw := lv_want (w3.alloc (.cells #[.int .i64 yk, .string yn, .string yt, .slice yio yN yic, .slice yko yK ykc] 25))
    rw [World.size_alloc] at hw
    have hl := w_Like 2 lvO lvO _ _ _ ((H3.out.1.toH.keep (below1 w3 _)).keep (below2 _ (.cells #[.string ⟨#[97]⟩, .string ⟨#[98]⟩] 9) (.cells #[.int .i64 2, .string ⟨#[]⟩, .string ⟨#[]⟩, .slice none 0 0, .slice none 0 0, .int .i64 4, .string ⟨#[]⟩, .string ⟨#[120]⟩, .slice none 0 0, .slice none 0 0] 25))) hw
    rw [likeD_iff.2 rfl] at hl
    exact hl
  have HB3 : Hid (Below w.heap.size w (((w3.alloc (.cells #[.int .i64 yk, .string yn, .string yt, .slice yio yN yic, .slice yko yK ykc] 25)).alloc (.cells #[.string ⟨#[97]⟩, .string ⟨#[98]⟩] 9)).alloc (.cells #[.int .i64 2, .string ⟨#[]⟩, .string ⟨#[]⟩, .slice none 0 0, .slice none 0 0, .int .i64 4, .string ⟨#[]⟩, .string ⟨#[120]⟩, .slice none 0 0, .slice none 0 0] 25))) := below_more (below_more HB.out H3.out.2) (below_more (below1 w3 _) (below2 _ _ _))
  clear HM HB
  go_wp2_with fail
  refine HL.out.mono ?_
  rintro e w4 ⟨rfl, hb4⟩
  have HB4 := Hid.mk (below_more HB3.out hb4)
  clear hb4
  go_wp2_with fail
  go_ret
  exact ⟨rfl, HB4.out⟩
end Go.Proofs.Ytbaknnpjbokilaa
