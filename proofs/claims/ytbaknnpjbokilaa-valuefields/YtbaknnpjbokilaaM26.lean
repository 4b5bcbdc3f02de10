import Derived.Test.YtbaknnpjbokilaaM25
import Derived.Maps.Own
import Derived.Maps.Views
import Derived.Sort.KeysCollected
namespace Go.Proofs.Ytbaknnpjbokilaa
open Go.RowKit Go.Maps Go.WideMaps
set_option linter.unusedVariables false
set_option linter.unusedSimpArgs false

theorem mlaw : Keyed Try.prog 9 := string_keyed Try.underlying9
theorem mzero (w : World) : (zeroValue 3).run Try.prog w = .ok (.int .i64 0) w := by kernel_rfl

/-- the places of keys, the last of each -/
def LC (keys : List ByteArray) : Nat → DataW Unit
  | 0 => .map []
  | k + 1 => (LC keys k).put (.string (keys.getD k .empty).data.toList) (.lit (.int .i64 (k : Int)))

/-- what latest leaves -/
structure LaSt (w wr : World) (keys : List ByteArray) (io : Option Addr) (N icap k : Nat) : Prop where
  below : Below w.heap.size w wr
  items : wr.heap[w.heap.size]? = some (.cells #[.slice io N icap] 22 (0, 0))
  map : wr.ownsMap Try.prog 9 (plainElem Try.prog 3) (w.heap.size + 1) k (LC keys k)
  box : wr.heap[w.heap.size + 1 + 1]? = some (.cells #[.map (some (w.heap.size + 1))] 58 (0, 0))

theorem LaSt.start (w : World) (keys : List ByteArray) (io : Option Addr) (N icap : Nat) : LaSt w (((w.alloc (.cells #[.slice io N icap] 22)).alloc (.map #[] 0)).alloc (.cells #[.map (some (w.heap.size + 1))] 58)) keys io N icap 0 := by
  obtain ⟨x0, x1, x2, x3⟩ := boxes3 w (.cells #[.slice io N icap] 22) (.map #[] 0) (.cells #[.map (some (w.heap.size + 1))] 58)
  refine ⟨below_more (below2 w _ _) (below1 _ _), x0, ?_, x2⟩
  have h := World.ownsMap_made (H := Unit) (w.alloc (.cells #[.slice io N icap] 22)) Try.prog 9 (plainElem Try.prog 3)
  rw [World.size_alloc] at h
  exact h.alloc _

set_option maxRecDepth 100000 in
set_option maxHeartbeats 3200000 in
theorem w_latest (ko : Option Addr) (K kcap : Nat) (keys : List ByteArray) (io : Option Addr) (N icap : Nat) (w : World) (hk : KIn w ko keys) (hK : keys.length = K) (hcap : K ≤ kcap) (hK2 : K ≤ 140737488355328) (hs : ∀ k ∈ keys, k.size ≤ 140737488355328) :
    Calls Try.prog 26 #[.slice ko K kcap, .slice io N icap] w fun e w' => e = .returned (.func (.func 35) #[] #[.pointer (some ⟨w.heap.size + 1 + 1, 0, none⟩), .pointer (some ⟨w.heap.size, 0, none⟩)]) ∧ LaSt w w' keys io N icap K := by
  have HK := Hid.mk hk
  have HKK := Hid.mk hK
  have HSz : Hid (∀ i, i < keys.length → keyOf Try.prog 9 (.string (keys.getD i .empty)) = some (.string (keys.getD i .empty).data.toList)) := fun i hi => by
    refine keyOf_string_mk Try.underlying9 ?_
    rw [getD_key hi]
    have := hs _ (List.getElem_mem hi)
    unfold maxLen; omega
  have HS0 := Hid.mk (LaSt.start w keys io N icap)
  have hmm := @run_makeMap Try.prog
  clear hk hK hs
  go_enter Try.func26, Try.ntmps26
  go_wp2_with fail
  go_loopw [11] (fun i wr => ∃ k : Nat, k ≤ K ∧ i = .int .i64 (k : Int) ∧ Hid (LaSt w wr keys io N icap k)) (fun i _ => K - (intOf i).toNat)
  case atStart => exact ⟨0, Nat.zero_le _, rfl, HS0⟩
  case round =>
    clear HS0
    obtain ⟨k, hk, rfl, HQ⟩ := hrel
    by_cases hlt : k < K
    · have hl1 : (k : Int) < (K : Int) := by omega
      have hkl : k < keys.length := by rw [HKK.out]; exact hlt
      obtain ⟨b, off, hko, hbl, hrow⟩ := (HK.out.keep HQ.out.below).row (by omega)
      subst hko
      have c1 := hrow k hkl
      have hkey := HSz.out k hkl
      have HLC : Hid (LC keys (k + 1) = (LC keys k).put (.string (keys.getD k .empty).data.toList) (.lit (.int .i64 (k : Int)))) := rfl
      generalize keys.getD k ByteArray.empty = s at c1 hkey HLC
      have cb := cell_of_row _ _ 0 _ _ _ HQ.out.box
      have hown := HQ.out.map
      clear hrow hbl hkl
      go_wp2_with (at_mapUpdate; refine wpList_mapUpdate_own _ (by rfl) _ _ _ 58 (by rfl) 9 3 mlaw Try.underlying58 _ (w.heap.size + 1) k _ (by rfl) hown (by unfold maxLen; omega) _ _ _ (by rfl) (by rfl) hkey _ [] (plainElem_int Try.underlying3 (WalkArith.wf_i64 (by omega))) ?_)
      intro w1 hown1 hgrow1
      have HN : Hid (LaSt w w1 keys io N icap (k + 1)) := by
        have q := hown.lt
        have hlt0 := (Array.getElem?_eq_some_iff.1 HQ.out.box).1
        refine ⟨HQ.out.below.grown hgrow1 HQ.out.below.size (fun j e => by cases e; omega), ?_, by rw [HLC.out]; exact hown1, ?_⟩
        · exact (hgrow1.block _ (by omega) (fun e => by have := Option.some.inj e; omega)).trans HQ.out.items
        · exact (hgrow1.block _ hlt0 (fun e => by have := Option.some.inj e; omega)).trans HQ.out.box
      clear hown1 hgrow1 hown cb c1 hkey
      go_wp2_with fail
      go_roundw
      case rel => exact ⟨k + 1, hlt, by go_num, HN⟩
      case measure => simp [intOf]; omega
    · have hl1 : ¬ (k : Int) < (K : Int) := by omega
      obtain rfl : k = K := by omega
      go_wp2_with fail
      go_ret
      exact ⟨rfl, HQ.out⟩
end Go.Proofs.Ytbaknnpjbokilaa
