import Derived.Test.YtjfbbdhmcljhnaaZT9
import Derived.Test.YtjfbbdhmcljhnaaZT10
import Derived.Test.YtjfbbdhmcljhnaaM15
namespace Go.Proofs.Ytjfbbdhmcljhnaa
open Go.RowKit Go.Maps Go.Sort Go.Shelf
set_option linter.unusedVariables false
set_option linter.unusedSimpArgs false

/-- two rows as a tree -/
theorem rows_in {w w' : World} {h M : Nat} {ky : Nat → ByteArray} {c : Nat → Fin 5 → Value} {io ko : Option Addr} {ic kc : Nat} (hR : GaR w w' ky c M (.slice io M ic) (.slice ko M kc)) (T : Nat → VT) (hT : ∀ i, i < M → InH w' h (T i) (.agg #[c i 0, c i 1, c i 2, c i 3, c i 4])) (hM : M ≤ 10001) (hk : ∀ i, i < M → (ky i).size ≤ 140737488355328) :
    InH w' (h + 1) (.mk 6 .empty .empty ((List.range M).map T) ((List.range M).map ky)) (.agg #[.int .i64 6, .string ⟨#[]⟩, .string ⟨#[]⟩, .slice io M ic, .slice ko M kc]) := by
  have hil : (VT.mk 6 .empty .empty ((List.range M).map T) ((List.range M).map ky)).items.length = M := by simp [VT.items]
  have hkl : (VT.mk 6 .empty .empty ((List.range M).map T) ((List.range M).map ky)).keys.length = M := by simp [VT.keys]
  have capi : M ≤ ic := by
    rcases hR.items.2 with ⟨e, h0⟩ | ⟨g, cp, cur, e, _, _, h2, _⟩
    · omega
    · simp only [Value.slice.injEq] at e; omega
  have capk : M ≤ kc := by
    rcases hR.keys.2 with ⟨e, h0⟩ | ⟨g, cp, cur, e, _, _, h2, _⟩
    · omega
    · simp only [Value.slice.injEq] at e; omega
  refine ⟨io, ic, ko, kc, by rw [hil, hkl]; rfl, by show (ByteArray.empty).size ≤ _; decide, by show (ByteArray.empty).size ≤ _; decide, by rw [hil]; omega, by rw [hkl]; omega, by rw [hil]; exact capi, by rw [hkl]; exact capk, ?_, ⟨fun h0 => ?_⟩, fun h0 => ?_⟩
  · intro k hk'
    obtain ⟨i, hi, rfl⟩ := List.mem_map.1 (show k ∈ (List.range M).map ky from hk')
    exact hk i (List.mem_range.1 hi)
  · have h0' : 0 < M := by rw [← hkl]; exact h0
    rcases hR.keys.2 with ⟨e, h1⟩ | ⟨g, cp, cur, e, _, hb, _⟩
    · omega
    · have e' := e
      simp only [Value.slice.injEq] at e'
      obtain ⟨rfl, _, rfl⟩ := e'
      refine ⟨g, 0, rfl, (Array.getElem?_eq_some_iff.1 hb).1, fun i hi => ?_⟩
      have hiM : i < M := by rw [← hkl]; exact hi
      rw [Nat.zero_add, own_cellAt hR.keys (by omega)]
      have e3 : ((List.range M).map ky).getD i .empty = ky i := by simp [List.getD, hiM]
      show (kyL ky (List.range M))[i]? = some (.string (((List.range M).map ky).getD i .empty))
      rw [e3]
      unfold kyL
      rw [List.getElem?_map, List.getElem?_range hiM]; rfl
  · have h0' : 0 < M := by rw [← hil]; exact h0
    rcases hR.items.2 with ⟨e, h1⟩ | ⟨g, cp, cur, e, _, hb, _⟩
    · omega
    · have e' := e
      simp only [Value.slice.injEq] at e'
      obtain ⟨rfl, _, rfl⟩ := e'
      refine ⟨g, 0, rfl, (Array.getElem?_eq_some_iff.1 hb).1, fun i hi => ?_⟩
      have hiM : i < M := by rw [← hil]; exact hi
      have gc : ∀ j : Fin 5, w'.cell? ⟨g, i * 5 + j.1, none⟩ = some (c i j) := fun j => by
        have hj := j.2
        rw [own_cellAt hR.items (by omega)]
        exact flat_get c M i j hiM
      have eT : (VT.mk 6 .empty .empty ((List.range M).map T) ((List.range M).map ky)).items[i]'hi = T i := by simp [VT.items]
      rw [eT]
      refine ⟨c i 0, c i 1, c i 2, c i 3, c i 4, ⟨?_, ?_, ?_, ?_, ?_⟩, hT i hiM⟩
      · rw [Nat.zero_add]; exact gc 0
      · rw [Nat.zero_add]; exact gc 1
      · rw [Nat.zero_add]; exact gc 2
      · rw [Nat.zero_add]; exact gc 3
      · rw [Nat.zero_add]; exact gc 4

/-- latest, then gathered -/
theorem gathered_latest (h : Nat) (keys : List ByteArray) (ts : List VT) (io : Option Addr) (icap : Nat) (w0 w : World) (hi : IIn w0 h io ts) (hl : ts.length = keys.length) (hic : ts.length ≤ icap) (hK : keys.length ≤ 10001) (hs : ∀ k ∈ keys, k.size ≤ 140737488351232)
    (hb : Below w0.heap.size w0 w) (u : World) (hu : Below w0.heap.size w0 u) (hL : LaSt u w keys io ts.length icap keys.length) :
    Calls Try.prog 51 #[.func (.func 72) #[] #[.pointer (some ⟨u.heap.size + 1 + 1, 0, none⟩), .pointer (some ⟨u.heap.size, 0, none⟩)]] w fun e w' => ∃ io ic ko kc, e = .returned (.agg #[.int .i64 6, .string ⟨#[]⟩, .string ⟨#[]⟩, .slice io (SK keys).length ic, .slice ko (SK keys).length kc]) ∧
      Hid (InH w' (h + 1) (mkT keys ts) (.agg #[.int .i64 6, .string ⟨#[]⟩, .string ⟨#[]⟩, .slice io (SK keys).length ic, .slice ko (SK keys).length kc])) ∧ Hid (Below w.heap.size w w') := by
  obtain ⟨c, hc1, hc2, hc3⟩ := items_fun hi
  have hM : (SK keys).length ≤ 10001 := Nat.le_trans (SK_len keys) hK
  have hix := fun i hi => ixK_at keys i hi
  have hkey : ∀ i, i < (SK keys).length → ((SK keys).getD i []).length ≤ 140737488351232 := fun i hi' => by
    obtain ⟨h1, _, h3⟩ := hix i hi'
    rw [← h3, getD_key h1, Array.length_toList]
    exact hs _ (List.getElem_mem h1)
  have hbu := hL.below.size
  have hlt := (Array.getElem?_eq_some_iff.1 hL.box).1
  refine (w_gathered 72 _ (SK keys).length (fun i => ⟨((SK keys).getD i []).toArray⟩) (fun i => c (ixK keys i)) w (fun i hi' => hc3 _ (by rw [hl]; exact (hix i hi').1)) hM (enters_of Try.func72 (by kernel_rfl) rfl) ?_).mono ?_
  · intro W hW hrw hlW l J Jx W' hW' hJ hJx hY h0
    have hWW : Below w.heap.size w W' := hW.trans (hW'.mono hW.size)
    have hsz' := hW'.size
    refine latest1_in l w.heap.size (w.heap.size + 1) (u.heap.size + 1 + 1) u.heap.size (u.heap.size + 1) ts.length keys.length (SK keys).length io icap (LC keys keys.length) (SK keys) c (ixK keys) hic hc3 rfl rfl (fun i hi' => ⟨(hix i hi').2.1, by rw [hl]; exact (hix i hi').1⟩) (fun i hi' => by have := hkey i hi'; unfold maxLen; omega) hM (Nat.le_trans (LC_size keys) hK)
      J Jx W' hWW.size (by omega) ?_ (fun b hb' => hrw b ((rwAt_same (hW'.block (w.heap.size + 1) hlW)).1 hb')) hJ hJx hY h0
    have hS : LtS w w.heap.size (u.heap.size + 1 + 1) u.heap.size (u.heap.size + 1) ts.length keys.length io icap (LC keys keys.length) c := by
      refine ⟨cell_of_row _ _ 0 _ _ _ hL.items, cell_of_row _ _ 0 _ _ _ hL.box, hL.map, fun i hi' => ?_, by omega, by omega, by omega⟩
      obtain ⟨b, off, e, hb0, a0, a1, a2, a3, a4⟩ := hc1 i hi'
      have hbs := hb.size
      exact ⟨b, off, e, by omega, (hb.cell (p := ⟨_, _, _⟩) hb0).trans a0, (hb.cell (p := ⟨_, _, _⟩) hb0).trans a1, (hb.cell (p := ⟨_, _, _⟩) hb0).trans a2, (hb.cell (p := ⟨_, _, _⟩) hb0).trans a3, (hb.cell (p := ⟨_, _, _⟩) hb0).trans a4⟩
    exact hS.keep hWW
  · rintro e w' ⟨io', ic', ko', kc', rfl, hR⟩
    refine ⟨io', ic', ko', kc', rfl, ?_, hR.out.below⟩
    refine rows_in hR.out (fun i => ts.getD (ixK keys i) (.mk 0 .empty .empty [] [])) (fun i hi' => ?_) hM (fun i hi' => ?_)
    · have h1 : ixK keys i < ts.length := by rw [hl]; exact (hix i hi').1
      have e1 : ts.getD (ixK keys i) (.mk 0 .empty .empty [] []) = ts[ixK keys i] := by simp [List.getD, h1]
      rw [e1]
      exact (hc2 _ h1).keep (hb.trans (hR.out.below.mono hb.size))
    · show ((SK keys).getD i []).toArray.size ≤ _
      rw [List.size_toArray]
      have := hkey i hi'
      omega
end Go.Proofs.Ytjfbbdhmcljhnaa
