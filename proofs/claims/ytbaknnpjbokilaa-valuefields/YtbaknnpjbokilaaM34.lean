import Derived.Test.YtbaknnpjbokilaaM29
import Derived.Test.YtbaknnpjbokilaaM31
import Derived.Test.YtbaknnpjbokilaaM33
namespace Go.Proofs.Ytbaknnpjbokilaa
open Go.RowKit Go.Maps Go.Sort Go.Shelf
set_option linter.unusedVariables false
set_option linter.unusedSimpArgs false

/-- two rows as a tree -/
theorem rows_in {w w' : World} {h M : Nat} {ky : Nat → ByteArray} {c : Nat → Fin 5 → Value} {io ko : Option Addr} {ic kc : Nat} (hR : GaR w w' ky c M (.slice io M ic) (.slice ko M kc)) (T : Nat → VT) (hT : ∀ i, i < M → InH w' h (T i) (.agg #[c i 0, c i 1, c i 2, c i 3, c i 4])) (hM : M ≤ 100000) (hk : ∀ i, i < M → (ky i).size ≤ 140737488355328) :
    InH w' (h + 1) (.mk 6 .empty .empty ((List.range M).map T) ((List.range M).map ky)) (.agg #[.int .i64 6, .string ⟨#[]⟩, .string ⟨#[]⟩, .slice io M ic, .slice ko M kc]) := by
  have hil : (VT.mk 6 .empty .empty ((List.range M).map T) ((List.range M).map ky)).items.length = M := by simp [VT.items]
  have hkl : (VT.mk 6 .empty .empty ((List.range M).map T) ((List.range M).map ky)).keys.length = M := by simp [VT.keys]
  have capi : M ≤ ic := by
    rcases hR.items.2 with ⟨e, h0⟩ | ⟨g, cp, cur, e, _, _, h2, _⟩
    · omega
    · simp only [Value.slice.injEq] at e; omega
  have capk : M ≤ kc := by
    rcases hR.keys.2 with ⟨e, h0⟩ | ⟨g, cp, cur, e, _, _, h2, _⟩
    · omega
    · simp only [Value.slice.injEq] at e; omega
  refine ⟨io, ic, ko, kc, by rw [hil, hkl]; rfl, by show (ByteArray.empty).size ≤ _; decide, by show (ByteArray.empty).size ≤ _; decide, by rw [hil]; omega, by rw [hkl]; omega, by rw [hil]; exact capi, by rw [hkl]; exact capk, ?_, ⟨fun h0 => ?_⟩, fun h0 => ?_⟩
  · intro k hk'
    obtain ⟨i, hi, rfl⟩ := List.mem_map.1 (show k ∈ (List.range M).map ky from hk')
    exact hk i (List.mem_range.1 hi)
  · have h0' : 0 < M := by rw [← hkl]; exact h0
    rcases hR.keys.2 with ⟨e, h1⟩ | ⟨g, cp, cur, e, _, hb, _⟩
    · omega
    · have e' := e
      simp only [Value.slice.injEq] at e'
      obtain ⟨rfl, _, rfl⟩ := e'
      refine ⟨g, 0, rfl, (Array.getElem?_eq_some_iff.1 hb).1, fun i hi => ?_⟩
      have hiM : i < M := by rw [← hkl]; exact hi
      rw [Nat.zero_add, own_cellAt hR.keys (by omega)]
      have e3 : ((List.range M).map ky).getD i .empty = ky i := by simp [List.getD, hiM]
      show (kyL ky (List.range M))[i]? = some (.string (((List.range M).map ky).getD i .empty))
      rw [e3]
      unfold kyL
      rw [List.getElem?_map, List.getElem?_range hiM]; rfl
  · have h0' : 0 < M := by rw [← hil]; exact h0
    rcases hR.items.2 with ⟨e, h1⟩ | ⟨g, cp, cur, e, _, hb, _⟩
    · omega
    · have e' := e
      simp only [Value.slice.injEq] at e'
      obtain ⟨rfl, _, rfl⟩ := e'
      refine ⟨g, 0, rfl, (Array.getElem?_eq_some_iff.1 hb).1, fun i hi => ?_⟩
      have hiM : i < M := by rw [← hil]; exact hi
      have gc : ∀ j : Fin 5, w'.cell? ⟨g, i * 5 + j.1, none⟩ = some (c i j) := fun j => by
        have hj := j.2
        rw [own_cellAt hR.items (by omega)]
        exact flat_get c M i j hiM
      have eT : (VT.mk 6 .empty .empty ((List.range M).map T) ((List.range M).map ky)).items[i]'hi = T i := by simp [VT.items]
      rw [eT]
      refine ⟨c i 0, c i 1, c i 2, c i 3, c i 4, ⟨?_, ?_, ?_, ?_, ?_⟩, hT i hiM⟩
      · rw [Nat.zero_add]; exact gc 0
      · rw [Nat.zero_add]; exact gc 1
      · rw [Nat.zero_add]; exact gc 2
      · rw [Nat.zero_add]; exact gc 3
      · rw [Nat.zero_add]; exact gc 4

/-- latest, then gathered -/
theorem gathered_latest (h : Nat) (keys : List ByteArray) (ts : List VT) (io : Option Addr) (icap : Nat) (w0 w : World) (hi : IIn w0 h io ts) (hl : ts.length = keys.length) (hic : ts.length ≤ icap) (hK : keys.length ≤ 100000) (hs : ∀ k ∈ keys, k.size ≤ 140737488355328)
    (hb : Below w0.heap.size w0 w) (u : World) (hu : Below w0.heap.size w0 u) (hL : LaSt u w keys io ts.length icap keys.length) :
    Calls Try.prog 22 #[.func (.func 35) #[] #[.pointer (some ⟨u.heap.size + 1 + 1, 0, none⟩), .pointer (some ⟨u.heap.size, 0, none⟩)]] w fun e w' => ∃ io ic ko kc, e = .returned (.agg #[.int .i64 6, .string ⟨#[]⟩, .string ⟨#[]⟩, .slice io (SK keys).length ic, .slice ko (SK keys).length kc]) ∧
      Hid (InH w' (h + 1) (mkT keys ts) (.agg #[.int .i64 6, .string ⟨#[]⟩, .string ⟨#[]⟩, .slice io (SK keys).length ic, .slice ko (SK keys).length kc])) ∧ Hid (Below w.heap.size w w') := by
  obtain ⟨c, hc1, hc2, hc3⟩ := items_fun hi
  have hM : (SK keys).length ≤ 100000 := Nat.le_trans (SK_len keys) hK
  have hix := fun i hi => ixK_at keys i hi
  have hkey : ∀ i, i < (SK keys).length → ((SK keys).getD i []).length ≤ 140737488355328 := fun i hi' => by
    obtain ⟨h1, _, h3⟩ := hix i hi'
    rw [← h3, getD_key h1, Array.length_toList]
    exact hs _ (List.getElem_mem h1)
  have hbu := hL.below.size
  have hlt := (Array.getElem?_eq_some_iff.1 hL.box).1
  refine (w_gathered 35 _ (SK keys).length (fun i => ⟨((SK keys).getD i []).toArray⟩) (fun i => c (ixK keys i)) w (fun i hi' => hc3 _ (by rw [hl]; exact (hix i hi').1)) hM (enters_of Try.func35 (by kernel_rfl) rfl) ?_).mono ?_
  · intro W hW hrw hlW l J Jx W' hW' hJ hJx hY h0
    have hWW : Below w.heap.size w W' := hW.trans (hW'.mono hW.size)
    have hsz' := hW'.size
    refine latest1_in l w.heap.size (w.heap.size + 1) (u.heap.size + 1 + 1) u.heap.size (u.heap.size + 1) ts.length keys.length (SK keys).length io icap (LC keys keys.length) (SK keys) c (ixK keys) hic hc3 rfl rfl (fun i hi' => ⟨(hix i hi').2.1, by rw [hl]; exact (hix i hi').1⟩) (fun i hi' => by have := hkey i hi'; unfold maxLen; omega) hM (Nat.le_trans (LC_size keys) hK)
      J Jx W' hWW.size (by omega) ?_ (fun b hb' => hrw b ((rwAt_same (hW'.block (w.heap.size + 1) hlW)).1 hb')) hJ hJx hY h0
    have hS : LtS w w.heap.size (u.heap.size + 1 + 1) u.heap.size (u.heap.size + 1) ts.length keys.length io icap (LC keys keys.length) c := by
      refine ⟨cell_of_row _ _ 0 _ _ _ hL.items, cell_of_row _ _ 0 _ _ _ hL.box, hL.map, fun i hi' => ?_, by omega, by omega, by omega⟩
      obtain ⟨b, off, e, hb0, a0, a1, a2, a3, a4⟩ := hc1 i hi'
      have hbs := hb.size
      exact ⟨b, off, e, by omega, (hb.cell (p := ⟨_, _, _⟩) hb0).trans a0, (hb.cell (p := ⟨_, _, _⟩) hb0).trans a1, (hb.cell (p := ⟨_, _, _⟩) hb0).trans a2, (hb.cell (p := ⟨_, _, _⟩) hb0).trans a3, (hb.cell (p := ⟨_, _, _⟩) hb0).trans a4⟩
    exact hS.keep hWW
  · rintro e w' ⟨io', ic', ko', kc', rfl, hR⟩
    refine ⟨io', ic', ko', kc', rfl, ?_, hR.out.below⟩
    refine rows_in hR.out (fun i => ts.getD (ixK keys i) (.mk 0 .empty .empty [] [])) (fun i hi' => ?_) hM (fun i hi' => ?_)
    · have h1 : ixK keys i < ts.length := by rw [hl]; exact (hix i hi').1
      have e1 : ts.getD (ixK keys i) (.mk 0 .empty .empty [] []) = ts[ixK keys i] := by simp [List.getD, h1]
      rw [e1]
      exact (hc2 _ h1).keep (hb.trans (hR.out.below.mono hb.size))
    · show ((SK keys).getD i []).toArray.size ≤ _
      rw [List.size_toArray]
      have := hkey i hi'
      omega
end Go.Proofs.Ytbaknnpjbokilaa
namespace Go.Proofs.Ytbaknnpjbokilaa
open Go.RowKit Go.Maps Go.Sort Go.Shelf
set_option linter.unusedVariables false
set_option linter.unusedSimpArgs false

set_option maxRecDepth 100000 in
set_option maxHeartbeats 3200000 in
theorem w_Make_ok (h : Nat) (keys : List ByteArray) (ts : List VT) (K : Nat) (ko : Option Addr) (kcap : Nat) (io : Option Addr) (icap : Nat) (w : World) (hk : KIn w ko keys) (hi : IIn w h io ts) (hlk : keys.length = K) (hlt : ts.length = K) (hkc : K ≤ kcap) (hic : K ≤ icap) (hK : K ≤ 100000) (hs : ∀ k ∈ keys, k.size ≤ 140737488355328)
    (ho : oK keys K = true) (hf : ts.all (formN h) = true) (hsz : szN (h + 1) (mkT keys ts) ≤ 100000) :
    Calls Try.prog 12 #[.slice ko K kcap, .slice io K icap] w fun e w' => ∃ v, e = .returned (.tuple #[v, .int .i64 0]) ∧ Hid (InF w.heap.size w' (h + 1) (mkT keys ts) v ∧ Below w.heap.size w w') := by
  have HV : Hid (∀ u, Below w.heap.size w u → Calls Try.prog 24 #[.slice ko K kcap] u fun e w' => e = .returned (.bool true) ∧ Below u.heap.size u w') := fun u hu => by
    have := w_allValid ko K kcap keys u (hk.keep hu) hlk hkc (by omega) (fun k hk' => by have := hs k hk'; omega)
    rw [ho] at this; exact this
  have HF : Hid (∀ u, Below w.heap.size w u → Calls Try.prog 25 #[.slice io K icap] u fun e w' => e = .returned (.bool true) ∧ Below u.heap.size u w') := fun u hu => by
    have := w_allFormed h (w_vFormed h) io K icap ts u (hi.keep hu) hlt hic (by omega)
    rw [hf] at this; exact this
  have HL : Hid (∀ u, Below w.heap.size w u → Calls Try.prog 26 #[.slice ko K kcap, .slice io K icap] u fun e w' => e = .returned (.func (.func 35) #[] #[.pointer (some ⟨u.heap.size + 1 + 1, 0, none⟩), .pointer (some ⟨u.heap.size, 0, none⟩)]) ∧ LaSt u w' keys io K icap K) := fun u hu => w_latest ko K kcap keys io K icap u (hk.keep hu) hlk hkc (by omega) hs
  have HG : Hid (∀ u w4, Below w.heap.size w u → LaSt u w4 keys io K icap K → Calls Try.prog 22 #[.func (.func 35) #[] #[.pointer (some ⟨u.heap.size + 1 + 1, 0, none⟩), .pointer (some ⟨u.heap.size, 0, none⟩)]] w4 fun e w' => ∃ io ic ko kc, e = .returned (.agg #[.int .i64 6, .string ⟨#[]⟩, .string ⟨#[]⟩, .slice io (SK keys).length ic, .slice ko (SK keys).length kc]) ∧
      Hid (InH w' (h + 1) (mkT keys ts) (.agg #[.int .i64 6, .string ⟨#[]⟩, .string ⟨#[]⟩, .slice io (SK keys).length ic, .slice ko (SK keys).length kc])) ∧ Hid (Below w4.heap.size w4 w')) := fun u w4 hu hL => by
    have hL' : LaSt u w4 keys io ts.length icap keys.length := by rw [hlk, hlt]; exact hL
    exact gathered_latest h keys ts io icap w w4 hi (by rw [hlk, hlt]) (by rw [hlt]; exact hic) (by rw [hlk]; exact hK) hs (hu.trans (hL.below.mono hu.size)) u hu hL'
  have HT : Hid (∀ u v, InH u (h + 1) (mkT keys ts) v → Calls Try.prog 20 #[v] u fun e w' => ∃ v', e = .returned v' ∧ InF u.heap.size w' (h + 1) (mkT keys ts) v' ∧ Below u.heap.size u w') := fun u v hv => w_Twin (h + 1) _ _ u hv (Nat.le_trans hsz (by decide))
  have HB0 := Hid.mk (below1 w (.cells #[.int .i64 0, .string ⟨#[]⟩, .string ⟨#[]⟩, .slice none 0 0, .slice none 0 0] 25))
  have HR0 : Hid ((w.alloc (.cells #[.int .i64 0, .string ⟨#[]⟩, .string ⟨#[]⟩, .slice none 0 0, .slice none 0 0] 25)).heap[w.heap.size]? = some (.cells #[.int .i64 0, .string ⟨#[]⟩, .string ⟨#[]⟩, .slice none 0 0, .slice none 0 0] 25 (0, 0))) := heap_alloc_new w _
  generalize (SK keys).length = M at HG
  clear hk hi hlk hlt hs ho hf hsz
  go_enter Try.func12, Try.ntmps12
  go_wp2_with fail
  refine (HV.out _ HB0.out).mono ?_
  rintro e w2 ⟨rfl, hb2⟩
  have HB2 := Hid.mk (below_more HB0.out hb2)
  have HR2 := Hid.mk (heap_low hb2 (by simp) HR0.out)
  clear hb2 HB0 HR0
  go_wp2_with fail
  refine (HF.out _ HB2.out).mono ?_
  rintro e w3 ⟨rfl, hb3⟩
  have HB3 := Hid.mk (below_more HB2.out hb3)
  have HR3 := Hid.mk (heap_low hb3 (Array.getElem?_eq_some_iff.1 HR2.out).1 HR2.out)
  clear hb3 HB2 HR2
  go_wp2_with fail
  refine (HL.out _ HB3.out).mono ?_
  rintro e w4 ⟨rfl, hL4⟩
  have HR4 := Hid.mk (heap_low hL4.below (Array.getElem?_eq_some_iff.1 HR3.out).1 HR3.out)
  have HB4 := Hid.mk (below_more HB3.out hL4.below)
  have HC := Hid.mk (HG.out w3 w4 HB3.out hL4)
  clear hL4 HG HL HF HV
  go_wp2_with fail
  refine HC.out.mono ?_
  rintro e w5 ⟨gio, gic, gko, gkc, rfl, HI5, HB5'⟩
  have HR5 := Hid.mk (heap_low HB5'.out (Array.getElem?_eq_some_iff.1 HR4.out).1 HR4.out)
  have HB5 := Hid.mk (below_more HB4.out HB5'.out)
  go_wp2_with fail
  refine (HT.out w5 _ HI5.out).mono ?_
  rintro e w6 ⟨v', rfl, hF6, hb6⟩
  have HR6 := Hid.mk (heap_low hb6 (Array.getElem?_eq_some_iff.1 HR5.out).1 HR5.out)
  have HB6 := Hid.mk (below_more HB5.out hb6)
  have hlt5 := (Array.getElem?_eq_some_iff.1 HR5.out).1
  obtain ⟨yk, yn, yt, yio, yN, yic, yko, yK, ykc, rfl⟩ := hF6.shape
  have HF6 := Hid.mk hF6
  have r0 := cell_of_row _ _ 0 _ _ _ HR6.out
  have r1 := cell_of_row _ _ 1 _ _ _ HR6.out
  have r2 := cell_of_row _ _ 2 _ _ _ HR6.out
  have r3 := cell_of_row _ _ 3 _ _ _ HR6.out
  have r4 := cell_of_row _ _ 4 _ _ _ HR6.out
  have fr : ∀ j, w6.frozen? ⟨w.heap.size, j, none⟩ = false := fun j => frozen_row HR6.out
  obtain ⟨wz, hwz⟩ : ∃ wz, ((((w6.setCell ⟨w.heap.size, 0, none⟩ (.int .i64 yk)).setCell ⟨w.heap.size, 1, none⟩ (.string yn)).setCell ⟨w.heap.size, 2, none⟩ (.string yt)).setCell ⟨w.heap.size, 3, none⟩ (.slice yio yN yic)).setCell ⟨w.heap.size, 4, none⟩ (.slice yko yK ykc) = wz := ⟨_, rfl⟩
  obtain ⟨zb, zo, zs', zbl⟩ := set5 w6 (w.heap.size) _ _ _ _ _ _ _ _ _ _ _ HR6.out wz hwz.symm
  have z0 := cell_of_row _ _ 0 _ _ _ zb
  have z1 := cell_of_row _ _ 1 _ _ _ zb
  have z2 := cell_of_row _ _ 2 _ _ _ zb
  have z3 := cell_of_row _ _ 3 _ _ _ zb
  have z4 := cell_of_row _ _ 4 _ _ _ zb
  have FIN : Hid (InF w.heap.size wz (h + 1) (mkT keys ts) (.agg #[.int .i64 yk, .string yn, .string yt, .slice yio yN yic, .slice yko yK ykc]) ∧ Below w.heap.size w wz) :=
    ⟨InF.keepB (by rw [zs']; exact Nat.le_refl _) (fun b hb hl => zo b (by omega)) (by omega) HF6.out, HB6.out.trans (zbl _ (Nat.le_refl _))⟩
  clear zb zo zbl hF6 hb6 HC HT zs'
  go_wp2_with fail
  (try simp only [Exit.inBlock, Exit.then])
  refine bodyPost_ret (v := .tuple #[.agg #[.int .i64 yk, .string yn, .string yt, .slice yio yN yic, .slice yko yK ykc], .int .i64 0]) (by simp [results, Try.results12, go_sem, z0, z1, z2, z3, z4]) rfl ?_
  exact ⟨_, rfl, FIN⟩
end Go.Proofs.Ytbaknnpjbokilaa
