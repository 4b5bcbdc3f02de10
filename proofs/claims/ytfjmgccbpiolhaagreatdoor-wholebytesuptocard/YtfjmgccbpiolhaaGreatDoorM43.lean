import Derived.Test.YtfjmgccbpiolhaaGreatDoorM42
import Derived.Test.YtfjmgccbpiolhaaGreatDoorM1
namespace Go.Proofs.YtfjmgccbpiolhaaGreatDoor
open Go.RowKit Go.Shelf Go.Maps Go.WideMaps Go.Sort
set_option linter.unusedVariables false
set_option linter.unusedSimpArgs false
attribute [local go_sem] Oper.semAt_some

set_option maxRecDepth 100000 in
set_option maxHeartbeats 3200000 in
theorem w_gathered5 (mb Bm lo H : Nat) (D : DataW Value) (vof : List UInt8 → Value) (fs : List (List UInt8 × VT)) (w : World) (hO : ObC mb Bm lo H D vof fs w) (hn : fs.length ≤ 1073741824) (hkl : ∀ f ∈ fs, f.1.length ≤ 140737488355328) :
    Calls Tryz.prog 140 #[.map (some mb)] w fun e w' => Below w.heap.size w w' ∧ ∃ io ic ko kc, e = .returned (.agg #[.int .i64 6, .string ⟨#[]⟩, .string ⟨#[]⟩, .slice io fs.length ic, .slice ko fs.length kc]) ∧ InF lo w' (H + 1 + 1) (objT fs) (.agg #[.int .i64 6, .string ⟨#[]⟩, .string ⟨#[]⟩, .slice io fs.length ic, .slice ko fs.length kc]) := by
  obtain ⟨i0, hi0, hz0, hz1, hz2⟩ := info_parts Tryz.infoVr
  obtain ⟨j0, hj0, hy0, hy1, hy2⟩ := info_parts Tryz.infoStr
  have hD : Maps.size D ≤ fs.length := World.ownsMap.size_le hO.own
  have HO := Hid.mk hO
  have HKl := Hid.mk hkl
  have HKeys := Hid.mk (fun (u : World) => (callsIn_wide.1 (Tryz.maps_Keys_146 (some mb) u)))
  have HSort := Hid.mk (fun (u : World) (hu : u.ownsMap Tryz.prog 9 heldE mb fs.length D) => (callsIn_wide.1 (Tryz.slices_Sorted_keys_145_146 mb fs.length D heldE u hu (by unfold maxLen; omega) (by omega))))
  have hmlt : mb < w.heap.size := by have h1 := hO.ml; have h2 := hO.ll; omega
  clear hO hkl
  go_enter Tryz.func140, Tryz.ntmps140
  go_wp2_with fail
  refine (HKeys.out _).mono ?_
  rintro e w1 ⟨rfl, rfl⟩
  go_wp2_with fail
  obtain ⟨W1, hW1⟩ : ∃ W1, (w.alloc (.cells #[.int .i64 0, .string ⟨#[]⟩, .string ⟨#[]⟩, .slice none 0 0, .slice none 0 0] 49)).alloc (.cells #[.int .i64 6, .string ⟨#[]⟩, .string ⟨#[]⟩, .slice none 0 0, .slice none 0 0] 49) = W1 := ⟨_, rfl⟩
  have hs1 : W1.heap.size = w.heap.size + 1 + 1 := by rw [← hW1]; simp
  have hb1 : Below w.heap.size w W1 := by rw [← hW1]; exact (below1 w _).alloc (by simp) _
  have hr1 : W1.heap[w.heap.size]? = some (.cells #[.int .i64 0, .string ⟨#[]⟩, .string ⟨#[]⟩, .slice none 0 0, .slice none 0 0] 49 (0, 0)) := by rw [← hW1, Below.heap_alloc _ _ _ (by simp), heap_alloc_new]
  have ho1 : W1.heap[w.heap.size + 1]? = some (.cells #[.int .i64 6, .string ⟨#[]⟩, .string ⟨#[]⟩, .slice none 0 0, .slice none 0 0] 49 (0, 0)) := by
    rw [← hW1, show w.heap.size + 1 = (w.alloc (.cells #[.int .i64 0, .string ⟨#[]⟩, .string ⟨#[]⟩, .slice none 0 0, .slice none 0 0] 49)).heap.size from by simp, heap_alloc_new]
  rw [hW1]
  have hsr := HSort.out W1 (HO.out.keep hb1.size (hb1.block _ hmlt) (hb1.block _ (by have h1 := HO.out.bl; have h2 := HO.out.ll; omega)) (fun b h1 h2 => hb1.block b h2)).own
  rw [hs1] at hsr
  refine hsr.mono ?_
  rintro e W0 ⟨v, ss, rfl, hP, hrow, hnil, hb2⟩
  have hSe : ss.mergeSort (fun x y => decide (x ≤ y)) = (objS fs).map (·.1) := (mergeSort_of_perm hP).trans (keys_sorted HO.out.keys HO.out.dis)
  have hlen2 : ss.length = fs.length := by rw [hP.length_eq, HO.out.keys.length_eq, List.length_map]
  rw [hSe, hlen2] at hrow
  obtain ⟨so, sc, hv⟩ : ∃ so sc, v = .slice so fs.length sc := by
    rcases hrow.2 with ⟨e, h0⟩ | ⟨g, cap, cur, e, _⟩
    · exact ⟨none, 0, by rw [e, h0]⟩
    · exact ⟨_, _, e⟩
  subst hv
  have hs2 : W1.heap.size + 1 ≤ W0.heap.size := by have := hb2.size; simp at this; omega
  have hbA : Below W1.heap.size W1 W0 := below_more (below1 W1 _) hb2
  have HG0 : Hid (GrS w W0 (kyO fs) (fun i => cV (vof (kyO fs i))) 0 0 (.slice none 0 0) (.slice none 0 0) W0) := ⟨hb1.trans (hbA.mono (by omega)), fun x _ _ => rfl, by omega, Nat.le_refl _, (hbA.block _ (by omega)).trans hr1, (hbA.block _ (by omega)).trans ho1, World.ownsRow_nil _ _ _ _, World.ownsRow_nil _ _ _ _⟩
  have HRow : Hid (∀ i, i < fs.length → ∃ g, so = some ⟨g, 0, none⟩ ∧ w.heap.size + 2 ≤ g ∧ g < W0.heap.size ∧ W0.cell? ⟨g, i, none⟩ = some (.string ⟨(kyO fs i).toArray⟩)) := fun i hi => by
    rcases hrow.2 with ⟨e, h0⟩ | ⟨g, cap, cur, e, hg, hb, _⟩
    · omega
    · simp only [Value.slice.injEq] at e
      obtain ⟨rfl, _, _⟩ := e
      refine ⟨g, rfl, by simp at hg; omega, (Array.getElem?_eq_some_iff.1 hb).1, ?_⟩
      rw [own_cellAt hrow (j := i) (by omega), List.getElem?_map]
      obtain ⟨f, hf, h5, h6⟩ := mem_objS hi
      rw [List.getElem?_map, h5, h6]
      rfl
  have hcap : fs.length ≤ sc := by
    rcases hrow.2 with ⟨e, h0⟩ | ⟨g, cap, cur, e, e1, e2, e3, e4, _⟩
    · omega
    · simp only [Value.slice.injEq] at e; omega
  have HW := Hid.mk (And.intro hs1 hs2)
  clear hP hrow hnil hb2 hSe hlen2 hbA hr1 ho1 hb1 hsr HSort HKeys hW1 hs1 hs2
  go_wp2_with fail
  go_loopw [11] (fun i wr => ∃ k : Nat, k ≤ fs.length ∧ i = .int .i64 (k : Int) ∧ Hid (∃ io ic ko kc, GrS w W0 (kyO fs) (fun i => cV (vof (kyO fs i))) k k (.slice io k ic) (.slice ko k kc) wr)) (fun i _ => fs.length - (intOf i).toNat)
  case atStart => exact ⟨0, Nat.zero_le _, rfl, ⟨none, 0, none, 0, HG0.out⟩⟩
  case round =>
    clear HG0
    obtain ⟨k, hk, rfl, HQ⟩ := hrel
    obtain ⟨io, ic, ko, kc, hG⟩ := HQ.out
    have HG := Hid.mk hG
    have b4 := cell_of_row _ _ 4 _ _ _ hG.out
    have b3 := cell_of_row _ _ 3 _ _ _ hG.out
    have hsz : w.heap.size + 2 ≤ wr.heap.size := Nat.le_trans hG.lo hG.le
    have hlew : W0.heap.size ≤ wr.heap.size := hG.le
    by_cases hlt : k < fs.length
    · have hl1 : (k : Int) < (fs.length : Int) := by omega
      obtain ⟨g, rfl, hg1, hg2, hgc⟩ := HRow.out k hlt
      have hgc2 : wr.cell? ⟨g, k, none⟩ = some (.string ⟨(kyO fs k).toArray⟩) := (World.cell?_of_block (a := ⟨g, k, none⟩) (hG.mid g hg1 hg2)).trans hgc
      obtain ⟨f, hf, h5, h6⟩ := mem_objS hlt
      obtain ⟨jo, jc, jko, jkc, hvv, hrest⟩ := HO.out.trees f hf
      have hGk := hG.keys
      have HC : Hid (∃ (x : Int) (n t : ByteArray) (jo : Option Addr) (ja jc : Nat) (jko : Option Addr) (jb jkc : Nat), vof (kyO fs k) = .agg #[.int .i64 x, .string n, .string t, .slice jo ja jc, .slice jko jb jkc]) := ⟨_, _, _, _, _, _, _, _, _, by rw [h6]; exact hvv⟩
      have HKey : Hid (keyOf Tryz.prog 9 (.string ⟨(kyO fs k).toArray⟩) = some (.string (kyO fs k))) := by
        have := keyOf_string_mk (s := (⟨(kyO fs k).toArray⟩ : ByteArray)) Tryz.underlying9 (by show (kyO fs k).toArray.size ≤ _; rw [h6]; have := HKl.out f hf; unfold maxLen; simp; omega)
        show keyOf _ _ _ = _
        simpa using this
      have HAt : Hid (∀ z, D.atKey (.string (kyO fs k)) z = .held (vof (kyO fs k))) := fun z => by rw [h6]; exact HO.out.att f hf z
      clear h5 h6 hvv hrest hf hgc hG
      go_wp2_with (at_builtin; refine wpList_append_own_at _ (by rfl) _ _ 47 (by rfl) W0.heap.size 9 j0 (.string ⟨#[]⟩) 1 16 Tryz.underlying47 hj0 hy0 hy1 hy2 rfl (by decide) _ _ _ (by rfl) (hGk.alloc _) ⟨wr.heap.size, 0, none⟩ 1 1 [.string ⟨(kyO fs k).toArray⟩] (by rfl) (by rfl) (World.news_of_block (cs := #[.string ⟨(kyO fs k).toArray⟩]) (fr := (0, 0)) (heap_alloc_new wr _)) (by simp [Value.oneCell']) (by unfold maxLen; omega) (by omega) (by simp; omega) ?_)
      intro vk' w4 hown4 hgrow4 hnil4 hat4
      obtain ⟨gk, ck, hvk'⟩ := own_succR hown4
      subst hvk'
      obtain ⟨hG5, ho4⟩ := GrS.keysUp HG.out hgrow4 hown4
      have b44 := cell_of_row _ _ 4 _ _ _ ho4
      have f44 := frozen_rowT (j := 4) ho4
      obtain ⟨W5, hW5⟩ : ∃ W5, w4.setCell ⟨w.heap.size + 1, 4, none⟩ (.slice (some ⟨gk, 0, none⟩) (k + 1) ck) = W5 := ⟨_, rfl⟩
      rw [hW5] at hG5
      have m3 := cell_of_row _ _ 3 _ _ _ hG5.out
      have HG5 := Hid.mk hG5
      have hB5 : w.heap.size + 1 < W5.heap.size := by have h1 := hG5.lo; have h2 := hG5.le; omega
      have hlt5 : W0.heap.size ≤ W5.heap.size := hG5.le
      have hit := hG5.items
      have hO5 := HO.out.keep hG5.below.size (hG5.below.block _ hmlt) (hG5.below.block _ (by have h1 := HO.out.bl; have h2 := HO.out.ll; omega)) (fun b h1 h2 => hG5.below.block b h2)
      obtain ⟨lv, lps, hlook, hlv⟩ := hO5.own.lookup flaw Tryz.underlying219 (fzero W5) (zd := .held (.agg #[.int .i64 0, .string ⟨#[]⟩, .string ⟨#[]⟩, .slice none 0 0, .slice none 0 0])) (zp := []) rfl HKey.out
      rw [HAt.out] at hlv
      have hlv' := heldE_inj hlv
      obtain ⟨x, n, t, jo2, ja2, jc2, jko2, jb2, jkc2, hvv⟩ := HC.out
      rw [hlv', hvv] at hlook
      have HVV := Hid.mk hvv
      clear hgrow4 hown4 hnil4 hat4 hG5 hO5 hlv hlv' hvv hgc2 b3 b4 hGk
      have b43 := cell_of_row _ _ 3 _ _ _ ho4
      go_wp2_with (at_builtin; refine wpList_append_own_at _ (by rfl) _ _ 22 (by rfl) W0.heap.size 49 i0 (.agg #[.int .i64 0, .string ⟨#[]⟩, .string ⟨#[]⟩, .slice none 0 0, .slice none 0 0]) 5 88 Tryz.underlying22 hi0 hz0 hz1 hz2 rfl (by decide) _ _ _ (by rfl) (hit.alloc _) ⟨W5.heap.size, 0, none⟩ 1 1 [.int .i64 x, .string n, .string t, .slice jo2 ja2 jc2, .slice jko2 jb2 jkc2] (by rfl) (by rfl) (World.news_of_block (cs := #[.int .i64 x, .string n, .string t, .slice jo2 ja2 jc2, .slice jko2 jb2 jkc2]) (fr := (0, 0)) (heap_alloc_new W5 _)) (by simp [Value.oneCell']) (by unfold maxLen; omega) (by omega) (by simp; omega) ?_)
      intro vi' w6 hown6 hgrow6 hnil6 hat6
      obtain ⟨gi, ci, hvi'⟩ := own_succR hown6
      subst hvi'
      have hcv : flat (fun i => cV (vof (kyO fs i))) k ++ [.int .i64 x, .string n, .string t, .slice jo2 ja2 jc2, .slice jko2 jb2 jkc2] = flat (fun i => cV (vof (kyO fs i))) k ++ [cV (vof (kyO fs k)) 0, cV (vof (kyO fs k)) 1, cV (vof (kyO fs k)) 2, cV (vof (kyO fs k)) 3, cV (vof (kyO fs k)) 4] := by rw [HVV.out]; rfl
      rw [hcv] at hown6
      obtain ⟨hG8, ho6⟩ := GrS.itemsUp HG5.out hgrow6 hown6
      have b63 := cell_of_row _ _ 3 _ _ _ ho6
      have f63 := frozen_rowT (j := 3) ho6
      have HG8 := Hid.mk hG8
      clear hG8 hgrow6 hown6 hnil6 hat6 hcv hit hlook
      go_wp2_with fail
      go_roundw
      case rel => exact ⟨k + 1, by omega, by go_num, ⟨_, _, _, _, HG8.out⟩⟩
      case measure => simp [intOf]; omega
    · obtain rfl : k = fs.length := by omega
      have hl1 : ¬ ((fs.length : Nat) : Int) < (fs.length : Int) := by omega
      obtain ⟨t0, t1, t2, t3, t4, _⟩ := vbox_cells hG.out
      obtain ⟨r0, r1, r2, r3, r4, f0, f1, f2, f3, f4⟩ := vbox_cells hG.res
      have HRes := Hid.mk hG.res
      clear hG b3 b4
      go_wp2_with fail
      generalize hz5 : ((((wr.setCell ⟨w.heap.size, 0, none⟩ (.int .i64 6)).setCell ⟨w.heap.size, 1, none⟩ (.string ⟨#[]⟩)).setCell ⟨w.heap.size, 2, none⟩ (.string ⟨#[]⟩)).setCell ⟨w.heap.size, 3, none⟩ (.slice io fs.length ic)).setCell ⟨w.heap.size, 4, none⟩ (.slice ko fs.length kc) = wz
      obtain ⟨e5, k5, s5⟩ := rbox_set5 wr _ _ _ _ _ _ _ _ _ _ _ _ HRes.out wz hz5.symm
      obtain ⟨d0, d1, d2, d3, d4, _⟩ := vbox_cells e5
      have hbz : Below w.heap.size w wz := by rw [← hz5]; exact ((((HG.out.below.setCell (p := ⟨w.heap.size, 0, none⟩) (Nat.le_refl _) _).setCell (p := ⟨w.heap.size, 1, none⟩) (Nat.le_refl _) _).setCell (p := ⟨w.heap.size, 2, none⟩) (Nat.le_refl _) _).setCell (p := ⟨w.heap.size, 3, none⟩) (Nat.le_refl _) _).setCell (p := ⟨w.heap.size, 4, none⟩) (Nat.le_refl _) _
      refine bodyPost_ret (v := .agg #[.int .i64 6, .string ⟨#[]⟩, .string ⟨#[]⟩, .slice io fs.length ic, .slice ko fs.length kc]) (by simp [results, Tryz.results140, go_sem, d0, d1, d2, d3, d4]) rfl ?_
      exact ⟨hbz, io, ic, ko, kc, rfl, gr_done HO.out hn HKl.out HG.out (by omega) (fun b _ _ hb => k5 b hb)⟩
end Go.Proofs.YtfjmgccbpiolhaaGreatDoor
namespace Go.Proofs.YtfjmgccbpiolhaaGreatDoor
open Go.RowKit Go.Shelf Go.Maps Go.WideMaps
set_option linter.unusedVariables false
set_option linter.unusedSimpArgs false
attribute [local go_sem] Oper.semAt_some

theorem oPt_ok {l : List UInt8} {vl : Tok → Nat → Rd VT} {fs y : List (List UInt8 × VT)} {t : Tok} {p q : Nat} (h : oPt l vl fs t p = .ok y q) : ∃ v, y = fs ++ [(t.text, v)] := by
  unfold oPt at h
  split at h
  · split at h
    · cases h
    · split at h
      · cases h
      · split at h
        · split at h
          · cases h
          · split at h
            · cases h
            · injection h with h1 h2
              exact ⟨_, h1.symm⟩
        · cases h
  · cases h
theorem oPt_up {s : ByteArray} {vl : Tok → Nat → Rd VT} (hv : ValUp s vl) {fs y : List (List UInt8 × VT)} {t : Tok} {p q : Nat} (hp : p ≤ s.size) (h : oPt s.data.toList vl fs t p = .ok y q) : p ≤ q ∧ q ≤ s.size := by
  unfold oPt at h
  split at h
  · split at h
    · cases h
    · split at h
      · cases h
      · next c p1 hm =>
        obtain ⟨a1, a2⟩ := mustL_up (l := s.data.toList) hp hm
        split at h
        · split at h
          · cases h
          · next t2 p2 hm2 =>
            obtain ⟨b1, b2⟩ := mustL_up (l := s.data.toList) a2 hm2
            split at h
            · cases h
            · next v p3 hv3 =>
              injection h with h1 h2
              obtain ⟨c1, c2⟩ := hv _ _ _ _ b2 hv3
              omega
        · cases h
  · cases h
def obL (l : List UInt8) (vl : Tok → Nat → Rd VT) (p : Nat) : Rd VT := match rowL l 2 (oPt l vl) [] p with
  | .ok fs q => .ok (objT fs) q
  | .bad e q => .bad e q
theorem obL_up {s : ByteArray} {vl : Tok → Nat → Rd VT} (hv : ValUp s vl) {p q : Nat} {T : VT} (hp : p ≤ s.size) (h : obL s.data.toList vl p = .ok T q) : p ≤ q ∧ q ≤ s.size := by
  unfold obL at h
  split at h
  · next fs q2 hr =>
    injection h with e1 e2
    subst e2
    exact rowL_up (l := s.data.toList) (fun x t p y q h1 h2 => oPt_up hv h1 h2) hp hr
  · cases h
def FitO (fs : List (List UInt8 × VT)) (p : Nat) : Prop := fs.length ≤ p ∧ ∀ f ∈ fs, f.1.length ≤ 140737488355328
theorem obj_part2 (s : ByteArray) (ss : s.size ≤ 1073741824) (I Bi Bd B mb Bm lo H d : Nat) (hd : d ≤ 1000) (vl : Tok → Nat → Rd VT) (HV : ValD s I H (d + 1) vl) (HU : ValUp s vl) (hTx : ∀ p t p1, mustL s.data.toList p = .ok t p1 → t.text.length ≤ 140737488355328)
    (gI : I ≠ 4) (ib : I < B) (bm : B ≤ mb) (bi : Bi < B) (bd : Bd < B) (i1 : I ≠ Bi) (i2 : I ≠ Bd) (mB : mb < Bm) (Bl : Bm < lo) :
    PartOk I B 138 #[.pointer (some ⟨Bm, 0, none⟩), .pointer (some ⟨Bi, 0, none⟩), .pointer (some ⟨Bd, 0, none⟩)] s (oPt s.data.toList vl) FitO (ObT mb Bm Bi Bd I lo H d) := by
  have P := obj_part s ss I Bi Bd B mb Bm lo H d hd vl HV HU hTx gI ib bm bi bd i1 i2 mB Bl
  refine ⟨fun x p q h1 h2 => ⟨Nat.le_trans h1.1 h2, h1.2⟩, P.ent, ?_, P.keep⟩
  rintro fs t p w hS ⟨p0, hp0, hfit⟩ htx hI hE hp hB
  refine (P.call fs t p w hS ⟨p0, hp0, hfit.1⟩ htx hI hE hp hB).mono ?_
  rintro e w' ⟨hbel, hm⟩
  refine ⟨hbel, ?_⟩
  cases hr : oPt s.data.toList vl fs t p with
  | bad a b => rw [hr] at hm; exact hm
  | ok y q =>
    rw [hr] at hm
    obtain ⟨h1, h2, h3, h4, h5, h6⟩ := hm
    obtain ⟨v, rfl⟩ := oPt_ok hr
    exact ⟨h1, h2, h3, h4, h5, h6, fun f hf => by
      rcases List.mem_append.1 hf with hf | hf
      · exact hfit.2 f hf
      · rcases List.mem_singleton.1 hf with rfl
        exact htx⟩

set_option maxRecDepth 100000 in
set_option maxHeartbeats 3200000 in
theorem w_object (s : ByteArray) (ss : s.size ≤ 1073741824) (I H d p : Nat) (hd : d ≤ 1000) (hp : p ≤ s.size) (vl : Tok → Nat → Rd VT) (HV : ValD s I H (d + 1) vl) (HU : ValUp s vl) (hTx : ∀ p t p1, mustL s.data.toList p = .ok t p1 → t.text.length ≤ 140737488355328) (w : World) (hI : InAt w I s p) (hE : ErrIn w) (gI : I ≠ 4) :
    Calls Tryz.prog 125 #[.pointer (some ⟨I, 0, none⟩), .int .i64 (d : Int)] w fun e w' => VlR I s (H + 1) w (obL s.data.toList vl p) e w' := by
  have gB : 4 < w.heap.size := by
    obtain ⟨ev, hc, hv⟩ := hE
    exact World.block_lt_of_cell? w _ hc
  have hIl := hI.lt
  have HRow : Hid (∀ u, ObT (w.heap.size + 1 + 1 + 1) (w.heap.size + 1 + 1 + 1 + 1) w.heap.size (w.heap.size + 1) I (w.heap.size + 1 + 1 + 1 + 1 + 1) H d [] u → InAt u I s p → ErrIn u → w.heap.size + 1 + 1 + 1 ≤ u.heap.size → Calls Tryz.prog 136 #[.pointer (some ⟨I, 0, none⟩), .int .i64 2, .func (.func 138) #[] #[.pointer (some ⟨w.heap.size + 1 + 1 + 1 + 1, 0, none⟩), .pointer (some ⟨w.heap.size, 0, none⟩), .pointer (some ⟨w.heap.size + 1, 0, none⟩)]] u fun e w' => RowR I (w.heap.size + 1 + 1 + 1) s FitO (ObT (w.heap.size + 1 + 1 + 1) (w.heap.size + 1 + 1 + 1 + 1) w.heap.size (w.heap.size + 1) I (w.heap.size + 1 + 1 + 1 + 1 + 1) H d) u (rowL s.data.toList 2 (oPt s.data.toList vl) [] p) e w') := fun u h1 h2 h3 h4 =>
    w_rRow s ss I (w.heap.size + 1 + 1 + 1) _ _ 2 (oPt s.data.toList vl) _ _ (obj_part2 s ss I w.heap.size (w.heap.size + 1) (w.heap.size + 1 + 1 + 1) (w.heap.size + 1 + 1 + 1) (w.heap.size + 1 + 1 + 1 + 1) (w.heap.size + 1 + 1 + 1 + 1 + 1) H d hd vl HV HU hTx gI (by omega) (Nat.le_refl _) (by omega) (by omega) (by omega) (by omega) (by omega) (by omega)) [] p u h1 ⟨Nat.zero_le _, fun f hf => by cases hf⟩ h2 h3 hp h4 (by omega) gI hTx
  have HI := Hid.mk (And.intro hI hE)
  obtain ⟨R, hR⟩ : ∃ R, obL s.data.toList vl p = R := ⟨_, rfl⟩
  rw [hR]
  have HRR := Hid.mk hR
  have hmm := @run_makeMap Tryz.prog
  clear hR
  clear hI hE HV HU hTx
  go_enter Tryz.func125, Tryz.ntmps125
  go_wp2_with fail
  obtain ⟨W1, e1⟩ : ∃ W, w.alloc (.cells #[.pointer (some ⟨I, 0, none⟩)] 182) = W := ⟨_, rfl⟩
  rw [e1]
  obtain ⟨W2, e2⟩ : ∃ W, W1.alloc (.cells #[.int .i64 (d : Int)] 3) = W := ⟨_, rfl⟩
  rw [e2]
  obtain ⟨W3, e3⟩ : ∃ W, W2.alloc (.cells #[.int .i64 0, .string ⟨#[]⟩, .string ⟨#[]⟩, .slice none 0 0, .slice none 0 0] 49) = W := ⟨_, rfl⟩
  rw [e3]
  obtain ⟨W4, e4⟩ : ∃ W, W3.alloc (.map #[] 0) = W := ⟨_, rfl⟩
  rw [e4]
  obtain ⟨W, e5⟩ : ∃ W, W4.alloc (.cells #[.map (some (w.heap.size + 1 + 1 + 1))] 219) = W := ⟨_, rfl⟩
  rw [e5]
  have s1 : W1.heap.size = w.heap.size + 1 := by rw [← e1]; simp
  have s2 : W2.heap.size = w.heap.size + 1 + 1 := by rw [← e2]; simp [s1]
  have s3 : W3.heap.size = w.heap.size + 1 + 1 + 1 := by rw [← e3]; simp [s2]
  have s4 : W4.heap.size = w.heap.size + 1 + 1 + 1 + 1 := by rw [← e4]; simp [s3]
  have s5 : W.heap.size = w.heap.size + 1 + 1 + 1 + 1 + 1 := by rw [← e5]; simp [s4]
  have b1 : Below w.heap.size w W1 := by rw [← e1]; exact below1 _ _
  have b2 : Below W1.heap.size W1 W2 := by rw [← e2]; exact below1 _ _
  have b3 : Below W2.heap.size W2 W3 := by rw [← e3]; exact below1 _ _
  have b4 : Below W3.heap.size W3 W4 := by rw [← e4]; exact below1 _ _
  have b5 : Below W4.heap.size W4 W := by rw [← e5]; exact below1 _ _
  have n1 := heap_alloc_new w (.cells #[.pointer (some ⟨I, 0, none⟩)] 182)
  rw [e1] at n1
  have n2 := heap_alloc_new W1 (.cells #[.int .i64 (d : Int)] 3)
  rw [e2, s1] at n2
  have n3 := heap_alloc_new W2 (.cells #[.int .i64 0, .string ⟨#[]⟩, .string ⟨#[]⟩, .slice none 0 0, .slice none 0 0] 49)
  rw [e3, s2] at n3
  have n4 := heap_alloc_new W3 (.map #[] 0)
  rw [e4, s3] at n4
  have n5 := heap_alloc_new W4 (.cells #[.map (some (w.heap.size + 1 + 1 + 1))] 219)
  rw [e5, s4] at n5
  have hbw : Below w.heap.size w W := (((b1.trans (b2.mono (by omega))).trans (b3.mono (by omega))).trans (b4.mono (by omega))).trans (b5.mono (by omega))
  have m1 := (b5.block _ (by omega)).trans ((b4.block _ (by omega)).trans ((b3.block _ (by omega)).trans ((b2.block w.heap.size (by omega)).trans n1)))
  have m2 := (b5.block _ (by omega)).trans ((b4.block _ (by omega)).trans ((b3.block (w.heap.size + 1) (by omega)).trans n2))
  have m3 := (b5.block _ (by omega)).trans ((b4.block (w.heap.size + 1 + 1) (by omega)).trans n3)
  have m4 := (b5.block (w.heap.size + 1 + 1 + 1) (by omega)).trans n4
  refine (HRow.out W ⟨⟨_, fun _ => undef, ObC.start (w.heap.size + 1 + 1 + 1) (w.heap.size + 1 + 1 + 1 + 1) _ W (by omega) (by omega) (by omega) (by omega) n5 m4⟩, by rw [cell_of_row _ _ _ _ _ _ m1]; rfl, by rw [cell_of_row _ _ _ _ _ _ m2]; rfl⟩ (HI.out.1.keep hbw) (HI.out.2.keep hbw) (by omega)).mono ?_
  rintro e w' ⟨hbel, hm⟩
  have hbs := hbel.size
  have hbut : But I w w' := ⟨hbel.os.trans hbw.os, hbel.tape.trans hbw.tape, hbel.output.trans hbw.output, by omega, fun k hk hn => (hbel.block k (by omega) hn).trans (hbw.block k hk)⟩
  have hR := HRR.out
  unfold obL at hR
  cases hr : rowL s.data.toList 2 (oPt s.data.toList vl) [] p with
  | bad er q =>
    rw [hr] at hm hR
    have hm' : e = .panicked (fch er q) := hm
    subst hm'
    refine ⟨rfl, hbut, ?_⟩
    rw [← hR]
  | ok fs q =>
    rw [hr] at hm hR
    have HR2 := Hid.mk hR
    clear hR
    obtain ⟨rfl, hin, ⟨⟨D, vof, hO⟩, ci', cd'⟩, hfit, hq⟩ := hm
    have hcb : w'.cell? ⟨w.heap.size + 1 + 1 + 1 + 1, 0, none⟩ = some (.map (some (w.heap.size + 1 + 1 + 1))) := by rw [cell_of_row _ _ _ _ _ _ hO.box]; rfl
    have q2 := (hbel.block (w.heap.size + 1 + 1) (by omega) (by omega)).trans m3
    have HGa := Hid.mk (w_gathered5 _ _ _ H D vof fs w' hO (by have := hfit.1; omega) hfit.2)
    have HN := Hid.mk (And.intro hbut (And.intro hin (And.intro q2 hbs)))
    have HZ := Hid.mk s5
    clear hbut hin q2 hO hfit hq hbs hbel hbw m1 m2 m3 m4 n1 n2 n3 n4 n5 b1 b2 b3 b4 b5 s1 s2 s3 s4 s5 e1 e2 e3 e4 e5 hr ci' cd' HRow
    go_wp2_with fail
    refine HGa.out.mono ?_
    rintro e w2 ⟨hb2, io, ic, ko, kc, rfl, hF⟩
    have hszw : w.heap.size + 1 + 1 + 1 + 1 + 1 ≤ w'.heap.size := by have h1 := HN.out.2.2.2; have h2 := HZ.out; omega
    have q3 := (hb2.block (w.heap.size + 1 + 1) (by omega)).trans HN.out.2.2.1
    obtain ⟨r0, r1, r2, r3, r4, g0, g1, g2, g3, g4⟩ := vbox_cells q3
    have HF := Hid.mk (And.intro hb2 (And.intro hF q3))
    clear hb2 hF q3
    go_wp2_with fail
    obtain ⟨hbut, hin, q2, hbs⟩ := HN.out
    obtain ⟨hb2, hF, q3⟩ := HF.out
    have hsz := HZ.out
    have hb2s := hb2.size
    generalize hz5 : ((((w2.setCell ⟨w.heap.size + 1 + 1, 0, none⟩ (.int .i64 6)).setCell ⟨w.heap.size + 1 + 1, 1, none⟩ (.string ⟨#[]⟩)).setCell ⟨w.heap.size + 1 + 1, 2, none⟩ (.string ⟨#[]⟩)).setCell ⟨w.heap.size + 1 + 1, 3, none⟩ (.slice io fs.length ic)).setCell ⟨w.heap.size + 1 + 1, 4, none⟩ (.slice ko fs.length kc) = wz
    obtain ⟨e5, k5, s5⟩ := rbox_set5 w2 _ _ _ _ _ _ _ _ _ _ _ _ q3 wz hz5.symm
    have hbut2 : But I w w2 := ⟨hb2.os.trans hbut.os, hb2.tape.trans hbut.tape, hb2.output.trans hbut.output, by omega, fun k hk hn => (hb2.block k (by omega)).trans (hbut.block k hk hn)⟩
    have u5 : But I w wz := by rw [← hz5]; exact (((hbut2.set2 _ 0 (by omega) _).set2 _ 1 (by omega) _).set2 _ 2 (by omega) _ |>.set2 _ 3 (by omega) _).set2 _ 4 (by omega) _
    obtain ⟨d0, d1, d2, d3, d4, _⟩ := vbox_cells e5
    refine bodyPost_ret (v := .agg #[.int .i64 6, .string ⟨#[]⟩, .string ⟨#[]⟩, .slice io fs.length ic, .slice ko fs.length kc]) (by simp [results, Tryz.results125, go_sem, d0, d1, d2, d3, d4]) rfl ?_
    rw [← HR2.out]
    exact ⟨u5, ⟨_, rfl, InF.keepB (by omega) (fun b hb hl => k5 b (by omega)) (by omega) hF⟩, (k5 _ (by omega)).trans ((hb2.block _ (by have := hin.lt; omega)).trans hin)⟩

theorem objOk {s : ByteArray} (ss : s.size ≤ 1073741824) (I : Nat) (gI : I ≠ 4) : ObjOk s I (obL s.data.toList) := by
  have hTx : ∀ p t p1, mustL s.data.toList p = .ok t p1 → t.text.length ≤ 140737488355328 := fun p t p1 h => by
    have h1 := mustL_text h
    have h2 : s.data.toList.length = s.size := rfl
    omega
  exact ⟨fun H d vl hd hv hu p u hp hI hE => w_object s ss I H d p (by omega) hp vl hv hu hTx u hI hE gI, fun vl hu p T q hp h => obL_up hu hp h⟩
theorem w_vals {s : ByteArray} (ss : s.size ≤ 1073741824) {I : Nat} (gI : I ≠ 4) : ValD s I 64 1 (valL s.data.toList (obL s.data.toList) 64 1) := w_valD ss (objOk ss I gI) gI 64 1 rfl
end Go.Proofs.YtfjmgccbpiolhaaGreatDoor
