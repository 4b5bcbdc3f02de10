import Derived.Test.YtaflpeajapdkdaaM41
import Derived.Test.YtaflpeajapdkdaaM42
import Derived.Test.YtaflpeajapdkdaaM29
namespace Go.Proofs.Ytaflpeajapdkdaa
open Go.RowKit Go.Shelf Go.Sort Go.Maps Go.WideMaps
set_option linter.unusedVariables false
set_option linter.unusedSimpArgs false
attribute [local go_sem] Oper.semAt_some

/-- rows of all types but one are as they were -/
def Ex (e : TypeId) (w w' : World) : Prop := ∀ (g : Nat) (cur : Array Value) (t : TypeId), t ≠ e → w.heap[g]? = some (.cells cur t (0, 0)) → w'.heap[g]? = some (.cells cur t (0, 0))
theorem Ex.refl (e : TypeId) (w : World) : Ex e w w := fun _ _ _ _ h => h
theorem Ex.alloc (e : TypeId) (w : World) (o : Obj) : Ex e w (w.alloc o) := fun g cur t _ h => (Below.heap_alloc w o g (Array.getElem?_eq_some_iff.1 h).1).trans h
theorem Ex.own {e : TypeId} {w w' : World} (h : Ex e w w') {B size n : Nat} {t : TypeId} {v : Value} {xs : List Value} (ht : t ≠ e) (ho : w.ownsRow B t size v n xs) : w'.ownsRow B t size v n xs := by
  rcases ho.2 with h1 | ⟨g, cap, cur, e1, e2, e3, e4⟩
  · exact ⟨ho.1, .inl h1⟩
  · exact ⟨ho.1, .inr ⟨g, cap, cur, e1, e2, h g cur t ht e3, e4⟩⟩
theorem Ex.grown {e : TypeId} {B n size : Nat} {v : Value} {xs : List Value} {wr w1 : World} {o : Obj} (ho : wr.ownsRow B e size v n xs) (hg : (wr.alloc o).grownBy w1 v.ownBlock) : Ex e wr w1 := fun g cur t ht h => by
  have hl := (Array.getElem?_eq_some_iff.1 h).1
  rcases ho.2 with ⟨h1, _⟩ | ⟨g', cap, cur', e1, e2, e3, e4⟩
  · exact (hg.block g (by simp; omega) (by rw [h1]; simp [Value.ownBlock])).trans (Ex.alloc e wr o g cur t ht h)
  · refine (hg.block g (by simp; omega) (fun hq => ?_)).trans (Ex.alloc e wr o g cur t ht h)
    rw [e1] at hq
    simp only [Value.ownBlock, Option.some.injEq] at hq
    rw [hq, e3] at h
    simp only [Option.some.injEq, Obj.cells.injEq] at h
    exact ht h.2.1.symm
/-- the rows of texts and of values are as they were -/
def Tp (w w' : World) : Prop := ∀ (g : Nat) (cur : Array Value) (t : TypeId), (t = 9 ∨ t = 25) → w.heap[g]? = some (.cells cur t (0, 0)) → w'.heap[g]? = some (.cells cur t (0, 0))
theorem Tp.refl (w : World) : Tp w w := fun _ _ _ _ h => h
theorem Tp.trans {a b c : World} (h : Tp a b) (k : Tp b c) : Tp a c := fun g cur t ht hg => k g cur t ht (h g cur t ht hg)
theorem Ex.tp {e : TypeId} {w w' : World} (h : Ex e w w') (h9 : e ≠ 9) (hV : e ≠ 25) : Tp w w' := fun g cur t ht hg => h g cur t (fun q => by subst q; exact ht.elim h9 hV) hg
theorem Tp.own {w w' : World} (h : Tp w w') {B size n : Nat} {t : TypeId} {v : Value} {xs : List Value} (ht : t = 9 ∨ t = 25) (ho : w.ownsRow B t size v n xs) : w'.ownsRow B t size v n xs := by
  rcases ho.2 with h1 | ⟨g, cap, cur, e1, e2, e3, e4⟩
  · exact ⟨ho.1, .inl h1⟩
  · exact ⟨ho.1, .inr ⟨g, cap, cur, e1, e2, h g cur t ht e3, e4⟩⟩
/-- a list that is a row of one's own -/
def OkS (w : World) (B : Nat) (t : TypeId) (sz : Nat) (x : Value) : Prop := ∃ xo m xc, x = .slice xo m xc ∧ m ≤ 1048577 ∧ m ≤ xc ∧ ∃ xs, w.ownsRow B t sz x m xs
theorem OkS.keep {w w' : World} {B sz : Nat} {t : TypeId} {x : Value} (h : OkS w B t sz x) (k : Tp w w') (ht : t = 9 ∨ t = 25) : OkS w' B t sz x := by
  obtain ⟨xo, m, xc, h1, h2, h3, xs, h4⟩ := h
  exact ⟨xo, m, xc, h1, h2, h3, xs, k.own ht h4⟩
/-- one of the two rows of lists -/
def RoS (w : World) (B : Nat) (e t : TypeId) (sz : Nat) (so : Option Addr) (n c m : Nat) : Prop := n ≤ m ∧ ∃ vs, w.ownsRow B e 1 (.slice so n c) n vs ∧ ∀ x ∈ vs, OkS w B t sz x
theorem RoS.keep {w w' : World} {B sz n c m : Nat} {e e2 t : TypeId} {so : Option Addr} (h : RoS w B e t sz so n c m) (k : Ex e2 w w') (he : e ≠ e2) (hk : Tp w w') (ht : t = 9 ∨ t = 25) : RoS w' B e t sz so n c m := by
  obtain ⟨h1, vs, h2, h3⟩ := h
  exact ⟨h1, vs, k.own he h2, fun x hx => (h3 x hx).keep hk ht⟩
theorem RoS.up {w : World} {B sz n c m m' : Nat} {e t : TypeId} {so : Option Addr} (h : RoS w B e t sz so n c m) (hm : m ≤ m') : RoS w B e t sz so n c m' := ⟨Nat.le_trans h.1 hm, h.2⟩
/-- the two rows of lists -/
def CoS (w : World) (B L m : Nat) : Prop := ∃ io nI cI ko nK cK, w.heap[L]? = some (.cells #[.slice io nI cI, .slice ko nK cK] 35 (0, 0)) ∧ RoS w B 22 25 5 io nI cI m ∧ RoS w B 23 9 1 ko nK cK m
theorem CoS.up {w : World} {B L m m' : Nat} (h : CoS w B L m) (hm : m ≤ m') : CoS w B L m' := by
  obtain ⟨io, nI, cI, ko, nK, cK, h1, h2, h3⟩ := h
  exact ⟨io, nI, cI, ko, nK, cK, h1, h2.up hm, h3.up hm⟩
theorem OwT.keep {w w' : World} {B : Nat} (k : Tp w w') : ∀ {h : Nat} {T : VT} {v : Value}, OwT w B h T v → OwT w' B h T v
  | 0, _, _, h => h
  | h + 1, T, v, hv => by
    obtain ⟨kd, nm, tx, io, ic, ko, kc, h1, h2, h3, ⟨ys, h4⟩, c, h5, h6⟩ := hv
    exact ⟨kd, nm, tx, io, ic, ko, kc, h1, h2, h3, ⟨ys, k.own (.inl rfl) h4⟩, c, k.own (.inr rfl) h5, fun i hi => (h6 i hi).keep k⟩
/-- one list more -/
theorem RoS.app {w w1 : World} {B sz n m : Nat} {e t : TypeId} {so' : Option Addr} {c' : Nat} {x : Value} {vs : List Value} (h1 : n ≤ m) (h3 : ∀ y ∈ vs, OkS w B t sz y) (hx : OkS w B t sz x) (hown : w1.ownsRow B e 1 (.slice so' (n + 1) c') (n + 1) (vs ++ [x])) (hk : Tp w w1) (ht : t = 9 ∨ t = 25) : RoS w1 B e t sz so' (n + 1) c' (m + 1) :=
  ⟨Nat.succ_le_succ h1, _, hown, fun y hy => by
    rcases List.mem_append.1 hy with hy | hy
    · exact (h3 y hy).keep hk ht
    · rw [List.mem_singleton.1 hy]; exact hx.keep hk ht⟩
/-- a slice put into the box -/
theorem co_set {w : World} {L f : Nat} {cs : Array Value} (hbox : w.heap[L]? = some (.cells cs 35 (0, 0))) (v : Value) : (w.setCell ⟨L, f, none⟩ v).heap[L]? = some (.cells (cs.setIfInBounds f v) 35 (0, 0)) ∧ Ex 35 w (w.setCell ⟨L, f, none⟩ v) := by
  refine ⟨heap_setCell_same w L f cs 35 v hbox, fun g cur t ht hg => ?_⟩
  by_cases hgl : g = L
  · subst hgl
    rw [hbox] at hg
    simp only [Option.some.injEq, Obj.cells.injEq] at hg
    exact absurd hg.2.1.symm ht
  · exact (RowKit.Below.heap_setCell w ⟨L, f, none⟩ v g hgl).trans hg

theorem Try.infoVs : (Try.prog.info? 22).map (fun i => (i.zero, i.size, i.bytes)) = some (some (.slice none 0 0), 1, 24) := by kernel_rfl
theorem Try.infoSs : (Try.prog.info? 23).map (fun i => (i.zero, i.size, i.bytes)) = some (some (.slice none 0 0), 1, 24) := by kernel_rfl

end Go.Proofs.Ytaflpeajapdkdaa
namespace Go.Proofs.Ytaflpeajapdkdaa
open Go.RowKit Go.Shelf Go.Sort Go.Maps Go.WideMaps
set_option linter.unusedVariables false
set_option linter.unusedSimpArgs false
attribute [local go_sem] Oper.semAt_some

theorem CoS.keep {w w' : World} {B L m : Nat} (h : CoS w B L m) (k : Ex 5 w w') : CoS w' B L m := by
  obtain ⟨io, nI, cI, ko, nK, cK, h1, h2, h3⟩ := h
  exact ⟨io, nI, cI, ko, nK, cK, k _ _ _ (by decide) h1, h2.keep k (by decide) (k.tp (by decide) (by decide)) (.inr rfl), h3.keep k (by decide) (k.tp (by decide) (by decide)) (.inl rfl)⟩

/-- Collect, at a height -/
def ColOk (h : Nat) : Prop := ∀ (T : VT) (v : Value) (w : World) (B L m : Nat), B ≤ L → OwT w B h T v → m + szN h T ≤ 1048577 → CoS w B L m →
  Calls Try.prog 9 #[.pointer (some ⟨L, 0, none⟩), v] w fun e w' => (∃ r, e = .returned r) ∧ Hid (Below B w w' ∧ Tp w w' ∧ CoS w' B L (m + szN h T))
theorem sum_take {f : VT → Nat} {ts : List VT} {i : Nat} {x : VT} (h : ts[i]? = some x) : sumL ((ts.take (i + 1)).map f) = sumL ((ts.take i).map f) + f x := by
  have hl := (List.getElem?_eq_some_iff.1 h).1
  rw [List.take_add_one, h]
  have : ∀ (l : List Nat) (y : Nat), sumL (l ++ [y]) = sumL l + y := by
    intro l y
    induction l with
    | nil => simp [sumL]
    | cons a r ih => simp only [List.cons_append, sumL, ih]; omega
  simp [this]
theorem sum_le {f : VT → Nat} {ts : List VT} (i : Nat) : sumL ((ts.take i).map f) ≤ sumL (ts.map f) := by
  have : ∀ (l r : List Nat), sumL l ≤ sumL (l ++ r) := by
    intro l r
    induction l with
    | nil => exact Nat.zero_le _
    | cons a l ih => simp only [List.cons_append, sumL]; omega
  have h := this ((ts.take i).map f) ((ts.drop i).map f)
  rwa [← List.map_append, List.take_append_drop] at h

set_option maxRecDepth 100000 in
set_option maxHeartbeats 12800000 in
theorem col_step (h : Nat) (ih : ColOk h) (kd : Int) (nm tx : ByteArray) (io : Option Addr) (N ic : Nat) (ko : Option Addr) (K kc : Nat) (ts : List VT) (c : Nat → Fin 5 → Value) (w : World) (B L m : Nat) (hBL : B ≤ L) (lN : ts.length = N) (b1 : N ≤ ic) (b2 : K ≤ kc) (bN : N ≤ 1048577) (bK : K ≤ 1048577)
    (hk : ∃ ys, w.ownsRow B 9 1 (.slice ko K kc) K ys) (hi : w.ownsRow B 25 5 (.slice io N ic) N (flat c N)) (ht : ∀ i x, ts[i]? = some x → OwT w B h x (.agg #[c i 0, c i 1, c i 2, c i 3, c i 4])) (hs : m + K + 1 + sumL (ts.map (szN h)) ≤ 1048577) (hC : CoS w B L m) :
    Calls Try.prog 9 #[.pointer (some ⟨L, 0, none⟩), .agg #[.int .i64 kd, .string nm, .string tx, .slice io N ic, .slice ko K kc]] w fun e w' => (∃ r, e = .returned r) ∧ Hid (Below B w w' ∧ Tp w w' ∧ CoS w' B L (m + K + 1 + sumL (ts.map (szN h)))) := by
  obtain ⟨i0, hi0, hz0, hz1, hz2⟩ := info_parts Try.infoVs
  obtain ⟨j0, hj0, hy0, hy1, hy2⟩ := info_parts Try.infoSs
  have hLs : L < w.heap.size := by
    obtain ⟨_, _, _, _, _, _, h1, _⟩ := hC
    exact (Array.getElem?_eq_some_iff.1 h1).1
  obtain ⟨W1, hW1⟩ : ∃ W1, w.alloc (.cells #[.int .i64 kd, .string nm, .string tx, .slice io N ic, .slice ko K kc] 25) = W1 := ⟨_, rfl⟩
  have HV : Hid (W1.heap[w.heap.size]? = some (.cells #[.int .i64 kd, .string nm, .string tx, .slice io N ic, .slice ko K kc] 25 (0, 0))) := by
    show _ = _; rw [← hW1]; exact heap_alloc_new w _
  have HB : Hid (Below B w W1) := by rw [← hW1]; exact (Below.refl B w).alloc (by omega) _
  have hE : Ex 5 w W1 := by rw [← hW1]; exact Ex.alloc 5 w _
  have HT0 : Hid (Tp w W1) := hE.tp (by decide) (by decide)
  have HT : Hid (Tp W1 W1) := Tp.refl W1
  have HC : Hid (CoS W1 B L m) := hC.keep hE
  have HKK : Hid (OkS w B 9 1 (.slice ko K kc)) := ⟨_, _, _, rfl, bK, b2, hk⟩
  have HII : Hid (OkS w B 25 5 (.slice io N ic)) := ⟨_, _, _, rfl, bN, b1, _, hi⟩
  have HI := Hid.mk hi
  have HTS := Hid.mk ht
  have hWs : w.heap.size < W1.heap.size := (Array.getElem?_eq_some_iff.1 HV.out).1
  clear hk hi ht hC hE
  go_enter Try.func9, Try.ntmps9
  have p3 : W1.cell? ⟨w.heap.size, 3, none⟩ = some (.slice io N ic) := cell_of_row _ _ 3 _ _ _ HV.out
  have p4 : W1.cell? ⟨w.heap.size, 4, none⟩ = some (.slice ko K kc) := cell_of_row _ _ 4 _ _ _ HV.out
  by_cases hK0 : 0 < K
  · go_wp2_with fail
    clear p3 p4
    obtain ⟨jo, nI, cI, lo, nK, cK, hbx, hrI, hrK⟩ := HC.out
    obtain ⟨hn, vs, hown, hall⟩ := hrK
    have hvb := HT.out _ _ _ (.inr rfl) HV.out
    have HSS : Hid (∀ x, Ex 23 W1 x → x.cell? ⟨L, 1, none⟩ = some (.slice lo nK cK) ∧ x.cell? ⟨w.heap.size, 4, none⟩ = some (.slice ko K kc)) := fun x hx => ⟨cell_of_row _ _ 1 _ _ _ (hx _ _ _ (by decide) hbx), cell_of_row _ _ 4 _ _ _ (hx _ _ _ (by decide) hvb)⟩
    have HBX := Hid.mk hbx
    have HOW := Hid.mk hown
    have HAL := Hid.mk hall
    have HR2 := Hid.mk hrI
    have hsz := HB.out.size
    clear hbx hown hall hvb hrI
    refine wp_region_K 11 (S := fun x => x.cell? ⟨L, 1, none⟩ = some (.slice lo nK cK) ∧ x.cell? ⟨w.heap.size, 4, none⟩ = some (.slice ko K kc)) (by kernel_rfl) (HSS.out _ (Ex.refl _ _)) (fun hHeld => ?_)
    refine wpAnyK_take (i := 0) (oi := _) (v := .pointer (some ⟨L, 0, none⟩)) rfl (by kernel_rfl) (by kernel_rfl) (by kernel_rfl) (by kernel_rfl) (fun _ _ _ h => h) (Or.inl ⟨by rfl, ?_⟩) (by assumption) ?_
    · intro u hSu
      go_simp
    try simp only [Act.put, List.getElem_toArray, List.getElem_cons_succ, List.getElem_cons_zero, List.setIfInBounds_toArray, List.set_cons_zero, List.set_cons_succ]
    refine wpAnyK_take (i := 1) (oi := _) (v := .pointer (some ⟨L, 0, none⟩)) rfl (by kernel_rfl) (by kernel_rfl) (by kernel_rfl) (by kernel_rfl) (fun _ _ _ h => h) (Or.inl ⟨by rfl, ?_⟩) (by assumption) ?_
    · intro u hSu
      go_simp
    try simp only [Act.put, List.getElem_toArray, List.getElem_cons_succ, List.getElem_cons_zero, List.setIfInBounds_toArray, List.set_cons_zero, List.set_cons_succ]
    refine wpAnyK_take (i := 2) (oi := _) (v := .pointer (some ⟨L, 0, none⟩)) rfl (by kernel_rfl) (by kernel_rfl) (by kernel_rfl) (by kernel_rfl) (fun _ _ _ h => h) (Or.inl ⟨by rfl, ?_⟩) (by assumption) ?_
    · intro u hSu
      go_simp
    try simp only [Act.put, List.getElem_toArray, List.getElem_cons_succ, List.getElem_cons_zero, List.setIfInBounds_toArray, List.set_cons_zero, List.set_cons_succ]
    refine wpAnyK_take (i := 3) (oi := _) (v := .pointer (some ⟨L, 1, none⟩)) rfl (by kernel_rfl) (by kernel_rfl) (by kernel_rfl) (by kernel_rfl) (fun _ _ _ h => h) (Or.inl ⟨by rfl, ?_⟩) (by assumption) ?_
    · intro u hSu
      go_simp
    try simp only [Act.put, List.getElem_toArray, List.getElem_cons_succ, List.getElem_cons_zero, List.setIfInBounds_toArray, List.set_cons_zero, List.set_cons_succ]
    refine wpAnyK_take (i := 4) (oi := _) (v := .slice lo nK cK) rfl (by kernel_rfl) (by kernel_rfl) (by kernel_rfl) (by kernel_rfl) (fun _ _ _ h => h) (Or.inl ⟨by rfl, ?_⟩) (by assumption) ?_
    · intro u hSu
      go_simp
    try simp only [Act.put, List.getElem_toArray, List.getElem_cons_succ, List.getElem_cons_zero, List.setIfInBounds_toArray, List.set_cons_zero, List.set_cons_succ]
    refine wpAnyK_take (i := 5) (oi := _) (v := .pointer (some ⟨w.heap.size, 4, none⟩)) rfl (by kernel_rfl) (by kernel_rfl) (by kernel_rfl) (by kernel_rfl) (fun _ _ _ h => h) (Or.inl ⟨by rfl, ?_⟩) (by assumption) ?_
    · intro u hSu
      go_simp
    try simp only [Act.put, List.getElem_toArray, List.getElem_cons_succ, List.getElem_cons_zero, List.setIfInBounds_toArray, List.set_cons_zero, List.set_cons_succ]
    refine wpAnyK_take (i := 6) (oi := _) (v := .slice ko K kc) rfl (by kernel_rfl) (by kernel_rfl) (by kernel_rfl) (by kernel_rfl) (fun _ _ _ h => h) (Or.inl ⟨by rfl, ?_⟩) (by assumption) ?_
    · intro u hSu
      go_simp
    try simp only [Act.put, List.getElem_toArray, List.getElem_cons_succ, List.getElem_cons_zero, List.setIfInBounds_toArray, List.set_cons_zero, List.set_cons_succ]
    refine wpAnyK_one (i := 7) (o := _) (by kernel_rfl) rfl (fun K2 hK2 => ?_)
    go_simp
    refine hK2.out _ _ (fun _ => HSS.out _ (Ex.alloc _ W1 _)) (fun hHeld => ?_)
    replace hHeld := hHeld (by decide)
    clear hK2 K2
    try simp only [Act.put, List.getElem_toArray, List.getElem_cons_succ, List.getElem_cons_zero, List.setIfInBounds_toArray, List.set_cons_zero, List.set_cons_succ]
    refine wpAnyK_one (i := 8) (o := _) (by kernel_rfl) rfl (fun K2 hK2 => ?_)
    refine wp_append_lies _ _ _ _ (by rfl) B 23 j0 (.slice none 0 0) 1 24 (by kernel_rfl) hj0 hy0 hy1 hy2 rfl (by decide) _ _ _ (by rfl) (HOW.out.alloc _) ⟨W1.heap.size, 0, none⟩ 1 1 [.slice ko K kc] (by rfl) (by rfl) (cell_one_new _ _ _) (by simp [Value.oneCell']) (by decide) (by unfold maxLen; omega) (by omega) (by simp; omega) _ rfl ?_
    intro g4 c4 w4 hown4 hgrow4 hat4 hlt4
    replace hgrow4 : (W1.alloc (.cells #[.slice ko K kc] 23)).grownBy w4 (Value.slice lo nK cK).ownBlock := ⟨hgrow4.os, hgrow4.tape, hgrow4.output, hgrow4.size, hgrow4.block⟩
    have HE4 : Hid (Ex 23 W1 w4) := Ex.grown HOW.out hgrow4
    have HB4 : Hid (Below B w w4) := below_appE HOW.out (by omega) HB.out hgrow4
    have HO4 := Hid.mk hown4
    clear hown4 hgrow4 hat4
    refine hK2.out _ _ (fun _ => HSS.out _ HE4.out) (fun hHeld => ?_)
    replace hHeld := hHeld (by decide)
    clear hK2 K2
    try simp only [Act.put, List.getElem_toArray, List.getElem_cons_succ, List.getElem_cons_zero, List.setIfInBounds_toArray, List.set_cons_zero, List.set_cons_succ]
    refine wpAnyK_one (i := 9) (o := _) (by kernel_rfl) rfl (fun K2 hK2 => ?_)
    go_simp
    refine hK2.out _ _ (fun _ => HSS.out _ HE4.out) (fun hHeld => ?_)
    replace hHeld := hHeld (by decide)
    clear hK2 K2
    try simp only [Act.put, List.getElem_toArray, List.getElem_cons_succ, List.getElem_cons_zero, List.setIfInBounds_toArray, List.set_cons_zero, List.set_cons_succ]
    refine wpAnyK_take (i := 10) (oi := _) (v := .pointer (some ⟨L, 1, none⟩)) rfl (by kernel_rfl) (by kernel_rfl) (by kernel_rfl) (by kernel_rfl) (fun _ _ _ h => h) (Or.inl ⟨by rfl, ?_⟩) (by assumption) ?_
    · intro u hSu
      go_simp
    try simp only [Act.put, List.getElem_toArray, List.getElem_cons_succ, List.getElem_cons_zero, List.setIfInBounds_toArray, List.set_cons_zero, List.set_cons_succ]
    have hb4 := HE4.out _ _ _ (by decide) HBX.out
    have hf4 : w4.frozen? ⟨L, 1, none⟩ = false := by simp [World.frozen?, hb4]
    obtain ⟨hc4, _⟩ := hHeld
    refine wpAnyK_one (i := 11) (o := _) (by kernel_rfl) rfl (fun K2 hK2 => ?_)
    go_simp
    obtain ⟨hb5, he5⟩ := co_set (f := 1) hb4 (.slice (some ⟨g4, 0, none⟩) (nK + 1) c4)
    have hE5 : Ex 35 w4 (w4.setCell ⟨L, 1, none⟩ (.slice (some ⟨g4, 0, none⟩) (nK + 1) c4)) := he5
    have HB5 : Hid (Below B w (w4.setCell ⟨L, 1, none⟩ (.slice (some ⟨g4, 0, none⟩) (nK + 1) c4))) := below_cell1 HB4.out L 1 hBL _
    have hT4 : Tp W1 w4 := HE4.out.tp (by decide) (by decide)
    have hT5 : Tp w4 (w4.setCell ⟨L, 1, none⟩ (.slice (some ⟨g4, 0, none⟩) (nK + 1) c4)) := hE5.tp (by decide) (by decide)
    have HT5 : Hid (Tp W1 (w4.setCell ⟨L, 1, none⟩ (.slice (some ⟨g4, 0, none⟩) (nK + 1) c4))) := HT.out.trans (hT4.trans hT5)
    have HC5 : Hid (CoS (w4.setCell ⟨L, 1, none⟩ (.slice (some ⟨g4, 0, none⟩) (nK + 1) c4)) B L (m + 1)) := ⟨_, _, _, _, _, _, hb5, (((HR2.out.keep HE4.out (by decide) hT4 (.inr rfl)).keep hE5 (by decide) hT5 (.inr rfl)).up (Nat.le_succ _)), ((RoS.app hn HAL.out (HKK.out.keep (HT0.out.trans HT.out) (.inl rfl)) HO4.out hT4 (.inl rfl)).keep hE5 (by decide) hT5 (.inl rfl))⟩
    replace HC5 : Hid (CoS (w4.setCell ⟨L, 1, none⟩ (.slice (some ⟨g4, 0, none⟩) (nK + 1) c4)) B L (m + K)) := HC5.out.up (by omega)
    obtain ⟨wa, hw5⟩ : ∃ w5, w4.setCell ⟨L, 1, none⟩ (.slice (some ⟨g4, 0, none⟩) (nK + 1) c4) = w5 := ⟨_, rfl⟩
    rw [hw5] at HB5 HT5 HC5
    refine hK2 _ _ (fun hq => absurd rfl hq) (fun hHeld => ?_)
    clear hK2 K2 hHeld
    try simp only [Act.put, List.getElem_toArray, List.getElem_cons_succ, List.getElem_cons_zero, List.setIfInBounds_toArray, List.set_cons_zero, List.set_cons_succ]
    refine wpAnyK_done (by kernel_rfl) ?_ _
    try simp only [Act.put, List.getElem_toArray, List.getElem_cons_succ, List.getElem_cons_zero, List.setIfInBounds_toArray, List.set_cons_zero, List.set_cons_succ]
    rw [hw5]
    clear hw5 hb5 he5 hE5 hT4 hT5 hb4 hf4 hc4 HE4 HB4 HO4 HSS HBX HOW HAL HR2 hn HB HT HC hsz
    have HB := HB5
    have HT := HT5
    have HC := HC5
    clear HB5 HT5 HC5
    have p3 : wa.cell? ⟨w.heap.size, 3, none⟩ = some (.slice io N ic) := cell_of_row _ _ 3 _ _ _ (HT.out _ _ _ (.inr rfl) HV.out)
    by_cases hN0 : 0 < N
    · go_wp2_with fail
      clear p3
      obtain ⟨jo, nI, cI, lo, nK, cK, hbx, hrI, hrK⟩ := HC.out
      obtain ⟨hn, vs, hown, hall⟩ := hrI
      have hvb := HT.out _ _ _ (.inr rfl) HV.out
      have HSS : Hid (∀ x, Ex 22 wa x → x.cell? ⟨L, 0, none⟩ = some (.slice jo nI cI) ∧ x.cell? ⟨w.heap.size, 3, none⟩ = some (.slice io N ic)) := fun x hx => ⟨cell_of_row _ _ 0 _ _ _ (hx _ _ _ (by decide) hbx), cell_of_row _ _ 3 _ _ _ (hx _ _ _ (by decide) hvb)⟩
      have HBX := Hid.mk hbx
      have HOW := Hid.mk hown
      have HAL := Hid.mk hall
      have HR2 := Hid.mk hrK
      have hsz := HB.out.size
      clear hbx hown hall hvb hrK
      refine wp_region_K 11 (S := fun x => x.cell? ⟨L, 0, none⟩ = some (.slice jo nI cI) ∧ x.cell? ⟨w.heap.size, 3, none⟩ = some (.slice io N ic)) (by kernel_rfl) (HSS.out _ (Ex.refl _ _)) (fun hHeld => ?_)
      refine wpAnyK_take (i := 0) (oi := _) (v := .pointer (some ⟨L, 0, none⟩)) rfl (by kernel_rfl) (by kernel_rfl) (by kernel_rfl) (by kernel_rfl) (fun _ _ _ h => h) (Or.inl ⟨by rfl, ?_⟩) (by assumption) ?_
      · intro u hSu
        go_simp
      try simp only [Act.put, List.getElem_toArray, List.getElem_cons_succ, List.getElem_cons_zero, List.setIfInBounds_toArray, List.set_cons_zero, List.set_cons_succ]
      refine wpAnyK_take (i := 1) (oi := _) (v := .pointer (some ⟨L, 0, none⟩)) rfl (by kernel_rfl) (by kernel_rfl) (by kernel_rfl) (by kernel_rfl) (fun _ _ _ h => h) (Or.inl ⟨by rfl, ?_⟩) (by assumption) ?_
      · intro u hSu
        go_simp
      try simp only [Act.put, List.getElem_toArray, List.getElem_cons_succ, List.getElem_cons_zero, List.setIfInBounds_toArray, List.set_cons_zero, List.set_cons_succ]
      refine wpAnyK_take (i := 2) (oi := _) (v := .pointer (some ⟨L, 0, none⟩)) rfl (by kernel_rfl) (by kernel_rfl) (by kernel_rfl) (by kernel_rfl) (fun _ _ _ h => h) (Or.inl ⟨by rfl, ?_⟩) (by assumption) ?_
      · intro u hSu
        go_simp
      try simp only [Act.put, List.getElem_toArray, List.getElem_cons_succ, List.getElem_cons_zero, List.setIfInBounds_toArray, List.set_cons_zero, List.set_cons_succ]
      refine wpAnyK_take (i := 3) (oi := _) (v := .pointer (some ⟨L, 0, none⟩)) rfl (by kernel_rfl) (by kernel_rfl) (by kernel_rfl) (by kernel_rfl) (fun _ _ _ h => h) (Or.inl ⟨by rfl, ?_⟩) (by assumption) ?_
      · intro u hSu
        go_simp
      try simp only [Act.put, List.getElem_toArray, List.getElem_cons_succ, List.getElem_cons_zero, List.setIfInBounds_toArray, List.set_cons_zero, List.set_cons_succ]
      refine wpAnyK_take (i := 4) (oi := _) (v := .slice jo nI cI) rfl (by kernel_rfl) (by kernel_rfl) (by kernel_rfl) (by kernel_rfl) (fun _ _ _ h => h) (Or.inl ⟨by rfl, ?_⟩) (by assumption) ?_
      · intro u hSu
        go_simp
      try simp only [Act.put, List.getElem_toArray, List.getElem_cons_succ, List.getElem_cons_zero, List.setIfInBounds_toArray, List.set_cons_zero, List.set_cons_succ]
      refine wpAnyK_take (i := 5) (oi := _) (v := .pointer (some ⟨w.heap.size, 3, none⟩)) rfl (by kernel_rfl) (by kernel_rfl) (by kernel_rfl) (by kernel_rfl) (fun _ _ _ h => h) (Or.inl ⟨by rfl, ?_⟩) (by assumption) ?_
      · intro u hSu
        go_simp
      try simp only [Act.put, List.getElem_toArray, List.getElem_cons_succ, List.getElem_cons_zero, List.setIfInBounds_toArray, List.set_cons_zero, List.set_cons_succ]
      refine wpAnyK_take (i := 6) (oi := _) (v := .slice io N ic) rfl (by kernel_rfl) (by kernel_rfl) (by kernel_rfl) (by kernel_rfl) (fun _ _ _ h => h) (Or.inl ⟨by rfl, ?_⟩) (by assumption) ?_
      · intro u hSu
        go_simp
      try simp only [Act.put, List.getElem_toArray, List.getElem_cons_succ, List.getElem_cons_zero, List.setIfInBounds_toArray, List.set_cons_zero, List.set_cons_succ]
      refine wpAnyK_one (i := 7) (o := _) (by kernel_rfl) rfl (fun K2 hK2 => ?_)
      go_simp
      refine hK2.out _ _ (fun _ => HSS.out _ (Ex.alloc _ wa _)) (fun hHeld => ?_)
      replace hHeld := hHeld (by decide)
      clear hK2 K2
      try simp only [Act.put, List.getElem_toArray, List.getElem_cons_succ, List.getElem_cons_zero, List.setIfInBounds_toArray, List.set_cons_zero, List.set_cons_succ]
      refine wpAnyK_one (i := 8) (o := _) (by kernel_rfl) rfl (fun K2 hK2 => ?_)
      refine wp_append_lies _ _ _ _ (by rfl) B 22 i0 (.slice none 0 0) 1 24 (by kernel_rfl) hi0 hz0 hz1 hz2 rfl (by decide) _ _ _ (by rfl) (HOW.out.alloc _) ⟨wa.heap.size, 0, none⟩ 1 1 [.slice io N ic] (by rfl) (by rfl) (cell_one_new _ _ _) (by simp [Value.oneCell']) (by decide) (by unfold maxLen; omega) (by omega) (by simp; omega) _ rfl ?_
      intro g4 c4 w4 hown4 hgrow4 hat4 hlt4
      replace hgrow4 : (wa.alloc (.cells #[.slice io N ic] 22)).grownBy w4 (Value.slice jo nI cI).ownBlock := ⟨hgrow4.os, hgrow4.tape, hgrow4.output, hgrow4.size, hgrow4.block⟩
      have HE4 : Hid (Ex 22 wa w4) := Ex.grown HOW.out hgrow4
      have HB4 : Hid (Below B w w4) := below_appE HOW.out (by omega) HB.out hgrow4
      have HO4 := Hid.mk hown4
      clear hown4 hgrow4 hat4
      refine hK2.out _ _ (fun _ => HSS.out _ HE4.out) (fun hHeld => ?_)
      replace hHeld := hHeld (by decide)
      clear hK2 K2
      try simp only [Act.put, List.getElem_toArray, List.getElem_cons_succ, List.getElem_cons_zero, List.setIfInBounds_toArray, List.set_cons_zero, List.set_cons_succ]
      refine wpAnyK_one (i := 9) (o := _) (by kernel_rfl) rfl (fun K2 hK2 => ?_)
      go_simp
      refine hK2.out _ _ (fun _ => HSS.out _ HE4.out) (fun hHeld => ?_)
      replace hHeld := hHeld (by decide)
      clear hK2 K2
      try simp only [Act.put, List.getElem_toArray, List.getElem_cons_succ, List.getElem_cons_zero, List.setIfInBounds_toArray, List.set_cons_zero, List.set_cons_succ]
      refine wpAnyK_take (i := 10) (oi := _) (v := .pointer (some ⟨L, 0, none⟩)) rfl (by kernel_rfl) (by kernel_rfl) (by kernel_rfl) (by kernel_rfl) (fun _ _ _ h => h) (Or.inl ⟨by rfl, ?_⟩) (by assumption) ?_
      · intro u hSu
        go_simp
      try simp only [Act.put, List.getElem_toArray, List.getElem_cons_succ, List.getElem_cons_zero, List.setIfInBounds_toArray, List.set_cons_zero, List.set_cons_succ]
      have hb4 := HE4.out _ _ _ (by decide) HBX.out
      have hf4 : w4.frozen? ⟨L, 0, none⟩ = false := by simp [World.frozen?, hb4]
      obtain ⟨hc4, _⟩ := hHeld
      refine wpAnyK_one (i := 11) (o := _) (by kernel_rfl) rfl (fun K2 hK2 => ?_)
      go_simp
      obtain ⟨hb5, he5⟩ := co_set (f := 0) hb4 (.slice (some ⟨g4, 0, none⟩) (nI + 1) c4)
      have hE5 : Ex 35 w4 (w4.setCell ⟨L, 0, none⟩ (.slice (some ⟨g4, 0, none⟩) (nI + 1) c4)) := he5
      have HB5 : Hid (Below B w (w4.setCell ⟨L, 0, none⟩ (.slice (some ⟨g4, 0, none⟩) (nI + 1) c4))) := below_cell1 HB4.out L 0 hBL _
      have hT4 : Tp wa w4 := HE4.out.tp (by decide) (by decide)
      have hT5 : Tp w4 (w4.setCell ⟨L, 0, none⟩ (.slice (some ⟨g4, 0, none⟩) (nI + 1) c4)) := hE5.tp (by decide) (by decide)
      have HT5 : Hid (Tp W1 (w4.setCell ⟨L, 0, none⟩ (.slice (some ⟨g4, 0, none⟩) (nI + 1) c4))) := HT.out.trans (hT4.trans hT5)
      have HC5 : Hid (CoS (w4.setCell ⟨L, 0, none⟩ (.slice (some ⟨g4, 0, none⟩) (nI + 1) c4)) B L ((m + K) + 1)) := ⟨_, _, _, _, _, _, hb5, ((RoS.app hn HAL.out (HII.out.keep (HT0.out.trans HT.out) (.inr rfl)) HO4.out hT4 (.inr rfl)).keep hE5 (by decide) hT5 (.inr rfl)), (((HR2.out.keep HE4.out (by decide) hT4 (.inl rfl)).keep hE5 (by decide) hT5 (.inl rfl)).up (Nat.le_succ _))⟩
      replace HC5 : Hid (CoS (w4.setCell ⟨L, 0, none⟩ (.slice (some ⟨g4, 0, none⟩) (nI + 1) c4)) B L (m + K + 1)) := HC5.out.up (by omega)
      obtain ⟨wb, hw5⟩ : ∃ w5, w4.setCell ⟨L, 0, none⟩ (.slice (some ⟨g4, 0, none⟩) (nI + 1) c4) = w5 := ⟨_, rfl⟩
      rw [hw5] at HB5 HT5 HC5
      refine hK2 _ _ (fun hq => absurd rfl hq) (fun hHeld => ?_)
      clear hK2 K2 hHeld
      try simp only [Act.put, List.getElem_toArray, List.getElem_cons_succ, List.getElem_cons_zero, List.setIfInBounds_toArray, List.set_cons_zero, List.set_cons_succ]
      refine wpAnyK_done (by kernel_rfl) ?_ _
      try simp only [Act.put, List.getElem_toArray, List.getElem_cons_succ, List.getElem_cons_zero, List.setIfInBounds_toArray, List.set_cons_zero, List.set_cons_succ]
      rw [hw5]
      clear hw5 hb5 he5 hE5 hT4 hT5 hb4 hf4 hc4 HE4 HB4 HO4 HSS HBX HOW HAL HR2 hn HB HT HC hsz
      have HB := HB5
      have HT := HT5
      have HC := HC5
      clear HB5 HT5 HC5
      go_wp2_with fail
      replace HC : Hid (CoS wb B L (m + K + 1 + sumL ((ts.take 0).map (szN h)))) := HC.out.up (by simp [sumL] <;> omega)
      go_loopw [4] (fun a wr => ∃ i : Nat, i ≤ N ∧ a = .int .i64 (i : Int) ∧ Hid (Below B w wr) ∧ Hid (Tp W1 wr) ∧ Hid (CoS wr B L (m + K + 1 + sumL ((ts.take i).map (szN h))))) (fun a _ => N - (intOf a).toNat)
      case atStart => exact ⟨0, Nat.zero_le _, rfl, HB, HT, HC⟩
      case round =>
        clear HB HT HC
        obtain ⟨i, hi, rfl, HB, HT, HC⟩ := hrel
        have p3 : wr.cell? ⟨w.heap.size, 3, none⟩ = some (.slice io N ic) := cell_of_row _ _ 3 _ _ _ (HT.out _ _ _ (.inr rfl) HV.out)
        by_cases hlt : i < N
        · have hl1 : (i : Int) < (N : Int) := by omega
          have hl0 : (0 : Int) ≤ (i : Int) := by omega
          obtain ⟨x, hx⟩ : ∃ x, ts[i]? = some x := ⟨_, List.getElem?_eq_getElem (by omega)⟩
          have hown := (HT0.out.trans HT.out).own (.inr rfl) HI.out
          obtain ⟨g, cap, hio⟩ : ∃ g cap, (Value.slice io N ic) = .slice (some ⟨g, 0, none⟩) N cap := by
            obtain ⟨g, cap, e1, _⟩ := hown.form (by omega)
            exact ⟨g, cap, e1⟩
          simp only [Value.slice.injEq, true_and] at hio
          obtain ⟨rfl, rfl⟩ := hio
          have cc : ∀ j : Fin 5, wr.cell? ⟨g, i * 5 + j.1, none⟩ = some (c i j) := fun j => by
            rw [hown.cellAt (i * 5 + j.1) (by have := j.2; omega)]
            exact flat_get _ _ i j hlt
          have c0 := cc 0
          have c1 := cc 1
          have c2 := cc 2
          have c3 := cc 3
          have c4 := cc 4
          simp only [Fin.isValue, Fin.val_zero, Fin.val_one, Fin.val_two, Nat.add_zero, show (3 : Fin 5).1 = 3 from rfl, show (4 : Fin 5).1 = 4 from rfl] at c0 c1 c2 c3 c4
          have hsum := sum_le (f := szN h) (ts := ts) (i + 1)
          have hst := sum_take (f := szN h) hx
          have HCall := Hid.mk (ih x (.agg #[c i 0, c i 1, c i 2, c i 3, c i 4]) wr B L (m + K + 1 + sumL ((ts.take i).map (szN h))) hBL ((HTS.out i x hx).keep (HT0.out.trans HT.out)) (by omega) HC.out)
          have HSt := Hid.mk hst
          clear cc hown hsum hst HC
          go_wp2_with fail
          refine HCall.out.mono ?_
          rintro e w6 ⟨⟨x6, rfl⟩, hq⟩
          have HB6 : Hid (Below B w w6) := HB.out.trans hq.out.1
          have HT6 : Hid (Tp W1 w6) := HT.out.trans hq.out.2.1
          have HC6 : Hid (CoS w6 B L (m + K + 1 + sumL ((ts.take (i + 1)).map (szN h)))) := hq.out.2.2.up (by rw [HSt.out]; omega)
          clear hq HCall HSt HB HT c0 c1 c2 c3 c4
          go_wp2_with fail
          go_roundw
          case rel => exact ⟨i + 1, hlt, by go_num, HB6, HT6, HC6⟩
          case measure => simp [intOf]; omega
        · have hl1 : ¬ (i : Int) < (N : Int) := by omega
          have hiN : ts.length ≤ i := by omega
          have HF : Hid (Below B w wr ∧ Tp w wr ∧ CoS wr B L (m + K + 1 + sumL (ts.map (szN h)))) := ⟨HB.out, HT0.out.trans HT.out, by have := HC.out; rwa [List.take_of_length_le hiN] at this⟩
          clear HB HT HC
          go_wp2_with fail
          refine bodyPost_end (results_none rfl _ _ _) rfl ?_
          exact ⟨⟨_, rfl⟩, HF⟩
    · go_wp2_with fail
      clear p3
      replace HC : Hid (CoS wa B L (m + K + 1 + sumL ((ts.take 0).map (szN h)))) := HC.out.up (by simp [sumL] <;> omega)
      go_loopw [4] (fun a wr => ∃ i : Nat, i ≤ N ∧ a = .int .i64 (i : Int) ∧ Hid (Below B w wr) ∧ Hid (Tp W1 wr) ∧ Hid (CoS wr B L (m + K + 1 + sumL ((ts.take i).map (szN h))))) (fun a _ => N - (intOf a).toNat)
      case atStart => exact ⟨0, Nat.zero_le _, rfl, HB, HT, HC⟩
      case round =>
        clear HB HT HC
        obtain ⟨i, hi, rfl, HB, HT, HC⟩ := hrel
        have p3 : wr.cell? ⟨w.heap.size, 3, none⟩ = some (.slice io N ic) := cell_of_row _ _ 3 _ _ _ (HT.out _ _ _ (.inr rfl) HV.out)
        by_cases hlt : i < N
        · have hl1 : (i : Int) < (N : Int) := by omega
          exact absurd hlt (by omega)
        · have hl1 : ¬ (i : Int) < (N : Int) := by omega
          have hiN : ts.length ≤ i := by omega
          have HF : Hid (Below B w wr ∧ Tp w wr ∧ CoS wr B L (m + K + 1 + sumL (ts.map (szN h)))) := ⟨HB.out, HT0.out.trans HT.out, by have := HC.out; rwa [List.take_of_length_le hiN] at this⟩
          clear HB HT HC
          go_wp2_with fail
          refine bodyPost_end (results_none rfl _ _ _) rfl ?_
          exact ⟨⟨_, rfl⟩, HF⟩
  · replace HC : Hid (CoS W1 B L (m + K)) := HC.out.up (by omega)
    by_cases hN0 : 0 < N
    · go_wp2_with fail
      clear p3 p4
      obtain ⟨jo, nI, cI, lo, nK, cK, hbx, hrI, hrK⟩ := HC.out
      obtain ⟨hn, vs, hown, hall⟩ := hrI
      have hvb := HT.out _ _ _ (.inr rfl) HV.out
      have HSS : Hid (∀ x, Ex 22 W1 x → x.cell? ⟨L, 0, none⟩ = some (.slice jo nI cI) ∧ x.cell? ⟨w.heap.size, 3, none⟩ = some (.slice io N ic)) := fun x hx => ⟨cell_of_row _ _ 0 _ _ _ (hx _ _ _ (by decide) hbx), cell_of_row _ _ 3 _ _ _ (hx _ _ _ (by decide) hvb)⟩
      have HBX := Hid.mk hbx
      have HOW := Hid.mk hown
      have HAL := Hid.mk hall
      have HR2 := Hid.mk hrK
      have hsz := HB.out.size
      clear hbx hown hall hvb hrK
      refine wp_region_K 11 (S := fun x => x.cell? ⟨L, 0, none⟩ = some (.slice jo nI cI) ∧ x.cell? ⟨w.heap.size, 3, none⟩ = some (.slice io N ic)) (by kernel_rfl) (HSS.out _ (Ex.refl _ _)) (fun hHeld => ?_)
      refine wpAnyK_take (i := 0) (oi := _) (v := .pointer (some ⟨L, 0, none⟩)) rfl (by kernel_rfl) (by kernel_rfl) (by kernel_rfl) (by kernel_rfl) (fun _ _ _ h => h) (Or.inl ⟨by rfl, ?_⟩) (by assumption) ?_
      · intro u hSu
        go_simp
      try simp only [Act.put, List.getElem_toArray, List.getElem_cons_succ, List.getElem_cons_zero, List.setIfInBounds_toArray, List.set_cons_zero, List.set_cons_succ]
      refine wpAnyK_take (i := 1) (oi := _) (v := .pointer (some ⟨L, 0, none⟩)) rfl (by kernel_rfl) (by kernel_rfl) (by kernel_rfl) (by kernel_rfl) (fun _ _ _ h => h) (Or.inl ⟨by rfl, ?_⟩) (by assumption) ?_
      · intro u hSu
        go_simp
      try simp only [Act.put, List.getElem_toArray, List.getElem_cons_succ, List.getElem_cons_zero, List.setIfInBounds_toArray, List.set_cons_zero, List.set_cons_succ]
      refine wpAnyK_take (i := 2) (oi := _) (v := .pointer (some ⟨L, 0, none⟩)) rfl (by kernel_rfl) (by kernel_rfl) (by kernel_rfl) (by kernel_rfl) (fun _ _ _ h => h) (Or.inl ⟨by rfl, ?_⟩) (by assumption) ?_
      · intro u hSu
        go_simp
      try simp only [Act.put, List.getElem_toArray, List.getElem_cons_succ, List.getElem_cons_zero, List.setIfInBounds_toArray, List.set_cons_zero, List.set_cons_succ]
      refine wpAnyK_take (i := 3) (oi := _) (v := .pointer (some ⟨L, 0, none⟩)) rfl (by kernel_rfl) (by kernel_rfl) (by kernel_rfl) (by kernel_rfl) (fun _ _ _ h => h) (Or.inl ⟨by rfl, ?_⟩) (by assumption) ?_
      · intro u hSu
        go_simp
      try simp only [Act.put, List.getElem_toArray, List.getElem_cons_succ, List.getElem_cons_zero, List.setIfInBounds_toArray, List.set_cons_zero, List.set_cons_succ]
      refine wpAnyK_take (i := 4) (oi := _) (v := .slice jo nI cI) rfl (by kernel_rfl) (by kernel_rfl) (by kernel_rfl) (by kernel_rfl) (fun _ _ _ h => h) (Or.inl ⟨by rfl, ?_⟩) (by assumption) ?_
      · intro u hSu
        go_simp
      try simp only [Act.put, List.getElem_toArray, List.getElem_cons_succ, List.getElem_cons_zero, List.setIfInBounds_toArray, List.set_cons_zero, List.set_cons_succ]
      refine wpAnyK_take (i := 5) (oi := _) (v := .pointer (some ⟨w.heap.size, 3, none⟩)) rfl (by kernel_rfl) (by kernel_rfl) (by kernel_rfl) (by kernel_rfl) (fun _ _ _ h => h) (Or.inl ⟨by rfl, ?_⟩) (by assumption) ?_
      · intro u hSu
        go_simp
      try simp only [Act.put, List.getElem_toArray, List.getElem_cons_succ, List.getElem_cons_zero, List.setIfInBounds_toArray, List.set_cons_zero, List.set_cons_succ]
      refine wpAnyK_take (i := 6) (oi := _) (v := .slice io N ic) rfl (by kernel_rfl) (by kernel_rfl) (by kernel_rfl) (by kernel_rfl) (fun _ _ _ h => h) (Or.inl ⟨by rfl, ?_⟩) (by assumption) ?_
      · intro u hSu
        go_simp
      try simp only [Act.put, List.getElem_toArray, List.getElem_cons_succ, List.getElem_cons_zero, List.setIfInBounds_toArray, List.set_cons_zero, List.set_cons_succ]
      refine wpAnyK_one (i := 7) (o := _) (by kernel_rfl) rfl (fun K2 hK2 => ?_)
      go_simp
      refine hK2.out _ _ (fun _ => HSS.out _ (Ex.alloc _ W1 _)) (fun hHeld => ?_)
      replace hHeld := hHeld (by decide)
      clear hK2 K2
      try simp only [Act.put, List.getElem_toArray, List.getElem_cons_succ, List.getElem_cons_zero, List.setIfInBounds_toArray, List.set_cons_zero, List.set_cons_succ]
      refine wpAnyK_one (i := 8) (o := _) (by kernel_rfl) rfl (fun K2 hK2 => ?_)
      refine wp_append_lies _ _ _ _ (by rfl) B 22 i0 (.slice none 0 0) 1 24 (by kernel_rfl) hi0 hz0 hz1 hz2 rfl (by decide) _ _ _ (by rfl) (HOW.out.alloc _) ⟨W1.heap.size, 0, none⟩ 1 1 [.slice io N ic] (by rfl) (by rfl) (cell_one_new _ _ _) (by simp [Value.oneCell']) (by decide) (by unfold maxLen; omega) (by omega) (by simp; omega) _ rfl ?_
      intro g4 c4 w4 hown4 hgrow4 hat4 hlt4
      replace hgrow4 : (W1.alloc (.cells #[.slice io N ic] 22)).grownBy w4 (Value.slice jo nI cI).ownBlock := ⟨hgrow4.os, hgrow4.tape, hgrow4.output, hgrow4.size, hgrow4.block⟩
      have HE4 : Hid (Ex 22 W1 w4) := Ex.grown HOW.out hgrow4
      have HB4 : Hid (Below B w w4) := below_appE HOW.out (by omega) HB.out hgrow4
      have HO4 := Hid.mk hown4
      clear hown4 hgrow4 hat4
      refine hK2.out _ _ (fun _ => HSS.out _ HE4.out) (fun hHeld => ?_)
      replace hHeld := hHeld (by decide)
      clear hK2 K2
      try simp only [Act.put, List.getElem_toArray, List.getElem_cons_succ, List.getElem_cons_zero, List.setIfInBounds_toArray, List.set_cons_zero, List.set_cons_succ]
      refine wpAnyK_one (i := 9) (o := _) (by kernel_rfl) rfl (fun K2 hK2 => ?_)
      go_simp
      refine hK2.out _ _ (fun _ => HSS.out _ HE4.out) (fun hHeld => ?_)
      replace hHeld := hHeld (by decide)
      clear hK2 K2
      try simp only [Act.put, List.getElem_toArray, List.getElem_cons_succ, List.getElem_cons_zero, List.setIfInBounds_toArray, List.set_cons_zero, List.set_cons_succ]
      refine wpAnyK_take (i := 10) (oi := _) (v := .pointer (some ⟨L, 0, none⟩)) rfl (by kernel_rfl) (by kernel_rfl) (by kernel_rfl) (by kernel_rfl) (fun _ _ _ h => h) (Or.inl ⟨by rfl, ?_⟩) (by assumption) ?_
      · intro u hSu
        go_simp
      try simp only [Act.put, List.getElem_toArray, List.getElem_cons_succ, List.getElem_cons_zero, List.setIfInBounds_toArray, List.set_cons_zero, List.set_cons_succ]
      have hb4 := HE4.out _ _ _ (by decide) HBX.out
      have hf4 : w4.frozen? ⟨L, 0, none⟩ = false := by simp [World.frozen?, hb4]
      obtain ⟨hc4, _⟩ := hHeld
      refine wpAnyK_one (i := 11) (o := _) (by kernel_rfl) rfl (fun K2 hK2 => ?_)
      go_simp
      obtain ⟨hb5, he5⟩ := co_set (f := 0) hb4 (.slice (some ⟨g4, 0, none⟩) (nI + 1) c4)
      have hE5 : Ex 35 w4 (w4.setCell ⟨L, 0, none⟩ (.slice (some ⟨g4, 0, none⟩) (nI + 1) c4)) := he5
      have HB5 : Hid (Below B w (w4.setCell ⟨L, 0, none⟩ (.slice (some ⟨g4, 0, none⟩) (nI + 1) c4))) := below_cell1 HB4.out L 0 hBL _
      have hT4 : Tp W1 w4 := HE4.out.tp (by decide) (by decide)
      have hT5 : Tp w4 (w4.setCell ⟨L, 0, none⟩ (.slice (some ⟨g4, 0, none⟩) (nI + 1) c4)) := hE5.tp (by decide) (by decide)
      have HT5 : Hid (Tp W1 (w4.setCell ⟨L, 0, none⟩ (.slice (some ⟨g4, 0, none⟩) (nI + 1) c4))) := HT.out.trans (hT4.trans hT5)
      have HC5 : Hid (CoS (w4.setCell ⟨L, 0, none⟩ (.slice (some ⟨g4, 0, none⟩) (nI + 1) c4)) B L ((m + K) + 1)) := ⟨_, _, _, _, _, _, hb5, ((RoS.app hn HAL.out (HII.out.keep (HT0.out.trans HT.out) (.inr rfl)) HO4.out hT4 (.inr rfl)).keep hE5 (by decide) hT5 (.inr rfl)), (((HR2.out.keep HE4.out (by decide) hT4 (.inl rfl)).keep hE5 (by decide) hT5 (.inl rfl)).up (Nat.le_succ _))⟩
      replace HC5 : Hid (CoS (w4.setCell ⟨L, 0, none⟩ (.slice (some ⟨g4, 0, none⟩) (nI + 1) c4)) B L (m + K + 1)) := HC5.out.up (by omega)
      obtain ⟨wb, hw5⟩ : ∃ w5, w4.setCell ⟨L, 0, none⟩ (.slice (some ⟨g4, 0, none⟩) (nI + 1) c4) = w5 := ⟨_, rfl⟩
      rw [hw5] at HB5 HT5 HC5
      refine hK2 _ _ (fun hq => absurd rfl hq) (fun hHeld => ?_)
      clear hK2 K2 hHeld
      try simp only [Act.put, List.getElem_toArray, List.getElem_cons_succ, List.getElem_cons_zero, List.setIfInBounds_toArray, List.set_cons_zero, List.set_cons_succ]
      refine wpAnyK_done (by kernel_rfl) ?_ _
      try simp only [Act.put, List.getElem_toArray, List.getElem_cons_succ, List.getElem_cons_zero, List.setIfInBounds_toArray, List.set_cons_zero, List.set_cons_succ]
      rw [hw5]
      clear hw5 hb5 he5 hE5 hT4 hT5 hb4 hf4 hc4 HE4 HB4 HO4 HSS HBX HOW HAL HR2 hn HB HT HC hsz
      have HB := HB5
      have HT := HT5
      have HC := HC5
      clear HB5 HT5 HC5
      go_wp2_with fail
      replace HC : Hid (CoS wb B L (m + K + 1 + sumL ((ts.take 0).map (szN h)))) := HC.out.up (by simp [sumL] <;> omega)
      go_loopw [4] (fun a wr => ∃ i : Nat, i ≤ N ∧ a = .int .i64 (i : Int) ∧ Hid (Below B w wr) ∧ Hid (Tp W1 wr) ∧ Hid (CoS wr B L (m + K + 1 + sumL ((ts.take i).map (szN h))))) (fun a _ => N - (intOf a).toNat)
      case atStart => exact ⟨0, Nat.zero_le _, rfl, HB, HT, HC⟩
      case round =>
        clear HB HT HC
        obtain ⟨i, hi, rfl, HB, HT, HC⟩ := hrel
        have p3 : wr.cell? ⟨w.heap.size, 3, none⟩ = some (.slice io N ic) := cell_of_row _ _ 3 _ _ _ (HT.out _ _ _ (.inr rfl) HV.out)
        by_cases hlt : i < N
        · have hl1 : (i : Int) < (N : Int) := by omega
          have hl0 : (0 : Int) ≤ (i : Int) := by omega
          obtain ⟨x, hx⟩ : ∃ x, ts[i]? = some x := ⟨_, List.getElem?_eq_getElem (by omega)⟩
          have hown := (HT0.out.trans HT.out).own (.inr rfl) HI.out
          obtain ⟨g, cap, hio⟩ : ∃ g cap, (Value.slice io N ic) = .slice (some ⟨g, 0, none⟩) N cap := by
            obtain ⟨g, cap, e1, _⟩ := hown.form (by omega)
            exact ⟨g, cap, e1⟩
          simp only [Value.slice.injEq, true_and] at hio
          obtain ⟨rfl, rfl⟩ := hio
          have cc : ∀ j : Fin 5, wr.cell? ⟨g, i * 5 + j.1, none⟩ = some (c i j) := fun j => by
            rw [hown.cellAt (i * 5 + j.1) (by have := j.2; omega)]
            exact flat_get _ _ i j hlt
          have c0 := cc 0
          have c1 := cc 1
          have c2 := cc 2
          have c3 := cc 3
          have c4 := cc 4
          simp only [Fin.isValue, Fin.val_zero, Fin.val_one, Fin.val_two, Nat.add_zero, show (3 : Fin 5).1 = 3 from rfl, show (4 : Fin 5).1 = 4 from rfl] at c0 c1 c2 c3 c4
          have hsum := sum_le (f := szN h) (ts := ts) (i + 1)
          have hst := sum_take (f := szN h) hx
          have HCall := Hid.mk (ih x (.agg #[c i 0, c i 1, c i 2, c i 3, c i 4]) wr B L (m + K + 1 + sumL ((ts.take i).map (szN h))) hBL ((HTS.out i x hx).keep (HT0.out.trans HT.out)) (by omega) HC.out)
          have HSt := Hid.mk hst
          clear cc hown hsum hst HC
          go_wp2_with fail
          refine HCall.out.mono ?_
          rintro e w6 ⟨⟨x6, rfl⟩, hq⟩
          have HB6 : Hid (Below B w w6) := HB.out.trans hq.out.1
          have HT6 : Hid (Tp W1 w6) := HT.out.trans hq.out.2.1
          have HC6 : Hid (CoS w6 B L (m + K + 1 + sumL ((ts.take (i + 1)).map (szN h)))) := hq.out.2.2.up (by rw [HSt.out]; omega)
          clear hq HCall HSt HB HT c0 c1 c2 c3 c4
          go_wp2_with fail
          go_roundw
          case rel => exact ⟨i + 1, hlt, by go_num, HB6, HT6, HC6⟩
          case measure => simp [intOf]; omega
        · have hl1 : ¬ (i : Int) < (N : Int) := by omega
          have hiN : ts.length ≤ i := by omega
          have HF : Hid (Below B w wr ∧ Tp w wr ∧ CoS wr B L (m + K + 1 + sumL (ts.map (szN h)))) := ⟨HB.out, HT0.out.trans HT.out, by have := HC.out; rwa [List.take_of_length_le hiN] at this⟩
          clear HB HT HC
          go_wp2_with fail
          refine bodyPost_end (results_none rfl _ _ _) rfl ?_
          exact ⟨⟨_, rfl⟩, HF⟩
    · go_wp2_with fail
      clear p3 p4
      replace HC : Hid (CoS W1 B L (m + K + 1 + sumL ((ts.take 0).map (szN h)))) := HC.out.up (by simp [sumL] <;> omega)
      go_loopw [4] (fun a wr => ∃ i : Nat, i ≤ N ∧ a = .int .i64 (i : Int) ∧ Hid (Below B w wr) ∧ Hid (Tp W1 wr) ∧ Hid (CoS wr B L (m + K + 1 + sumL ((ts.take i).map (szN h))))) (fun a _ => N - (intOf a).toNat)
      case atStart => exact ⟨0, Nat.zero_le _, rfl, HB, HT, HC⟩
      case round =>
        clear HB HT HC
        obtain ⟨i, hi, rfl, HB, HT, HC⟩ := hrel
        have p3 : wr.cell? ⟨w.heap.size, 3, none⟩ = some (.slice io N ic) := cell_of_row _ _ 3 _ _ _ (HT.out _ _ _ (.inr rfl) HV.out)
        by_cases hlt : i < N
        · have hl1 : (i : Int) < (N : Int) := by omega
          exact absurd hlt (by omega)
        · have hl1 : ¬ (i : Int) < (N : Int) := by omega
          have hiN : ts.length ≤ i := by omega
          have HF : Hid (Below B w wr ∧ Tp w wr ∧ CoS wr B L (m + K + 1 + sumL (ts.map (szN h)))) := ⟨HB.out, HT0.out.trans HT.out, by have := HC.out; rwa [List.take_of_length_le hiN] at this⟩
          clear HB HT HC
          go_wp2_with fail
          refine bodyPost_end (results_none rfl _ _ _) rfl ?_
          exact ⟨⟨_, rfl⟩, HF⟩
end Go.Proofs.Ytaflpeajapdkdaa
namespace Go.Proofs.Ytaflpeajapdkdaa
open Go.RowKit Go.Shelf Go.Sort Go.Maps Go.WideMaps
set_option linter.unusedVariables false
set_option linter.unusedSimpArgs false

/-- Collect, at every height -/
theorem w_Collect : ∀ h, ColOk h
  | 0 => fun T v w B L m _ hO _ _ => hO.elim
  | h + 1 => fun T v w B L m hBL hO hs hC => by
    obtain ⟨kd, nm, tx, io, ic, ko, kc, rfl, b1, b2, hk, c, hi, ht⟩ := hO
    have hz : szN (h + 1) T = 1 + T.keys.length + sumL (T.items.map (szN h)) := rfl
    have hN : T.items.length ≤ 1048577 := by
      cases h with
      | zero =>
        rcases Nat.eq_zero_or_pos T.items.length with h0 | h0
        · omega
        · exact (ht 0 h0).elim
      | succ h =>
        have := sz_items (h := h) (T := T)
        omega
    refine (col_step h (w_Collect h) kd nm tx io _ ic ko _ kc T.items c w B L m hBL rfl b1 b2 hN (by omega) hk hi (fun i x hx => ?_) (by omega) hC).mono ?_
    · obtain ⟨h1, rfl⟩ := List.getElem?_eq_some_iff.1 hx
      exact ht i h1
    · rintro e w' ⟨h1, h2⟩
      refine ⟨h1, h2.out.1, h2.out.2.1, h2.out.2.2.up (by omega)⟩

theorem RoS.spR {w : World} {B sz n c m : Nat} {e t : TypeId} {so : Option Addr} (h : RoS w B e t sz so n c m) : n ≤ c ∧ SpR w B e t sz so n := by
  obtain ⟨h1, vs, h2, h3⟩ := h
  rcases h2.2 with ⟨e1, e2⟩ | ⟨g, cap, cur, e1, e2, e3, e4, e5, e6, e7⟩
  · simp only [Value.slice.injEq] at e1
    obtain ⟨_, rfl, rfl⟩ := e1
    exact ⟨Nat.le_refl _, fun hn => absurd hn (Nat.lt_irrefl 0)⟩
  · simp only [Value.slice.injEq, true_and] at e1
    obtain ⟨rfl, rfl⟩ := e1
    refine ⟨e4, fun hn => ⟨g, rfl, ⟨cur, e3⟩, fun k hk => ?_⟩⟩
    have hl : vs.length = n * 1 := h2.1
    have hkl : k < vs.length := by omega
    obtain ⟨xo, q, xc, f1, f2, f3, f4⟩ := h3 vs[k] (List.getElem_mem hkl)
    refine ⟨xo, q, xc, ?_, f2, f3, ?_⟩
    · have := h2.cellAt k (by omega)
      rw [List.getElem?_eq_getElem hkl, f1] at this
      exact this
    · rw [f1] at f4; exact f4

/-- what Collect has put together, spoilt -/
theorem w_SpoilC (w : World) (B L m : Nat) (hB : B ≤ w.heap.size) (hm : m ≤ 1048577) (hC : CoS w B L m) : ∃ io nI cI ko nK cK, w.heap[L]? = some (.cells #[.slice io nI cI, .slice ko nK cK] 35 (0, 0)) ∧
    Calls Try.prog 10 #[.agg #[.slice io nI cI, .slice ko nK cK], .int .i64 3] w fun e w' => (∃ r, e = .returned r) ∧ Hid (Below B w w') := by
  obtain ⟨io, nI, cI, ko, nK, cK, h1, h2, h3⟩ := hC
  exact ⟨io, nI, cI, ko, nK, cK, h1, w_Spoil B io nI cI ko nK cK w hB (Nat.le_trans h2.1 hm) (Nat.le_trans h3.1 hm) h2.spR.1 h3.spR.1 h2.spR.2 h3.spR.2⟩
end Go.Proofs.Ytaflpeajapdkdaa
