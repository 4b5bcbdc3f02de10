import Derived.Test.YtbaknnpjbokilaaM46
import Derived.Test.YtbaknnpjbokilaaZO10
import Derived.Deep.RegionHeld3
namespace Go.Proofs.Ytbaknnpjbokilaa
open Go.RowKit Go.Shelf Go.Sort Go.Maps
set_option linter.unusedVariables false
set_option linter.unusedSimpArgs false
attribute [local go_sem] Oper.semAt_some

def zT : VT := .mk 0 .empty .empty [] []
theorem zT_in (W : World) (h : Nat) : InH W (h + 1) zT (.agg #[.int .i64 0, .string ⟨#[]⟩, .string ⟨#[]⟩, .slice none 0 0, .slice none 0 0]) :=
  ⟨none, 0, none, 0, rfl, by show 0 ≤ _; omega, by show 0 ≤ _; omega, by show 0 ≤ _; omega, by show 0 ≤ _; omega, by show 0 ≤ 0; omega, by show 0 ≤ 0; omega, (fun k hk => by cases hk), ⟨fun h => absurd h (by show ¬ 0 < 0; omega)⟩, fun h => absurd h (by show ¬ 0 < 0; omega)⟩
/-- what Get answers -/
def GtO (T : VT) (key : ByteArray) (b : Bool) (t : VT) : Prop := (b = true ∧ (key, t) ∈ flds T) ∨ (b = false ∧ key ∉ T.keys ∧ t = zT)
theorem gt_same {T I : VT} {key name : ByteArray} {b1 b2 : Bool} {t1 t2 : VT} (o : Obj6 T) (of : Obj6 (fldT key I)) (hn : name ≠ key) (h1 : GtO T name b1 t1) (h2 : GtO (mg T (fldT key I)) name b2 t2) : b1 = b2 ∧ t1 = t2 := by
  have hmem : ∀ {s}, (name, s) ∈ flds (mg T (fldT key I)) ↔ (name, s) ∈ flds T := mg_fld o of hn
  have om := mg_obj o of
  rcases h1 with ⟨rfl, m1⟩ | ⟨rfl, m1, rfl⟩ <;> rcases h2 with ⟨rfl, m2⟩ | ⟨rfl, m2, rfl⟩
  · exact ⟨rfl, flds_one o m1 (hmem.1 m2)⟩
  · exact absurd ((mem_keys om.len).2 ⟨_, hmem.2 m1⟩) m2
  · exact absurd ((mem_keys o.len).2 ⟨_, hmem.1 m2⟩) m1
  · exact ⟨rfl, rfl⟩
theorem w_Get_any (h n : Nat) (T : VT) (s : SmO (h + 1) n T) (hn : n ≤ 100000) (v : Value) (key : ByteArray) (w : World) (hI : InH w (h + 1 + 1) T v) :
    Calls Try.prog 9 #[v, .string key] w fun e w' => ∃ (yk : Int) (yn yt : ByteArray) (yio : Option Addr) (yN yic : Nat) (yko : Option Addr) (yK ykc : Nat) (b : Bool), e = .returned (.tuple #[.agg #[.int .i64 yk, .string yn, .string yt, .slice yio yN yic, .slice yko yK ykc], .bool b]) ∧ Hid ((∃ t, GtO T key b t ∧ InH w' (h + 1) t (.agg #[.int .i64 yk, .string yn, .string yt, .slice yio yN yic, .slice yko yK ykc])) ∧ Below w.heap.size w w') := by
  by_cases hk : key ∈ T.keys
  · obtain ⟨t, ht⟩ := (mem_keys s.obj.len).1 hk
    refine (w_Get_there (h + 1) n T s hn v key t ht w hI).mono ?_
    rintro e w' ⟨yk, yn, yt, yio, yN, yic, yko, yK, ykc, rfl, HQ⟩
    exact ⟨_, _, _, _, _, _, _, _, _, true, rfl, ⟨⟨t, .inl ⟨rfl, ht⟩, HQ.out.1⟩, HQ.out.2⟩⟩
  · refine (w_Get_none (h + 1) n T s hn v key hk w hI).mono ?_
    rintro e w' ⟨rfl, hb⟩
    exact ⟨_, _, _, _, _, _, _, _, _, false, rfl, ⟨⟨zT, .inr ⟨rfl, hk, rfl⟩, zT_in _ _⟩, hb⟩⟩
theorem w_LikeO {h : Nat} {A B : VT} (hAB : A = B) (va vb : Value) (w : World) (hA : InH w h A va) (hB : InH w h B vb) : Calls Try.prog 10 #[va, vb] w fun e w' => e = .returned (.bool true) ∧ Below w.heap.size w w' := by
  have := w_Like h A B va vb w hA hB
  rwa [likeD_iff.2 hAB] at this

set_option maxRecDepth 100000 in
set_option maxHeartbeats 25600000 in
theorem w_ValueFields (h : Nat) (T I : VT) (key name : ByteArray) (kv : Int) (nv tv : ByteArray) (iov : Option Addr) (Nv icv : Nat) (kov : Option Addr) (Kv kcv : Nat) (ki : Int) (ni ti : ByteArray) (ioi : Option Addr) (Ni ici : Nat) (koi : Option Addr) (Ki kci : Nat) (w : World) (hT : InH w (h + 1 + 1) T (.agg #[.int .i64 kv, .string nv, .string tv, .slice iov Nv icv, .slice kov Kv kcv])) (hI : InH w (h + 1) I (.agg #[.int .i64 ki, .string ni, .string ti, .slice ioi Ni ici, .slice koi Ki kci])) (hks : key.size ≤ 140737488355328) :
    Calls Try.prog 3 #[.agg #[.int .i64 kv, .string nv, .string tv, .slice iov Nv icv, .slice kov Kv kcv, .int .i64 ki, .string ni, .string ti, .slice ioi Ni ici, .slice koi Ki kci, .string key, .string name]] w fun e w' => e = .returned (.bool true) ∧ Below w.heap.size w w' := by
  have HTv := Hid.mk hT
  have HTi := Hid.mk hI
  have HKS := Hid.mk hks
  have HUT : Hid (∀ u, Calls Try.prog 7 #[.string key] u fun e w' => e = .returned (.bool (okB key.data.toList)) ∧ w' = u) := fun u => w_UTF key u (by omega)
  have kk : kv = T.kind := by
    obtain ⟨_, _, _, _, e, _⟩ := hT
    simp only [Value.agg.injEq, Array.mk.injEq, List.cons.injEq, Value.int.injEq, true_and] at e
    exact e.1
  have HM : Hid (formN (h + 1 + 1) T = true → decide (szN (h + 1 + 1) T ≤ 10000) = true → kv = 6 → SmO (h + 1) 10000 T) := fun f s k => ⟨by rw [← kk]; exact k, f, of_decide_eq_true s⟩
  have HMI : Hid (decide (szN (h + 1) I ≤ 10000) = true → szN (h + 1) I ≤ 10000) := fun s => of_decide_eq_true s
  have HFv : Hid (∀ u, Below w.heap.size w u → Calls Try.prog 6 #[.agg #[.int .i64 kv, .string nv, .string tv, .slice iov Nv icv, .slice kov Kv kcv]] u fun e w' => e = .returned (.bool (formN (h + 1 + 1) T)) ∧ Below u.heap.size u w') := fun u hu => w_rFormed (h + 1 + 1) T _ u (HTv.out.keep hu)
  have HDv : Hid (∀ u, Below w.heap.size w u → Calls Try.prog 5 #[.agg #[.int .i64 kv, .string nv, .string tv, .slice iov Nv icv, .slice kov Kv kcv]] u fun e w' => e = .returned (.bool (decide (szN (h + 1 + 1) T ≤ 10000))) ∧ Below u.heap.size u w') := fun u hu => w_smallX (h + 1 + 1) T _ u (HTv.out.keep hu)
  have HFi : Hid (∀ u, Below w.heap.size w u → Calls Try.prog 6 #[.agg #[.int .i64 ki, .string ni, .string ti, .slice ioi Ni ici, .slice koi Ki kci]] u fun e w' => e = .returned (.bool (formN (h + 1) I)) ∧ Below u.heap.size u w') := fun u hu => w_rFormed (h + 1) I _ u (HTi.out.keep hu)
  have HDi : Hid (∀ u, Below w.heap.size w u → Calls Try.prog 5 #[.agg #[.int .i64 ki, .string ni, .string ti, .slice ioi Ni ici, .slice koi Ki kci]] u fun e w' => e = .returned (.bool (decide (szN (h + 1) I ≤ 10000))) ∧ Below u.heap.size u w') := fun u hu => w_smallX (h + 1) I _ u (HTi.out.keep hu)
  obtain ⟨fv, hfv⟩ : ∃ f, formN (h + 1 + 1) T = f := ⟨_, rfl⟩
  rw [hfv] at HFv HM
  obtain ⟨sv, hsv⟩ : ∃ f, decide (szN (h + 1 + 1) T ≤ 10000) = f := ⟨_, rfl⟩
  rw [hsv] at HDv HM
  obtain ⟨fi, hfi⟩ : ∃ f, formN (h + 1) I = f := ⟨_, rfl⟩
  rw [hfi] at HFi
  have HFI := Hid.mk hfi
  obtain ⟨si, hsi⟩ : ∃ f, decide (szN (h + 1) I ≤ 10000) = f := ⟨_, rfl⟩
  rw [hsi] at HDi HMI
  obtain ⟨ub, hub⟩ : ∃ f, okB key.data.toList = f := ⟨_, rfl⟩
  rw [hub] at HUT
  have HUB := Hid.mk hub
  clear hfv hsv hfi hsi hub kk hT hI hks
  go_enter Try.func3, Try.ntmps3
  go_upto_region 1 with fail
  obtain ⟨W0, hW0⟩ : ∃ W, w.alloc (.cells #[.int .i64 kv, .string nv, .string tv, .slice iov Nv icv, .slice kov Kv kcv, .int .i64 ki, .string ni, .string ti, .slice ioi Ni ici, .slice koi Ki kci, .string key, .string name] 27) = W := ⟨_, rfl⟩
  have HB0 : Hid (Below w.heap.size w W0) := by rw [← hW0]; exact below1 _ _
  have HP0 : Hid (W0.heap[w.heap.size]? = some (.cells #[.int .i64 kv, .string nv, .string tv, .slice iov Nv icv, .slice kov Kv kcv, .int .i64 ki, .string ni, .string ti, .slice ioi Ni ici, .slice koi Ki kci, .string key, .string name] 27 (0, 0))) := by show _ = _; rw [← hW0]; exact heap_alloc_new _ _
  rw [hW0]
  clear hW0
  go_wp2_with fail
  refine (w_lives W0).mono ?_
  rintro e u0 ⟨rfl, hb⟩
  have HB1 := Hid.mk (below_more HB0.out hb)
  have HP1 := Hid.mk (heap_low hb (Array.getElem?_eq_some_iff.1 HP0.out).1 HP0.out)
  clear hb HB0 HP0
  have a0 : u0.cell? ⟨w.heap.size, 0, none⟩ = some (.int .i64 kv) := cell_of_row _ _ 0 _ _ _ HP1.out
  have a1 : u0.cell? ⟨w.heap.size, 1, none⟩ = some (.string nv) := cell_of_row _ _ 1 _ _ _ HP1.out
  have a2 : u0.cell? ⟨w.heap.size, 2, none⟩ = some (.string tv) := cell_of_row _ _ 2 _ _ _ HP1.out
  have a3 : u0.cell? ⟨w.heap.size, 3, none⟩ = some (.slice iov Nv icv) := cell_of_row _ _ 3 _ _ _ HP1.out
  have a4 : u0.cell? ⟨w.heap.size, 4, none⟩ = some (.slice kov Kv kcv) := cell_of_row _ _ 4 _ _ _ HP1.out
  have a5 : u0.cell? ⟨w.heap.size, 5, none⟩ = some (.int .i64 ki) := cell_of_row _ _ 5 _ _ _ HP1.out
  have b5 : ∀ o, (u0.alloc o).cell? ⟨w.heap.size, 5, none⟩ = some (.int .i64 ki) := fun o => ((below1 u0 o).cell (p := ⟨_, _, _⟩) (Array.getElem?_eq_some_iff.1 HP1.out).1).trans a5
  have a6 : u0.cell? ⟨w.heap.size, 6, none⟩ = some (.string ni) := cell_of_row _ _ 6 _ _ _ HP1.out
  have b6 : ∀ o, (u0.alloc o).cell? ⟨w.heap.size, 6, none⟩ = some (.string ni) := fun o => ((below1 u0 o).cell (p := ⟨_, _, _⟩) (Array.getElem?_eq_some_iff.1 HP1.out).1).trans a6
  have a7 : u0.cell? ⟨w.heap.size, 7, none⟩ = some (.string ti) := cell_of_row _ _ 7 _ _ _ HP1.out
  have b7 : ∀ o, (u0.alloc o).cell? ⟨w.heap.size, 7, none⟩ = some (.string ti) := fun o => ((below1 u0 o).cell (p := ⟨_, _, _⟩) (Array.getElem?_eq_some_iff.1 HP1.out).1).trans a7
  have a8 : u0.cell? ⟨w.heap.size, 8, none⟩ = some (.slice ioi Ni ici) := cell_of_row _ _ 8 _ _ _ HP1.out
  have b8 : ∀ o, (u0.alloc o).cell? ⟨w.heap.size, 8, none⟩ = some (.slice ioi Ni ici) := fun o => ((below1 u0 o).cell (p := ⟨_, _, _⟩) (Array.getElem?_eq_some_iff.1 HP1.out).1).trans a8
  have a9 : u0.cell? ⟨w.heap.size, 9, none⟩ = some (.slice koi Ki kci) := cell_of_row _ _ 9 _ _ _ HP1.out
  have b9 : ∀ o, (u0.alloc o).cell? ⟨w.heap.size, 9, none⟩ = some (.slice koi Ki kci) := fun o => ((below1 u0 o).cell (p := ⟨_, _, _⟩) (Array.getElem?_eq_some_iff.1 HP1.out).1).trans a9
  have a10 : u0.cell? ⟨w.heap.size, 10, none⟩ = some (.string key) := cell_of_row _ _ 10 _ _ _ HP1.out
  have b10 : ∀ o, (u0.alloc o).cell? ⟨w.heap.size, 10, none⟩ = some (.string key) := fun o => ((below1 u0 o).cell (p := ⟨_, _, _⟩) (Array.getElem?_eq_some_iff.1 HP1.out).1).trans a10
  have a11 : u0.cell? ⟨w.heap.size, 11, none⟩ = some (.string name) := cell_of_row _ _ 11 _ _ _ HP1.out
  have b11 : ∀ o, (u0.alloc o).cell? ⟨w.heap.size, 11, none⟩ = some (.string name) := fun o => ((below1 u0 o).cell (p := ⟨_, _, _⟩) (Array.getElem?_eq_some_iff.1 HP1.out).1).trans a11
  go_upto_region 7 with fail
  obtain ⟨W, hW⟩ : ∃ W, (u0.alloc (.cells #[.int .i64 kv, .string nv, .string tv, .slice iov Nv icv, .slice kov Kv kcv] 25)).alloc (.cells #[.int .i64 ki, .string ni, .string ti, .slice ioi Ni ici, .slice koi Ki kci] 25) = W := ⟨_, rfl⟩
  have hb : Below u0.heap.size u0 W := by rw [← hW]; exact below2 u0 _ _
  have Ba0v : Hid (W.heap[u0.heap.size]? = some (.cells #[.int .i64 kv, .string nv, .string tv, .slice iov Nv icv, .slice kov Kv kcv] 25 (0, 0))) := by show _ = _; rw [← hW]; exact (Below.heap_alloc _ _ _ (by simp)).trans (heap_alloc_new u0 _)
  have Ba0i : Hid (W.heap[u0.heap.size + 1]? = some (.cells #[.int .i64 ki, .string ni, .string ti, .slice ioi Ni ici, .slice koi Ki kci] 25 (0, 0))) := by
    show _ = _
    rw [← hW]
    have := heap_alloc_new (u0.alloc (.cells #[.int .i64 kv, .string nv, .string tv, .slice iov Nv icv, .slice kov Kv kcv] 25)) (.cells #[.int .i64 ki, .string ni, .string ti, .slice ioi Ni ici, .slice koi Ki kci] 25)
    rwa [World.size_alloc] at this
  rw [hW]
  have HB2 := Hid.mk (below_more HB1.out hb)
  have HX2 : Hid (True) := trivial
  clear hW hb HP1 HB1
  clear a0 a1 a2 a3 a4 a5 a6 a7 a8 a9 a10 a11 b5 b6 b7 b8 b9 b10 b11
  have HB0 := HB2
  clear HB2 HX2
  have x0 := cell_of_row _ _ 0 _ _ _ Ba0v.out
  have x1 := cell_of_row _ _ 1 _ _ _ Ba0v.out
  have x2 := cell_of_row _ _ 2 _ _ _ Ba0v.out
  have x3 := cell_of_row _ _ 3 _ _ _ Ba0v.out
  have x4 := cell_of_row _ _ 4 _ _ _ Ba0v.out
  go_wp2_with fail
  refine (HDv.out _ HB0.out).mono ?_
  rintro e q1 ⟨rfl, hb⟩
  clear x0 x1 x2 x3 x4
  have HB1 := Hid.mk (below_more HB0.out hb)
  have Ba1v := Hid.mk (heap_low hb (Array.getElem?_eq_some_iff.1 Ba0v.out).1 Ba0v.out)
  have Ba1i := Hid.mk (heap_low hb (Array.getElem?_eq_some_iff.1 Ba0i.out).1 Ba0i.out)
  clear HB0 Ba0v Ba0i 
  clear hb
  cases sv with
  | false =>
    go_wp2_with fail
    go_ret
    exact ⟨rfl, HB1.out⟩
  | true =>
    have x0 := cell_of_row _ _ 0 _ _ _ Ba1i.out
    have x1 := cell_of_row _ _ 1 _ _ _ Ba1i.out
    have x2 := cell_of_row _ _ 2 _ _ _ Ba1i.out
    have x3 := cell_of_row _ _ 3 _ _ _ Ba1i.out
    have x4 := cell_of_row _ _ 4 _ _ _ Ba1i.out
    go_wp2_with fail
    refine (HDi.out _ HB1.out).mono ?_
    rintro e q2 ⟨rfl, hb⟩
    clear x0 x1 x2 x3 x4
    have HB2 := Hid.mk (below_more HB1.out hb)
    have Ba2v := Hid.mk (heap_low hb (Array.getElem?_eq_some_iff.1 Ba1v.out).1 Ba1v.out)
    have Ba2i := Hid.mk (heap_low hb (Array.getElem?_eq_some_iff.1 Ba1i.out).1 Ba1i.out)
    clear HB1 Ba1v Ba1i 
    clear hb
    cases si with
    | false =>
      go_wp2_with fail
      go_ret
      exact ⟨rfl, HB2.out⟩
    | true =>
      have x0 := cell_of_row _ _ 0 _ _ _ Ba2v.out
      have x1 := cell_of_row _ _ 1 _ _ _ Ba2v.out
      have x2 := cell_of_row _ _ 2 _ _ _ Ba2v.out
      have x3 := cell_of_row _ _ 3 _ _ _ Ba2v.out
      have x4 := cell_of_row _ _ 4 _ _ _ Ba2v.out
      go_wp2_with fail
      refine (HFv.out _ HB2.out).mono ?_
      rintro e q3 ⟨rfl, hb⟩
      clear x0 x1 x2 x3 x4
      have HB3 := Hid.mk (below_more HB2.out hb)
      have Ba3v := Hid.mk (heap_low hb (Array.getElem?_eq_some_iff.1 Ba2v.out).1 Ba2v.out)
      have Ba3i := Hid.mk (heap_low hb (Array.getElem?_eq_some_iff.1 Ba2i.out).1 Ba2i.out)
      clear HB2 Ba2v Ba2i 
      clear hb
      cases fv with
      | false =>
        go_wp2_with fail
        go_ret
        exact ⟨rfl, HB3.out⟩
      | true =>
        have yk0 := cell_of_row _ _ 0 _ _ _ Ba3v.out
        by_cases hq : kv = 6
        case neg =>
          have g : (kv == 6) = false := by rw [beq_eq_false_iff_ne]; exact hq
          go_wp2_with fail
          go_ret
          exact ⟨rfl, HB3.out⟩
        subst hq
        have x0 := cell_of_row _ _ 0 _ _ _ Ba3i.out
        have x1 := cell_of_row _ _ 1 _ _ _ Ba3i.out
        have x2 := cell_of_row _ _ 2 _ _ _ Ba3i.out
        have x3 := cell_of_row _ _ 3 _ _ _ Ba3i.out
        have x4 := cell_of_row _ _ 4 _ _ _ Ba3i.out
        go_wp2_with fail
        refine (HFi.out _ HB3.out).mono ?_
        rintro e q4 ⟨rfl, hb⟩
        clear x0 x1 x2 x3 x4
        clear yk0
        have HB4 := Hid.mk (below_more HB3.out hb)
        have Ba4v := Hid.mk (heap_low hb (Array.getElem?_eq_some_iff.1 Ba3v.out).1 Ba3v.out)
        have Ba4i := Hid.mk (heap_low hb (Array.getElem?_eq_some_iff.1 Ba3i.out).1 Ba3i.out)
        clear HB3 Ba3v Ba3i 
        clear hb
        cases fi with
        | false =>
          go_wp2_with fail
          go_ret
          exact ⟨rfl, HB4.out⟩
        | true =>
          go_wp2_with fail
          refine (HUT.out _).mono ?_
          rintro e q5 ⟨rfl, rfl⟩
          cases ub with
          | false =>
            go_wp2_with fail
            go_ret
            exact ⟨rfl, HB4.out⟩
          | true =>
            have SMv : Hid (SmO (h + 1) 10000 T) := HM.out (by first | trivial | rfl) (by first | trivial | rfl) (by first | trivial | rfl)
            have hsi : szN (h + 1) I ≤ 10000 := HMI.out (by first | trivial | rfl)
            have SZI := Hid.mk hsi
            have SMf := Hid.mk (fldT_sm (n := 10000) HUB.out HFI.out hsi)
            have SMp : Hid (SmO (h + 1) 20002 (mg T (fldT key I))) := Hid.mk (SMv.out.mg SMf.out)
            clear hsi HM HMI HFv HDv HFi HDi HUT
            have x0 := cell_of_row _ _ 0 _ _ _ Ba4v.out
            have x1 := cell_of_row _ _ 1 _ _ _ Ba4v.out
            have x2 := cell_of_row _ _ 2 _ _ _ Ba4v.out
            have x3 := cell_of_row _ _ 3 _ _ _ Ba4v.out
            have x4 := cell_of_row _ _ 4 _ _ _ Ba4v.out
            have y0 := cell_of_row _ _ 0 _ _ _ Ba4i.out
            have y1 := cell_of_row _ _ 1 _ _ _ Ba4i.out
            have y2 := cell_of_row _ _ 2 _ _ _ Ba4i.out
            have y3 := cell_of_row _ _ 3 _ _ _ Ba4i.out
            have y4 := cell_of_row _ _ 4 _ _ _ Ba4i.out
            go_wp2_with fail
            refine (w_With_ok (h + 1) 10000 10000 T I SMv.out HFI.out SZI.out key HUB.out HKS.out (by omega) _ _ _ (HTv.out.keep HB4.out) (HTi.out.keep HB4.out)).mono ?_
            rintro e v9 ⟨kp, np, tp, iop, Np, icp, kop, Kp, kcp, rfl, HQ⟩
            obtain ⟨hT, hb⟩ := HQ.out
            clear x0 x1 x2 x3 x4 y0 y1 y2 y3 y4
            have HB5 := Hid.mk (below_more HB4.out hb)
            have Ba5v := Hid.mk (heap_low hb (Array.getElem?_eq_some_iff.1 Ba4v.out).1 Ba4v.out)
            have Ba5i := Hid.mk (heap_low hb (Array.getElem?_eq_some_iff.1 Ba4i.out).1 Ba4i.out)
            clear HB4 Ba4v Ba4i 
            have Tr5p := Hid.mk hT
            clear hT hb HQ
            go_upto_region 10 with fail
            obtain ⟨W9, hW⟩ : ∃ W, v9.alloc (.cells #[.int .i64 kp, .string np, .string tp, .slice iop Np icp, .slice kop Kp kcp] 25) = W := ⟨_, rfl⟩
            have hbW : Below v9.heap.size v9 W9 := by rw [← hW]; exact below1 _ _
            have hnew : W9.heap[v9.heap.size]? = some (.cells #[.int .i64 kp, .string np, .string tp, .slice iop Np icp, .slice kop Kp kcp] 25 (0, 0)) := by rw [← hW]; exact heap_alloc_new _ _
            rw [hW]
            have HB6 := Hid.mk (below_more HB5.out hbW)
            have Ba6v := Hid.mk (heap_low hbW (Array.getElem?_eq_some_iff.1 Ba5v.out).1 Ba5v.out)
            have Ba6i := Hid.mk (heap_low hbW (Array.getElem?_eq_some_iff.1 Ba5i.out).1 Ba5i.out)
            have Tr6p := Hid.mk (Tr5p.out.keep hbW)
            clear HB5 Ba5v Ba5i Tr5p
            have Ba6p := Hid.mk hnew
            clear hW hbW hnew
            have x0 := cell_of_row _ _ 0 _ _ _ Ba6p.out
            have x1 := cell_of_row _ _ 1 _ _ _ Ba6p.out
            have x2 := cell_of_row _ _ 2 _ _ _ Ba6p.out
            have x3 := cell_of_row _ _ 3 _ _ _ Ba6p.out
            have x4 := cell_of_row _ _ 4 _ _ _ Ba6p.out
            go_wp2_with fail
            refine (w_Get_there (h + 1) 20002 _ SMp.out (by omega) _ key I (mg_put SMv.out.obj SMf.out.obj) _ Tr6p.out).mono ?_
            rintro e v10 ⟨kg, ng, tg, iog, Ng, icg, kog, Kg, kcg, rfl, HQ⟩
            obtain ⟨hT, hb⟩ := HQ.out
            clear x0 x1 x2 x3 x4
            have HB7 := Hid.mk (below_more HB6.out hb)
            have Ba7v := Hid.mk (heap_low hb (Array.getElem?_eq_some_iff.1 Ba6v.out).1 Ba6v.out)
            have Ba7i := Hid.mk (heap_low hb (Array.getElem?_eq_some_iff.1 Ba6i.out).1 Ba6i.out)
            have Ba7p := Hid.mk (heap_low hb (Array.getElem?_eq_some_iff.1 Ba6p.out).1 Ba6p.out)
            have Tr7p := Hid.mk (Tr6p.out.keep hb)
            clear HB6 Ba6v Ba6i Ba6p Tr6p
            have Tr7g := Hid.mk hT
            clear hT hb HQ
            go_upto_region 11 with fail
            obtain ⟨W10, hW⟩ : ∃ W, v10.alloc (.cells #[.int .i64 kg, .string ng, .string tg, .slice iog Ng icg, .slice kog Kg kcg] 25) = W := ⟨_, rfl⟩
            have hbW : Below v10.heap.size v10 W10 := by rw [← hW]; exact below1 _ _
            have hnew : W10.heap[v10.heap.size]? = some (.cells #[.int .i64 kg, .string ng, .string tg, .slice iog Ng icg, .slice kog Kg kcg] 25 (0, 0)) := by rw [← hW]; exact heap_alloc_new _ _
            rw [hW]
            have HB8 := Hid.mk (below_more HB7.out hbW)
            have Ba8v := Hid.mk (heap_low hbW (Array.getElem?_eq_some_iff.1 Ba7v.out).1 Ba7v.out)
            have Ba8i := Hid.mk (heap_low hbW (Array.getElem?_eq_some_iff.1 Ba7i.out).1 Ba7i.out)
            have Ba8p := Hid.mk (heap_low hbW (Array.getElem?_eq_some_iff.1 Ba7p.out).1 Ba7p.out)
            have Tr8p := Hid.mk (Tr7p.out.keep hbW)
            have Tr8g := Hid.mk (Tr7g.out.keep hbW)
            clear HB7 Ba7v Ba7i Ba7p Tr7p Tr7g
            have Ba8g := Hid.mk hnew
            clear hW hbW hnew
            have x0 := cell_of_row _ _ 0 _ _ _ Ba8g.out
            have x1 := cell_of_row _ _ 1 _ _ _ Ba8g.out
            have x2 := cell_of_row _ _ 2 _ _ _ Ba8g.out
            have x3 := cell_of_row _ _ 3 _ _ _ Ba8g.out
            have x4 := cell_of_row _ _ 4 _ _ _ Ba8g.out
            have y0 := cell_of_row _ _ 0 _ _ _ Ba8i.out
            have y1 := cell_of_row _ _ 1 _ _ _ Ba8i.out
            have y2 := cell_of_row _ _ 2 _ _ _ Ba8i.out
            have y3 := cell_of_row _ _ 3 _ _ _ Ba8i.out
            have y4 := cell_of_row _ _ 4 _ _ _ Ba8i.out
            go_wp2_with fail
            refine (w_LikeO rfl _ _ _ Tr8g.out (HTi.out.keep HB8.out)).mono ?_
            rintro e z1 ⟨rfl, hb⟩
            clear x0 x1 x2 x3 x4 y0 y1 y2 y3 y4
            have HB9 := Hid.mk (below_more HB8.out hb)
            have Ba9v := Hid.mk (heap_low hb (Array.getElem?_eq_some_iff.1 Ba8v.out).1 Ba8v.out)
            have Ba9i := Hid.mk (heap_low hb (Array.getElem?_eq_some_iff.1 Ba8i.out).1 Ba8i.out)
            have Ba9p := Hid.mk (heap_low hb (Array.getElem?_eq_some_iff.1 Ba8p.out).1 Ba8p.out)
            have Ba9g := Hid.mk (heap_low hb (Array.getElem?_eq_some_iff.1 Ba8g.out).1 Ba8g.out)
            have Tr9p := Hid.mk (Tr8p.out.keep hb)
            have Tr9g := Hid.mk (Tr8g.out.keep hb)
            clear HB8 Ba8v Ba8i Ba8p Ba8g Tr8p Tr8g
            clear hb
            have x0 := cell_of_row _ _ 0 _ _ _ Ba9p.out
            have x1 := cell_of_row _ _ 1 _ _ _ Ba9p.out
            have x2 := cell_of_row _ _ 2 _ _ _ Ba9p.out
            have x3 := cell_of_row _ _ 3 _ _ _ Ba9p.out
            have x4 := cell_of_row _ _ 4 _ _ _ Ba9p.out
            have HFp : Hid (∀ u v, InH u (h + 1 + 1) (mg T (fldT key I)) v → Calls Try.prog 6 #[v] u fun e w' => e = .returned (.bool true) ∧ Below u.heap.size u w') := fun u v hv => by
              have := w_rFormed (h + 1 + 1) _ v u hv
              rwa [SMp.out.form] at this
            go_wp2_with fail
            refine (HFp.out _ _ Tr9p.out).mono ?_
            rintro e z2 ⟨rfl, hb⟩
            clear x0 x1 x2 x3 x4
            have HB10 := Hid.mk (below_more HB9.out hb)
            have Ba10v := Hid.mk (heap_low hb (Array.getElem?_eq_some_iff.1 Ba9v.out).1 Ba9v.out)
            have Ba10i := Hid.mk (heap_low hb (Array.getElem?_eq_some_iff.1 Ba9i.out).1 Ba9i.out)
            have Ba10p := Hid.mk (heap_low hb (Array.getElem?_eq_some_iff.1 Ba9p.out).1 Ba9p.out)
            have Ba10g := Hid.mk (heap_low hb (Array.getElem?_eq_some_iff.1 Ba9g.out).1 Ba9g.out)
            have Tr10p := Hid.mk (Tr9p.out.keep hb)
            have Tr10g := Hid.mk (Tr9g.out.keep hb)
            clear HB9 Ba9v Ba9i Ba9p Ba9g Tr9p Tr9g
            clear hb HFp
            have x0 := cell_of_row _ _ 0 _ _ _ Ba10v.out
            have x1 := cell_of_row _ _ 1 _ _ _ Ba10v.out
            have x2 := cell_of_row _ _ 2 _ _ _ Ba10v.out
            have x3 := cell_of_row _ _ 3 _ _ _ Ba10v.out
            have x4 := cell_of_row _ _ 4 _ _ _ Ba10v.out
            go_wp2_with fail
            refine (w_Get_any h 10000 _ SMv.out (by omega) _ name _ (HTv.out.keep HB10.out)).mono ?_
            rintro e v13 ⟨ka, na, ta, ioa, Na, ica, koa, Ka, kca, ba, rfl, HQ⟩
            obtain ⟨⟨ta0, hga, hT⟩, hb⟩ := HQ.out
            clear x0 x1 x2 x3 x4
            have HGa := Hid.mk hga
            have HB11 := Hid.mk (below_more HB10.out hb)
            have Ba11v := Hid.mk (heap_low hb (Array.getElem?_eq_some_iff.1 Ba10v.out).1 Ba10v.out)
            have Ba11i := Hid.mk (heap_low hb (Array.getElem?_eq_some_iff.1 Ba10i.out).1 Ba10i.out)
            have Ba11p := Hid.mk (heap_low hb (Array.getElem?_eq_some_iff.1 Ba10p.out).1 Ba10p.out)
            have Ba11g := Hid.mk (heap_low hb (Array.getElem?_eq_some_iff.1 Ba10g.out).1 Ba10g.out)
            have Tr11p := Hid.mk (Tr10p.out.keep hb)
            have Tr11g := Hid.mk (Tr10g.out.keep hb)
            clear HB10 Ba10v Ba10i Ba10p Ba10g Tr10p Tr10g
            have Tr11a := Hid.mk hT
            clear hT hb HQ hga
            go_upto_region 14 with fail
            obtain ⟨W13, hW⟩ : ∃ W, v13.alloc (.cells #[.int .i64 ka, .string na, .string ta, .slice ioa Na ica, .slice koa Ka kca] 25) = W := ⟨_, rfl⟩
            have hbW : Below v13.heap.size v13 W13 := by rw [← hW]; exact below1 _ _
            have hnew : W13.heap[v13.heap.size]? = some (.cells #[.int .i64 ka, .string na, .string ta, .slice ioa Na ica, .slice koa Ka kca] 25 (0, 0)) := by rw [← hW]; exact heap_alloc_new _ _
            rw [hW]
            have HB12 := Hid.mk (below_more HB11.out hbW)
            have Ba12v := Hid.mk (heap_low hbW (Array.getElem?_eq_some_iff.1 Ba11v.out).1 Ba11v.out)
            have Ba12i := Hid.mk (heap_low hbW (Array.getElem?_eq_some_iff.1 Ba11i.out).1 Ba11i.out)
            have Ba12p := Hid.mk (heap_low hbW (Array.getElem?_eq_some_iff.1 Ba11p.out).1 Ba11p.out)
            have Ba12g := Hid.mk (heap_low hbW (Array.getElem?_eq_some_iff.1 Ba11g.out).1 Ba11g.out)
            have Tr12p := Hid.mk (Tr11p.out.keep hbW)
            have Tr12g := Hid.mk (Tr11g.out.keep hbW)
            have Tr12a := Hid.mk (Tr11a.out.keep hbW)
            clear HB11 Ba11v Ba11i Ba11p Ba11g Tr11p Tr11g Tr11a
            have Ba12a := Hid.mk hnew
            clear hW hbW hnew
            have x0 := cell_of_row _ _ 0 _ _ _ Ba12p.out
            have x1 := cell_of_row _ _ 1 _ _ _ Ba12p.out
            have x2 := cell_of_row _ _ 2 _ _ _ Ba12p.out
            have x3 := cell_of_row _ _ 3 _ _ _ Ba12p.out
            have x4 := cell_of_row _ _ 4 _ _ _ Ba12p.out
            go_wp2_with fail
            refine (w_Get_any h 20002 _ SMp.out (by omega) _ name _ Tr12p.out).mono ?_
            rintro e v14 ⟨kb, nb, tb, iob, Nb, icb, kob, Kb, kcb, bb, rfl, HQ⟩
            obtain ⟨⟨tb0, hgb, hT⟩, hb⟩ := HQ.out
            clear x0 x1 x2 x3 x4
            have HGb := Hid.mk hgb
            have HB13 := Hid.mk (below_more HB12.out hb)
            have Ba13v := Hid.mk (heap_low hb (Array.getElem?_eq_some_iff.1 Ba12v.out).1 Ba12v.out)
            have Ba13i := Hid.mk (heap_low hb (Array.getElem?_eq_some_iff.1 Ba12i.out).1 Ba12i.out)
            have Ba13p := Hid.mk (heap_low hb (Array.getElem?_eq_some_iff.1 Ba12p.out).1 Ba12p.out)
            have Ba13g := Hid.mk (heap_low hb (Array.getElem?_eq_some_iff.1 Ba12g.out).1 Ba12g.out)
            have Ba13a := Hid.mk (heap_low hb (Array.getElem?_eq_some_iff.1 Ba12a.out).1 Ba12a.out)
            have Tr13p := Hid.mk (Tr12p.out.keep hb)
            have Tr13g := Hid.mk (Tr12g.out.keep hb)
            have Tr13a := Hid.mk (Tr12a.out.keep hb)
            clear HB12 Ba12v Ba12i Ba12p Ba12g Ba12a Tr12p Tr12g Tr12a
            have Tr13b := Hid.mk hT
            clear hT hb HQ hgb
            go_upto_region 15 with fail
            obtain ⟨W14, hW⟩ : ∃ W, v14.alloc (.cells #[.int .i64 kb, .string nb, .string tb, .slice iob Nb icb, .slice kob Kb kcb] 25) = W := ⟨_, rfl⟩
            have hbW : Below v14.heap.size v14 W14 := by rw [← hW]; exact below1 _ _
            have hnew : W14.heap[v14.heap.size]? = some (.cells #[.int .i64 kb, .string nb, .string tb, .slice iob Nb icb, .slice kob Kb kcb] 25 (0, 0)) := by rw [← hW]; exact heap_alloc_new _ _
            rw [hW]
            have HB14 := Hid.mk (below_more HB13.out hbW)
            have Ba14v := Hid.mk (heap_low hbW (Array.getElem?_eq_some_iff.1 Ba13v.out).1 Ba13v.out)
            have Ba14i := Hid.mk (heap_low hbW (Array.getElem?_eq_some_iff.1 Ba13i.out).1 Ba13i.out)
            have Ba14p := Hid.mk (heap_low hbW (Array.getElem?_eq_some_iff.1 Ba13p.out).1 Ba13p.out)
            have Ba14g := Hid.mk (heap_low hbW (Array.getElem?_eq_some_iff.1 Ba13g.out).1 Ba13g.out)
            have Ba14a := Hid.mk (heap_low hbW (Array.getElem?_eq_some_iff.1 Ba13a.out).1 Ba13a.out)
            have Tr14p := Hid.mk (Tr13p.out.keep hbW)
            have Tr14g := Hid.mk (Tr13g.out.keep hbW)
            have Tr14a := Hid.mk (Tr13a.out.keep hbW)
            have Tr14b := Hid.mk (Tr13b.out.keep hbW)
            clear HB13 Ba13v Ba13i Ba13p Ba13g Ba13a Tr13p Tr13g Tr13a Tr13b
            have Ba14b := Hid.mk hnew
            clear hW hbW hnew
            cases hnk : (name.toList == key.toList) with
            | true =>
              clear HGa HGb
              have x0 := cell_of_row _ _ 0 _ _ _ Ba14p.out
              have x1 := cell_of_row _ _ 1 _ _ _ Ba14p.out
              have x2 := cell_of_row _ _ 2 _ _ _ Ba14p.out
              have x3 := cell_of_row _ _ 3 _ _ _ Ba14p.out
              have x4 := cell_of_row _ _ 4 _ _ _ Ba14p.out
              go_wp2_with fail
              refine (w_Without_ok (h + 1) 20002 _ SMp.out (by omega) _ key _ Tr14p.out).mono ?_
              rintro e v17 ⟨ko, no, to, ioo, No, ico, koo, Ko, kco, rfl, HQ⟩
              obtain ⟨hT, hb⟩ := HQ.out
              clear x0 x1 x2 x3 x4
              have HB15 := Hid.mk (below_more HB14.out hb)
              have Ba15v := Hid.mk (heap_low hb (Array.getElem?_eq_some_iff.1 Ba14v.out).1 Ba14v.out)
              have Ba15i := Hid.mk (heap_low hb (Array.getElem?_eq_some_iff.1 Ba14i.out).1 Ba14i.out)
              have Ba15p := Hid.mk (heap_low hb (Array.getElem?_eq_some_iff.1 Ba14p.out).1 Ba14p.out)
              have Ba15g := Hid.mk (heap_low hb (Array.getElem?_eq_some_iff.1 Ba14g.out).1 Ba14g.out)
              have Ba15a := Hid.mk (heap_low hb (Array.getElem?_eq_some_iff.1 Ba14a.out).1 Ba14a.out)
              have Ba15b := Hid.mk (heap_low hb (Array.getElem?_eq_some_iff.1 Ba14b.out).1 Ba14b.out)
              have Tr15p := Hid.mk (Tr14p.out.keep hb)
              have Tr15g := Hid.mk (Tr14g.out.keep hb)
              have Tr15a := Hid.mk (Tr14a.out.keep hb)
              have Tr15b := Hid.mk (Tr14b.out.keep hb)
              clear HB14 Ba14v Ba14i Ba14p Ba14g Ba14a Ba14b Tr14p Tr14g Tr14a Tr14b
              have Tr15o := Hid.mk hT
              clear hT hb HQ
              go_upto_region 18 with fail
              obtain ⟨W17, hW⟩ : ∃ W, v17.alloc (.cells #[.int .i64 ko, .string no, .string to, .slice ioo No ico, .slice koo Ko kco] 25) = W := ⟨_, rfl⟩
              have hbW : Below v17.heap.size v17 W17 := by rw [← hW]; exact below1 _ _
              have hnew : W17.heap[v17.heap.size]? = some (.cells #[.int .i64 ko, .string no, .string to, .slice ioo No ico, .slice koo Ko kco] 25 (0, 0)) := by rw [← hW]; exact heap_alloc_new _ _
              rw [hW]
              have HB16 := Hid.mk (below_more HB15.out hbW)
              have Ba16v := Hid.mk (heap_low hbW (Array.getElem?_eq_some_iff.1 Ba15v.out).1 Ba15v.out)
              have Ba16i := Hid.mk (heap_low hbW (Array.getElem?_eq_some_iff.1 Ba15i.out).1 Ba15i.out)
              have Ba16p := Hid.mk (heap_low hbW (Array.getElem?_eq_some_iff.1 Ba15p.out).1 Ba15p.out)
              have Ba16g := Hid.mk (heap_low hbW (Array.getElem?_eq_some_iff.1 Ba15g.out).1 Ba15g.out)
              have Ba16a := Hid.mk (heap_low hbW (Array.getElem?_eq_some_iff.1 Ba15a.out).1 Ba15a.out)
              have Ba16b := Hid.mk (heap_low hbW (Array.getElem?_eq_some_iff.1 Ba15b.out).1 Ba15b.out)
              have Tr16p := Hid.mk (Tr15p.out.keep hbW)
              have Tr16g := Hid.mk (Tr15g.out.keep hbW)
              have Tr16a := Hid.mk (Tr15a.out.keep hbW)
              have Tr16b := Hid.mk (Tr15b.out.keep hbW)
              have Tr16o := Hid.mk (Tr15o.out.keep hbW)
              clear HB15 Ba15v Ba15i Ba15p Ba15g Ba15a Ba15b Tr15p Tr15g Tr15a Tr15b Tr15o
              have Ba16o := Hid.mk hnew
              clear hW hbW hnew
              have x0 := cell_of_row _ _ 0 _ _ _ Ba16v.out
              have x1 := cell_of_row _ _ 1 _ _ _ Ba16v.out
              have x2 := cell_of_row _ _ 2 _ _ _ Ba16v.out
              have x3 := cell_of_row _ _ 3 _ _ _ Ba16v.out
              have x4 := cell_of_row _ _ 4 _ _ _ Ba16v.out
              go_wp2_with fail
              refine (w_Without_ok (h + 1) 10000 _ SMv.out (by omega) _ key _ (HTv.out.keep HB16.out)).mono ?_
              rintro e v18 ⟨kc, nc, tc, ioc, Nc, icc, koc, Kc, kcc, rfl, HQ⟩
              obtain ⟨hT, hb⟩ := HQ.out
              clear x0 x1 x2 x3 x4
              have HB17 := Hid.mk (below_more HB16.out hb)
              have Ba17v := Hid.mk (heap_low hb (Array.getElem?_eq_some_iff.1 Ba16v.out).1 Ba16v.out)
              have Ba17i := Hid.mk (heap_low hb (Array.getElem?_eq_some_iff.1 Ba16i.out).1 Ba16i.out)
              have Ba17p := Hid.mk (heap_low hb (Array.getElem?_eq_some_iff.1 Ba16p.out).1 Ba16p.out)
              have Ba17g := Hid.mk (heap_low hb (Array.getElem?_eq_some_iff.1 Ba16g.out).1 Ba16g.out)
              have Ba17a := Hid.mk (heap_low hb (Array.getElem?_eq_some_iff.1 Ba16a.out).1 Ba16a.out)
              have Ba17b := Hid.mk (heap_low hb (Array.getElem?_eq_some_iff.1 Ba16b.out).1 Ba16b.out)
              have Ba17o := Hid.mk (heap_low hb (Array.getElem?_eq_some_iff.1 Ba16o.out).1 Ba16o.out)
              have Tr17p := Hid.mk (Tr16p.out.keep hb)
              have Tr17g := Hid.mk (Tr16g.out.keep hb)
              have Tr17a := Hid.mk (Tr16a.out.keep hb)
              have Tr17b := Hid.mk (Tr16b.out.keep hb)
              have Tr17o := Hid.mk (Tr16o.out.keep hb)
              clear HB16 Ba16v Ba16i Ba16p Ba16g Ba16a Ba16b Ba16o Tr16p Tr16g Tr16a Tr16b Tr16o
              have Tr17c := Hid.mk hT
              clear hT hb HQ
              go_upto_region 19 with fail
              obtain ⟨W18, hW⟩ : ∃ W, v18.alloc (.cells #[.int .i64 kc, .string nc, .string tc, .slice ioc Nc icc, .slice koc Kc kcc] 25) = W := ⟨_, rfl⟩
              have hbW : Below v18.heap.size v18 W18 := by rw [← hW]; exact below1 _ _
              have hnew : W18.heap[v18.heap.size]? = some (.cells #[.int .i64 kc, .string nc, .string tc, .slice ioc Nc icc, .slice koc Kc kcc] 25 (0, 0)) := by rw [← hW]; exact heap_alloc_new _ _
              rw [hW]
              have HB18 := Hid.mk (below_more HB17.out hbW)
              have Ba18v := Hid.mk (heap_low hbW (Array.getElem?_eq_some_iff.1 Ba17v.out).1 Ba17v.out)
              have Ba18i := Hid.mk (heap_low hbW (Array.getElem?_eq_some_iff.1 Ba17i.out).1 Ba17i.out)
              have Ba18p := Hid.mk (heap_low hbW (Array.getElem?_eq_some_iff.1 Ba17p.out).1 Ba17p.out)
              have Ba18g := Hid.mk (heap_low hbW (Array.getElem?_eq_some_iff.1 Ba17g.out).1 Ba17g.out)
              have Ba18a := Hid.mk (heap_low hbW (Array.getElem?_eq_some_iff.1 Ba17a.out).1 Ba17a.out)
              have Ba18b := Hid.mk (heap_low hbW (Array.getElem?_eq_some_iff.1 Ba17b.out).1 Ba17b.out)
              have Ba18o := Hid.mk (heap_low hbW (Array.getElem?_eq_some_iff.1 Ba17o.out).1 Ba17o.out)
              have Tr18p := Hid.mk (Tr17p.out.keep hbW)
              have Tr18g := Hid.mk (Tr17g.out.keep hbW)
              have Tr18a := Hid.mk (Tr17a.out.keep hbW)
              have Tr18b := Hid.mk (Tr17b.out.keep hbW)
              have Tr18o := Hid.mk (Tr17o.out.keep hbW)
              have Tr18c := Hid.mk (Tr17c.out.keep hbW)
              clear HB17 Ba17v Ba17i Ba17p Ba17g Ba17a Ba17b Ba17o Tr17p Tr17g Tr17a Tr17b Tr17o Tr17c
              have Ba18c := Hid.mk hnew
              clear hW hbW hnew
              have x0 := cell_of_row _ _ 0 _ _ _ Ba18o.out
              have x1 := cell_of_row _ _ 1 _ _ _ Ba18o.out
              have x2 := cell_of_row _ _ 2 _ _ _ Ba18o.out
              have x3 := cell_of_row _ _ 3 _ _ _ Ba18o.out
              have x4 := cell_of_row _ _ 4 _ _ _ Ba18o.out
              go_wp2_with fail
              refine (w_Get_none (h + 1) 20002 _ (woT_sm SMp.out key) (by omega) _ key (woT_key SMp.out.obj key) _ Tr18o.out).mono ?_
              rintro e v19 ⟨rfl, hb⟩
              clear x0 x1 x2 x3 x4
              have HB19 := Hid.mk (below_more HB18.out hb)
              have Ba19v := Hid.mk (heap_low hb (Array.getElem?_eq_some_iff.1 Ba18v.out).1 Ba18v.out)
              have Ba19i := Hid.mk (heap_low hb (Array.getElem?_eq_some_iff.1 Ba18i.out).1 Ba18i.out)
              have Ba19p := Hid.mk (heap_low hb (Array.getElem?_eq_some_iff.1 Ba18p.out).1 Ba18p.out)
              have Ba19g := Hid.mk (heap_low hb (Array.getElem?_eq_some_iff.1 Ba18g.out).1 Ba18g.out)
              have Ba19a := Hid.mk (heap_low hb (Array.getElem?_eq_some_iff.1 Ba18a.out).1 Ba18a.out)
              have Ba19b := Hid.mk (heap_low hb (Array.getElem?_eq_some_iff.1 Ba18b.out).1 Ba18b.out)
              have Ba19o := Hid.mk (heap_low hb (Array.getElem?_eq_some_iff.1 Ba18o.out).1 Ba18o.out)
              have Ba19c := Hid.mk (heap_low hb (Array.getElem?_eq_some_iff.1 Ba18c.out).1 Ba18c.out)
              have Tr19p := Hid.mk (Tr18p.out.keep hb)
              have Tr19g := Hid.mk (Tr18g.out.keep hb)
              have Tr19a := Hid.mk (Tr18a.out.keep hb)
              have Tr19b := Hid.mk (Tr18b.out.keep hb)
              have Tr19o := Hid.mk (Tr18o.out.keep hb)
              have Tr19c := Hid.mk (Tr18c.out.keep hb)
              clear HB18 Ba18v Ba18i Ba18p Ba18g Ba18a Ba18b Ba18o Ba18c Tr18p Tr18g Tr18a Tr18b Tr18o Tr18c
              clear hb
              have x0 := cell_of_row _ _ 0 _ _ _ Ba19o.out
              have x1 := cell_of_row _ _ 1 _ _ _ Ba19o.out
              have x2 := cell_of_row _ _ 2 _ _ _ Ba19o.out
              have x3 := cell_of_row _ _ 3 _ _ _ Ba19o.out
              have x4 := cell_of_row _ _ 4 _ _ _ Ba19o.out
              have y0 := cell_of_row _ _ 0 _ _ _ Ba19c.out
              have y1 := cell_of_row _ _ 1 _ _ _ Ba19c.out
              have y2 := cell_of_row _ _ 2 _ _ _ Ba19c.out
              have y3 := cell_of_row _ _ 3 _ _ _ Ba19c.out
              have y4 := cell_of_row _ _ 4 _ _ _ Ba19c.out
              go_upto_region 20 with fail
              clear x0 x1 x2 x3 x4 y0 y1 y2 y3 y4
              obtain ⟨W19, hW⟩ : ∃ W, v19.alloc (.cells #[.int .i64 0, .string ⟨#[]⟩, .string ⟨#[]⟩, .slice none 0 0, .slice none 0 0] 25) = W := ⟨_, rfl⟩
              have hbW : Below v19.heap.size v19 W19 := by rw [← hW]; exact below1 _ _
              (try rw [hW])
              have HB20 := Hid.mk (below_more HB19.out hbW)
              have Ba20v := Hid.mk (heap_low hbW (Array.getElem?_eq_some_iff.1 Ba19v.out).1 Ba19v.out)
              have Ba20i := Hid.mk (heap_low hbW (Array.getElem?_eq_some_iff.1 Ba19i.out).1 Ba19i.out)
              have Ba20p := Hid.mk (heap_low hbW (Array.getElem?_eq_some_iff.1 Ba19p.out).1 Ba19p.out)
              have Ba20g := Hid.mk (heap_low hbW (Array.getElem?_eq_some_iff.1 Ba19g.out).1 Ba19g.out)
              have Ba20a := Hid.mk (heap_low hbW (Array.getElem?_eq_some_iff.1 Ba19a.out).1 Ba19a.out)
              have Ba20b := Hid.mk (heap_low hbW (Array.getElem?_eq_some_iff.1 Ba19b.out).1 Ba19b.out)
              have Ba20o := Hid.mk (heap_low hbW (Array.getElem?_eq_some_iff.1 Ba19o.out).1 Ba19o.out)
              have Ba20c := Hid.mk (heap_low hbW (Array.getElem?_eq_some_iff.1 Ba19c.out).1 Ba19c.out)
              have Tr20p := Hid.mk (Tr19p.out.keep hbW)
              have Tr20g := Hid.mk (Tr19g.out.keep hbW)
              have Tr20a := Hid.mk (Tr19a.out.keep hbW)
              have Tr20b := Hid.mk (Tr19b.out.keep hbW)
              have Tr20o := Hid.mk (Tr19o.out.keep hbW)
              have Tr20c := Hid.mk (Tr19c.out.keep hbW)
              clear HB19 Ba19v Ba19i Ba19p Ba19g Ba19a Ba19b Ba19o Ba19c Tr19p Tr19g Tr19a Tr19b Tr19o Tr19c
              clear hW hbW
              have x0 := cell_of_row _ _ 0 _ _ _ Ba20o.out
              have x1 := cell_of_row _ _ 1 _ _ _ Ba20o.out
              have x2 := cell_of_row _ _ 2 _ _ _ Ba20o.out
              have x3 := cell_of_row _ _ 3 _ _ _ Ba20o.out
              have x4 := cell_of_row _ _ 4 _ _ _ Ba20o.out
              have y0 := cell_of_row _ _ 0 _ _ _ Ba20c.out
              have y1 := cell_of_row _ _ 1 _ _ _ Ba20c.out
              have y2 := cell_of_row _ _ 2 _ _ _ Ba20c.out
              have y3 := cell_of_row _ _ 3 _ _ _ Ba20c.out
              have y4 := cell_of_row _ _ 4 _ _ _ Ba20c.out
              go_wp2_with fail
              refine (w_LikeO (woT_mg SMv.out.obj SMf.out.obj) _ _ _ Tr20o.out Tr20c.out).mono ?_
              rintro e z9 ⟨rfl, hb⟩
              clear x0 x1 x2 x3 x4 y0 y1 y2 y3 y4
              have HB21 := Hid.mk (below_more HB20.out hb)
              have Ba21v := Hid.mk (heap_low hb (Array.getElem?_eq_some_iff.1 Ba20v.out).1 Ba20v.out)
              have Ba21i := Hid.mk (heap_low hb (Array.getElem?_eq_some_iff.1 Ba20i.out).1 Ba20i.out)
              have Ba21p := Hid.mk (heap_low hb (Array.getElem?_eq_some_iff.1 Ba20p.out).1 Ba20p.out)
              have Ba21g := Hid.mk (heap_low hb (Array.getElem?_eq_some_iff.1 Ba20g.out).1 Ba20g.out)
              have Ba21a := Hid.mk (heap_low hb (Array.getElem?_eq_some_iff.1 Ba20a.out).1 Ba20a.out)
              have Ba21b := Hid.mk (heap_low hb (Array.getElem?_eq_some_iff.1 Ba20b.out).1 Ba20b.out)
              have Ba21o := Hid.mk (heap_low hb (Array.getElem?_eq_some_iff.1 Ba20o.out).1 Ba20o.out)
              have Ba21c := Hid.mk (heap_low hb (Array.getElem?_eq_some_iff.1 Ba20c.out).1 Ba20c.out)
              have Tr21p := Hid.mk (Tr20p.out.keep hb)
              have Tr21g := Hid.mk (Tr20g.out.keep hb)
              have Tr21a := Hid.mk (Tr20a.out.keep hb)
              have Tr21b := Hid.mk (Tr20b.out.keep hb)
              have Tr21o := Hid.mk (Tr20o.out.keep hb)
              have Tr21c := Hid.mk (Tr20c.out.keep hb)
              clear HB20 Ba20v Ba20i Ba20p Ba20g Ba20a Ba20b Ba20o Ba20c Tr20p Tr20g Tr20a Tr20b Tr20o Tr20c
              clear hb
              go_wp2_with fail
              go_ret
              exact ⟨rfl, HB21.out⟩
            | false =>
              obtain ⟨hbb, htt⟩ := gt_same SMv.out.obj SMf.out.obj (beq_no hnk) HGa.out HGb.out
              subst hbb htt
              clear HGa HGb
              cases ba with
              | false =>
                have x0 := cell_of_row _ _ 0 _ _ _ Ba14a.out
                have x1 := cell_of_row _ _ 1 _ _ _ Ba14a.out
                have x2 := cell_of_row _ _ 2 _ _ _ Ba14a.out
                have x3 := cell_of_row _ _ 3 _ _ _ Ba14a.out
                have x4 := cell_of_row _ _ 4 _ _ _ Ba14a.out
                have y0 := cell_of_row _ _ 0 _ _ _ Ba14b.out
                have y1 := cell_of_row _ _ 1 _ _ _ Ba14b.out
                have y2 := cell_of_row _ _ 2 _ _ _ Ba14b.out
                have y3 := cell_of_row _ _ 3 _ _ _ Ba14b.out
                have y4 := cell_of_row _ _ 4 _ _ _ Ba14b.out
                go_wp2_with fail
                refine (w_LikeO rfl _ _ _ Tr14a.out Tr14b.out).mono ?_
                rintro e z4 ⟨rfl, hb⟩
                clear x0 x1 x2 x3 x4 y0 y1 y2 y3 y4
                have HB15 := Hid.mk (below_more HB14.out hb)
                have Ba15v := Hid.mk (heap_low hb (Array.getElem?_eq_some_iff.1 Ba14v.out).1 Ba14v.out)
                have Ba15i := Hid.mk (heap_low hb (Array.getElem?_eq_some_iff.1 Ba14i.out).1 Ba14i.out)
                have Ba15p := Hid.mk (heap_low hb (Array.getElem?_eq_some_iff.1 Ba14p.out).1 Ba14p.out)
                have Ba15g := Hid.mk (heap_low hb (Array.getElem?_eq_some_iff.1 Ba14g.out).1 Ba14g.out)
                have Ba15a := Hid.mk (heap_low hb (Array.getElem?_eq_some_iff.1 Ba14a.out).1 Ba14a.out)
                have Ba15b := Hid.mk (heap_low hb (Array.getElem?_eq_some_iff.1 Ba14b.out).1 Ba14b.out)
                have Tr15p := Hid.mk (Tr14p.out.keep hb)
                have Tr15g := Hid.mk (Tr14g.out.keep hb)
                have Tr15a := Hid.mk (Tr14a.out.keep hb)
                have Tr15b := Hid.mk (Tr14b.out.keep hb)
                clear HB14 Ba14v Ba14i Ba14p Ba14g Ba14a Ba14b Tr14p Tr14g Tr14a Tr14b
                clear hb
                have x0 := cell_of_row _ _ 0 _ _ _ Ba15p.out
                have x1 := cell_of_row _ _ 1 _ _ _ Ba15p.out
                have x2 := cell_of_row _ _ 2 _ _ _ Ba15p.out
                have x3 := cell_of_row _ _ 3 _ _ _ Ba15p.out
                have x4 := cell_of_row _ _ 4 _ _ _ Ba15p.out
                go_wp2_with fail
                refine (w_Without_ok (h + 1) 20002 _ SMp.out (by omega) _ key _ Tr15p.out).mono ?_
                rintro e v17 ⟨ko, no, to, ioo, No, ico, koo, Ko, kco, rfl, HQ⟩
                obtain ⟨hT, hb⟩ := HQ.out
                clear x0 x1 x2 x3 x4
                have HB16 := Hid.mk (below_more HB15.out hb)
                have Ba16v := Hid.mk (heap_low hb (Array.getElem?_eq_some_iff.1 Ba15v.out).1 Ba15v.out)
                have Ba16i := Hid.mk (heap_low hb (Array.getElem?_eq_some_iff.1 Ba15i.out).1 Ba15i.out)
                have Ba16p := Hid.mk (heap_low hb (Array.getElem?_eq_some_iff.1 Ba15p.out).1 Ba15p.out)
                have Ba16g := Hid.mk (heap_low hb (Array.getElem?_eq_some_iff.1 Ba15g.out).1 Ba15g.out)
                have Ba16a := Hid.mk (heap_low hb (Array.getElem?_eq_some_iff.1 Ba15a.out).1 Ba15a.out)
                have Ba16b := Hid.mk (heap_low hb (Array.getElem?_eq_some_iff.1 Ba15b.out).1 Ba15b.out)
                have Tr16p := Hid.mk (Tr15p.out.keep hb)
                have Tr16g := Hid.mk (Tr15g.out.keep hb)
                have Tr16a := Hid.mk (Tr15a.out.keep hb)
                have Tr16b := Hid.mk (Tr15b.out.keep hb)
                clear HB15 Ba15v Ba15i Ba15p Ba15g Ba15a Ba15b Tr15p Tr15g Tr15a Tr15b
                have Tr16o := Hid.mk hT
                clear hT hb HQ
                go_upto_region 18 with fail
                obtain ⟨W17, hW⟩ : ∃ W, v17.alloc (.cells #[.int .i64 ko, .string no, .string to, .slice ioo No ico, .slice koo Ko kco] 25) = W := ⟨_, rfl⟩
                have hbW : Below v17.heap.size v17 W17 := by rw [← hW]; exact below1 _ _
                have hnew : W17.heap[v17.heap.size]? = some (.cells #[.int .i64 ko, .string no, .string to, .slice ioo No ico, .slice koo Ko kco] 25 (0, 0)) := by rw [← hW]; exact heap_alloc_new _ _
                rw [hW]
                have HB17 := Hid.mk (below_more HB16.out hbW)
                have Ba17v := Hid.mk (heap_low hbW (Array.getElem?_eq_some_iff.1 Ba16v.out).1 Ba16v.out)
                have Ba17i := Hid.mk (heap_low hbW (Array.getElem?_eq_some_iff.1 Ba16i.out).1 Ba16i.out)
                have Ba17p := Hid.mk (heap_low hbW (Array.getElem?_eq_some_iff.1 Ba16p.out).1 Ba16p.out)
                have Ba17g := Hid.mk (heap_low hbW (Array.getElem?_eq_some_iff.1 Ba16g.out).1 Ba16g.out)
                have Ba17a := Hid.mk (heap_low hbW (Array.getElem?_eq_some_iff.1 Ba16a.out).1 Ba16a.out)
                have Ba17b := Hid.mk (heap_low hbW (Array.getElem?_eq_some_iff.1 Ba16b.out).1 Ba16b.out)
                have Tr17p := Hid.mk (Tr16p.out.keep hbW)
                have Tr17g := Hid.mk (Tr16g.out.keep hbW)
                have Tr17a := Hid.mk (Tr16a.out.keep hbW)
                have Tr17b := Hid.mk (Tr16b.out.keep hbW)
                have Tr17o := Hid.mk (Tr16o.out.keep hbW)
                clear HB16 Ba16v Ba16i Ba16p Ba16g Ba16a Ba16b Tr16p Tr16g Tr16a Tr16b Tr16o
                have Ba17o := Hid.mk hnew
                clear hW hbW hnew
                have x0 := cell_of_row _ _ 0 _ _ _ Ba17v.out
                have x1 := cell_of_row _ _ 1 _ _ _ Ba17v.out
                have x2 := cell_of_row _ _ 2 _ _ _ Ba17v.out
                have x3 := cell_of_row _ _ 3 _ _ _ Ba17v.out
                have x4 := cell_of_row _ _ 4 _ _ _ Ba17v.out
                go_wp2_with fail
                refine (w_Without_ok (h + 1) 10000 _ SMv.out (by omega) _ key _ (HTv.out.keep HB17.out)).mono ?_
                rintro e v18 ⟨kc, nc, tc, ioc, Nc, icc, koc, Kc, kcc, rfl, HQ⟩
                obtain ⟨hT, hb⟩ := HQ.out
                clear x0 x1 x2 x3 x4
                have HB18 := Hid.mk (below_more HB17.out hb)
                have Ba18v := Hid.mk (heap_low hb (Array.getElem?_eq_some_iff.1 Ba17v.out).1 Ba17v.out)
                have Ba18i := Hid.mk (heap_low hb (Array.getElem?_eq_some_iff.1 Ba17i.out).1 Ba17i.out)
                have Ba18p := Hid.mk (heap_low hb (Array.getElem?_eq_some_iff.1 Ba17p.out).1 Ba17p.out)
                have Ba18g := Hid.mk (heap_low hb (Array.getElem?_eq_some_iff.1 Ba17g.out).1 Ba17g.out)
                have Ba18a := Hid.mk (heap_low hb (Array.getElem?_eq_some_iff.1 Ba17a.out).1 Ba17a.out)
                have Ba18b := Hid.mk (heap_low hb (Array.getElem?_eq_some_iff.1 Ba17b.out).1 Ba17b.out)
                have Ba18o := Hid.mk (heap_low hb (Array.getElem?_eq_some_iff.1 Ba17o.out).1 Ba17o.out)
                have Tr18p := Hid.mk (Tr17p.out.keep hb)
                have Tr18g := Hid.mk (Tr17g.out.keep hb)
                have Tr18a := Hid.mk (Tr17a.out.keep hb)
                have Tr18b := Hid.mk (Tr17b.out.keep hb)
                have Tr18o := Hid.mk (Tr17o.out.keep hb)
                clear HB17 Ba17v Ba17i Ba17p Ba17g Ba17a Ba17b Ba17o Tr17p Tr17g Tr17a Tr17b Tr17o
                have Tr18c := Hid.mk hT
                clear hT hb HQ
                go_upto_region 19 with fail
                obtain ⟨W18, hW⟩ : ∃ W, v18.alloc (.cells #[.int .i64 kc, .string nc, .string tc, .slice ioc Nc icc, .slice koc Kc kcc] 25) = W := ⟨_, rfl⟩
                have hbW : Below v18.heap.size v18 W18 := by rw [← hW]; exact below1 _ _
                have hnew : W18.heap[v18.heap.size]? = some (.cells #[.int .i64 kc, .string nc, .string tc, .slice ioc Nc icc, .slice koc Kc kcc] 25 (0, 0)) := by rw [← hW]; exact heap_alloc_new _ _
                rw [hW]
                have HB19 := Hid.mk (below_more HB18.out hbW)
                have Ba19v := Hid.mk (heap_low hbW (Array.getElem?_eq_some_iff.1 Ba18v.out).1 Ba18v.out)
                have Ba19i := Hid.mk (heap_low hbW (Array.getElem?_eq_some_iff.1 Ba18i.out).1 Ba18i.out)
                have Ba19p := Hid.mk (heap_low hbW (Array.getElem?_eq_some_iff.1 Ba18p.out).1 Ba18p.out)
                have Ba19g := Hid.mk (heap_low hbW (Array.getElem?_eq_some_iff.1 Ba18g.out).1 Ba18g.out)
                have Ba19a := Hid.mk (heap_low hbW (Array.getElem?_eq_some_iff.1 Ba18a.out).1 Ba18a.out)
                have Ba19b := Hid.mk (heap_low hbW (Array.getElem?_eq_some_iff.1 Ba18b.out).1 Ba18b.out)
                have Ba19o := Hid.mk (heap_low hbW (Array.getElem?_eq_some_iff.1 Ba18o.out).1 Ba18o.out)
                have Tr19p := Hid.mk (Tr18p.out.keep hbW)
                have Tr19g := Hid.mk (Tr18g.out.keep hbW)
                have Tr19a := Hid.mk (Tr18a.out.keep hbW)
                have Tr19b := Hid.mk (Tr18b.out.keep hbW)
                have Tr19o := Hid.mk (Tr18o.out.keep hbW)
                have Tr19c := Hid.mk (Tr18c.out.keep hbW)
                clear HB18 Ba18v Ba18i Ba18p Ba18g Ba18a Ba18b Ba18o Tr18p Tr18g Tr18a Tr18b Tr18o Tr18c
                have Ba19c := Hid.mk hnew
                clear hW hbW hnew
                have x0 := cell_of_row _ _ 0 _ _ _ Ba19o.out
                have x1 := cell_of_row _ _ 1 _ _ _ Ba19o.out
                have x2 := cell_of_row _ _ 2 _ _ _ Ba19o.out
                have x3 := cell_of_row _ _ 3 _ _ _ Ba19o.out
                have x4 := cell_of_row _ _ 4 _ _ _ Ba19o.out
                go_wp2_with fail
                refine (w_Get_none (h + 1) 20002 _ (woT_sm SMp.out key) (by omega) _ key (woT_key SMp.out.obj key) _ Tr19o.out).mono ?_
                rintro e v19 ⟨rfl, hb⟩
                clear x0 x1 x2 x3 x4
                have HB20 := Hid.mk (below_more HB19.out hb)
                have Ba20v := Hid.mk (heap_low hb (Array.getElem?_eq_some_iff.1 Ba19v.out).1 Ba19v.out)
                have Ba20i := Hid.mk (heap_low hb (Array.getElem?_eq_some_iff.1 Ba19i.out).1 Ba19i.out)
                have Ba20p := Hid.mk (heap_low hb (Array.getElem?_eq_some_iff.1 Ba19p.out).1 Ba19p.out)
                have Ba20g := Hid.mk (heap_low hb (Array.getElem?_eq_some_iff.1 Ba19g.out).1 Ba19g.out)
                have Ba20a := Hid.mk (heap_low hb (Array.getElem?_eq_some_iff.1 Ba19a.out).1 Ba19a.out)
                have Ba20b := Hid.mk (heap_low hb (Array.getElem?_eq_some_iff.1 Ba19b.out).1 Ba19b.out)
                have Ba20o := Hid.mk (heap_low hb (Array.getElem?_eq_some_iff.1 Ba19o.out).1 Ba19o.out)
                have Ba20c := Hid.mk (heap_low hb (Array.getElem?_eq_some_iff.1 Ba19c.out).1 Ba19c.out)
                have Tr20p := Hid.mk (Tr19p.out.keep hb)
                have Tr20g := Hid.mk (Tr19g.out.keep hb)
                have Tr20a := Hid.mk (Tr19a.out.keep hb)
                have Tr20b := Hid.mk (Tr19b.out.keep hb)
                have Tr20o := Hid.mk (Tr19o.out.keep hb)
                have Tr20c := Hid.mk (Tr19c.out.keep hb)
                clear HB19 Ba19v Ba19i Ba19p Ba19g Ba19a Ba19b Ba19o Ba19c Tr19p Tr19g Tr19a Tr19b Tr19o Tr19c
                clear hb
                have x0 := cell_of_row _ _ 0 _ _ _ Ba20o.out
                have x1 := cell_of_row _ _ 1 _ _ _ Ba20o.out
                have x2 := cell_of_row _ _ 2 _ _ _ Ba20o.out
                have x3 := cell_of_row _ _ 3 _ _ _ Ba20o.out
                have x4 := cell_of_row _ _ 4 _ _ _ Ba20o.out
                have y0 := cell_of_row _ _ 0 _ _ _ Ba20c.out
                have y1 := cell_of_row _ _ 1 _ _ _ Ba20c.out
                have y2 := cell_of_row _ _ 2 _ _ _ Ba20c.out
                have y3 := cell_of_row _ _ 3 _ _ _ Ba20c.out
                have y4 := cell_of_row _ _ 4 _ _ _ Ba20c.out
                go_upto_region 20 with fail
                clear x0 x1 x2 x3 x4 y0 y1 y2 y3 y4
                obtain ⟨W19, hW⟩ : ∃ W, v19.alloc (.cells #[.int .i64 0, .string ⟨#[]⟩, .string ⟨#[]⟩, .slice none 0 0, .slice none 0 0] 25) = W := ⟨_, rfl⟩
                have hbW : Below v19.heap.size v19 W19 := by rw [← hW]; exact below1 _ _
                (try rw [hW])
                have HB21 := Hid.mk (below_more HB20.out hbW)
                have Ba21v := Hid.mk (heap_low hbW (Array.getElem?_eq_some_iff.1 Ba20v.out).1 Ba20v.out)
                have Ba21i := Hid.mk (heap_low hbW (Array.getElem?_eq_some_iff.1 Ba20i.out).1 Ba20i.out)
                have Ba21p := Hid.mk (heap_low hbW (Array.getElem?_eq_some_iff.1 Ba20p.out).1 Ba20p.out)
                have Ba21g := Hid.mk (heap_low hbW (Array.getElem?_eq_some_iff.1 Ba20g.out).1 Ba20g.out)
                have Ba21a := Hid.mk (heap_low hbW (Array.getElem?_eq_some_iff.1 Ba20a.out).1 Ba20a.out)
                have Ba21b := Hid.mk (heap_low hbW (Array.getElem?_eq_some_iff.1 Ba20b.out).1 Ba20b.out)
                have Ba21o := Hid.mk (heap_low hbW (Array.getElem?_eq_some_iff.1 Ba20o.out).1 Ba20o.out)
                have Ba21c := Hid.mk (heap_low hbW (Array.getElem?_eq_some_iff.1 Ba20c.out).1 Ba20c.out)
                have Tr21p := Hid.mk (Tr20p.out.keep hbW)
                have Tr21g := Hid.mk (Tr20g.out.keep hbW)
                have Tr21a := Hid.mk (Tr20a.out.keep hbW)
                have Tr21b := Hid.mk (Tr20b.out.keep hbW)
                have Tr21o := Hid.mk (Tr20o.out.keep hbW)
                have Tr21c := Hid.mk (Tr20c.out.keep hbW)
                clear HB20 Ba20v Ba20i Ba20p Ba20g Ba20a Ba20b Ba20o Ba20c Tr20p Tr20g Tr20a Tr20b Tr20o Tr20c
                clear hW hbW
                have x0 := cell_of_row _ _ 0 _ _ _ Ba21o.out
                have x1 := cell_of_row _ _ 1 _ _ _ Ba21o.out
                have x2 := cell_of_row _ _ 2 _ _ _ Ba21o.out
                have x3 := cell_of_row _ _ 3 _ _ _ Ba21o.out
                have x4 := cell_of_row _ _ 4 _ _ _ Ba21o.out
                have y0 := cell_of_row _ _ 0 _ _ _ Ba21c.out
                have y1 := cell_of_row _ _ 1 _ _ _ Ba21c.out
                have y2 := cell_of_row _ _ 2 _ _ _ Ba21c.out
                have y3 := cell_of_row _ _ 3 _ _ _ Ba21c.out
                have y4 := cell_of_row _ _ 4 _ _ _ Ba21c.out
                go_wp2_with fail
                refine (w_LikeO (woT_mg SMv.out.obj SMf.out.obj) _ _ _ Tr21o.out Tr21c.out).mono ?_
                rintro e z9 ⟨rfl, hb⟩
                clear x0 x1 x2 x3 x4 y0 y1 y2 y3 y4
                have HB22 := Hid.mk (below_more HB21.out hb)
                have Ba22v := Hid.mk (heap_low hb (Array.getElem?_eq_some_iff.1 Ba21v.out).1 Ba21v.out)
                have Ba22i := Hid.mk (heap_low hb (Array.getElem?_eq_some_iff.1 Ba21i.out).1 Ba21i.out)
                have Ba22p := Hid.mk (heap_low hb (Array.getElem?_eq_some_iff.1 Ba21p.out).1 Ba21p.out)
                have Ba22g := Hid.mk (heap_low hb (Array.getElem?_eq_some_iff.1 Ba21g.out).1 Ba21g.out)
                have Ba22a := Hid.mk (heap_low hb (Array.getElem?_eq_some_iff.1 Ba21a.out).1 Ba21a.out)
                have Ba22b := Hid.mk (heap_low hb (Array.getElem?_eq_some_iff.1 Ba21b.out).1 Ba21b.out)
                have Ba22o := Hid.mk (heap_low hb (Array.getElem?_eq_some_iff.1 Ba21o.out).1 Ba21o.out)
                have Ba22c := Hid.mk (heap_low hb (Array.getElem?_eq_some_iff.1 Ba21c.out).1 Ba21c.out)
                have Tr22p := Hid.mk (Tr21p.out.keep hb)
                have Tr22g := Hid.mk (Tr21g.out.keep hb)
                have Tr22a := Hid.mk (Tr21a.out.keep hb)
                have Tr22b := Hid.mk (Tr21b.out.keep hb)
                have Tr22o := Hid.mk (Tr21o.out.keep hb)
                have Tr22c := Hid.mk (Tr21c.out.keep hb)
                clear HB21 Ba21v Ba21i Ba21p Ba21g Ba21a Ba21b Ba21o Ba21c Tr21p Tr21g Tr21a Tr21b Tr21o Tr21c
                clear hb
                go_wp2_with fail
                go_ret
                exact ⟨rfl, HB22.out⟩
              | true =>
                have x0 := cell_of_row _ _ 0 _ _ _ Ba14a.out
                have x1 := cell_of_row _ _ 1 _ _ _ Ba14a.out
                have x2 := cell_of_row _ _ 2 _ _ _ Ba14a.out
                have x3 := cell_of_row _ _ 3 _ _ _ Ba14a.out
                have x4 := cell_of_row _ _ 4 _ _ _ Ba14a.out
                have y0 := cell_of_row _ _ 0 _ _ _ Ba14b.out
                have y1 := cell_of_row _ _ 1 _ _ _ Ba14b.out
                have y2 := cell_of_row _ _ 2 _ _ _ Ba14b.out
                have y3 := cell_of_row _ _ 3 _ _ _ Ba14b.out
                have y4 := cell_of_row _ _ 4 _ _ _ Ba14b.out
                go_wp2_with fail
                refine (w_LikeO rfl _ _ _ Tr14a.out Tr14b.out).mono ?_
                rintro e z4 ⟨rfl, hb⟩
                clear x0 x1 x2 x3 x4 y0 y1 y2 y3 y4
                have HB15 := Hid.mk (below_more HB14.out hb)
                have Ba15v := Hid.mk (heap_low hb (Array.getElem?_eq_some_iff.1 Ba14v.out).1 Ba14v.out)
                have Ba15i := Hid.mk (heap_low hb (Array.getElem?_eq_some_iff.1 Ba14i.out).1 Ba14i.out)
                have Ba15p := Hid.mk (heap_low hb (Array.getElem?_eq_some_iff.1 Ba14p.out).1 Ba14p.out)
                have Ba15g := Hid.mk (heap_low hb (Array.getElem?_eq_some_iff.1 Ba14g.out).1 Ba14g.out)
                have Ba15a := Hid.mk (heap_low hb (Array.getElem?_eq_some_iff.1 Ba14a.out).1 Ba14a.out)
                have Ba15b := Hid.mk (heap_low hb (Array.getElem?_eq_some_iff.1 Ba14b.out).1 Ba14b.out)
                have Tr15p := Hid.mk (Tr14p.out.keep hb)
                have Tr15g := Hid.mk (Tr14g.out.keep hb)
                have Tr15a := Hid.mk (Tr14a.out.keep hb)
                have Tr15b := Hid.mk (Tr14b.out.keep hb)
                clear HB14 Ba14v Ba14i Ba14p Ba14g Ba14a Ba14b Tr14p Tr14g Tr14a Tr14b
                clear hb
                have x0 := cell_of_row _ _ 0 _ _ _ Ba15p.out
                have x1 := cell_of_row _ _ 1 _ _ _ Ba15p.out
                have x2 := cell_of_row _ _ 2 _ _ _ Ba15p.out
                have x3 := cell_of_row _ _ 3 _ _ _ Ba15p.out
                have x4 := cell_of_row _ _ 4 _ _ _ Ba15p.out
                go_wp2_with fail
                refine (w_Without_ok (h + 1) 20002 _ SMp.out (by omega) _ key _ Tr15p.out).mono ?_
                rintro e v17 ⟨ko, no, to, ioo, No, ico, koo, Ko, kco, rfl, HQ⟩
                obtain ⟨hT, hb⟩ := HQ.out
                clear x0 x1 x2 x3 x4
                have HB16 := Hid.mk (below_more HB15.out hb)
                have Ba16v := Hid.mk (heap_low hb (Array.getElem?_eq_some_iff.1 Ba15v.out).1 Ba15v.out)
                have Ba16i := Hid.mk (heap_low hb (Array.getElem?_eq_some_iff.1 Ba15i.out).1 Ba15i.out)
                have Ba16p := Hid.mk (heap_low hb (Array.getElem?_eq_some_iff.1 Ba15p.out).1 Ba15p.out)
                have Ba16g := Hid.mk (heap_low hb (Array.getElem?_eq_some_iff.1 Ba15g.out).1 Ba15g.out)
                have Ba16a := Hid.mk (heap_low hb (Array.getElem?_eq_some_iff.1 Ba15a.out).1 Ba15a.out)
                have Ba16b := Hid.mk (heap_low hb (Array.getElem?_eq_some_iff.1 Ba15b.out).1 Ba15b.out)
                have Tr16p := Hid.mk (Tr15p.out.keep hb)
                have Tr16g := Hid.mk (Tr15g.out.keep hb)
                have Tr16a := Hid.mk (Tr15a.out.keep hb)
                have Tr16b := Hid.mk (Tr15b.out.keep hb)
                clear HB15 Ba15v Ba15i Ba15p Ba15g Ba15a Ba15b Tr15p Tr15g Tr15a Tr15b
                have Tr16o := Hid.mk hT
                clear hT hb HQ
                go_upto_region 18 with fail
                obtain ⟨W17, hW⟩ : ∃ W, v17.alloc (.cells #[.int .i64 ko, .string no, .string to, .slice ioo No ico, .slice koo Ko kco] 25) = W := ⟨_, rfl⟩
                have hbW : Below v17.heap.size v17 W17 := by rw [← hW]; exact below1 _ _
                have hnew : W17.heap[v17.heap.size]? = some (.cells #[.int .i64 ko, .string no, .string to, .slice ioo No ico, .slice koo Ko kco] 25 (0, 0)) := by rw [← hW]; exact heap_alloc_new _ _
                rw [hW]
                have HB17 := Hid.mk (below_more HB16.out hbW)
                have Ba17v := Hid.mk (heap_low hbW (Array.getElem?_eq_some_iff.1 Ba16v.out).1 Ba16v.out)
                have Ba17i := Hid.mk (heap_low hbW (Array.getElem?_eq_some_iff.1 Ba16i.out).1 Ba16i.out)
                have Ba17p := Hid.mk (heap_low hbW (Array.getElem?_eq_some_iff.1 Ba16p.out).1 Ba16p.out)
                have Ba17g := Hid.mk (heap_low hbW (Array.getElem?_eq_some_iff.1 Ba16g.out).1 Ba16g.out)
                have Ba17a := Hid.mk (heap_low hbW (Array.getElem?_eq_some_iff.1 Ba16a.out).1 Ba16a.out)
                have Ba17b := Hid.mk (heap_low hbW (Array.getElem?_eq_some_iff.1 Ba16b.out).1 Ba16b.out)
                have Tr17p := Hid.mk (Tr16p.out.keep hbW)
                have Tr17g := Hid.mk (Tr16g.out.keep hbW)
                have Tr17a := Hid.mk (Tr16a.out.keep hbW)
                have Tr17b := Hid.mk (Tr16b.out.keep hbW)
                have Tr17o := Hid.mk (Tr16o.out.keep hbW)
                clear HB16 Ba16v Ba16i Ba16p Ba16g Ba16a Ba16b Tr16p Tr16g Tr16a Tr16b Tr16o
                have Ba17o := Hid.mk hnew
                clear hW hbW hnew
                have x0 := cell_of_row _ _ 0 _ _ _ Ba17v.out
                have x1 := cell_of_row _ _ 1 _ _ _ Ba17v.out
                have x2 := cell_of_row _ _ 2 _ _ _ Ba17v.out
                have x3 := cell_of_row _ _ 3 _ _ _ Ba17v.out
                have x4 := cell_of_row _ _ 4 _ _ _ Ba17v.out
                go_wp2_with fail
                refine (w_Without_ok (h + 1) 10000 _ SMv.out (by omega) _ key _ (HTv.out.keep HB17.out)).mono ?_
                rintro e v18 ⟨kc, nc, tc, ioc, Nc, icc, koc, Kc, kcc, rfl, HQ⟩
                obtain ⟨hT, hb⟩ := HQ.out
                clear x0 x1 x2 x3 x4
                have HB18 := Hid.mk (below_more HB17.out hb)
                have Ba18v := Hid.mk (heap_low hb (Array.getElem?_eq_some_iff.1 Ba17v.out).1 Ba17v.out)
                have Ba18i := Hid.mk (heap_low hb (Array.getElem?_eq_some_iff.1 Ba17i.out).1 Ba17i.out)
                have Ba18p := Hid.mk (heap_low hb (Array.getElem?_eq_some_iff.1 Ba17p.out).1 Ba17p.out)
                have Ba18g := Hid.mk (heap_low hb (Array.getElem?_eq_some_iff.1 Ba17g.out).1 Ba17g.out)
                have Ba18a := Hid.mk (heap_low hb (Array.getElem?_eq_some_iff.1 Ba17a.out).1 Ba17a.out)
                have Ba18b := Hid.mk (heap_low hb (Array.getElem?_eq_some_iff.1 Ba17b.out).1 Ba17b.out)
                have Ba18o := Hid.mk (heap_low hb (Array.getElem?_eq_some_iff.1 Ba17o.out).1 Ba17o.out)
                have Tr18p := Hid.mk (Tr17p.out.keep hb)
                have Tr18g := Hid.mk (Tr17g.out.keep hb)
                have Tr18a := Hid.mk (Tr17a.out.keep hb)
                have Tr18b := Hid.mk (Tr17b.out.keep hb)
                have Tr18o := Hid.mk (Tr17o.out.keep hb)
                clear HB17 Ba17v Ba17i Ba17p Ba17g Ba17a Ba17b Ba17o Tr17p Tr17g Tr17a Tr17b Tr17o
                have Tr18c := Hid.mk hT
                clear hT hb HQ
                go_upto_region 19 with fail
                obtain ⟨W18, hW⟩ : ∃ W, v18.alloc (.cells #[.int .i64 kc, .string nc, .string tc, .slice ioc Nc icc, .slice koc Kc kcc] 25) = W := ⟨_, rfl⟩
                have hbW : Below v18.heap.size v18 W18 := by rw [← hW]; exact below1 _ _
                have hnew : W18.heap[v18.heap.size]? = some (.cells #[.int .i64 kc, .string nc, .string tc, .slice ioc Nc icc, .slice koc Kc kcc] 25 (0, 0)) := by rw [← hW]; exact heap_alloc_new _ _
                rw [hW]
                have HB19 := Hid.mk (below_more HB18.out hbW)
                have Ba19v := Hid.mk (heap_low hbW (Array.getElem?_eq_some_iff.1 Ba18v.out).1 Ba18v.out)
                have Ba19i := Hid.mk (heap_low hbW (Array.getElem?_eq_some_iff.1 Ba18i.out).1 Ba18i.out)
                have Ba19p := Hid.mk (heap_low hbW (Array.getElem?_eq_some_iff.1 Ba18p.out).1 Ba18p.out)
                have Ba19g := Hid.mk (heap_low hbW (Array.getElem?_eq_some_iff.1 Ba18g.out).1 Ba18g.out)
                have Ba19a := Hid.mk (heap_low hbW (Array.getElem?_eq_some_iff.1 Ba18a.out).1 Ba18a.out)
                have Ba19b := Hid.mk (heap_low hbW (Array.getElem?_eq_some_iff.1 Ba18b.out).1 Ba18b.out)
                have Ba19o := Hid.mk (heap_low hbW (Array.getElem?_eq_some_iff.1 Ba18o.out).1 Ba18o.out)
                have Tr19p := Hid.mk (Tr18p.out.keep hbW)
                have Tr19g := Hid.mk (Tr18g.out.keep hbW)
                have Tr19a := Hid.mk (Tr18a.out.keep hbW)
                have Tr19b := Hid.mk (Tr18b.out.keep hbW)
                have Tr19o := Hid.mk (Tr18o.out.keep hbW)
                have Tr19c := Hid.mk (Tr18c.out.keep hbW)
                clear HB18 Ba18v Ba18i Ba18p Ba18g Ba18a Ba18b Ba18o Tr18p Tr18g Tr18a Tr18b Tr18o Tr18c
                have Ba19c := Hid.mk hnew
                clear hW hbW hnew
                have x0 := cell_of_row _ _ 0 _ _ _ Ba19o.out
                have x1 := cell_of_row _ _ 1 _ _ _ Ba19o.out
                have x2 := cell_of_row _ _ 2 _ _ _ Ba19o.out
                have x3 := cell_of_row _ _ 3 _ _ _ Ba19o.out
                have x4 := cell_of_row _ _ 4 _ _ _ Ba19o.out
                go_wp2_with fail
                refine (w_Get_none (h + 1) 20002 _ (woT_sm SMp.out key) (by omega) _ key (woT_key SMp.out.obj key) _ Tr19o.out).mono ?_
                rintro e v19 ⟨rfl, hb⟩
                clear x0 x1 x2 x3 x4
                have HB20 := Hid.mk (below_more HB19.out hb)
                have Ba20v := Hid.mk (heap_low hb (Array.getElem?_eq_some_iff.1 Ba19v.out).1 Ba19v.out)
                have Ba20i := Hid.mk (heap_low hb (Array.getElem?_eq_some_iff.1 Ba19i.out).1 Ba19i.out)
                have Ba20p := Hid.mk (heap_low hb (Array.getElem?_eq_some_iff.1 Ba19p.out).1 Ba19p.out)
                have Ba20g := Hid.mk (heap_low hb (Array.getElem?_eq_some_iff.1 Ba19g.out).1 Ba19g.out)
                have Ba20a := Hid.mk (heap_low hb (Array.getElem?_eq_some_iff.1 Ba19a.out).1 Ba19a.out)
                have Ba20b := Hid.mk (heap_low hb (Array.getElem?_eq_some_iff.1 Ba19b.out).1 Ba19b.out)
                have Ba20o := Hid.mk (heap_low hb (Array.getElem?_eq_some_iff.1 Ba19o.out).1 Ba19o.out)
                have Ba20c := Hid.mk (heap_low hb (Array.getElem?_eq_some_iff.1 Ba19c.out).1 Ba19c.out)
                have Tr20p := Hid.mk (Tr19p.out.keep hb)
                have Tr20g := Hid.mk (Tr19g.out.keep hb)
                have Tr20a := Hid.mk (Tr19a.out.keep hb)
                have Tr20b := Hid.mk (Tr19b.out.keep hb)
                have Tr20o := Hid.mk (Tr19o.out.keep hb)
                have Tr20c := Hid.mk (Tr19c.out.keep hb)
                clear HB19 Ba19v Ba19i Ba19p Ba19g Ba19a Ba19b Ba19o Ba19c Tr19p Tr19g Tr19a Tr19b Tr19o Tr19c
                clear hb
                have x0 := cell_of_row _ _ 0 _ _ _ Ba20o.out
                have x1 := cell_of_row _ _ 1 _ _ _ Ba20o.out
                have x2 := cell_of_row _ _ 2 _ _ _ Ba20o.out
                have x3 := cell_of_row _ _ 3 _ _ _ Ba20o.out
                have x4 := cell_of_row _ _ 4 _ _ _ Ba20o.out
                have y0 := cell_of_row _ _ 0 _ _ _ Ba20c.out
                have y1 := cell_of_row _ _ 1 _ _ _ Ba20c.out
                have y2 := cell_of_row _ _ 2 _ _ _ Ba20c.out
                have y3 := cell_of_row _ _ 3 _ _ _ Ba20c.out
                have y4 := cell_of_row _ _ 4 _ _ _ Ba20c.out
                go_upto_region 20 with fail
                clear x0 x1 x2 x3 x4 y0 y1 y2 y3 y4
                obtain ⟨W19, hW⟩ : ∃ W, v19.alloc (.cells #[.int .i64 0, .string ⟨#[]⟩, .string ⟨#[]⟩, .slice none 0 0, .slice none 0 0] 25) = W := ⟨_, rfl⟩
                have hbW : Below v19.heap.size v19 W19 := by rw [← hW]; exact below1 _ _
                (try rw [hW])
                have HB21 := Hid.mk (below_more HB20.out hbW)
                have Ba21v := Hid.mk (heap_low hbW (Array.getElem?_eq_some_iff.1 Ba20v.out).1 Ba20v.out)
                have Ba21i := Hid.mk (heap_low hbW (Array.getElem?_eq_some_iff.1 Ba20i.out).1 Ba20i.out)
                have Ba21p := Hid.mk (heap_low hbW (Array.getElem?_eq_some_iff.1 Ba20p.out).1 Ba20p.out)
                have Ba21g := Hid.mk (heap_low hbW (Array.getElem?_eq_some_iff.1 Ba20g.out).1 Ba20g.out)
                have Ba21a := Hid.mk (heap_low hbW (Array.getElem?_eq_some_iff.1 Ba20a.out).1 Ba20a.out)
                have Ba21b := Hid.mk (heap_low hbW (Array.getElem?_eq_some_iff.1 Ba20b.out).1 Ba20b.out)
                have Ba21o := Hid.mk (heap_low hbW (Array.getElem?_eq_some_iff.1 Ba20o.out).1 Ba20o.out)
                have Ba21c := Hid.mk (heap_low hbW (Array.getElem?_eq_some_iff.1 Ba20c.out).1 Ba20c.out)
                have Tr21p := Hid.mk (Tr20p.out.keep hbW)
                have Tr21g := Hid.mk (Tr20g.out.keep hbW)
                have Tr21a := Hid.mk (Tr20a.out.keep hbW)
                have Tr21b := Hid.mk (Tr20b.out.keep hbW)
                have Tr21o := Hid.mk (Tr20o.out.keep hbW)
                have Tr21c := Hid.mk (Tr20c.out.keep hbW)
                clear HB20 Ba20v Ba20i Ba20p Ba20g Ba20a Ba20b Ba20o Ba20c Tr20p Tr20g Tr20a Tr20b Tr20o Tr20c
                clear hW hbW
                have x0 := cell_of_row _ _ 0 _ _ _ Ba21o.out
                have x1 := cell_of_row _ _ 1 _ _ _ Ba21o.out
                have x2 := cell_of_row _ _ 2 _ _ _ Ba21o.out
                have x3 := cell_of_row _ _ 3 _ _ _ Ba21o.out
                have x4 := cell_of_row _ _ 4 _ _ _ Ba21o.out
                have y0 := cell_of_row _ _ 0 _ _ _ Ba21c.out
                have y1 := cell_of_row _ _ 1 _ _ _ Ba21c.out
                have y2 := cell_of_row _ _ 2 _ _ _ Ba21c.out
                have y3 := cell_of_row _ _ 3 _ _ _ Ba21c.out
                have y4 := cell_of_row _ _ 4 _ _ _ Ba21c.out
                go_wp2_with fail
                refine (w_LikeO (woT_mg SMv.out.obj SMf.out.obj) _ _ _ Tr21o.out Tr21c.out).mono ?_
                rintro e z9 ⟨rfl, hb⟩
                clear x0 x1 x2 x3 x4 y0 y1 y2 y3 y4
                have HB22 := Hid.mk (below_more HB21.out hb)
                have Ba22v := Hid.mk (heap_low hb (Array.getElem?_eq_some_iff.1 Ba21v.out).1 Ba21v.out)
                have Ba22i := Hid.mk (heap_low hb (Array.getElem?_eq_some_iff.1 Ba21i.out).1 Ba21i.out)
                have Ba22p := Hid.mk (heap_low hb (Array.getElem?_eq_some_iff.1 Ba21p.out).1 Ba21p.out)
                have Ba22g := Hid.mk (heap_low hb (Array.getElem?_eq_some_iff.1 Ba21g.out).1 Ba21g.out)
                have Ba22a := Hid.mk (heap_low hb (Array.getElem?_eq_some_iff.1 Ba21a.out).1 Ba21a.out)
                have Ba22b := Hid.mk (heap_low hb (Array.getElem?_eq_some_iff.1 Ba21b.out).1 Ba21b.out)
                have Ba22o := Hid.mk (heap_low hb (Array.getElem?_eq_some_iff.1 Ba21o.out).1 Ba21o.out)
                have Ba22c := Hid.mk (heap_low hb (Array.getElem?_eq_some_iff.1 Ba21c.out).1 Ba21c.out)
                have Tr22p := Hid.mk (Tr21p.out.keep hb)
                have Tr22g := Hid.mk (Tr21g.out.keep hb)
                have Tr22a := Hid.mk (Tr21a.out.keep hb)
                have Tr22b := Hid.mk (Tr21b.out.keep hb)
                have Tr22o := Hid.mk (Tr21o.out.keep hb)
                have Tr22c := Hid.mk (Tr21c.out.keep hb)
                clear HB21 Ba21v Ba21i Ba21p Ba21g Ba21a Ba21b Ba21o Ba21c Tr21p Tr21g Tr21a Tr21b Tr21o Tr21c
                clear hb
                go_wp2_with fail
                go_ret
                exact ⟨rfl, HB22.out⟩
end Go.Proofs.Ytbaknnpjbokilaa
