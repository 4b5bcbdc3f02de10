import Derived.Test.YtcadknhedfnaoaaGreatDoorM29
import Derived.Test.YtcadknhedfnaoaaGreatDoorM35
import Derived.Test.YtcadknhedfnaoaaGreatDoorM7
import Derived.Test.YtcadknhedfnaoaaGreatDoorM11
namespace Go.Proofs.YtcadknhedfnaoaaGreatDoor
open Go.RowKit Go.Shelf Go.Sort
set_option linter.unusedVariables false
set_option linter.unusedSimpArgs false
attribute [local go_sem] Oper.semAt_some

theorem PS.keep {w0 w w' : World} {S : Nat} {l : List UInt8} (h : PS w0 S w l) (hb : Below w.heap.size w w') : PS w0 S w' l := ⟨h.pen.keep (fun j x hj _ => (hb.block _ (heap_lt hj)).trans hj), h.low.trans (hb.mono h.low.size), h.tab⟩
theorem ok_low {w w' : World} {b : Option Nat} (hb : Below w.heap.size w w') : Lib.OthersKept 5 b w w' := fun j x hj _ _ => (hb.block _ (heap_lt hj)).trans hj
def fl (f : Nat → List UInt8) (n : Nat) : List UInt8 := (List.range n).flatMap f
theorem fl_succ (f : Nat → List UInt8) (n : Nat) : fl f (n + 1) = fl f n ++ f n := by
  unfold fl
  rw [List.range_succ, List.flatMap_append]
  simp
theorem fl_pre (f : Nat → List UInt8) {k n : Nat} (h : k ≤ n) : (fl f k).length ≤ (fl f n).length := by
  induction n with
  | zero => obtain rfl : k = 0 := by omega
            exact Nat.le_refl _
  | succ n ih =>
    by_cases e : k = n + 1
    · rw [e]; exact Nat.le_refl _
    · rw [fl_succ, List.length_append]
      have := ih (by omega)
      omega
theorem pRw_fl (f : Nat → List UInt8) (n : Nat) : pRw f n = fl (fun i => (if 0 < i then [59, 32] else []) ++ f i) n := rfl
noncomputable def pKe1 (s : ByteArray) : Int := if okB s.data.toList = false then 1 else 0

set_option maxRecDepth 100000 in
set_option maxHeartbeats 1600000 in
theorem w_KeyP (s : ByteArray) (w : World) (hs : s.size ≤ 68719476736) : Calls Tryz.prog 10 #[.string s] w fun e w' => e = .returned (.tuple #[.string ⟨(pKy s).toArray⟩, .int .i64 (pKe1 s)]) ∧ Below w.heap.size w w' := by
  have HV := Hid.mk (fun u => w_Valid s u (by omega))
  have HN := Hid.mk (fun u => w_Named s u (by omega))
  have HQ := Hid.mk (fun u => w_Quote s u hs)
  cases hv : okB s.data.toList with
  | false =>
    rw [hv] at HV
    have e1 : pKy s = [] := by unfold pKy; rw [if_pos hv]
    have e2 : pKe1 s = 1 := by unfold pKe1; rw [if_pos hv]
    rw [e1, e2]
    clear hv e1 e2
    go_enter Tryz.func10, Tryz.ntmps10
    go_wp2_with fail
    refine (HV.out _).mono ?_
    rintro e w1 ⟨rfl, hb1⟩
    have HB1 := Hid.mk hb1
    clear hb1
    go_wp2_with fail
    go_ret2
    exact ⟨rfl, HB1.out⟩
  | true =>
    rw [hv] at HV
    have e2 : pKe1 s = 0 := by unfold pKe1; rw [if_neg (by rw [hv]; decide)]
    rw [e2]
    cases hn : namedB s.data.toList with
    | true =>
      rw [hn] at HN
      have e1 : pKy s = s.data.toList := by unfold pKy; rw [if_neg (by rw [hv]; decide), if_pos hn]
      rw [e1, show (⟨s.data.toList.toArray⟩ : ByteArray) = s from rfl]
      clear hv hn e1 e2
      go_enter Tryz.func10, Tryz.ntmps10
      go_wp2_with fail
      refine (HV.out _).mono ?_
      rintro e w1 ⟨rfl, hb1⟩
      have HB1 := Hid.mk hb1
      clear hb1
      go_wp2_with fail
      refine (HN.out _).mono ?_
      rintro e w2 ⟨rfl, hw2⟩
      obtain rfl := hw2.symm
      go_wp2_with fail
      go_ret2
      exact ⟨rfl, HB1.out⟩
    | false =>
      rw [hn] at HN
      have e1 : pKy s = pQt s := by unfold pKy; rw [if_neg (by rw [hv]; decide), if_neg (by rw [hn]; decide)]
      rw [e1]
      unfold pQt
      clear hv hn e1 e2
      generalize (⟨(34 :: (qb (runes s.data.toList) ++ [34])).toArray⟩ : ByteArray) = y at *
      go_enter Tryz.func10, Tryz.ntmps10
      go_wp2_with fail
      refine (HV.out _).mono ?_
      rintro e w1 ⟨rfl, hb1⟩
      have HB1 := Hid.mk hb1
      clear hb1
      go_wp2_with fail
      refine (HN.out _).mono ?_
      rintro e w2 ⟨rfl, hw2⟩
      obtain rfl := hw2.symm
      go_wp2_with fail
      refine (HQ.out _).mono ?_
      rintro e w3 ⟨rfl, hb3⟩
      have HB3 := Hid.mk (HB1.out.trans (hb3.mono HB1.out.size))
      clear hb3
      go_wp2_with fail
      go_ret2
      exact ⟨rfl, HB3.out⟩
end Go.Proofs.YtcadknhedfnaoaaGreatDoor
namespace Go.Proofs.YtcadknhedfnaoaaGreatDoor
open Go.RowKit Go.Shelf Go.Sort
set_option linter.unusedVariables false
set_option linter.unusedSimpArgs false
attribute [local go_sem] Oper.semAt_some

set_option maxRecDepth 100000 in
set_option maxHeartbeats 3200000 in
theorem w_source (w0 : World) (S h g o b off N kc : Nat) (K : Nat → NT) (t : Nat → List UInt8) (c9 : w0.cell? ⟨g, o + 9, none⟩ = some (.slice (some ⟨b, off, none⟩) N kc)) (hcap : N ≤ kc) (hbig : N ≤ 140737488355328) (hN : 1 ≤ N) (tx : ByteArray) (c2 : w0.cell? ⟨g, o + 2, none⟩ = some (.string tx)) (hT : ∀ i, i < N → Say w0 S 15 #[.pointer (some ⟨S, 0, none⟩), .pointer (some ⟨b, off + i * 10, none⟩)] (t i)) (hA : ∀ i, i < N → NAt w0 (h + 1) (K i) b (off + i * 10) ∧ 0 ≤ (K i).op ∧ (K i).op < 44) : Say w0 S 111 #[.pointer (some ⟨S, 0, none⟩), .pointer (some ⟨g, o, none⟩)] (sSrc K t tx) := by
  intro w l hP hlen
  have HP0 := Hid.mk (And.intro hP (Lib.OthersKept.refl 5 (some S) w))
  have HL := Hid.mk hlen
  have q0 : ((0 : Int) < (N : Int)) := by omega
  have mixed : Tryz.prog.follows .mixedOrders = true := by kernel_rfl
  have HH : Hid (∀ i, i < N → ∀ (k : Int) (bk bp : Nat) (w : World) (l : List UInt8), PS w0 S w l → w.heap[bk]? = some (.cells #[.int .i64 k] 3 (0, 0)) → w.heap[bp]? = some (.cells #[.pointer (some ⟨S, 0, none⟩)] 60 (0, 0)) → l.length + (pHd (t i) (K i) k).length ≤ 140737488355328 →
      Calls Tryz.prog 135 #[.pointer (some ⟨b, off + i * 10, none⟩), .pointer (some ⟨bk, 0, none⟩), .pointer (some ⟨bp, 0, none⟩)] w fun e w' => e = .returned (.tuple #[]) ∧ PS w0 S w' (l ++ pHd (t i) (K i) k) ∧ Lib.OthersKept 5 (some S) w w') := fun i hi k bk bp w l hP h1 h2 h3 => w_held1 w0 S h (K i) b (off + i * 10) k bk bp (t i) (hA i hi).1 (hA i hi).2 (hT i hi) w l hP h1 h2 h3
  have HC9 := Hid.mk c9
  have HC2 := Hid.mk c2
  clear hP hlen c9 c2 hT hA
  go_enter Tryz.func111, Tryz.ntmps111
  have c90 := (HP0.out.1.low.cell (p := ⟨g, o + 9, none⟩) (block_lt_of_cell HC9.out)).trans HC9.out
  have c20 := (HP0.out.1.low.cell (p := ⟨g, o + 2, none⟩) (block_lt_of_cell HC2.out)).trans HC2.out
  go_wp2_with fail
  refine wp_region_held_drew (S := (fun u => u.cell? ⟨g, o + 9, none⟩ = some (.slice (some ⟨b, off, none⟩) N kc))) (by kernel_rfl) (by exact c90) (fun hHeld => ?_)
  refine wpAnyH_take (i := 0) (oi := _) (v := .pointer (some ⟨S, 0, none⟩)) rfl (by kernel_rfl) (by kernel_rfl) (by kernel_rfl) (fun _ _ _ h => h) (Or.inl ⟨by rfl, ?_⟩) (by assumption) ?_
  · intro w hSw
    go_simp
    try (intro hq; exfalso; omega)
  try simp only [Act.put, List.setIfInBounds_toArray, List.set_cons_zero, List.set_cons_succ]
  refine wpAnyH_take (i := 2) (oi := _) (v := .pointer (some ⟨g, o, none⟩)) rfl (by kernel_rfl) (by kernel_rfl) (by kernel_rfl) (fun _ _ _ h => h) (Or.inl ⟨by rfl, ?_⟩) (by assumption) ?_
  · intro w hSw
    go_simp
    try (intro hq; exfalso; omega)
  try simp only [Act.put, List.setIfInBounds_toArray, List.set_cons_zero, List.set_cons_succ]
  refine wpAnyH_take (i := 3) (oi := _) (v := .pointer (some ⟨g, o, none⟩)) rfl (by kernel_rfl) (by kernel_rfl) (by kernel_rfl) (fun _ _ _ h => h) (Or.inl ⟨by rfl, ?_⟩) (by assumption) ?_
  · intro w hSw
    go_simp
    try (intro hq; exfalso; omega)
  try simp only [Act.put, List.setIfInBounds_toArray, List.set_cons_zero, List.set_cons_succ]
  refine wpAnyH_take (i := 4) (oi := _) (v := .pointer (some ⟨g, o + 9, none⟩)) rfl (by kernel_rfl) (by kernel_rfl) (by kernel_rfl) (fun _ _ _ h => h) (Or.inl ⟨by rfl, ?_⟩) (by assumption) ?_
  · intro w hSw
    go_simp
    try (intro hq; exfalso; omega)
  try simp only [Act.put, List.setIfInBounds_toArray, List.set_cons_zero, List.set_cons_succ]
  refine wpAnyH_take (i := 5) (oi := _) (v := .slice (some ⟨b, off, none⟩) N kc) rfl (by kernel_rfl) (by kernel_rfl) (by kernel_rfl) (fun _ _ _ h => h) (Or.inl ⟨by rfl, ?_⟩) (by assumption) ?_
  · intro w hSw
    go_simp
    try (intro hq; exfalso; omega)
  try simp only [Act.put, List.setIfInBounds_toArray, List.set_cons_zero, List.set_cons_succ]
  refine wpAnyH_take (i := 6) (oi := _) (v := .pointer (some ⟨b, off + 0 * 10, none⟩)) rfl (by kernel_rfl) (by kernel_rfl) (by kernel_rfl) (fun _ _ _ h => h) (Or.inl ⟨by rfl, ?_⟩) (by assumption) ?_
  · intro w hSw
    go_simp
    try (intro hq; exfalso; omega)
  try simp only [Act.put, List.setIfInBounds_toArray, List.set_cons_zero, List.set_cons_succ]
  refine wpAnyH_ready (rs := [1]) (by kernel_rfl) (by simp) ?_
  refine AllReadyH.cons (o := _) rfl (fun K2 hK2 => ?_) AllReadyH.nil
  go_simp
  go_at_call 107
  refine (w_held S 10 _).mono ?_
  rintro e wh ⟨rfl, hwh⟩
  have HPh : Hid (PS w0 S wh (l) ∧ Lib.OthersKept 5 (some S) w wh) := by rw [hwh]; exact ⟨(HP0.out.1.drew.alloc _).alloc _, (Lib.OthersKept.drew HP0.out.2).alloc _ |>.alloc _⟩
  have HBk : Hid (wh.heap[w.drew.heap.size + 1]? = some (.cells #[.int .i64 (10)] 3 (0, 0)) ∧ wh.heap[w.drew.heap.size]? = some (.cells #[.pointer (some ⟨S, 0, none⟩)] 60 (0, 0))) := by rw [hwh]; exact ⟨by have := heap_alloc_new (w.drew.alloc (.cells #[.pointer (some ⟨S, 0, none⟩)] 60)) (.cells #[.int .i64 (10)] 3); simpa using this, (Below.heap_alloc _ _ _ (by simp)).trans (heap_alloc_new _ _)⟩
  clear hwh
  have c9h := (HPh.out.1.low.cell (p := ⟨g, o + 9, none⟩) (block_lt_of_cell HC9.out)).trans HC9.out
  have c2h := (HPh.out.1.low.cell (p := ⟨g, o + 2, none⟩) (block_lt_of_cell HC2.out)).trans HC2.out
  go_wp2_with fail
  refine hK2.out _ _ (by exact c9h) (fun hHeld => ?_)
  clear hK2 K2
  try simp only [Act.put, List.setIfInBounds_toArray, List.set_cons_zero, List.set_cons_succ]
  refine wpAnyH_ready (rs := [7]) (by kernel_rfl) (by simp) ?_
  refine AllReadyH.cons (o := _) rfl (fun K2 hK2 => ?_) AllReadyH.nil
  go_simp
  go_at_call 135
  refine (HH.out (0) (by omega) (10) _ _ _ _ HPh.out.1 HBk.out.1 HBk.out.2 (by have := HL.out; simp only [sSrc, List.length_append, List.length_cons, List.length_nil] at this ⊢; omega)).mono ?_
  rintro e w1 ⟨rfl, hp, hk⟩
  have HP1 : Hid (PS w0 S w1 (l ++ pHd (t (0)) (K (0)) (10)) ∧ Lib.OthersKept 5 (some S) w w1) := ⟨hp, HPh.out.2.trans hk⟩
  clear hp hk
  have c9j := (HP1.out.1.low.cell (p := ⟨g, o + 9, none⟩) (block_lt_of_cell HC9.out)).trans HC9.out
  have c2j := (HP1.out.1.low.cell (p := ⟨g, o + 2, none⟩) (block_lt_of_cell HC2.out)).trans HC2.out
  go_wp2_with fail
  refine hK2.out _ _ (by exact c9j) (fun hHeld => ?_)
  clear hK2 K2 hHeld
  try simp only [Act.put, List.setIfInBounds_toArray, List.set_cons_zero, List.set_cons_succ]
  refine wpAnyH_done (by kernel_rfl) ?_ _
  clear HPh HBk c90 c9h c9j c20 c2h c2j
  have c91 := (HP1.out.1.low.cell (p := ⟨g, o + 9, none⟩) (block_lt_of_cell HC9.out)).trans HC9.out
  have c21 := (HP1.out.1.low.cell (p := ⟨g, o + 2, none⟩) (block_lt_of_cell HC2.out)).trans HC2.out
  go_wp2_with fail
  refine (w_put3 HP1.out.1 _ _ _ ([32, 97, 115, 32, 36] ++ (tx.data.toList ++ [32])) rfl (by have := HL.out; simp only [sSrc, List.length_append, List.length_cons, List.length_nil] at this ⊢; omega)).mono ?_
  rintro e w2 ⟨rfl, hp, hk⟩
  have HP2 : Hid (PS w0 S w2 (l ++ pHd (t (0)) (K (0)) (10) ++ ([32, 97, 115, 32, 36] ++ (tx.data.toList ++ [32]))) ∧ Lib.OthersKept 5 (some S) w w2) := ⟨hp, HP1.out.2.trans hk⟩
  clear hp hk
  clear c91 c21
  go_wp2_with fail
  go_end0
  refine ⟨rfl, ?_, HP2.out.2⟩
  have hz := HP2.out.1
  simp only [sSrc]
  try simp only [List.append_assoc, List.cons_append, List.nil_append] at hz ⊢
  exact hz

set_option maxRecDepth 100000 in
set_option maxHeartbeats 3200000 in
theorem w_base (w0 : World) (S h : Nat) (A : NT) (g o : Nat) (X : List UInt8) (hA : NAt w0 (h + 1) A g o) (hop : 0 ≤ A.op ∧ A.op < 44) (hT : Say w0 S 15 #[.pointer (some ⟨S, 0, none⟩), .pointer (some ⟨g, o, none⟩)] X) : Say w0 S 108 #[.pointer (some ⟨S, 0, none⟩), .pointer (some ⟨g, o, none⟩)] (pBs X A) := by
  have HH : Hid (∀ (k : Int) (bk bp : Nat) (w : World) (l : List UInt8), PS w0 S w l → w.heap[bk]? = some (.cells #[.int .i64 k] 3 (0, 0)) → w.heap[bp]? = some (.cells #[.pointer (some ⟨S, 0, none⟩)] 60 (0, 0)) → l.length + (pHd X A k).length ≤ 140737488355328 →
      Calls Tryz.prog 135 #[.pointer (some ⟨g, o, none⟩), .pointer (some ⟨bk, 0, none⟩), .pointer (some ⟨bp, 0, none⟩)] w fun e w' => e = .returned (.tuple #[]) ∧ PS w0 S w' (l ++ pHd X A k) ∧ Lib.OthersKept 5 (some S) w w') := fun k bk bp w l hP h1 h2 h3 => w_held1 w0 S h A g o k bk bp X hA hop hT w l hP h1 h2 h3
  obtain ⟨aio, aic, ayo, ayc, ano, anc, ako, akc, HA⟩ := hA.open_
  have HC0 := Hid.mk HA.c0
  have HC3 := Hid.mk HA.c3
  clear HA hA hop hT
  have HE : Hid (pBs X A = pHd X A (if A.op = 2 ∧ A.value.kind = 3 then 11 else 10)) := rfl
  rw [HE.out]
  clear HE
  generalize A.op = op at *
  generalize A.value.kind = kd at *
  by_cases h2 : op = 2
  · subst h2
    by_cases h3 : kd = 3
    · subst h3
      rw [if_pos ⟨rfl, rfl⟩]
      intro w l hP hlen
      have HP0 := Hid.mk (And.intro hP (Lib.OthersKept.refl 5 (some S) w))
      have HL := Hid.mk hlen
      clear hP hlen
      go_enter Tryz.func108, Tryz.ntmps108
      have c00 := (HP0.out.1.low.cell (p := ⟨g, o, none⟩) (block_lt_of_cell HC0.out)).trans HC0.out
      have c30 := (HP0.out.1.low.cell (p := ⟨g, o + 3, none⟩) (block_lt_of_cell HC3.out)).trans HC3.out
      go_wp2_with fail
      refine (w_held S 11 _).mono ?_
      rintro e wh ⟨rfl, hwh⟩
      have HPh : Hid (PS w0 S wh (l) ∧ Lib.OthersKept 5 (some S) w wh) := by rw [hwh]; exact ⟨(HP0.out.1.alloc _).alloc _, (HP0.out.2.alloc _).alloc _⟩
      have HBk : Hid (wh.heap[w.heap.size + 1]? = some (.cells #[.int .i64 (11)] 3 (0, 0)) ∧ wh.heap[w.heap.size]? = some (.cells #[.pointer (some ⟨S, 0, none⟩)] 60 (0, 0))) := by rw [hwh]; exact ⟨by have := heap_alloc_new (w.alloc (.cells #[.pointer (some ⟨S, 0, none⟩)] 60)) (.cells #[.int .i64 (11)] 3); simpa using this, (Below.heap_alloc _ _ _ (by simp)).trans (heap_alloc_new _ _)⟩
      clear hwh
      clear c00 c30
      go_wp2_with fail
      refine (HH.out (11) _ _ _ _ HPh.out.1 HBk.out.1 HBk.out.2 (by have := HL.out; omega)).mono ?_
      rintro e w1 ⟨rfl, hp, hk⟩
      have HP1 : Hid (PS w0 S w1 (l ++ pHd X A (11)) ∧ Lib.OthersKept 5 (some S) w w1) := ⟨hp, HPh.out.2.trans hk⟩
      clear hp hk HPh HBk
      go_wp2_with fail
      go_end0
      refine ⟨rfl, ?_, HP1.out.2⟩
      have hz := HP1.out.1
      try simp only [List.append_assoc, List.cons_append, List.nil_append] at hz ⊢
      exact hz
    · have b3 : (kd == 3) = false := by rw [beq_eq_false_iff_ne]; exact h3
      rw [if_neg (fun h => h3 h.2)]
      intro w l hP hlen
      have HP0 := Hid.mk (And.intro hP (Lib.OthersKept.refl 5 (some S) w))
      have HL := Hid.mk hlen
      clear hP hlen
      go_enter Tryz.func108, Tryz.ntmps108
      have c00 := (HP0.out.1.low.cell (p := ⟨g, o, none⟩) (block_lt_of_cell HC0.out)).trans HC0.out
      have c30 := (HP0.out.1.low.cell (p := ⟨g, o + 3, none⟩) (block_lt_of_cell HC3.out)).trans HC3.out
      go_wp2_with fail
      refine (w_held S 10 _).mono ?_
      rintro e wh ⟨rfl, hwh⟩
      have HPh : Hid (PS w0 S wh (l) ∧ Lib.OthersKept 5 (some S) w wh) := by rw [hwh]; exact ⟨(HP0.out.1.alloc _).alloc _, (HP0.out.2.alloc _).alloc _⟩
      have HBk : Hid (wh.heap[w.heap.size + 1]? = some (.cells #[.int .i64 (10)] 3 (0, 0)) ∧ wh.heap[w.heap.size]? = some (.cells #[.pointer (some ⟨S, 0, none⟩)] 60 (0, 0))) := by rw [hwh]; exact ⟨by have := heap_alloc_new (w.alloc (.cells #[.pointer (some ⟨S, 0, none⟩)] 60)) (.cells #[.int .i64 (10)] 3); simpa using this, (Below.heap_alloc _ _ _ (by simp)).trans (heap_alloc_new _ _)⟩
      clear hwh
      clear c00 c30
      go_wp2_with fail
      refine (HH.out (10) _ _ _ _ HPh.out.1 HBk.out.1 HBk.out.2 (by have := HL.out; omega)).mono ?_
      rintro e w1 ⟨rfl, hp, hk⟩
      have HP1 : Hid (PS w0 S w1 (l ++ pHd X A (10)) ∧ Lib.OthersKept 5 (some S) w w1) := ⟨hp, HPh.out.2.trans hk⟩
      clear hp hk HPh HBk
      go_wp2_with fail
      go_end0
      refine ⟨rfl, ?_, HP1.out.2⟩
      have hz := HP1.out.1
      try simp only [List.append_assoc, List.cons_append, List.nil_append] at hz ⊢
      exact hz
  · have b2 : (op == 2) = false := by rw [beq_eq_false_iff_ne]; exact h2
    rw [if_neg (fun h => h2 h.1)]
    intro w l hP hlen
    have HP0 := Hid.mk (And.intro hP (Lib.OthersKept.refl 5 (some S) w))
    have HL := Hid.mk hlen
    clear hP hlen
    go_enter Tryz.func108, Tryz.ntmps108
    have c00 := (HP0.out.1.low.cell (p := ⟨g, o, none⟩) (block_lt_of_cell HC0.out)).trans HC0.out
    have c30 := (HP0.out.1.low.cell (p := ⟨g, o + 3, none⟩) (block_lt_of_cell HC3.out)).trans HC3.out
    go_wp2_with fail
    refine (w_held S 10 _).mono ?_
    rintro e wh ⟨rfl, hwh⟩
    have HPh : Hid (PS w0 S wh (l) ∧ Lib.OthersKept 5 (some S) w wh) := by rw [hwh]; exact ⟨(HP0.out.1.alloc _).alloc _, (HP0.out.2.alloc _).alloc _⟩
    have HBk : Hid (wh.heap[w.heap.size + 1]? = some (.cells #[.int .i64 (10)] 3 (0, 0)) ∧ wh.heap[w.heap.size]? = some (.cells #[.pointer (some ⟨S, 0, none⟩)] 60 (0, 0))) := by rw [hwh]; exact ⟨by have := heap_alloc_new (w.alloc (.cells #[.pointer (some ⟨S, 0, none⟩)] 60)) (.cells #[.int .i64 (10)] 3); simpa using this, (Below.heap_alloc _ _ _ (by simp)).trans (heap_alloc_new _ _)⟩
    clear hwh
    clear c00 c30
    go_wp2_with fail
    refine (HH.out (10) _ _ _ _ HPh.out.1 HBk.out.1 HBk.out.2 (by have := HL.out; omega)).mono ?_
    rintro e w1 ⟨rfl, hp, hk⟩
    have HP1 : Hid (PS w0 S w1 (l ++ pHd X A (10)) ∧ Lib.OthersKept 5 (some S) w w1) := ⟨hp, HPh.out.2.trans hk⟩
    clear hp hk HPh HBk
    go_wp2_with fail
    go_end0
    refine ⟨rfl, ?_, HP1.out.2⟩
    have hz := HP1.out.1
    try simp only [List.append_assoc, List.cons_append, List.nil_append] at hz ⊢
    exact hz

set_option maxRecDepth 100000 in
set_option maxHeartbeats 3200000 in
theorem w_end (w0 : World) (S h : Nat) (A : NT) (g o : Nat) (X : List UInt8) (hA : NAt w0 (h + 1) A g o) (hT : A.op ≠ 0 → Say w0 S 15 #[.pointer (some ⟨S, 0, none⟩), .pointer (some ⟨g, o, none⟩)] X) : Say w0 S 110 #[.pointer (some ⟨S, 0, none⟩), .pointer (some ⟨g, o, none⟩)] (pEn X A) := by
  obtain ⟨aio, aic, ayo, ayc, ano, anc, ako, akc, HA⟩ := hA.open_
  have HC0 := Hid.mk HA.c0
  clear HA hA
  unfold pEn
  have HS := Hid.mk hT
  clear hT
  generalize A.op = op at *
  by_cases h0 : op = 0
  · subst h0
    rw [if_pos rfl]
    intro w l hP hlen
    have HP0 := Hid.mk (And.intro hP (Lib.OthersKept.refl 5 (some S) w))
    have HL := Hid.mk hlen
    clear hP hlen
    go_enter Tryz.func110, Tryz.ntmps110
    have c00 := (HP0.out.1.low.cell (p := ⟨g, o, none⟩) (block_lt_of_cell HC0.out)).trans HC0.out
    go_wp2_with fail
    go_end0
    exact ⟨rfl, by simpa using HP0.out.1, HP0.out.2⟩
  · have b0 : (op != 0) = true := by simpa using h0
    have HS2 := Hid.mk (HS.out h0)
    rw [if_neg h0]
    clear HS
    intro w l hP hlen
    have HP0 := Hid.mk (And.intro hP (Lib.OthersKept.refl 5 (some S) w))
    have HL := Hid.mk hlen
    clear hP hlen
    go_enter Tryz.func110, Tryz.ntmps110
    have c00 := (HP0.out.1.low.cell (p := ⟨g, o, none⟩) (block_lt_of_cell HC0.out)).trans HC0.out
    go_wp2_with fail
    refine (HS2.out _ _ HP0.out.1 (by have := HL.out; omega)).mono ?_
    rintro e w1 ⟨rfl, hp, hk⟩
    have HP1 : Hid (PS w0 S w1 (l ++ (X)) ∧ Lib.OthersKept 5 (some S) w w1) := ⟨hp, HP0.out.2.trans hk⟩
    clear hp hk
    clear c00
    go_wp2_with fail
    go_end0
    refine ⟨rfl, ?_, HP1.out.2⟩
    have hz := HP1.out.1
    try simp only [List.append_assoc, List.cons_append, List.nil_append] at hz ⊢
    exact hz

set_option maxRecDepth 100000 in
set_option maxHeartbeats 3200000 in
theorem w_key (w0 : World) (S h : Nat) (A : NT) (g o : Nat) (X : List UInt8) (hA : NAt w0 (h + 1) A g o) (hop : 0 ≤ A.op ∧ A.op < 44) (hs : A.value.text.size ≤ 68719476736) (hT : Say w0 S 15 #[.pointer (some ⟨S, 0, none⟩), .pointer (some ⟨g, o, none⟩)] X) : Say w0 S 106 #[.pointer (some ⟨S, 0, none⟩), .pointer (some ⟨g, o, none⟩)] (pKe X A) := by
  have HH : Hid (∀ (k : Int) (bk bp : Nat) (w : World) (l : List UInt8), PS w0 S w l → w.heap[bk]? = some (.cells #[.int .i64 k] 3 (0, 0)) → w.heap[bp]? = some (.cells #[.pointer (some ⟨S, 0, none⟩)] 60 (0, 0)) → l.length + (pHd X A k).length ≤ 140737488355328 →
      Calls Tryz.prog 135 #[.pointer (some ⟨g, o, none⟩), .pointer (some ⟨bk, 0, none⟩), .pointer (some ⟨bp, 0, none⟩)] w fun e w' => e = .returned (.tuple #[]) ∧ PS w0 S w' (l ++ pHd X A k) ∧ Lib.OthersKept 5 (some S) w w') := fun k bk bp w l hP h1 h2 h3 => w_held1 w0 S h A g o k bk bp X hA hop hT w l hP h1 h2 h3
  have HX : Hid (∀ u, Below w0.heap.size w0 u → Calls Tryz.prog 109 #[.pointer (some ⟨g, o, none⟩)] u fun e w' => e = .returned (.bool (pTx A)) ∧ w' = u) := fun u hu => w_isTextP h A g o u (hA.keep hu)
  have HK := Hid.mk (fun u => w_KeyP A.value.text u hs)
  have HS := Hid.mk hT
  obtain ⟨aio, aic, ayo, ayc, ano, anc, ako, akc, HA⟩ := hA.open_
  have HC0 := Hid.mk HA.c0
  have HC5 := Hid.mk HA.c5
  clear HA hA hop hT hs
  unfold pKe
  cases hx : pTx A with
  | true =>
    rw [hx] at HX
    rw [if_pos rfl]
    generalize A.value.text = tx at *
    generalize pKe1 tx = er at *
    generalize hky : pKy tx = Y at *
    clear hky hx HH HS
    intro w l hP hlen
    have HP0 := Hid.mk (And.intro hP (Lib.OthersKept.refl 5 (some S) w))
    have HL := Hid.mk hlen
    clear hP hlen
    go_enter Tryz.func106, Tryz.ntmps106
    have c00 := (HP0.out.1.low.cell (p := ⟨g, o, none⟩) (block_lt_of_cell HC0.out)).trans HC0.out
    have c50 := (HP0.out.1.low.cell (p := ⟨g, o + 5, none⟩) (block_lt_of_cell HC5.out)).trans HC5.out
    go_wp2_with fail
    refine (HX.out _ HP0.out.1.low).mono ?_
    rintro e w1 ⟨rfl, hw1⟩
    obtain rfl := hw1.symm
    go_wp2_with fail
    refine (HK.out _).mono ?_
    rintro e w2 ⟨rfl, hb2⟩
    have HP2 : Hid (PS w0 S w2 l ∧ Lib.OthersKept 5 (some S) w w2) := ⟨HP0.out.1.keep hb2, ok_low hb2⟩
    clear hb2 c00 c50
    go_wp2_with fail
    refine (w_put1 HP2.out.1 _ (Y) rfl (by have := HL.out; omega)).mono ?_
    rintro e w3 ⟨rfl, hp, hk⟩
    have HP3 : Hid (PS w0 S w3 (l ++ (Y)) ∧ Lib.OthersKept 5 (some S) w w3) := ⟨hp, HP2.out.2.trans hk⟩
    clear hp hk
    go_wp2_with fail
    go_end0
    refine ⟨rfl, ?_, HP3.out.2⟩
    have hz := HP3.out.1
    try simp only [List.append_assoc, List.cons_append, List.nil_append] at hz ⊢
    exact hz
  | false =>
    rw [hx] at HX
    rw [if_neg (by decide)]
    clear hx HK
    generalize hop2 : A.op = op at *
    by_cases h3 : op = 3
    · subst h3
      rw [if_pos rfl]
      clear HH hop2
      intro w l hP hlen
      have HP0 := Hid.mk (And.intro hP (Lib.OthersKept.refl 5 (some S) w))
      have HL := Hid.mk hlen
      clear hP hlen
      go_enter Tryz.func106, Tryz.ntmps106
      have c00 := (HP0.out.1.low.cell (p := ⟨g, o, none⟩) (block_lt_of_cell HC0.out)).trans HC0.out
      go_wp2_with fail
      refine (HX.out _ HP0.out.1.low).mono ?_
      rintro e w1 ⟨rfl, hw1⟩
      obtain rfl := hw1.symm
      clear c00
      have c00 := (HP0.out.1.low.cell (p := ⟨g, o, none⟩) (block_lt_of_cell HC0.out)).trans HC0.out
      go_wp2_with fail
      refine (HS.out _ _ HP0.out.1 (by have := HL.out; omega)).mono ?_
      rintro e w1 ⟨rfl, hp, hk⟩
      have HP1 : Hid (PS w0 S w1 (l ++ (X)) ∧ Lib.OthersKept 5 (some S) w w1) := ⟨hp, HP0.out.2.trans hk⟩
      clear hp hk
      clear c00
      go_wp2_with fail
      go_end0
      refine ⟨rfl, ?_, HP1.out.2⟩
      have hz := HP1.out.1
      try simp only [List.append_assoc, List.cons_append, List.nil_append] at hz ⊢
      exact hz
    · have b3 : (op == 3) = false := by rw [beq_eq_false_iff_ne]; exact h3
      rw [if_neg h3]
      clear HS hop2
      intro w l hP hlen
      have HP0 := Hid.mk (And.intro hP (Lib.OthersKept.refl 5 (some S) w))
      have HL := Hid.mk hlen
      clear hP hlen
      go_enter Tryz.func106, Tryz.ntmps106
      have c00 := (HP0.out.1.low.cell (p := ⟨g, o, none⟩) (block_lt_of_cell HC0.out)).trans HC0.out
      go_wp2_with fail
      refine (HX.out _ HP0.out.1.low).mono ?_
      rintro e w1 ⟨rfl, hw1⟩
      obtain rfl := hw1.symm
      clear c00
      have c00 := (HP0.out.1.low.cell (p := ⟨g, o, none⟩) (block_lt_of_cell HC0.out)).trans HC0.out
      go_wp2_with fail
      refine (w_held S 11 _).mono ?_
      rintro e wh ⟨rfl, hwh⟩
      have HPh : Hid (PS w0 S wh (l) ∧ Lib.OthersKept 5 (some S) w wh) := by rw [hwh]; exact ⟨(HP0.out.1.alloc _).alloc _, (HP0.out.2.alloc _).alloc _⟩
      have HBk : Hid (wh.heap[w.heap.size + 1]? = some (.cells #[.int .i64 (11)] 3 (0, 0)) ∧ wh.heap[w.heap.size]? = some (.cells #[.pointer (some ⟨S, 0, none⟩)] 60 (0, 0))) := by rw [hwh]; exact ⟨by have := heap_alloc_new (w.alloc (.cells #[.pointer (some ⟨S, 0, none⟩)] 60)) (.cells #[.int .i64 (11)] 3); simpa using this, (Below.heap_alloc _ _ _ (by simp)).trans (heap_alloc_new _ _)⟩
      clear hwh
      clear c00
      go_wp2_with fail
      refine (HH.out (11) _ _ _ _ HPh.out.1 HBk.out.1 HBk.out.2 (by have := HL.out; omega)).mono ?_
      rintro e w1 ⟨rfl, hp, hk⟩
      have HP1 : Hid (PS w0 S w1 (l ++ pHd X A (11)) ∧ Lib.OthersKept 5 (some S) w w1) := ⟨hp, HPh.out.2.trans hk⟩
      clear hp hk HPh HBk
      go_wp2_with fail
      go_end0
      refine ⟨rfl, ?_, HP1.out.2⟩
      have hz := HP1.out.1
      try simp only [List.append_assoc, List.cons_append, List.nil_append] at hz ⊢
      exact hz

set_option maxRecDepth 100000 in
set_option maxHeartbeats 3200000 in
theorem w_row (w0 : World) (S b off n c : Nat) (so : Option Addr) (t : Nat → List UInt8) (hso : 0 < n → so = some ⟨b, off, none⟩) (hcap : n ≤ c) (hbig : n ≤ 140737488355328) (hT : ∀ i, i < n → Say w0 S 15 #[.pointer (some ⟨S, 0, none⟩), .pointer (some ⟨b, off + i * 10, none⟩)] (t i)) : Say w0 S 105 #[.pointer (some ⟨S, 0, none⟩), .slice so n c] (pRw t n) := by
  rw [pRw_fl]
  obtain ⟨f, hf⟩ : ∃ f, f = (fun i => (if 0 < i then [59, 32] else []) ++ t i) := ⟨_, rfl⟩
  rw [← hf]
  have HF := Hid.mk hf
  have HS := Hid.mk hT
  have HSO := Hid.mk hso
  clear hf hT hso
  intro w l hP hlen
  have HP0 := Hid.mk (And.intro hP (Lib.OthersKept.refl 5 (some S) w))
  have HL := Hid.mk hlen
  clear hP hlen
  go_enter Tryz.func105, Tryz.ntmps105
  go_wp2_with fail
  go_loopw [7] (fun i wr => ∃ k : Nat, k ≤ n ∧ i = .int .i64 (k : Int) ∧ Hid (PS w0 S wr (l ++ fl f k) ∧ Lib.OthersKept 5 (some S) w wr)) (fun i _ => n - (intOf i).toNat)
  case atStart => exact ⟨0, Nat.zero_le _, rfl, by show PS _ _ _ _ ∧ _; simpa [fl] using HP0.out⟩
  case round =>
    obtain ⟨k, hk, rfl, HP1⟩ := hrel
    by_cases hlt : k < n
    · have hl1 : (k : Int) < (n : Int) := by omega
      have hl0 : (0 : Int) ≤ (k : Int) := by omega
      obtain rfl := HSO.out (by omega)
      have HSk := Hid.mk (HS.out k hlt)
      have HU := Hid.mk (fl_succ f k)
      have HLk : Hid ((l ++ fl f k).length + (f k).length ≤ 140737488355328) := by
        have h1 := fl_pre f (show k + 1 ≤ n by omega)
        rw [HU.out] at h1
        have h2 := HL.out
        show _ ≤ _
        simp only [List.length_append] at h1 h2 ⊢
        omega
      by_cases hz : 0 < k
      · have hz1 : (0 : Int) < (k : Int) := by omega
        have HE : Hid (f k = [59, 32] ++ t k) := by show _ = _; rw [HF.out]; simp only [if_pos hz]
        rw [HE.out] at HLk HU
        go_wp2_with fail
        refine (w_put1 HP1.out.1 _ [59, 32] rfl (by have := HLk.out; simp only [List.length_append, List.length_cons, List.length_nil] at this ⊢; omega)).mono ?_
        rintro e w2 ⟨rfl, hp, hk2⟩
        have HP2 : Hid (PS w0 S w2 (l ++ fl f k ++ [59, 32]) ∧ Lib.OthersKept 5 (some S) w w2) := ⟨hp, HP1.out.2.trans hk2⟩
        clear hp hk2
        go_wp2_with fail
        refine (HSk.out _ _ HP2.out.1 (by have := HLk.out; simp only [List.length_append, List.length_cons, List.length_nil] at this ⊢; omega)).mono ?_
        rintro e w3 ⟨rfl, hp, hk2⟩
        have HP3 : Hid (PS w0 S w3 (l ++ fl f (k + 1)) ∧ Lib.OthersKept 5 (some S) w w3) := ⟨by rw [HU.out]; simp only [← List.append_assoc]; exact hp, HP2.out.2.trans hk2⟩
        clear hp hk2
        go_wp2_with fail
        go_roundw
        case rel => exact ⟨k + 1, by omega, by go_num, HP3⟩
        case measure => simp [intOf]; omega
      · obtain rfl : k = 0 := by omega
        have HE : Hid (f 0 = t 0) := by show _ = _; rw [HF.out]; simp
        rw [HE.out] at HLk HU
        go_wp2_with fail
        refine (HSk.out _ _ HP1.out.1 (by have := HLk.out; simp only [List.length_append, List.length_cons, List.length_nil] at this ⊢; omega)).mono ?_
        rintro e w3 ⟨rfl, hp, hk2⟩
        have HP3 : Hid (PS w0 S w3 (l ++ fl f (0 + 1)) ∧ Lib.OthersKept 5 (some S) w w3) := ⟨by rw [HU.out]; simp only [← List.append_assoc]; exact hp, HP1.out.2.trans hk2⟩
        clear hp hk2
        go_wp2_with fail
        go_roundw
        case rel => exact ⟨0 + 1, by omega, by go_num, HP3⟩
        case measure => simp [intOf]; omega
    · have hl1 : ¬ (k : Int) < (n : Int) := by omega
      obtain rfl : k = n := by omega
      go_wp2_with fail
      go_end0
      exact ⟨rfl, HP1.out⟩
end Go.Proofs.YtcadknhedfnaoaaGreatDoor
namespace Go.Proofs.YtcadknhedfnaoaaGreatDoor
open Go.RowKit Go.Shelf Go.Sort
set_option linter.unusedVariables false
set_option linter.unusedSimpArgs false
attribute [local go_sem] Oper.semAt_some

set_option maxRecDepth 100000 in
set_option maxHeartbeats 3200000 in
theorem w_self (w0 : World) (S g o : Nat) : Say w0 S 64 #[.pointer (some ⟨S, 0, none⟩), .pointer (some ⟨g, o, none⟩)] [46] := by
  intro w l hP hlen
  have HP0 := Hid.mk (And.intro hP (Lib.OthersKept.refl 5 (some S) w))
  have HL := Hid.mk hlen
  clear hP hlen
  go_enter Tryz.func64, Tryz.ntmps64
  go_wp2_with fail
  refine (w_put1 HP0.out.1 _ ([46]) rfl (by have := HL.out; omega)).mono ?_
  rintro e w1 ⟨rfl, hp, hk⟩
  have HP1 : Hid (PS w0 S w1 (l ++ ([46])) ∧ Lib.OthersKept 5 (some S) w w1) := ⟨hp, HP0.out.2.trans hk⟩
  clear hp hk
  go_wp2_with fail
  go_end0
  refine ⟨rfl, ?_, HP1.out.2⟩
  have hz := HP1.out.1
  try simp only [List.append_assoc, List.cons_append, List.nil_append] at hz ⊢
  exact hz

set_option maxRecDepth 100000 in
set_option maxHeartbeats 3200000 in
theorem w_constant (w0 : World) (S h : Nat) (A : NT) (g o : Nat) (hA : NAt w0 (h + 1) A g o) (hs : A.value.text.size ≤ 68719476736) : Say w0 S 65 #[.pointer (some ⟨S, 0, none⟩), .pointer (some ⟨g, o, none⟩)] (pCn A.value) := by
  have HQ := Hid.mk (fun u => w_Quote A.value.text u hs)
  obtain ⟨aio, aic, ayo, ayc, ano, anc, ako, akc, HA⟩ := hA.open_
  have HC3 := Hid.mk HA.c3
  have HC4 := Hid.mk HA.c4
  have HC5 := Hid.mk HA.c5
  clear HA hA hs
  unfold pCn pQt
  generalize A.value.kind = kd at *
  generalize A.value.text = tx at *
  generalize A.value.num = nu at *
  by_cases k0 : kd = 0
  · subst k0
    rw [if_pos rfl]
    intro w l hP hlen
    have HP0 := Hid.mk (And.intro hP (Lib.OthersKept.refl 5 (some S) w))
    have HL := Hid.mk hlen
    clear hP hlen
    go_enter Tryz.func65, Tryz.ntmps65
    have c30 := (HP0.out.1.low.cell (p := ⟨g, o + 3, none⟩) (block_lt_of_cell HC3.out)).trans HC3.out
    have c40 := (HP0.out.1.low.cell (p := ⟨g, o + 4, none⟩) (block_lt_of_cell HC4.out)).trans HC4.out
    have c50 := (HP0.out.1.low.cell (p := ⟨g, o + 5, none⟩) (block_lt_of_cell HC5.out)).trans HC5.out
    go_wp2_with fail
    refine (w_put1 HP0.out.1 _ ([110, 117, 108, 108]) rfl (by have := HL.out; omega)).mono ?_
    rintro e w1 ⟨rfl, hp, hk⟩
    have HP1 : Hid (PS w0 S w1 (l ++ ([110, 117, 108, 108])) ∧ Lib.OthersKept 5 (some S) w w1) := ⟨hp, HP0.out.2.trans hk⟩
    clear hp hk
    clear c30 c40 c50
    go_wp2_with fail
    go_end0
    refine ⟨rfl, ?_, HP1.out.2⟩
    have hz := HP1.out.1
    try simp only [List.append_assoc, List.cons_append, List.nil_append] at hz ⊢
    exact hz
  have b0 : (kd == 0) = false := by rw [beq_eq_false_iff_ne]; exact k0
  by_cases k1 : kd = 1
  · subst k1
    rw [if_neg (by decide), if_pos rfl]
    intro w l hP hlen
    have HP0 := Hid.mk (And.intro hP (Lib.OthersKept.refl 5 (some S) w))
    have HL := Hid.mk hlen
    clear hP hlen
    go_enter Tryz.func65, Tryz.ntmps65
    have c30 := (HP0.out.1.low.cell (p := ⟨g, o + 3, none⟩) (block_lt_of_cell HC3.out)).trans HC3.out
    have c40 := (HP0.out.1.low.cell (p := ⟨g, o + 4, none⟩) (block_lt_of_cell HC4.out)).trans HC4.out
    have c50 := (HP0.out.1.low.cell (p := ⟨g, o + 5, none⟩) (block_lt_of_cell HC5.out)).trans HC5.out
    go_wp2_with fail
    refine (w_put1 HP0.out.1 _ ([102, 97, 108, 115, 101]) rfl (by have := HL.out; omega)).mono ?_
    rintro e w1 ⟨rfl, hp, hk⟩
    have HP1 : Hid (PS w0 S w1 (l ++ ([102, 97, 108, 115, 101])) ∧ Lib.OthersKept 5 (some S) w w1) := ⟨hp, HP0.out.2.trans hk⟩
    clear hp hk
    clear c30 c40 c50
    go_wp2_with fail
    go_end0
    refine ⟨rfl, ?_, HP1.out.2⟩
    have hz := HP1.out.1
    try simp only [List.append_assoc, List.cons_append, List.nil_append] at hz ⊢
    exact hz
  have b1 : (kd == 1) = false := by rw [beq_eq_false_iff_ne]; exact k1
  by_cases k2 : kd = 2
  · subst k2
    rw [if_neg (by decide), if_neg (by decide), if_pos rfl]
    intro w l hP hlen
    have HP0 := Hid.mk (And.intro hP (Lib.OthersKept.refl 5 (some S) w))
    have HL := Hid.mk hlen
    clear hP hlen
    go_enter Tryz.func65, Tryz.ntmps65
    have c30 := (HP0.out.1.low.cell (p := ⟨g, o + 3, none⟩) (block_lt_of_cell HC3.out)).trans HC3.out
    have c40 := (HP0.out.1.low.cell (p := ⟨g, o + 4, none⟩) (block_lt_of_cell HC4.out)).trans HC4.out
    have c50 := (HP0.out.1.low.cell (p := ⟨g, o + 5, none⟩) (block_lt_of_cell HC5.out)).trans HC5.out
    go_wp2_with fail
    refine (w_put1 HP0.out.1 _ ([116, 114, 117, 101]) rfl (by have := HL.out; omega)).mono ?_
    rintro e w1 ⟨rfl, hp, hk⟩
    have HP1 : Hid (PS w0 S w1 (l ++ ([116, 114, 117, 101])) ∧ Lib.OthersKept 5 (some S) w w1) := ⟨hp, HP0.out.2.trans hk⟩
    clear hp hk
    clear c30 c40 c50
    go_wp2_with fail
    go_end0
    refine ⟨rfl, ?_, HP1.out.2⟩
    have hz := HP1.out.1
    try simp only [List.append_assoc, List.cons_append, List.nil_append] at hz ⊢
    exact hz
  have b2 : (kd == 2) = false := by rw [beq_eq_false_iff_ne]; exact k2
  by_cases k3 : kd = 3
  · subst k3
    rw [if_neg (by decide), if_neg (by decide), if_neg (by decide), if_pos rfl]
    intro w l hP hlen
    have HP0 := Hid.mk (And.intro hP (Lib.OthersKept.refl 5 (some S) w))
    have HL := Hid.mk hlen
    clear hP hlen
    go_enter Tryz.func65, Tryz.ntmps65
    have c30 := (HP0.out.1.low.cell (p := ⟨g, o + 3, none⟩) (block_lt_of_cell HC3.out)).trans HC3.out
    have c40 := (HP0.out.1.low.cell (p := ⟨g, o + 4, none⟩) (block_lt_of_cell HC4.out)).trans HC4.out
    have c50 := (HP0.out.1.low.cell (p := ⟨g, o + 5, none⟩) (block_lt_of_cell HC5.out)).trans HC5.out
    go_wp2_with fail
    refine (w_put1 HP0.out.1 _ (nu.data.toList) rfl (by have := HL.out; omega)).mono ?_
    rintro e w1 ⟨rfl, hp, hk⟩
    have HP1 : Hid (PS w0 S w1 (l ++ (nu.data.toList)) ∧ Lib.OthersKept 5 (some S) w w1) := ⟨hp, HP0.out.2.trans hk⟩
    clear hp hk
    clear c30 c40 c50
    go_wp2_with fail
    go_end0
    refine ⟨rfl, ?_, HP1.out.2⟩
    have hz := HP1.out.1
    try simp only [List.append_assoc, List.cons_append, List.nil_append] at hz ⊢
    exact hz
  have b3 : (kd == 3) = false := by rw [beq_eq_false_iff_ne]; exact k3
  rw [if_neg k0, if_neg k1, if_neg k2, if_neg k3]
  generalize hy : (34 :: (qb (runes tx.data.toList) ++ [34])) = Y at *
  clear k0 k1 k2 k3 hy
  intro w l hP hlen
  have HP0 := Hid.mk (And.intro hP (Lib.OthersKept.refl 5 (some S) w))
  have HL := Hid.mk hlen
  clear hP hlen
  go_enter Tryz.func65, Tryz.ntmps65
  have c30 := (HP0.out.1.low.cell (p := ⟨g, o + 3, none⟩) (block_lt_of_cell HC3.out)).trans HC3.out
  have c40 := (HP0.out.1.low.cell (p := ⟨g, o + 4, none⟩) (block_lt_of_cell HC4.out)).trans HC4.out
  have c50 := (HP0.out.1.low.cell (p := ⟨g, o + 5, none⟩) (block_lt_of_cell HC5.out)).trans HC5.out
  go_wp2_with fail
  refine (HQ.out _).mono ?_
  rintro e w1 ⟨rfl, hb1⟩
  have HP1 : Hid (PS w0 S w1 l ∧ Lib.OthersKept 5 (some S) w w1) := ⟨HP0.out.1.keep hb1, ok_low hb1⟩
  clear hb1 c30 c40 c50
  go_wp2_with fail
  refine (w_put1 HP1.out.1 _ (Y) rfl (by have := HL.out; omega)).mono ?_
  rintro e w2 ⟨rfl, hp, hk⟩
  have HP2 : Hid (PS w0 S w2 (l ++ (Y)) ∧ Lib.OthersKept 5 (some S) w w2) := ⟨hp, HP1.out.2.trans hk⟩
  clear hp hk
  go_wp2_with fail
  go_end0
  refine ⟨rfl, ?_, HP2.out.2⟩
  have hz := HP2.out.1
  try simp only [List.append_assoc, List.cons_append, List.nil_append] at hz ⊢
  exact hz

set_option maxRecDepth 100000 in
set_option maxHeartbeats 3200000 in
theorem w_list (w0 : World) (S g o b off N kc : Nat) (ko : Option Addr) (t : Nat → List UInt8) (hko : 0 < N → ko = some ⟨b, off, none⟩) (c9 : w0.cell? ⟨g, o + 9, none⟩ = some (.slice ko N kc)) (hcap : N ≤ kc) (hbig : N ≤ 140737488355328) (hT : ∀ i, i < N → Say w0 S 15 #[.pointer (some ⟨S, 0, none⟩), .pointer (some ⟨b, off + i * 10, none⟩)] (t i)) : Say w0 S 67 #[.pointer (some ⟨S, 0, none⟩), .pointer (some ⟨g, o, none⟩)] (sList t N) := by
  have HR := Hid.mk (w_row w0 S b off N kc ko t hko hcap hbig hT)
  have HC9 := Hid.mk c9
  clear hT c9 hko
  unfold sList
  intro w l hP hlen
  have HP0 := Hid.mk (And.intro hP (Lib.OthersKept.refl 5 (some S) w))
  have HL := Hid.mk hlen
  clear hP hlen
  go_enter Tryz.func67, Tryz.ntmps67
  have c90 := (HP0.out.1.low.cell (p := ⟨g, o + 9, none⟩) (block_lt_of_cell HC9.out)).trans HC9.out
  go_wp2_with fail
  refine (w_put1 HP0.out.1 _ ([91]) rfl (by have := HL.out; (try simp only [List.length_append, List.length_cons, List.length_nil] at this ⊢); omega)).mono ?_
  rintro e w1 ⟨rfl, hp, hk⟩
  have HP1 : Hid (PS w0 S w1 (l ++ ([91])) ∧ Lib.OthersKept 5 (some S) w w1) := ⟨hp, HP0.out.2.trans hk⟩
  clear hp hk
  clear c90
  have c91 := (HP1.out.1.low.cell (p := ⟨g, o + 9, none⟩) (block_lt_of_cell HC9.out)).trans HC9.out
  go_wp2_with fail
  refine (HR.out _ _ HP1.out.1 (by have := HL.out; (try simp only [List.length_append, List.length_cons, List.length_nil] at this ⊢); omega)).mono ?_
  rintro e w2 ⟨rfl, hp, hk⟩
  have HP2 : Hid (PS w0 S w2 (l ++ ([91]) ++ (pRw t N)) ∧ Lib.OthersKept 5 (some S) w w2) := ⟨hp, HP1.out.2.trans hk⟩
  clear hp hk
  clear c91
  have c92 := (HP2.out.1.low.cell (p := ⟨g, o + 9, none⟩) (block_lt_of_cell HC9.out)).trans HC9.out
  go_wp2_with fail
  refine (w_put1 HP2.out.1 _ ([93]) rfl (by have := HL.out; (try simp only [List.length_append, List.length_cons, List.length_nil] at this ⊢); omega)).mono ?_
  rintro e w3 ⟨rfl, hp, hk⟩
  have HP3 : Hid (PS w0 S w3 (l ++ ([91]) ++ (pRw t N) ++ ([93])) ∧ Lib.OthersKept 5 (some S) w w3) := ⟨hp, HP2.out.2.trans hk⟩
  clear hp hk
  clear c92
  go_wp2_with fail
  go_end0
  refine ⟨rfl, ?_, HP3.out.2⟩
  have hz := HP3.out.1
  try simp only [List.append_assoc, List.cons_append, List.nil_append] at hz ⊢
  exact hz

set_option maxRecDepth 100000 in
set_option maxHeartbeats 3200000 in
theorem w_variable (w0 : World) (S g o : Nat) (op : Int) (c0 : w0.cell? ⟨g, o, none⟩ = some (.int .i64 op)) (tx : ByteArray) (c2 : w0.cell? ⟨g, o + 2, none⟩ = some (.string tx)) : Say w0 S 69 #[.pointer (some ⟨S, 0, none⟩), .pointer (some ⟨g, o, none⟩)] (sVar op tx) := by
  have HC0 := Hid.mk c0
  have HC2 := Hid.mk c2
  clear c0 c2
  unfold sVar
  by_cases h35 : op = 35
  · subst h35
    rw [if_pos rfl]
    intro w l hP hlen
    have HP0 := Hid.mk (And.intro hP (Lib.OthersKept.refl 5 (some S) w))
    have HL := Hid.mk hlen
    clear hP hlen
    go_enter Tryz.func69, Tryz.ntmps69
    have c00 := (HP0.out.1.low.cell (p := ⟨g, o, none⟩) (block_lt_of_cell HC0.out)).trans HC0.out
    have c20 := (HP0.out.1.low.cell (p := ⟨g, o + 2, none⟩) (block_lt_of_cell HC2.out)).trans HC2.out
    go_wp2_with fail
    refine (w_put1 HP0.out.1 _ ([98, 114, 101, 97, 107, 32]) rfl (by have := HL.out; (try simp only [List.length_append, List.length_cons, List.length_nil] at this ⊢); omega)).mono ?_
    rintro e w1 ⟨rfl, hp, hk⟩
    have HP1 : Hid (PS w0 S w1 (l ++ ([98, 114, 101, 97, 107, 32])) ∧ Lib.OthersKept 5 (some S) w w1) := ⟨hp, HP0.out.2.trans hk⟩
    clear hp hk
    clear c00 c20
    have c01 := (HP1.out.1.low.cell (p := ⟨g, o, none⟩) (block_lt_of_cell HC0.out)).trans HC0.out
    have c21 := (HP1.out.1.low.cell (p := ⟨g, o + 2, none⟩) (block_lt_of_cell HC2.out)).trans HC2.out
    go_wp2_with fail
    refine (w_put2 HP1.out.1 _ _ ([36] ++ tx.data.toList) rfl (by have := HL.out; (try simp only [List.length_append, List.length_cons, List.length_nil] at this ⊢); omega)).mono ?_
    rintro e w2 ⟨rfl, hp, hk⟩
    have HP2 : Hid (PS w0 S w2 (l ++ ([98, 114, 101, 97, 107, 32]) ++ ([36] ++ tx.data.toList)) ∧ Lib.OthersKept 5 (some S) w w2) := ⟨hp, HP1.out.2.trans hk⟩
    clear hp hk
    clear c01 c21
    go_wp2_with fail
    go_end0
    refine ⟨rfl, ?_, HP2.out.2⟩
    have hz := HP2.out.1
    try simp only [List.append_assoc, List.cons_append, List.nil_append] at hz ⊢
    exact hz
  · have b35 : (op == 35) = false := by rw [beq_eq_false_iff_ne]; exact h35
    rw [if_neg h35, List.nil_append]
    intro w l hP hlen
    have HP0 := Hid.mk (And.intro hP (Lib.OthersKept.refl 5 (some S) w))
    have HL := Hid.mk hlen
    clear hP hlen
    go_enter Tryz.func69, Tryz.ntmps69
    have c00 := (HP0.out.1.low.cell (p := ⟨g, o, none⟩) (block_lt_of_cell HC0.out)).trans HC0.out
    have c20 := (HP0.out.1.low.cell (p := ⟨g, o + 2, none⟩) (block_lt_of_cell HC2.out)).trans HC2.out
    go_wp2_with fail
    refine (w_put2 HP0.out.1 _ _ ([36] ++ tx.data.toList) rfl (by have := HL.out; (try simp only [List.length_append, List.length_cons, List.length_nil] at this ⊢); omega)).mono ?_
    rintro e w1 ⟨rfl, hp, hk⟩
    have HP1 : Hid (PS w0 S w1 (l ++ ([36] ++ tx.data.toList)) ∧ Lib.OthersKept 5 (some S) w w1) := ⟨hp, HP0.out.2.trans hk⟩
    clear hp hk
    clear c00 c20
    go_wp2_with fail
    go_end0
    refine ⟨rfl, ?_, HP1.out.2⟩
    have hz := HP1.out.1
    try simp only [List.append_assoc, List.cons_append, List.nil_append] at hz ⊢
    exact hz

set_option maxRecDepth 100000 in
set_option maxHeartbeats 3200000 in
theorem w_slice (w0 : World) (S h g o b off N kc : Nat) (K : Nat → NT) (t : Nat → List UInt8) (c9 : w0.cell? ⟨g, o + 9, none⟩ = some (.slice (some ⟨b, off, none⟩) N kc)) (hcap : N ≤ kc) (hbig : N ≤ 140737488355328) (hN : 3 ≤ N) (hB : Say w0 S 108 #[.pointer (some ⟨S, 0, none⟩), .pointer (some ⟨b, off + 0 * 10, none⟩)] (pBs (t 0) (K 0))) (hE1 : Say w0 S 110 #[.pointer (some ⟨S, 0, none⟩), .pointer (some ⟨b, off + 1 * 10, none⟩)] (pEn (t 1) (K 1))) (hE2 : Say w0 S 110 #[.pointer (some ⟨S, 0, none⟩), .pointer (some ⟨b, off + 2 * 10, none⟩)] (pEn (t 2) (K 2))) : Say w0 S 71 #[.pointer (some ⟨S, 0, none⟩), .pointer (some ⟨g, o, none⟩)] (sSlice K t) := by
  have q0 : ((0 : Int) < (N : Int)) := by omega
  have q1 : ((1 : Int) < (N : Int)) := by omega
  have q2 : ((2 : Int) < (N : Int)) := by omega
  have H0 := Hid.mk hB
  have H1 := Hid.mk hE1
  have H2 := Hid.mk hE2
  have HC9 := Hid.mk c9
  clear hB hE1 hE2 c9
  unfold sSlice
  intro w l hP hlen
  have HP0 := Hid.mk (And.intro hP (Lib.OthersKept.refl 5 (some S) w))
  have HL := Hid.mk hlen
  clear hP hlen
  go_enter Tryz.func71, Tryz.ntmps71
  have c90 := (HP0.out.1.low.cell (p := ⟨g, o + 9, none⟩) (block_lt_of_cell HC9.out)).trans HC9.out
  go_wp2_with fail
  refine (H0.out _ _ HP0.out.1 (by have := HL.out; (try simp only [List.length_append, List.length_cons, List.length_nil] at this ⊢); omega)).mono ?_
  rintro e w1 ⟨rfl, hp, hk⟩
  have HP1 : Hid (PS w0 S w1 (l ++ (pBs (t 0) (K 0))) ∧ Lib.OthersKept 5 (some S) w w1) := ⟨hp, HP0.out.2.trans hk⟩
  clear hp hk
  clear c90
  have c91 := (HP1.out.1.low.cell (p := ⟨g, o + 9, none⟩) (block_lt_of_cell HC9.out)).trans HC9.out
  go_wp2_with fail
  refine (w_put1 HP1.out.1 _ ([91]) rfl (by have := HL.out; (try simp only [List.length_append, List.length_cons, List.length_nil] at this ⊢); omega)).mono ?_
  rintro e w2 ⟨rfl, hp, hk⟩
  have HP2 : Hid (PS w0 S w2 (l ++ (pBs (t 0) (K 0)) ++ ([91])) ∧ Lib.OthersKept 5 (some S) w w2) := ⟨hp, HP1.out.2.trans hk⟩
  clear hp hk
  clear c91
  have c92 := (HP2.out.1.low.cell (p := ⟨g, o + 9, none⟩) (block_lt_of_cell HC9.out)).trans HC9.out
  go_wp2_with fail
  refine (H1.out _ _ HP2.out.1 (by have := HL.out; (try simp only [List.length_append, List.length_cons, List.length_nil] at this ⊢); omega)).mono ?_
  rintro e w3 ⟨rfl, hp, hk⟩
  have HP3 : Hid (PS w0 S w3 (l ++ (pBs (t 0) (K 0)) ++ ([91]) ++ (pEn (t 1) (K 1))) ∧ Lib.OthersKept 5 (some S) w w3) := ⟨hp, HP2.out.2.trans hk⟩
  clear hp hk
  clear c92
  have c93 := (HP3.out.1.low.cell (p := ⟨g, o + 9, none⟩) (block_lt_of_cell HC9.out)).trans HC9.out
  go_wp2_with fail
  refine (w_put1 HP3.out.1 _ ([58]) rfl (by have := HL.out; (try simp only [List.length_append, List.length_cons, List.length_nil] at this ⊢); omega)).mono ?_
  rintro e w4 ⟨rfl, hp, hk⟩
  have HP4 : Hid (PS w0 S w4 (l ++ (pBs (t 0) (K 0)) ++ ([91]) ++ (pEn (t 1) (K 1)) ++ ([58])) ∧ Lib.OthersKept 5 (some S) w w4) := ⟨hp, HP3.out.2.trans hk⟩
  clear hp hk
  clear c93
  have c94 := (HP4.out.1.low.cell (p := ⟨g, o + 9, none⟩) (block_lt_of_cell HC9.out)).trans HC9.out
  go_wp2_with fail
  refine (H2.out _ _ HP4.out.1 (by have := HL.out; (try simp only [List.length_append, List.length_cons, List.length_nil] at this ⊢); omega)).mono ?_
  rintro e w5 ⟨rfl, hp, hk⟩
  have HP5 : Hid (PS w0 S w5 (l ++ (pBs (t 0) (K 0)) ++ ([91]) ++ (pEn (t 1) (K 1)) ++ ([58]) ++ (pEn (t 2) (K 2))) ∧ Lib.OthersKept 5 (some S) w w5) := ⟨hp, HP4.out.2.trans hk⟩
  clear hp hk
  clear c94
  have c95 := (HP5.out.1.low.cell (p := ⟨g, o + 9, none⟩) (block_lt_of_cell HC9.out)).trans HC9.out
  go_wp2_with fail
  refine (w_put1 HP5.out.1 _ ([93]) rfl (by have := HL.out; (try simp only [List.length_append, List.length_cons, List.length_nil] at this ⊢); omega)).mono ?_
  rintro e w6 ⟨rfl, hp, hk⟩
  have HP6 : Hid (PS w0 S w6 (l ++ (pBs (t 0) (K 0)) ++ ([91]) ++ (pEn (t 1) (K 1)) ++ ([58]) ++ (pEn (t 2) (K 2)) ++ ([93])) ∧ Lib.OthersKept 5 (some S) w w6) := ⟨hp, HP5.out.2.trans hk⟩
  clear hp hk
  clear c95
  go_wp2_with fail
  go_end0
  refine ⟨rfl, ?_, HP6.out.2⟩
  have hz := HP6.out.1
  try simp only [List.append_assoc, List.cons_append, List.nil_append] at hz ⊢
  exact hz

set_option maxRecDepth 100000 in
set_option maxHeartbeats 3200000 in
theorem w_each (w0 : World) (S h g o b off N kc : Nat) (K : Nat → NT) (t : Nat → List UInt8) (c9 : w0.cell? ⟨g, o + 9, none⟩ = some (.slice (some ⟨b, off, none⟩) N kc)) (hcap : N ≤ kc) (hbig : N ≤ 140737488355328) (hN : 1 ≤ N) (hT : ∀ i, i < N → Say w0 S 15 #[.pointer (some ⟨S, 0, none⟩), .pointer (some ⟨b, off + i * 10, none⟩)] (t i)) (hA : ∀ i, i < N → NAt w0 (h + 1) (K i) b (off + i * 10) ∧ 0 ≤ (K i).op ∧ (K i).op < 44) : Say w0 S 72 #[.pointer (some ⟨S, 0, none⟩), .pointer (some ⟨g, o, none⟩)] (sEach K t) := by
  have q0 : ((0 : Int) < (N : Int)) := by omega
  have HBs : Hid (∀ i, i < N → Say w0 S 108 #[.pointer (some ⟨S, 0, none⟩), .pointer (some ⟨b, off + i * 10, none⟩)] (pBs (t i) (K i))) := fun i hi => w_base w0 S h (K i) b (off + i * 10) (t i) (hA i hi).1 (hA i hi).2 (hT i hi)
  have HBs0 := Hid.mk (HBs.out 0 (by omega))
  have HC9 := Hid.mk c9
  clear hT hA c9 HBs
  unfold sEach
  intro w l hP hlen
  have HP0 := Hid.mk (And.intro hP (Lib.OthersKept.refl 5 (some S) w))
  have HL := Hid.mk hlen
  clear hP hlen
  go_enter Tryz.func72, Tryz.ntmps72
  have c90 := (HP0.out.1.low.cell (p := ⟨g, o + 9, none⟩) (block_lt_of_cell HC9.out)).trans HC9.out
  go_wp2_with fail
  refine (HBs0.out _ _ HP0.out.1 (by have := HL.out; (try simp only [List.length_append, List.length_cons, List.length_nil] at this ⊢); omega)).mono ?_
  rintro e w1 ⟨rfl, hp, hk⟩
  have HP1 : Hid (PS w0 S w1 (l ++ (pBs (t 0) (K 0))) ∧ Lib.OthersKept 5 (some S) w w1) := ⟨hp, HP0.out.2.trans hk⟩
  clear hp hk
  clear c90
  have c91 := (HP1.out.1.low.cell (p := ⟨g, o + 9, none⟩) (block_lt_of_cell HC9.out)).trans HC9.out
  go_wp2_with fail
  refine (w_put1 HP1.out.1 _ ([91, 93]) rfl (by have := HL.out; (try simp only [List.length_append, List.length_cons, List.length_nil] at this ⊢); omega)).mono ?_
  rintro e w2 ⟨rfl, hp, hk⟩
  have HP2 : Hid (PS w0 S w2 (l ++ (pBs (t 0) (K 0)) ++ ([91, 93])) ∧ Lib.OthersKept 5 (some S) w w2) := ⟨hp, HP1.out.2.trans hk⟩
  clear hp hk
  clear c91
  go_wp2_with fail
  go_end0
  refine ⟨rfl, ?_, HP2.out.2⟩
  have hz := HP2.out.1
  try simp only [List.append_assoc, List.cons_append, List.nil_append] at hz ⊢
  exact hz
end Go.Proofs.YtcadknhedfnaoaaGreatDoor
namespace Go.Proofs.YtcadknhedfnaoaaGreatDoor
open Go.RowKit Go.Shelf Go.Sort
set_option linter.unusedVariables false
set_option linter.unusedSimpArgs false
attribute [local go_sem] Oper.semAt_some

set_option maxRecDepth 100000 in
set_option maxHeartbeats 3200000 in
theorem w_try (w0 : World) (S h g o b off N kc : Nat) (K : Nat → NT) (t : Nat → List UInt8) (c9 : w0.cell? ⟨g, o + 9, none⟩ = some (.slice (some ⟨b, off, none⟩) N kc)) (hcap : N ≤ kc) (hbig : N ≤ 140737488355328) (hN : 1 ≤ N) (hN2 : N ≤ 2) (hT : ∀ i, i < N → Say w0 S 15 #[.pointer (some ⟨S, 0, none⟩), .pointer (some ⟨b, off + i * 10, none⟩)] (t i)) (hA : ∀ i, i < N → NAt w0 (h + 1) (K i) b (off + i * 10) ∧ 0 ≤ (K i).op ∧ (K i).op < 44) : Say w0 S 73 #[.pointer (some ⟨S, 0, none⟩), .pointer (some ⟨g, o, none⟩)] (sTry K t N) := by
  have mixed : Tryz.prog.follows .mixedOrders = true := by kernel_rfl
  have HBs : Hid (∀ i, i < N → Say w0 S 108 #[.pointer (some ⟨S, 0, none⟩), .pointer (some ⟨b, off + i * 10, none⟩)] (pBs (t i) (K i))) := fun i hi => w_base w0 S h (K i) b (off + i * 10) (t i) (hA i hi).1 (hA i hi).2 (hT i hi)
  have HH : Hid (∀ i, i < N → ∀ (k : Int) (bk bp : Nat) (w : World) (l : List UInt8), PS w0 S w l → w.heap[bk]? = some (.cells #[.int .i64 k] 3 (0, 0)) → w.heap[bp]? = some (.cells #[.pointer (some ⟨S, 0, none⟩)] 60 (0, 0)) → l.length + (pHd (t i) (K i) k).length ≤ 140737488355328 →
      Calls Tryz.prog 135 #[.pointer (some ⟨b, off + i * 10, none⟩), .pointer (some ⟨bk, 0, none⟩), .pointer (some ⟨bp, 0, none⟩)] w fun e w' => e = .returned (.tuple #[]) ∧ PS w0 S w' (l ++ pHd (t i) (K i) k) ∧ Lib.OthersKept 5 (some S) w w') := fun i hi k bk bp w l hP h1 h2 h3 => w_held1 w0 S h (K i) b (off + i * 10) k bk bp (t i) (hA i hi).1 (hA i hi).2 (hT i hi) w l hP h1 h2 h3
  have HBs0 := Hid.mk (HBs.out 0 (by omega))
  have HC9 := Hid.mk c9
  have q0 : ((0 : Int) < (N : Int)) := by omega
  clear hT hA c9 HBs
  unfold sTry
  by_cases h1 : N = 1
  · rw [if_pos h1]
    subst h1
    clear HH
    intro w l hP hlen
    have HP0 := Hid.mk (And.intro hP (Lib.OthersKept.refl 5 (some S) w))
    have HL := Hid.mk hlen
    clear hP hlen
    go_enter Tryz.func73, Tryz.ntmps73
    have c90 := (HP0.out.1.low.cell (p := ⟨g, o + 9, none⟩) (block_lt_of_cell HC9.out)).trans HC9.out
    go_wp2_with fail
    refine (HBs0.out _ _ HP0.out.1 (by have := HL.out; (try simp only [List.length_append, List.length_cons, List.length_nil] at this ⊢); omega)).mono ?_
    rintro e w1 ⟨rfl, hp, hk⟩
    have HP1 : Hid (PS w0 S w1 (l ++ (pBs (t 0) (K 0))) ∧ Lib.OthersKept 5 (some S) w w1) := ⟨hp, HP0.out.2.trans hk⟩
    clear hp hk
    clear c90
    have c91 := (HP1.out.1.low.cell (p := ⟨g, o + 9, none⟩) (block_lt_of_cell HC9.out)).trans HC9.out
    go_wp2_with fail
    refine (w_put1 HP1.out.1 _ ([63]) rfl (by have := HL.out; (try simp only [List.length_append, List.length_cons, List.length_nil] at this ⊢); omega)).mono ?_
    rintro e w2 ⟨rfl, hp, hk⟩
    have HP2 : Hid (PS w0 S w2 (l ++ (pBs (t 0) (K 0)) ++ ([63])) ∧ Lib.OthersKept 5 (some S) w w2) := ⟨hp, HP1.out.2.trans hk⟩
    clear hp hk
    clear c91
    have c92 := (HP2.out.1.low.cell (p := ⟨g, o + 9, none⟩) (block_lt_of_cell HC9.out)).trans HC9.out
    go_wp2_with fail
    (try simp only [Exit.inBlock, Exit.then])
    refine bodyPost_ret (results_none rfl _ _ _) rfl ?_
    refine ⟨rfl, ?_, HP2.out.2⟩
    have hz := HP2.out.1
    try simp only [List.append_assoc, List.cons_append, List.nil_append] at hz ⊢
    exact hz
  · rw [if_neg h1]
    have b1 : ((N : Int) == 1) = false := by rw [beq_eq_false_iff_ne]; omega
    have q1 : ((1 : Int) < (N : Int)) := by omega
    clear HBs0
    intro w l hP hlen
    have HP0 := Hid.mk (And.intro hP (Lib.OthersKept.refl 5 (some S) w))
    have HL := Hid.mk hlen
    clear hP hlen
    go_enter Tryz.func73, Tryz.ntmps73
    have c90 := (HP0.out.1.low.cell (p := ⟨g, o + 9, none⟩) (block_lt_of_cell HC9.out)).trans HC9.out
    go_wp2_with fail
    refine (w_put1 HP0.out.1 _ ([116, 114, 121, 32]) rfl (by have := HL.out; (try simp only [List.length_append, List.length_cons, List.length_nil] at this ⊢); omega)).mono ?_
    rintro e w1 ⟨rfl, hp, hk⟩
    have HP1 : Hid (PS w0 S w1 (l ++ ([116, 114, 121, 32])) ∧ Lib.OthersKept 5 (some S) w w1) := ⟨hp, HP0.out.2.trans hk⟩
    clear hp hk
    clear c90
    have c91 := (HP1.out.1.low.cell (p := ⟨g, o + 9, none⟩) (block_lt_of_cell HC9.out)).trans HC9.out
    go_wp2_with fail
    refine wp_region_held_drew (S := (fun u => u.cell? ⟨g, o + 9, none⟩ = some (.slice (some ⟨b, off, none⟩) N kc))) (by kernel_rfl) (by exact c91) (fun hHeld => ?_)
    refine wpAnyH_take (i := 0) (oi := _) (v := .pointer (some ⟨S, 0, none⟩)) rfl (by kernel_rfl) (by kernel_rfl) (by kernel_rfl) (fun _ _ _ h => h) (Or.inl ⟨by rfl, ?_⟩) (by assumption) ?_
    · intro w hSw
      go_simp
      try (intro hq; exfalso; omega)
    try simp only [Act.put, List.setIfInBounds_toArray, List.set_cons_zero, List.set_cons_succ]
    refine wpAnyH_take (i := 2) (oi := _) (v := .pointer (some ⟨g, o, none⟩)) rfl (by kernel_rfl) (by kernel_rfl) (by kernel_rfl) (fun _ _ _ h => h) (Or.inl ⟨by rfl, ?_⟩) (by assumption) ?_
    · intro w hSw
      go_simp
      try (intro hq; exfalso; omega)
    try simp only [Act.put, List.setIfInBounds_toArray, List.set_cons_zero, List.set_cons_succ]
    refine wpAnyH_take (i := 3) (oi := _) (v := .pointer (some ⟨g, o, none⟩)) rfl (by kernel_rfl) (by kernel_rfl) (by kernel_rfl) (fun _ _ _ h => h) (Or.inl ⟨by rfl, ?_⟩) (by assumption) ?_
    · intro w hSw
      go_simp
      try (intro hq; exfalso; omega)
    try simp only [Act.put, List.setIfInBounds_toArray, List.set_cons_zero, List.set_cons_succ]
    refine wpAnyH_take (i := 4) (oi := _) (v := .pointer (some ⟨g, o + 9, none⟩)) rfl (by kernel_rfl) (by kernel_rfl) (by kernel_rfl) (fun _ _ _ h => h) (Or.inl ⟨by rfl, ?_⟩) (by assumption) ?_
    · intro w hSw
      go_simp
      try (intro hq; exfalso; omega)
    try simp only [Act.put, List.setIfInBounds_toArray, List.set_cons_zero, List.set_cons_succ]
    refine wpAnyH_take (i := 5) (oi := _) (v := .slice (some ⟨b, off, none⟩) N kc) rfl (by kernel_rfl) (by kernel_rfl) (by kernel_rfl) (fun _ _ _ h => h) (Or.inl ⟨by rfl, ?_⟩) (by assumption) ?_
    · intro w hSw
      go_simp
      try (intro hq; exfalso; omega)
    try simp only [Act.put, List.setIfInBounds_toArray, List.set_cons_zero, List.set_cons_succ]
    refine wpAnyH_take (i := 6) (oi := _) (v := .pointer (some ⟨b, off + 0 * 10, none⟩)) rfl (by kernel_rfl) (by kernel_rfl) (by kernel_rfl) (fun _ _ _ h => h) (Or.inl ⟨by rfl, ?_⟩) (by assumption) ?_
    · intro w hSw
      go_simp
      try (intro hq; exfalso; omega)
    try simp only [Act.put, List.setIfInBounds_toArray, List.set_cons_zero, List.set_cons_succ]
    refine wpAnyH_ready (rs := [1]) (by kernel_rfl) (by simp) ?_
    refine AllReadyH.cons (o := _) rfl (fun K2 hK2 => ?_) AllReadyH.nil
    go_simp
    go_at_call 107
    refine (w_held S 10 _).mono ?_
    rintro e wh ⟨rfl, hwh⟩
    have HPh : Hid (PS w0 S wh (l ++ ([116, 114, 121, 32])) ∧ Lib.OthersKept 5 (some S) w wh) := by rw [hwh]; exact ⟨(HP1.out.1.drew.alloc _).alloc _, (Lib.OthersKept.drew HP1.out.2).alloc _ |>.alloc _⟩
    have HBk : Hid (wh.heap[w1.drew.heap.size + 1]? = some (.cells #[.int .i64 (10)] 3 (0, 0)) ∧ wh.heap[w1.drew.heap.size]? = some (.cells #[.pointer (some ⟨S, 0, none⟩)] 60 (0, 0))) := by rw [hwh]; exact ⟨by have := heap_alloc_new (w1.drew.alloc (.cells #[.pointer (some ⟨S, 0, none⟩)] 60)) (.cells #[.int .i64 (10)] 3); simpa using this, (Below.heap_alloc _ _ _ (by simp)).trans (heap_alloc_new _ _)⟩
    clear hwh
    have c9h := (HPh.out.1.low.cell (p := ⟨g, o + 9, none⟩) (block_lt_of_cell HC9.out)).trans HC9.out
    go_wp2_with fail
    refine hK2.out _ _ (by exact c9h) (fun hHeld => ?_)
    clear hK2 K2
    try simp only [Act.put, List.setIfInBounds_toArray, List.set_cons_zero, List.set_cons_succ]
    refine wpAnyH_ready (rs := [7]) (by kernel_rfl) (by simp) ?_
    refine AllReadyH.cons (o := _) rfl (fun K2 hK2 => ?_) AllReadyH.nil
    go_simp
    go_at_call 135
    refine (HH.out (0) (by omega) (10) _ _ _ _ HPh.out.1 HBk.out.1 HBk.out.2 (by have := HL.out; (try simp only [List.length_append, List.length_cons, List.length_nil] at this ⊢); omega)).mono ?_
    rintro e w2 ⟨rfl, hp, hk⟩
    have HP2 : Hid (PS w0 S w2 (l ++ ([116, 114, 121, 32]) ++ pHd (t (0)) (K (0)) (10)) ∧ Lib.OthersKept 5 (some S) w w2) := ⟨hp, HPh.out.2.trans hk⟩
    clear hp hk
    have c9j := (HP2.out.1.low.cell (p := ⟨g, o + 9, none⟩) (block_lt_of_cell HC9.out)).trans HC9.out
    go_wp2_with fail
    refine hK2.out _ _ (by exact c9j) (fun hHeld => ?_)
    clear hK2 K2 hHeld
    try simp only [Act.put, List.setIfInBounds_toArray, List.set_cons_zero, List.set_cons_succ]
    refine wpAnyH_done (by kernel_rfl) ?_ _
    clear HPh HBk c91 c9h c9j
    have c92 := (HP2.out.1.low.cell (p := ⟨g, o + 9, none⟩) (block_lt_of_cell HC9.out)).trans HC9.out
    go_wp2_with fail
    refine (w_put1 HP2.out.1 _ ([32, 99, 97, 116, 99, 104, 32]) rfl (by have := HL.out; (try simp only [List.length_append, List.length_cons, List.length_nil] at this ⊢); omega)).mono ?_
    rintro e w3 ⟨rfl, hp, hk⟩
    have HP3 : Hid (PS w0 S w3 (l ++ ([116, 114, 121, 32]) ++ pHd (t (0)) (K (0)) (10) ++ ([32, 99, 97, 116, 99, 104, 32])) ∧ Lib.OthersKept 5 (some S) w w3) := ⟨hp, HP2.out.2.trans hk⟩
    clear hp hk
    clear c92
    have c93 := (HP3.out.1.low.cell (p := ⟨g, o + 9, none⟩) (block_lt_of_cell HC9.out)).trans HC9.out
    go_wp2_with fail
    refine wp_region_held_drew (S := (fun u => u.cell? ⟨g, o + 9, none⟩ = some (.slice (some ⟨b, off, none⟩) N kc))) (by kernel_rfl) (by exact c93) (fun hHeld => ?_)
    refine wpAnyH_take (i := 0) (oi := _) (v := .pointer (some ⟨S, 0, none⟩)) rfl (by kernel_rfl) (by kernel_rfl) (by kernel_rfl) (fun _ _ _ h => h) (Or.inl ⟨by rfl, ?_⟩) (by assumption) ?_
    · intro w hSw
      go_simp
      try (intro hq; exfalso; omega)
    try simp only [Act.put, List.setIfInBounds_toArray, List.set_cons_zero, List.set_cons_succ]
    refine wpAnyH_take (i := 2) (oi := _) (v := .pointer (some ⟨g, o, none⟩)) rfl (by kernel_rfl) (by kernel_rfl) (by kernel_rfl) (fun _ _ _ h => h) (Or.inl ⟨by rfl, ?_⟩) (by assumption) ?_
    · intro w hSw
      go_simp
      try (intro hq; exfalso; omega)
    try simp only [Act.put, List.setIfInBounds_toArray, List.set_cons_zero, List.set_cons_succ]
    refine wpAnyH_take (i := 3) (oi := _) (v := .pointer (some ⟨g, o, none⟩)) rfl (by kernel_rfl) (by kernel_rfl) (by kernel_rfl) (fun _ _ _ h => h) (Or.inl ⟨by rfl, ?_⟩) (by assumption) ?_
    · intro w hSw
      go_simp
      try (intro hq; exfalso; omega)
    try simp only [Act.put, List.setIfInBounds_toArray, List.set_cons_zero, List.set_cons_succ]
    refine wpAnyH_take (i := 4) (oi := _) (v := .pointer (some ⟨g, o + 9, none⟩)) rfl (by kernel_rfl) (by kernel_rfl) (by kernel_rfl) (fun _ _ _ h => h) (Or.inl ⟨by rfl, ?_⟩) (by assumption) ?_
    · intro w hSw
      go_simp
      try (intro hq; exfalso; omega)
    try simp only [Act.put, List.setIfInBounds_toArray, List.set_cons_zero, List.set_cons_succ]
    refine wpAnyH_take (i := 5) (oi := _) (v := .slice (some ⟨b, off, none⟩) N kc) rfl (by kernel_rfl) (by kernel_rfl) (by kernel_rfl) (fun _ _ _ h => h) (Or.inl ⟨by rfl, ?_⟩) (by assumption) ?_
    · intro w hSw
      go_simp
      try (intro hq; exfalso; omega)
    try simp only [Act.put, List.setIfInBounds_toArray, List.set_cons_zero, List.set_cons_succ]
    refine wpAnyH_take (i := 6) (oi := _) (v := .pointer (some ⟨b, off + 1 * 10, none⟩)) rfl (by kernel_rfl) (by kernel_rfl) (by kernel_rfl) (fun _ _ _ h => h) (Or.inl ⟨by rfl, ?_⟩) (by assumption) ?_
    · intro w hSw
      go_simp
      try (intro hq; exfalso; omega)
    try simp only [Act.put, List.setIfInBounds_toArray, List.set_cons_zero, List.set_cons_succ]
    refine wpAnyH_ready (rs := [1]) (by kernel_rfl) (by simp) ?_
    refine AllReadyH.cons (o := _) rfl (fun K2 hK2 => ?_) AllReadyH.nil
    go_simp
    go_at_call 107
    refine (w_held S 10 _).mono ?_
    rintro e wh ⟨rfl, hwh⟩
    have HPh : Hid (PS w0 S wh (l ++ ([116, 114, 121, 32]) ++ pHd (t (0)) (K (0)) (10) ++ ([32, 99, 97, 116, 99, 104, 32])) ∧ Lib.OthersKept 5 (some S) w wh) := by rw [hwh]; exact ⟨(HP3.out.1.drew.alloc _).alloc _, (Lib.OthersKept.drew HP3.out.2).alloc _ |>.alloc _⟩
    have HBk : Hid (wh.heap[w3.drew.heap.size + 1]? = some (.cells #[.int .i64 (10)] 3 (0, 0)) ∧ wh.heap[w3.drew.heap.size]? = some (.cells #[.pointer (some ⟨S, 0, none⟩)] 60 (0, 0))) := by rw [hwh]; exact ⟨by have := heap_alloc_new (w3.drew.alloc (.cells #[.pointer (some ⟨S, 0, none⟩)] 60)) (.cells #[.int .i64 (10)] 3); simpa using this, (Below.heap_alloc _ _ _ (by simp)).trans (heap_alloc_new _ _)⟩
    clear hwh
    have c9h := (HPh.out.1.low.cell (p := ⟨g, o + 9, none⟩) (block_lt_of_cell HC9.out)).trans HC9.out
    go_wp2_with fail
    refine hK2.out _ _ (by exact c9h) (fun hHeld => ?_)
    clear hK2 K2
    try simp only [Act.put, List.setIfInBounds_toArray, List.set_cons_zero, List.set_cons_succ]
    refine wpAnyH_ready (rs := [7]) (by kernel_rfl) (by simp) ?_
    refine AllReadyH.cons (o := _) rfl (fun K2 hK2 => ?_) AllReadyH.nil
    go_simp
    go_at_call 135
    refine (HH.out (1) (by omega) (10) _ _ _ _ HPh.out.1 HBk.out.1 HBk.out.2 (by have := HL.out; (try simp only [List.length_append, List.length_cons, List.length_nil] at this ⊢); omega)).mono ?_
    rintro e w4 ⟨rfl, hp, hk⟩
    have HP4 : Hid (PS w0 S w4 (l ++ ([116, 114, 121, 32]) ++ pHd (t (0)) (K (0)) (10) ++ ([32, 99, 97, 116, 99, 104, 32]) ++ pHd (t (1)) (K (1)) (10)) ∧ Lib.OthersKept 5 (some S) w w4) := ⟨hp, HPh.out.2.trans hk⟩
    clear hp hk
    have c9j := (HP4.out.1.low.cell (p := ⟨g, o + 9, none⟩) (block_lt_of_cell HC9.out)).trans HC9.out
    go_wp2_with fail
    refine hK2.out _ _ (by exact c9j) (fun hHeld => ?_)
    clear hK2 K2 hHeld
    try simp only [Act.put, List.setIfInBounds_toArray, List.set_cons_zero, List.set_cons_succ]
    refine wpAnyH_done (by kernel_rfl) ?_ _
    clear HPh HBk c93 c9h c9j
    go_wp2_with fail
    go_end0
    refine ⟨rfl, ?_, HP4.out.2⟩
    have hz := HP4.out.1
    try simp only [List.append_assoc, List.cons_append, List.nil_append] at hz ⊢
    exact hz

set_option maxRecDepth 100000 in
set_option maxHeartbeats 3200000 in
theorem w_neg (w0 : World) (S h g o b off N kc : Nat) (K : Nat → NT) (t : Nat → List UInt8) (c9 : w0.cell? ⟨g, o + 9, none⟩ = some (.slice (some ⟨b, off, none⟩) N kc)) (hcap : N ≤ kc) (hbig : N ≤ 140737488355328) (hN : 1 ≤ N) (hT : ∀ i, i < N → Say w0 S 15 #[.pointer (some ⟨S, 0, none⟩), .pointer (some ⟨b, off + i * 10, none⟩)] (t i)) (hA : ∀ i, i < N → NAt w0 (h + 1) (K i) b (off + i * 10) ∧ 0 ≤ (K i).op ∧ (K i).op < 44) : Say w0 S 74 #[.pointer (some ⟨S, 0, none⟩), .pointer (some ⟨g, o, none⟩)] (sNeg K t) := by
  have mixed : Tryz.prog.follows .mixedOrders = true := by kernel_rfl
  have HH : Hid (∀ i, i < N → ∀ (k : Int) (bk bp : Nat) (w : World) (l : List UInt8), PS w0 S w l → w.heap[bk]? = some (.cells #[.int .i64 k] 3 (0, 0)) → w.heap[bp]? = some (.cells #[.pointer (some ⟨S, 0, none⟩)] 60 (0, 0)) → l.length + (pHd (t i) (K i) k).length ≤ 140737488355328 →
      Calls Tryz.prog 135 #[.pointer (some ⟨b, off + i * 10, none⟩), .pointer (some ⟨bk, 0, none⟩), .pointer (some ⟨bp, 0, none⟩)] w fun e w' => e = .returned (.tuple #[]) ∧ PS w0 S w' (l ++ pHd (t i) (K i) k) ∧ Lib.OthersKept 5 (some S) w w') := fun i hi k bk bp w l hP h1 h2 h3 => w_held1 w0 S h (K i) b (off + i * 10) k bk bp (t i) (hA i hi).1 (hA i hi).2 (hT i hi) w l hP h1 h2 h3
  have HC9 := Hid.mk c9
  have q0 : ((0 : Int) < (N : Int)) := by omega
  obtain ⟨aio, aic, ayo, ayc, ano, anc, ako, akc, HA⟩ := (hA 0 (by omega)).1.open_
  have HC0 : Hid (w0.cell? ⟨b, off, none⟩ = some (.int .i64 (K 0).op)) := by have := HA.c0; show _ = _; simpa using this
  clear hT hA c9 HA
  unfold sNeg
  generalize hko : (K 0).op = op at *
  clear hko
  by_cases h1 : op = 11
  · rw [if_pos h1]
    subst h1
    intro w l hP hlen
    have HP0 := Hid.mk (And.intro hP (Lib.OthersKept.refl 5 (some S) w))
    have HL := Hid.mk hlen
    clear hP hlen
    go_enter Tryz.func74, Tryz.ntmps74
    have c90 := (HP0.out.1.low.cell (p := ⟨g, o + 9, none⟩) (block_lt_of_cell HC9.out)).trans HC9.out
    have c00 := (HP0.out.1.low.cell (p := ⟨b, off, none⟩) (block_lt_of_cell HC0.out)).trans HC0.out
    go_wp2_with fail
    refine (w_put1 HP0.out.1 _ ([45]) rfl (by have := HL.out; (try simp only [List.length_append, List.length_cons, List.length_nil] at this ⊢); omega)).mono ?_
    rintro e w1 ⟨rfl, hp, hk⟩
    have HP1 : Hid (PS w0 S w1 (l ++ ([45])) ∧ Lib.OthersKept 5 (some S) w w1) := ⟨hp, HP0.out.2.trans hk⟩
    clear hp hk
    clear c90 c00
    have c91 := (HP1.out.1.low.cell (p := ⟨g, o + 9, none⟩) (block_lt_of_cell HC9.out)).trans HC9.out
    have c01 := (HP1.out.1.low.cell (p := ⟨b, off, none⟩) (block_lt_of_cell HC0.out)).trans HC0.out
    go_wp2_with fail
    refine (w_put1 HP1.out.1 _ ([32]) rfl (by have := HL.out; (try simp only [List.length_append, List.length_cons, List.length_nil] at this ⊢); omega)).mono ?_
    rintro e w2 ⟨rfl, hp, hk⟩
    have HP2 : Hid (PS w0 S w2 (l ++ ([45]) ++ ([32])) ∧ Lib.OthersKept 5 (some S) w w2) := ⟨hp, HP1.out.2.trans hk⟩
    clear hp hk
    clear c91 c01
    have c92 := (HP2.out.1.low.cell (p := ⟨g, o + 9, none⟩) (block_lt_of_cell HC9.out)).trans HC9.out
    have c02 := (HP2.out.1.low.cell (p := ⟨b, off, none⟩) (block_lt_of_cell HC0.out)).trans HC0.out
    go_wp2_with fail
    refine wp_region_held_drew (S := (fun u => u.cell? ⟨g, o + 9, none⟩ = some (.slice (some ⟨b, off, none⟩) N kc))) (by kernel_rfl) (by exact c92) (fun hHeld => ?_)
    refine wpAnyH_take (i := 0) (oi := _) (v := .pointer (some ⟨S, 0, none⟩)) rfl (by kernel_rfl) (by kernel_rfl) (by kernel_rfl) (fun _ _ _ h => h) (Or.inl ⟨by rfl, ?_⟩) (by assumption) ?_
    · intro w hSw
      go_simp
      try (intro hq; exfalso; omega)
    try simp only [Act.put, List.setIfInBounds_toArray, List.set_cons_zero, List.set_cons_succ]
    refine wpAnyH_take (i := 2) (oi := _) (v := .pointer (some ⟨g, o, none⟩)) rfl (by kernel_rfl) (by kernel_rfl) (by kernel_rfl) (fun _ _ _ h => h) (Or.inl ⟨by rfl, ?_⟩) (by assumption) ?_
    · intro w hSw
      go_simp
      try (intro hq; exfalso; omega)
    try simp only [Act.put, List.setIfInBounds_toArray, List.set_cons_zero, List.set_cons_succ]
    refine wpAnyH_take (i := 3) (oi := _) (v := .pointer (some ⟨g, o, none⟩)) rfl (by kernel_rfl) (by kernel_rfl) (by kernel_rfl) (fun _ _ _ h => h) (Or.inl ⟨by rfl, ?_⟩) (by assumption) ?_
    · intro w hSw
      go_simp
      try (intro hq; exfalso; omega)
    try simp only [Act.put, List.setIfInBounds_toArray, List.set_cons_zero, List.set_cons_succ]
    refine wpAnyH_take (i := 4) (oi := _) (v := .pointer (some ⟨g, o + 9, none⟩)) rfl (by kernel_rfl) (by kernel_rfl) (by kernel_rfl) (fun _ _ _ h => h) (Or.inl ⟨by rfl, ?_⟩) (by assumption) ?_
    · intro w hSw
      go_simp
      try (intro hq; exfalso; omega)
    try simp only [Act.put, List.setIfInBounds_toArray, List.set_cons_zero, List.set_cons_succ]
    refine wpAnyH_take (i := 5) (oi := _) (v := .slice (some ⟨b, off, none⟩) N kc) rfl (by kernel_rfl) (by kernel_rfl) (by kernel_rfl) (fun _ _ _ h => h) (Or.inl ⟨by rfl, ?_⟩) (by assumption) ?_
    · intro w hSw
      go_simp
      try (intro hq; exfalso; omega)
    try simp only [Act.put, List.setIfInBounds_toArray, List.set_cons_zero, List.set_cons_succ]
    refine wpAnyH_take (i := 6) (oi := _) (v := .pointer (some ⟨b, off + 0 * 10, none⟩)) rfl (by kernel_rfl) (by kernel_rfl) (by kernel_rfl) (fun _ _ _ h => h) (Or.inl ⟨by rfl, ?_⟩) (by assumption) ?_
    · intro w hSw
      go_simp
      try (intro hq; exfalso; omega)
    try simp only [Act.put, List.setIfInBounds_toArray, List.set_cons_zero, List.set_cons_succ]
    refine wpAnyH_ready (rs := [1]) (by kernel_rfl) (by simp) ?_
    refine AllReadyH.cons (o := _) rfl (fun K2 hK2 => ?_) AllReadyH.nil
    go_simp
    go_at_call 107
    refine (w_held S 9 _).mono ?_
    rintro e wh ⟨rfl, hwh⟩
    have HPh : Hid (PS w0 S wh (l ++ ([45]) ++ ([32])) ∧ Lib.OthersKept 5 (some S) w wh) := by rw [hwh]; exact ⟨(HP2.out.1.drew.alloc _).alloc _, (Lib.OthersKept.drew HP2.out.2).alloc _ |>.alloc _⟩
    have HBk : Hid (wh.heap[w2.drew.heap.size + 1]? = some (.cells #[.int .i64 (9)] 3 (0, 0)) ∧ wh.heap[w2.drew.heap.size]? = some (.cells #[.pointer (some ⟨S, 0, none⟩)] 60 (0, 0))) := by rw [hwh]; exact ⟨by have := heap_alloc_new (w2.drew.alloc (.cells #[.pointer (some ⟨S, 0, none⟩)] 60)) (.cells #[.int .i64 (9)] 3); simpa using this, (Below.heap_alloc _ _ _ (by simp)).trans (heap_alloc_new _ _)⟩
    clear hwh
    have c9h := (HPh.out.1.low.cell (p := ⟨g, o + 9, none⟩) (block_lt_of_cell HC9.out)).trans HC9.out
    have c0h := (HPh.out.1.low.cell (p := ⟨b, off, none⟩) (block_lt_of_cell HC0.out)).trans HC0.out
    go_wp2_with fail
    refine hK2.out _ _ (by exact c9h) (fun hHeld => ?_)
    clear hK2 K2
    try simp only [Act.put, List.setIfInBounds_toArray, List.set_cons_zero, List.set_cons_succ]
    refine wpAnyH_ready (rs := [7]) (by kernel_rfl) (by simp) ?_
    refine AllReadyH.cons (o := _) rfl (fun K2 hK2 => ?_) AllReadyH.nil
    go_simp
    go_at_call 135
    refine (HH.out (0) (by omega) (9) _ _ _ _ HPh.out.1 HBk.out.1 HBk.out.2 (by have := HL.out; (try simp only [List.length_append, List.length_cons, List.length_nil] at this ⊢); omega)).mono ?_
    rintro e w3 ⟨rfl, hp, hk⟩
    have HP3 : Hid (PS w0 S w3 (l ++ ([45]) ++ ([32]) ++ pHd (t (0)) (K (0)) (9)) ∧ Lib.OthersKept 5 (some S) w w3) := ⟨hp, HPh.out.2.trans hk⟩
    clear hp hk
    have c9j := (HP3.out.1.low.cell (p := ⟨g, o + 9, none⟩) (block_lt_of_cell HC9.out)).trans HC9.out
    have c0j := (HP3.out.1.low.cell (p := ⟨b, off, none⟩) (block_lt_of_cell HC0.out)).trans HC0.out
    go_wp2_with fail
    refine hK2.out _ _ (by exact c9j) (fun hHeld => ?_)
    clear hK2 K2 hHeld
    try simp only [Act.put, List.setIfInBounds_toArray, List.set_cons_zero, List.set_cons_succ]
    refine wpAnyH_done (by kernel_rfl) ?_ _
    clear HPh HBk c92 c9h c9j c02 c0h c0j
    go_wp2_with fail
    go_end0
    refine ⟨rfl, ?_, HP3.out.2⟩
    have hz := HP3.out.1
    try simp only [List.append_assoc, List.cons_append, List.nil_append] at hz ⊢
    exact hz
  · rw [if_neg h1, List.nil_append]
    have b1 : (op == 11) = false := by rw [beq_eq_false_iff_ne]; exact h1
    intro w l hP hlen
    have HP0 := Hid.mk (And.intro hP (Lib.OthersKept.refl 5 (some S) w))
    have HL := Hid.mk hlen
    clear hP hlen
    go_enter Tryz.func74, Tryz.ntmps74
    have c90 := (HP0.out.1.low.cell (p := ⟨g, o + 9, none⟩) (block_lt_of_cell HC9.out)).trans HC9.out
    have c00 := (HP0.out.1.low.cell (p := ⟨b, off, none⟩) (block_lt_of_cell HC0.out)).trans HC0.out
    go_wp2_with fail
    refine (w_put1 HP0.out.1 _ ([45]) rfl (by have := HL.out; (try simp only [List.length_append, List.length_cons, List.length_nil] at this ⊢); omega)).mono ?_
    rintro e w1 ⟨rfl, hp, hk⟩
    have HP1 : Hid (PS w0 S w1 (l ++ ([45])) ∧ Lib.OthersKept 5 (some S) w w1) := ⟨hp, HP0.out.2.trans hk⟩
    clear hp hk
    clear c90 c00
    have c91 := (HP1.out.1.low.cell (p := ⟨g, o + 9, none⟩) (block_lt_of_cell HC9.out)).trans HC9.out
    have c01 := (HP1.out.1.low.cell (p := ⟨b, off, none⟩) (block_lt_of_cell HC0.out)).trans HC0.out
    go_wp2_with fail
    refine wp_region_held_drew (S := (fun u => u.cell? ⟨g, o + 9, none⟩ = some (.slice (some ⟨b, off, none⟩) N kc))) (by kernel_rfl) (by exact c91) (fun hHeld => ?_)
    refine wpAnyH_take (i := 0) (oi := _) (v := .pointer (some ⟨S, 0, none⟩)) rfl (by kernel_rfl) (by kernel_rfl) (by kernel_rfl) (fun _ _ _ h => h) (Or.inl ⟨by rfl, ?_⟩) (by assumption) ?_
    · intro w hSw
      go_simp
      try (intro hq; exfalso; omega)
    try simp only [Act.put, List.setIfInBounds_toArray, List.set_cons_zero, List.set_cons_succ]
    refine wpAnyH_take (i := 2) (oi := _) (v := .pointer (some ⟨g, o, none⟩)) rfl (by kernel_rfl) (by kernel_rfl) (by kernel_rfl) (fun _ _ _ h => h) (Or.inl ⟨by rfl, ?_⟩) (by assumption) ?_
    · intro w hSw
      go_simp
      try (intro hq; exfalso; omega)
    try simp only [Act.put, List.setIfInBounds_toArray, List.set_cons_zero, List.set_cons_succ]
    refine wpAnyH_take (i := 3) (oi := _) (v := .pointer (some ⟨g, o, none⟩)) rfl (by kernel_rfl) (by kernel_rfl) (by kernel_rfl) (fun _ _ _ h => h) (Or.inl ⟨by rfl, ?_⟩) (by assumption) ?_
    · intro w hSw
      go_simp
      try (intro hq; exfalso; omega)
    try simp only [Act.put, List.setIfInBounds_toArray, List.set_cons_zero, List.set_cons_succ]
    refine wpAnyH_take (i := 4) (oi := _) (v := .pointer (some ⟨g, o + 9, none⟩)) rfl (by kernel_rfl) (by kernel_rfl) (by kernel_rfl) (fun _ _ _ h => h) (Or.inl ⟨by rfl, ?_⟩) (by assumption) ?_
    · intro w hSw
      go_simp
      try (intro hq; exfalso; omega)
    try simp only [Act.put, List.setIfInBounds_toArray, List.set_cons_zero, List.set_cons_succ]
    refine wpAnyH_take (i := 5) (oi := _) (v := .slice (some ⟨b, off, none⟩) N kc) rfl (by kernel_rfl) (by kernel_rfl) (by kernel_rfl) (fun _ _ _ h => h) (Or.inl ⟨by rfl, ?_⟩) (by assumption) ?_
    · intro w hSw
      go_simp
      try (intro hq; exfalso; omega)
    try simp only [Act.put, List.setIfInBounds_toArray, List.set_cons_zero, List.set_cons_succ]
    refine wpAnyH_take (i := 6) (oi := _) (v := .pointer (some ⟨b, off + 0 * 10, none⟩)) rfl (by kernel_rfl) (by kernel_rfl) (by kernel_rfl) (fun _ _ _ h => h) (Or.inl ⟨by rfl, ?_⟩) (by assumption) ?_
    · intro w hSw
      go_simp
      try (intro hq; exfalso; omega)
    try simp only [Act.put, List.setIfInBounds_toArray, List.set_cons_zero, List.set_cons_succ]
    refine wpAnyH_ready (rs := [1]) (by kernel_rfl) (by simp) ?_
    refine AllReadyH.cons (o := _) rfl (fun K2 hK2 => ?_) AllReadyH.nil
    go_simp
    go_at_call 107
    refine (w_held S 9 _).mono ?_
    rintro e wh ⟨rfl, hwh⟩
    have HPh : Hid (PS w0 S wh (l ++ ([45])) ∧ Lib.OthersKept 5 (some S) w wh) := by rw [hwh]; exact ⟨(HP1.out.1.drew.alloc _).alloc _, (Lib.OthersKept.drew HP1.out.2).alloc _ |>.alloc _⟩
    have HBk : Hid (wh.heap[w1.drew.heap.size + 1]? = some (.cells #[.int .i64 (9)] 3 (0, 0)) ∧ wh.heap[w1.drew.heap.size]? = some (.cells #[.pointer (some ⟨S, 0, none⟩)] 60 (0, 0))) := by rw [hwh]; exact ⟨by have := heap_alloc_new (w1.drew.alloc (.cells #[.pointer (some ⟨S, 0, none⟩)] 60)) (.cells #[.int .i64 (9)] 3); simpa using this, (Below.heap_alloc _ _ _ (by simp)).trans (heap_alloc_new _ _)⟩
    clear hwh
    have c9h := (HPh.out.1.low.cell (p := ⟨g, o + 9, none⟩) (block_lt_of_cell HC9.out)).trans HC9.out
    have c0h := (HPh.out.1.low.cell (p := ⟨b, off, none⟩) (block_lt_of_cell HC0.out)).trans HC0.out
    go_wp2_with fail
    refine hK2.out _ _ (by exact c9h) (fun hHeld => ?_)
    clear hK2 K2
    try simp only [Act.put, List.setIfInBounds_toArray, List.set_cons_zero, List.set_cons_succ]
    refine wpAnyH_ready (rs := [7]) (by kernel_rfl) (by simp) ?_
    refine AllReadyH.cons (o := _) rfl (fun K2 hK2 => ?_) AllReadyH.nil
    go_simp
    go_at_call 135
    refine (HH.out (0) (by omega) (9) _ _ _ _ HPh.out.1 HBk.out.1 HBk.out.2 (by have := HL.out; (try simp only [List.length_append, List.length_cons, List.length_nil] at this ⊢); omega)).mono ?_
    rintro e w2 ⟨rfl, hp, hk⟩
    have HP2 : Hid (PS w0 S w2 (l ++ ([45]) ++ pHd (t (0)) (K (0)) (9)) ∧ Lib.OthersKept 5 (some S) w w2) := ⟨hp, HPh.out.2.trans hk⟩
    clear hp hk
    have c9j := (HP2.out.1.low.cell (p := ⟨g, o + 9, none⟩) (block_lt_of_cell HC9.out)).trans HC9.out
    have c0j := (HP2.out.1.low.cell (p := ⟨b, off, none⟩) (block_lt_of_cell HC0.out)).trans HC0.out
    go_wp2_with fail
    refine hK2.out _ _ (by exact c9j) (fun hHeld => ?_)
    clear hK2 K2 hHeld
    try simp only [Act.put, List.setIfInBounds_toArray, List.set_cons_zero, List.set_cons_succ]
    refine wpAnyH_done (by kernel_rfl) ?_ _
    clear HPh HBk c91 c9h c9j c01 c0h c0j
    go_wp2_with fail
    go_end0
    refine ⟨rfl, ?_, HP2.out.2⟩
    have hz := HP2.out.1
    try simp only [List.append_assoc, List.cons_append, List.nil_append] at hz ⊢
    exact hz
end Go.Proofs.YtcadknhedfnaoaaGreatDoor
