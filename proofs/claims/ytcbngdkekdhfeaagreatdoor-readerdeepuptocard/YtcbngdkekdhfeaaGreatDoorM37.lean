import Derived.Test.YtcbngdkekdhfeaaGreatDoorM35
import Derived.Test.YtcbngdkekdhfeaaGreatDoorM31
import Derived.Test.YtcbngdkekdhfeaaGreatDoorM34
namespace Go.Proofs.YtcbngdkekdhfeaaGreatDoor
open Go.RowKit Go.Shelf
set_option linter.unusedVariables false
set_option linter.unusedSimpArgs false
attribute [local go_sem] Oper.semAt_some

theorem onlL_rd (l : List UInt8) (vl : Tok → Nat → Rd VT) : onlL l vl 0 = match rdL l vl 0 with | .bad e q => .bad e q | .ok T q => endL l T q := by
  unfold onlL rdL
  cases mustL l 0 with
  | bad e q => rfl
  | ok t p1 =>
    dsimp only
    cases vl t p1 <;> rfl

set_option maxRecDepth 100000 in
set_option maxHeartbeats 3200000 in
theorem w_5One (s : ByteArray) (hs : s.size ≤ 1048576) (h : Nat) (vl : Tok → Nat → Rd VT) (HR : RdC s h 0 vl) (HU : ∀ T q, rdL s.data.toList vl 0 = .ok T q → q ≤ s.size) (w : World) :
    Calls Tryz.prog 30 #[.string s] w fun e w' => OneR h w (onlL s.data.toList vl 0) e w' := by
  have hmx : Tryz.prog.follows .mixedOrders = true := by kernel_rfl
  have hl : s.data.toList.length = s.size := size_lst s
  have HRd : Hid (∀ u, Calls Tryz.prog 27 #[.string s, .int .i64 0, .int .i64 0] u fun e w' => An5 h u (rdL s.data.toList vl 0) e w') := fun u => HR 0 u (Nat.zero_le _)
  have HN := Hid.mk (fun (u : World) (q : Nat) (hq : q ≤ s.size) => w_5Next s q u hq hs)
  obtain ⟨R, hR⟩ : ∃ R, onlL s.data.toList vl 0 = R := ⟨_, rfl⟩
  rw [hR]
  rw [onlL_rd] at hR
  have HRR0 := Hid.mk hR
  have HUU := Hid.mk HU
  clear HR hR HU
  go_enter Tryz.func30, Tryz.ntmps30
  go_wp2_with fail
  refine (HRd.out _).mono ?_
  rintro e w1 ⟨hb1, hm⟩
  obtain ⟨hsz, hbw, hbx⟩ := box_pc hb1
  rw [heap_alloc_new] at hbx
  have hR := HRR0.out
  have hz1 := hb1.size
  cases hr : rdL s.data.toList vl 0 with
  | bad er q =>
    rw [hr] at hm hR
    obtain ⟨h0, rfl⟩ := hm
    have HRR : Hid (Rd.bad er q = R) := hR
    have hcb : (((er : Nat) : Int) == 0) = false := by rw [beq_eq_false_iff_ne]; omega
    have hcn : ¬ ((er : Nat) : Int) = 0 := by omega
    obtain ⟨t0, t1, t2, t3, t4, f0, f1, f2, f3, f4⟩ := vbox_cells hbx
    have HX := Hid.mk hbx
    have HB := Hid.mk hbw
    clear hb1 hbx hbw hR h0 hr HRR0 hz1
    unfold bad5 ans5
    go_wp2_with fail
    go_region_with fail
    all_goals go_wp2_with fail
    all_goals
      generalize hz5 : (((((w1.setCell ⟨w.heap.size, 0, none⟩ (.int .i64 0)).setCell ⟨w.heap.size, 1, none⟩ (.string ⟨#[]⟩)).setCell ⟨w.heap.size, 2, none⟩ (.string ⟨#[]⟩)).setCell ⟨w.heap.size, 3, none⟩ (.slice none 0 0)).setCell ⟨w.heap.size, 4, none⟩ (.slice none 0 0)) = W4
      obtain ⟨e4, k4, s4⟩ := rbox_set5 w1 _ _ _ _ _ _ _ _ _ _ _ _ HX.out W4 hz5.symm
      have b4 : Below w.heap.size w W4 := by rw [← hz5]; exact ((((HB.out.setCell (p := ⟨w.heap.size, 0, none⟩) (Nat.le_refl _) _).setCell (p := ⟨w.heap.size, 1, none⟩) (Nat.le_refl _) _).setCell (p := ⟨w.heap.size, 2, none⟩) (Nat.le_refl _) _).setCell (p := ⟨w.heap.size, 3, none⟩) (Nat.le_refl _) _).setCell (p := ⟨w.heap.size, 4, none⟩) (Nat.le_refl _) _
      generalize hz6 : (World.alloc W4 _).drew = W5
      have k5 : ∀ b, b < W4.heap.size → W5.heap[b]? = W4.heap[b]? := fun b hb => by rw [← hz6]; exact Below.heap_alloc _ _ _ hb
      have s5 : W4.heap.size ≤ W5.heap.size := by rw [← hz6]; show _ ≤ (World.alloc W4 _).heap.size; simp
      have b5 : Below w.heap.size w W5 := by rw [← hz6]; exact (b4.alloc (by omega) _).drew
      obtain ⟨d0, d1, d2, d3, d4, _⟩ := vbox_cells ((k5 _ (by omega)).trans e4)
      refine bodyPost_ret (v := .tuple #[.agg #[.int .i64 0, .string ⟨#[]⟩, .string ⟨#[]⟩, .slice none 0 0, .slice none 0 0], .int .i64 (er : Int), .int .i64 (q : Int)]) (by simp [Act.put, results, Tryz.results30, go_sem, d0, d1, d2, d3, d4]) rfl ⟨b5, ?_⟩
      rw [← HRR.out]; rfl
  | ok T q =>
    rw [hr] at hm hR
    dsimp only at hR
    obtain ⟨x0, x1, x2, x3, x4, rfl, hF⟩ := hm
    obtain ⟨jo, jc, ko, kc, hv, hrest⟩ := id hF
    simp only [Value.agg.injEq, Array.mk.injEq, List.cons.injEq, and_true] at hv
    obtain ⟨rfl, rfl, rfl, rfl, rfl⟩ := hv
    clear hrest
    have hq := HUU.out T q hr
    have HF := Hid.mk (And.intro hF hz1)
    have HX1 := Hid.mk hbx
    have HB1 := Hid.mk hbw
    have HRR1 := Hid.mk hR
    clear hb1 hbx hbw hR hF hr HRR0 hz1
    unfold ans5
    go_wp2_with fail
    refine (HN.out _ q hq).mono ?_
    rintro e w2 ⟨hb2, hnx⟩
    have hz2 := hb2.size
    rw [World.size_alloc] at hz2
    have hbx : w2.heap[w.heap.size]? = some (.cells #[.int .i64 0, .string ⟨#[]⟩, .string ⟨#[]⟩, .slice none 0 0, .slice none 0 0] 27 (0, 0)) := (hb2.block _ (by simp; omega)).trans ((Below.heap_alloc _ _ _ hsz).trans HX1.out)
    have hax : w2.heap[w1.heap.size]? = some (.cells #[.int .i64 T.kind, .string T.num, .string T.text, .slice jo T.items.length jc, .slice ko T.keys.length kc, .int .i64 (q : Int), .int .i64 0] 72 (0, 0)) := (hb2.block _ (by simp)).trans (heap_alloc_new w1 _)
    have HB : Hid (Below w.heap.size w w2) := (HB1.out.alloc HB1.out.size _).trans (hb2.mono (by simp; omega))
    have HFF : Hid (InF (w.heap.size + 1) w2 (h + 1) T (.agg #[.int .i64 T.kind, .string T.num, .string T.text, .slice jo T.items.length jc, .slice ko T.keys.length kc])) := by
      have h1 := HF.out.2
      rw [World.size_alloc] at h1
      refine InF.keepB (by omega) (fun b hb hl2 => (hb2.block b (by simp; omega)).trans (Below.heap_alloc _ _ _ hl2)) (by simp) HF.out.1
    obtain ⟨t0, t1, t2, t3, t4, f0, f1, f2, f3, f4⟩ := vbox_cells hbx
    obtain ⟨g0, g1, g2, g3, g4, g5, g6, _⟩ := box7_cells hax
    have hws : w.heap.size < w2.heap.size := by omega
    have hws1 : w1.heap.size < w2.heap.size := by omega
    have HX := Hid.mk hbx
    clear hb2 hbx hax
    have hR := HRR1.out
    unfold endL at hR
    rcases hnx with ⟨h1, rfl⟩ | ⟨h1, ht⟩
    · rw [if_neg h1] at hR
      have HRR : Hid (Rd.ok T q = R) := hR
      clear hR h1 HRR1
      unfold pc5
      go_wp2_with fail
      (try simp only [Exit.inBlock, Exit.then])
      generalize hz5 : (((((w2.setCell ⟨w.heap.size, 0, none⟩ (.int .i64 T.kind)).setCell ⟨w.heap.size, 1, none⟩ (.string T.num)).setCell ⟨w.heap.size, 2, none⟩ (.string T.text)).setCell ⟨w.heap.size, 3, none⟩ (.slice jo T.items.length jc)).setCell ⟨w.heap.size, 4, none⟩ (.slice ko T.keys.length kc)) = W4
      obtain ⟨e4, k4, s4⟩ := rbox_set5 w2 _ _ _ _ _ _ _ _ _ _ _ _ HX.out W4 hz5.symm
      have b4 : Below w.heap.size w W4 := by rw [← hz5]; exact ((((HB.out.setCell (p := ⟨w.heap.size, 0, none⟩) (Nat.le_refl _) _).setCell (p := ⟨w.heap.size, 1, none⟩) (Nat.le_refl _) _).setCell (p := ⟨w.heap.size, 2, none⟩) (Nat.le_refl _) _).setCell (p := ⟨w.heap.size, 3, none⟩) (Nat.le_refl _) _).setCell (p := ⟨w.heap.size, 4, none⟩) (Nat.le_refl _) _
      generalize hz6 : (World.alloc W4 _) = W5
      have k5 : ∀ b, b < W4.heap.size → W5.heap[b]? = W4.heap[b]? := fun b hb => by rw [← hz6]; exact Below.heap_alloc _ _ _ hb
      have s5 : W4.heap.size ≤ W5.heap.size := by rw [← hz6]; show _ ≤ (World.alloc W4 _).heap.size; simp
      have b5 : Below w.heap.size w W5 := by rw [← hz6]; exact (b4.alloc (by omega) _)
      obtain ⟨d0, d1, d2, d3, d4, _⟩ := vbox_cells ((k5 _ (by omega)).trans e4)
      refine bodyPost_ret (v := .tuple #[.agg #[.int .i64 T.kind, .string T.num, .string T.text, .slice jo T.items.length jc, .slice ko T.keys.length kc], .int .i64 0, .int .i64 0]) (by simp [Act.put, results, Tryz.results30, go_sem, d0, d1, d2, d3, d4]) rfl ⟨b5, ?_⟩
      rw [← HRR.out]; exact ⟨_, rfl, InF.keepB (by omega) (fun b hb hl2 => (k5 b (by omega)).trans (k4 b (by omega))) (by omega) HFF.out⟩
    · rw [if_pos h1] at hR
      rcases ht with ⟨h2, rfl⟩ | ⟨h2, sg, rfl⟩
      · rw [if_pos h2] at hR
        have hk := nextT_kind h2
        have hsg : sg5 (nextT s.data.toList (behL s.data.toList q cBl)).kind ≠ 36 := by
          have hcs : (nextT s.data.toList (behL s.data.toList q cBl)).kind = 1 ∨ (nextT s.data.toList (behL s.data.toList q cBl)).kind = 2 ∨ (nextT s.data.toList (behL s.data.toList q cBl)).kind = 3 ∨ (nextT s.data.toList (behL s.data.toList q cBl)).kind = 4 ∨ (nextT s.data.toList (behL s.data.toList q cBl)).kind = 5 ∨ (nextT s.data.toList (behL s.data.toList q cBl)).kind = 6 ∨ (nextT s.data.toList (behL s.data.toList q cBl)).kind = 7 ∨ (nextT s.data.toList (behL s.data.toList q cBl)).kind = 8 ∨ (nextT s.data.toList (behL s.data.toList q cBl)).kind = 9 ∨ (nextT s.data.toList (behL s.data.toList q cBl)).kind = 10 ∨ (nextT s.data.toList (behL s.data.toList q cBl)).kind = 11 := by omega
          rcases hcs with hc | hc | hc | hc | hc | hc | hc | hc | hc | hc | hc <;> rw [hc] <;> decide
        have HRR : Hid (Rd.bad 54 (nextT s.data.toList (behL s.data.toList q cBl)).at_ = R) := hR
        clear hR h1 h2 hk HRR1
        generalize sg5 (nextT s.data.toList (behL s.data.toList q cBl)).kind = sg at *
        generalize nextT s.data.toList (behL s.data.toList q cBl) = t at *
        obtain ⟨kd, pa, fi, tx, er⟩ := t
        dsimp only at HRR ⊢
        have hcb : (((sg : Nat) : Int) == 36) = false := by rw [beq_eq_false_iff_ne]; omega
        have hcn : ¬ ((sg : Nat) : Int) = 36 := by omega
        clear hsg
        unfold pc5
        go_wp2_with fail
        go_region_with fail
        all_goals go_wp2_with fail
        all_goals
          generalize hz5 : (((((w2.setCell ⟨w.heap.size, 0, none⟩ (.int .i64 0)).setCell ⟨w.heap.size, 1, none⟩ (.string ⟨#[]⟩)).setCell ⟨w.heap.size, 2, none⟩ (.string ⟨#[]⟩)).setCell ⟨w.heap.size, 3, none⟩ (.slice none 0 0)).setCell ⟨w.heap.size, 4, none⟩ (.slice none 0 0)) = W4
          obtain ⟨e4, k4, s4⟩ := rbox_set5 w2 _ _ _ _ _ _ _ _ _ _ _ _ HX.out W4 hz5.symm
          have b4 : Below w.heap.size w W4 := by rw [← hz5]; exact ((((HB.out.setCell (p := ⟨w.heap.size, 0, none⟩) (Nat.le_refl _) _).setCell (p := ⟨w.heap.size, 1, none⟩) (Nat.le_refl _) _).setCell (p := ⟨w.heap.size, 2, none⟩) (Nat.le_refl _) _).setCell (p := ⟨w.heap.size, 3, none⟩) (Nat.le_refl _) _).setCell (p := ⟨w.heap.size, 4, none⟩) (Nat.le_refl _) _
          generalize hz6 : (World.alloc W4 _).drew = W5
          have k5 : ∀ b, b < W4.heap.size → W5.heap[b]? = W4.heap[b]? := fun b hb => by rw [← hz6]; exact Below.heap_alloc _ _ _ hb
          have s5 : W4.heap.size ≤ W5.heap.size := by rw [← hz6]; show _ ≤ (World.alloc W4 _).heap.size; simp
          have b5 : Below w.heap.size w W5 := by rw [← hz6]; exact (b4.alloc (by omega) _).drew
          obtain ⟨d0, d1, d2, d3, d4, _⟩ := vbox_cells ((k5 _ (by omega)).trans e4)
          refine bodyPost_ret (v := .tuple #[.agg #[.int .i64 0, .string ⟨#[]⟩, .string ⟨#[]⟩, .slice none 0 0, .slice none 0 0], .int .i64 54, .int .i64 (pa : Int)]) (by simp [Act.put, results, Tryz.results30, go_sem, d0, d1, d2, d3, d4]) rfl ⟨b5, ?_⟩
          rw [← HRR.out]; rfl
      · rw [if_neg h2] at hR
        have HRR : Hid (Rd.bad (nextT s.data.toList (behL s.data.toList q cBl)).err (nextT s.data.toList (behL s.data.toList q cBl)).at_ = R) := hR
        clear hR h1 HRR1
        generalize nextT s.data.toList (behL s.data.toList q cBl) = t at *
        obtain ⟨kd, pa, fi, tx, er⟩ := t
        dsimp only at HRR h2 ⊢
        have hcb : (((er : Nat) : Int) == 0) = false := by rw [beq_eq_false_iff_ne]; omega
        have hcn : ¬ ((er : Nat) : Int) = 0 := by omega
        clear h2
        unfold pc5
        go_wp2_with fail
        go_region_with fail
        all_goals go_wp2_with fail
        all_goals
          generalize hz5 : (((((w2.setCell ⟨w.heap.size, 0, none⟩ (.int .i64 0)).setCell ⟨w.heap.size, 1, none⟩ (.string ⟨#[]⟩)).setCell ⟨w.heap.size, 2, none⟩ (.string ⟨#[]⟩)).setCell ⟨w.heap.size, 3, none⟩ (.slice none 0 0)).setCell ⟨w.heap.size, 4, none⟩ (.slice none 0 0)) = W4
          obtain ⟨e4, k4, s4⟩ := rbox_set5 w2 _ _ _ _ _ _ _ _ _ _ _ _ HX.out W4 hz5.symm
          have b4 : Below w.heap.size w W4 := by rw [← hz5]; exact ((((HB.out.setCell (p := ⟨w.heap.size, 0, none⟩) (Nat.le_refl _) _).setCell (p := ⟨w.heap.size, 1, none⟩) (Nat.le_refl _) _).setCell (p := ⟨w.heap.size, 2, none⟩) (Nat.le_refl _) _).setCell (p := ⟨w.heap.size, 3, none⟩) (Nat.le_refl _) _).setCell (p := ⟨w.heap.size, 4, none⟩) (Nat.le_refl _) _
          generalize hz6 : (World.alloc W4 _).drew = W5
          have k5 : ∀ b, b < W4.heap.size → W5.heap[b]? = W4.heap[b]? := fun b hb => by rw [← hz6]; exact Below.heap_alloc _ _ _ hb
          have s5 : W4.heap.size ≤ W5.heap.size := by rw [← hz6]; show _ ≤ (World.alloc W4 _).heap.size; simp
          have b5 : Below w.heap.size w W5 := by rw [← hz6]; exact (b4.alloc (by omega) _).drew
          obtain ⟨d0, d1, d2, d3, d4, _⟩ := vbox_cells ((k5 _ (by omega)).trans e4)
          refine bodyPost_ret (v := .tuple #[.agg #[.int .i64 0, .string ⟨#[]⟩, .string ⟨#[]⟩, .slice none 0 0, .slice none 0 0], .int .i64 (er : Int), .int .i64 (pa : Int)]) (by simp [Act.put, results, Tryz.results30, go_sem, d0, d1, d2, d3, d4]) rfl ⟨b5, ?_⟩
          rw [← HRR.out]; rfl
end Go.Proofs.YtcbngdkekdhfeaaGreatDoor
namespace Go.Proofs.YtcbngdkekdhfeaaGreatDoor
open Go.RowKit Go.Shelf
set_option linter.unusedVariables false
set_option linter.unusedSimpArgs false

theorem mustL_of {l : List UInt8} {p q : Nat} {t : Tok} (hq : behL l p cBl = q) (hlt : q < l.length) (ht : nextT l q = t) (he : t.err = 0) : mustL l p = .ok t t.fin := by
  unfold mustL
  rw [hq, if_pos hlt, ht, if_pos he]
theorem loopL_end {σ : Type} {l : List UInt8} {cl : Nat} {pt : σ → Tok → Nat → Rd σ} {f : Nat} {x : σ} {p p1 : Nat} {t : Tok} (hm : mustL l p = .ok t p1) (hk : t.kind = cl) : loopL l cl pt (f + 1) x p = .ok x p1 := by
  rw [loopL, hm]
  dsimp only
  rw [if_pos hk]
theorem loopL_go {σ : Type} {l : List UInt8} {cl : Nat} {pt : σ → Tok → Nat → Rd σ} {f : Nat} {x : σ} {p p1 p2 : Nat} {t t2 : Tok} (hm : mustL l p = .ok t p1) (hk : ¬ t.kind = cl) (h6 : t.kind = 6) (hm2 : mustL l p1 = .ok t2 p2) : loopL l cl pt (f + 1) x p = match pt x t2 p2 with | .bad e q => .bad e q | .ok y p3 => loopL l cl pt f y p3 := by
  rw [loopL, hm]
  dsimp only
  rw [if_neg hk, if_pos h6, hm2]
  dsimp only
  cases pt x t2 p2 <;> rfl
theorem rowL_go {σ : Type} {l : List UInt8} {cl : Nat} {pt : σ → Tok → Nat → Rd σ} {x : σ} {p p1 : Nat} {t : Tok} (hm : mustL l p = .ok t p1) (hk : ¬ t.kind = cl) : rowL l cl pt x p = match pt x t p1 with | .bad e q => .bad e q | .ok y p2 => loopL l cl pt (l.length + 1) y p2 := by
  unfold rowL
  rw [hm]
  dsimp only
  rw [if_neg hk]
  cases pt x t p1 <;> rfl

def f1L : List UInt8 := [91, 49, 44, 123, 34, 97, 34, 58, 110, 117, 108, 108, 125, 93]
def f2L : List UInt8 := [91, 49, 44, 93]
def f3L : List UInt8 := [49, 32, 116, 114, 117, 101]
theorem f1Q : unqL f1L 5 [] = ([97], 7, 0) := by
  rw [unqL, dif_pos (by decide), if_neg (by decide), if_neg (by decide), if_neg (by decide), if_neg (by decide), if_pos (by decide)]
  rw [show 5 + (decL (f1L.drop 5)).2 = 6 from by decide, unqL_quote _ (by decide) (by decide)]
  rfl
theorem f1Lit : nextT f1L 4 = ⟨11, 4, 7, [97], 0⟩ := by
  unfold nextT litT
  rw [if_neg (by decide), if_pos (by decide), f1Q]
  rfl
theorem f1m0 : mustL f1L 0 = .ok ⟨3, 0, 1, [], 0⟩ 1 := mustL_of (q := 0) (by decide) (by decide) (by kernel_rfl) rfl
theorem f1m1 : mustL f1L 1 = .ok ⟨10, 1, 2, [49], 0⟩ 2 := mustL_of (q := 1) (by decide) (by decide) (by kernel_rfl) rfl
theorem f1m2 : mustL f1L 2 = .ok ⟨6, 2, 3, [], 0⟩ 3 := mustL_of (q := 2) (by decide) (by decide) (by kernel_rfl) rfl
theorem f1m3 : mustL f1L 3 = .ok ⟨1, 3, 4, [], 0⟩ 4 := mustL_of (q := 3) (by decide) (by decide) (by kernel_rfl) rfl
theorem f1m4 : mustL f1L 4 = .ok ⟨11, 4, 7, [97], 0⟩ 7 := mustL_of (q := 4) (by decide) (by decide) f1Lit rfl
theorem f1m7 : mustL f1L 7 = .ok ⟨5, 7, 8, [], 0⟩ 8 := mustL_of (q := 7) (by decide) (by decide) (by kernel_rfl) rfl
theorem f1m8 : mustL f1L 8 = .ok ⟨7, 8, 12, [], 0⟩ 12 := mustL_of (q := 8) (by decide) (by decide) (by kernel_rfl) rfl
theorem f1m12 : mustL f1L 12 = .ok ⟨2, 12, 13, [], 0⟩ 13 := mustL_of (q := 12) (by decide) (by decide) (by kernel_rfl) rfl
theorem f1m13 : mustL f1L 13 = .ok ⟨4, 13, 14, [], 0⟩ 14 := mustL_of (q := 13) (by decide) (by decide) (by kernel_rfl) rfl
theorem f1Obj (d f : Nat) (hd : d + 1 ≤ 64) : valL f1L (obL f1L) (f + 1) (d + 1) ⟨1, 3, 4, [], 0⟩ 4 = .ok (objT [([97], .mk 0 .empty .empty [] [])]) 13 := by
  have hv : valL f1L (obL f1L) f (d + 2) ⟨7, 8, 12, [], 0⟩ 12 = .ok (.mk 0 .empty .empty [] []) 12 := by
    cases f <;> rfl
  have hp : oPt f1L (valL f1L (obL f1L) f (d + 2)) [] ⟨11, 4, 7, [97], 0⟩ 7 = .ok [([97], .mk 0 .empty .empty [] [])] 12 := by
    unfold oPt
    rw [if_pos rfl, if_neg (by decide), f1m7]
    dsimp only
    rw [if_pos rfl, f1m8]
    dsimp only
    rw [hv]
    rfl
  show valAt (d + 1) _ (obL f1L (valL f1L (obL f1L) f (d + 2)) 4) _ _ = _
  unfold valAt
  rw [if_neg (by show ¬ 1 = 3; omega), if_pos rfl, if_pos hd]
  unfold obL
  rw [rowL_go f1m4 (by decide)]
  unfold obL at hp
  rw [hp]
  dsimp only
  rw [loopL_end f1m12 rfl]
theorem f1Arr : valL f1L (obL f1L) 64 1 ⟨3, 0, 1, [], 0⟩ 1 = .ok (.mk 5 .empty .empty [.mk 3 (bT [49]) .empty [] [], objT [([97], .mk 0 .empty .empty [] [])]] []) 14 := by
  show valAt 1 (arrL f1L (valL f1L (obL f1L) 63 2) 1) _ _ _ = _
  unfold valAt
  rw [if_pos rfl, if_pos (by decide)]
  unfold arrL
  rw [rowL_go f1m1 (by decide)]
  have h1 : aPt (valL f1L (obL f1L) 63 2) [] ⟨10, 1, 2, [49], 0⟩ 2 = .ok [.mk 3 (bT [49]) .empty [] []] 2 := rfl
  rw [h1]
  dsimp only
  rw [show f1L.length + 1 = 13 + 1 + 1 from rfl, loopL_go f1m2 (by decide) rfl f1m3]
  have h2 : aPt (valL f1L (obL f1L) 63 2) [.mk 3 (bT [49]) .empty [] []] ⟨1, 3, 4, [], 0⟩ 4 = .ok [.mk 3 (bT [49]) .empty [] [], objT [([97], .mk 0 .empty .empty [] [])]] 13 := by
    unfold aPt
    rw [show (63 : Nat) = 62 + 1 from rfl, show (2 : Nat) = 1 + 1 from rfl, f1Obj 1 62 (by omega)]
    rfl
  rw [h2]
  dsimp only
  rw [loopL_end f1m13 rfl]
theorem f2m0 : mustL f2L 0 = .ok ⟨3, 0, 1, [], 0⟩ 1 := mustL_of (q := 0) (by decide) (by decide) (by kernel_rfl) rfl
theorem f2m1 : mustL f2L 1 = .ok ⟨10, 1, 2, [49], 0⟩ 2 := mustL_of (q := 1) (by decide) (by decide) (by kernel_rfl) rfl
theorem f2m2 : mustL f2L 2 = .ok ⟨6, 2, 3, [], 0⟩ 3 := mustL_of (q := 2) (by decide) (by decide) (by kernel_rfl) rfl
theorem f2m3 : mustL f2L 3 = .ok ⟨4, 3, 4, [], 0⟩ 4 := mustL_of (q := 3) (by decide) (by decide) (by kernel_rfl) rfl
theorem f2Arr : valL f2L (obL f2L) 64 1 ⟨3, 0, 1, [], 0⟩ 1 = .bad 51 3 := by
  show valAt 1 (arrL f2L (valL f2L (obL f2L) 63 2) 1) _ _ _ = _
  unfold valAt
  rw [if_pos rfl, if_pos (by decide)]
  unfold arrL
  rw [rowL_go f2m1 (by decide)]
  have h1 : aPt (valL f2L (obL f2L) 63 2) [] ⟨10, 1, 2, [49], 0⟩ 2 = .ok [.mk 3 (bT [49]) .empty [] []] 2 := rfl
  rw [h1]
  dsimp only
  rw [show f2L.length + 1 = 4 + 1 from rfl, loopL_go f2m2 (by decide) rfl f2m3]
  rfl
theorem f1One : onlL f1L (valL f1L (obL f1L) 64 1) 0 = .ok (.mk 5 .empty .empty [.mk 3 (bT [49]) .empty [] [], objT [([97], .mk 0 .empty .empty [] [])]] []) 14 := by
  unfold onlL
  rw [f1m0]
  dsimp only
  rw [f1Arr]
  rfl
theorem f2One : onlL f2L (valL f2L (obL f2L) 64 1) 0 = .bad 51 3 := by
  unfold onlL
  rw [f2m0]
  dsimp only
  rw [f2Arr]
theorem f3Each : eachL f3L (valL f3L (obL f3L) 64 1) 7 [] 0 = ([.mk 3 (bT [49]) .empty [] [], .mk 2 .empty .empty [] []], 0, 0) := by
  have g0 : folL f3L (valL f3L (obL f3L) 64 1) 0 = .ok (some (.mk 3 (bT [49]) .empty [] [])) 1 := by
    unfold folL
    rw [show behL f3L 0 cBl = 0 from by decide, if_pos (by decide), show nextT f3L 0 = ⟨10, 0, 1, [49], 0⟩ from by kernel_rfl, if_pos rfl]
    rfl
  have g1 : folL f3L (valL f3L (obL f3L) 64 1) 1 = .ok (some (.mk 2 .empty .empty [] [])) 6 := by
    unfold folL
    rw [show behL f3L 1 cBl = 2 from by decide, if_pos (by decide), show nextT f3L 2 = ⟨9, 2, 6, [], 0⟩ from by kernel_rfl, if_pos rfl]
    rfl
  have g2 : folL f3L (valL f3L (obL f3L) 64 1) 6 = .ok none 6 := by
    unfold folL
    rw [if_neg (by decide)]
  rw [eachL, g0]
  dsimp only
  rw [eachL, g1]
  dsimp only
  rw [eachL, g2]
  rfl
end Go.Proofs.YtcbngdkekdhfeaaGreatDoor
namespace Go.Proofs.YtcbngdkekdhfeaaGreatDoor
open Go.RowKit Go.Shelf
set_option linter.unusedVariables false
set_option linter.unusedSimpArgs false
attribute [local go_sem] Oper.semAt_some

def vL (s : ByteArray) : Tok → Nat → Rd VT := valL s.data.toList (obL s.data.toList) 64 1
theorem vL_ok {s : ByteArray} (ss : s.size ≤ 16777216) (I : Nat) (gI : I ≠ 3) : ValOk s I 64 (vL s) := fun t p u h1 h2 h3 h4 => w_vals ss gI t p u h1 h2 h3 h4
theorem vL_up {s : ByteArray} (ss : s.size ≤ 16777216) : ValUp s (vL s) := by
  have h := valL_up (objOk ss (3 + 1) (by omega)) 64 1
  exact h
theorem must_tx {s : ByteArray} (ss : s.size ≤ 16777216) (p : Nat) (t : Tok) (q : Nat) (h : mustL s.data.toList p = .ok t q) : t.text.length ≤ 140737488355328 := by
  have h1 := mustL_text h
  have h2 : s.data.toList.length = s.size := size_lst s
  omega
theorem w_One5 (s : ByteArray) (ss : s.size ≤ 16777216) (w : World) (hE : ErrIn w) : Calls Tryz.prog 9 #[.string s] w fun e w' => OneR 64 w (onlL s.data.toList (vL s) 0) e w' :=
  w_One s ss 64 (vL s) (fun I gI => vL_ok ss I gI) (fun t p T q hp h => (vL_up ss t p T q hp h).2) (fun p t q h => must_tx ss p t q h) w hE
theorem nextT_out {l : List UInt8} {q : Nat} (h : ¬ q < l.length) : nextT l q = ⟨0, q, 0, [], 40⟩ := by
  have e : l.getD q 0 = 0 := by simp [List.getD, List.getElem?_eq_none (Nat.le_of_not_lt h)]
  unfold nextT
  rw [e, if_neg (by decide), if_neg (by decide), if_neg (by decide), if_neg (by decide)]
theorem next_tx {s : ByteArray} (ss : s.size ≤ 16777216) (q : Nat) : (nextT s.data.toList q).text.length ≤ 140737488355328 := by
  have h2 : s.data.toList.length = s.size := size_lst s
  by_cases h : q < s.data.toList.length
  · have h1 := nextT_text h
    omega
  · rw [nextT_out h]
    exact Nat.zero_le _
theorem w_Many5 (s : ByteArray) (ss : s.size ≤ 16777216) (w : World) (hE : ErrIn w) : Calls Tryz.prog 17 #[.string s] w fun e w' => ManyR 64 (eachL s.data.toList (vL s) (s.size + 1) [] 0) w e w' :=
  w_Many s ss 64 (vL s) (fun I gI => vL_ok ss I gI) (vL_up ss) (fun p => next_tx ss _) w hE

set_option maxRecDepth 100000 in
set_option maxHeartbeats 3200000 in
theorem w_fixed5 (w : World) (hE : ErrIn w) : Calls Tryz.prog 8 #[] w fun e w' => Below w.heap.size w w' ∧ e = .returned (.bool true) := by
  have H1 : Hid (∀ u, ErrIn u → Calls Tryz.prog 9 #[.string ⟨#[91, 49, 44, 123, 34, 97, 34, 58, 110, 117, 108, 108, 125, 93]⟩] u fun e w' => Below u.heap.size u w' ∧ ∃ v, e = .returned (.tuple #[v, .int .i64 0, .int .i64 0]) ∧ InF u.heap.size w' 65 (.mk 5 .empty .empty [.mk 3 (bT [49]) .empty [] [], objT [([97], .mk 0 .empty .empty [] [])]] []) v) := fun u hu => by
    have h := w_One5 ⟨#[91, 49, 44, 123, 34, 97, 34, 58, 110, 117, 108, 108, 125, 93]⟩ (by decide) u hu
    have e : onlL (ByteArray.mk #[91, 49, 44, 123, 34, 97, 34, 58, 110, 117, 108, 108, 125, 93]).data.toList (vL ⟨#[91, 49, 44, 123, 34, 97, 34, 58, 110, 117, 108, 108, 125, 93]⟩) 0 = _ := f1One
    rw [e] at h
    exact h
  have H2 : Hid (∀ u, ErrIn u → Calls Tryz.prog 9 #[.string ⟨#[91, 49, 44, 93]⟩] u fun e w' => Below u.heap.size u w' ∧ e = .returned (.tuple #[v0V, .int .i64 51, .int .i64 3])) := fun u hu => by
    have h := w_One5 ⟨#[91, 49, 44, 93]⟩ (by decide) u hu
    have e : onlL (ByteArray.mk #[91, 49, 44, 93]).data.toList (vL ⟨#[91, 49, 44, 93]⟩) 0 = _ := f2One
    rw [e] at h
    exact h
  have H3 : Hid (∀ u, ErrIn u → Calls Tryz.prog 17 #[.string ⟨#[49, 32, 116, 114, 117, 101]⟩] u fun e w' => ManyR 64 ([.mk 3 (bT [49]) .empty [] [], .mk 2 .empty .empty [] []], 0, 0) u e w') := fun u hu => by
    have h := w_Many5 ⟨#[49, 32, 116, 114, 117, 101]⟩ (by decide) u hu
    have e : eachL (ByteArray.mk #[49, 32, 116, 114, 117, 101]).data.toList (vL ⟨#[49, 32, 116, 114, 117, 101]⟩) ((ByteArray.mk #[49, 32, 116, 114, 117, 101]).size + 1) [] 0 = _ := f3Each
    rw [e] at h
    exact h
  have HE := Hid.mk hE
  clear hE
  go_enter Tryz.func8, Tryz.ntmps8
  go_wp2_with fail
  refine (H1.out _ HE.out).mono ?_
  rintro e w1 ⟨hb1, v, rfl, hF⟩
  obtain ⟨io, ic, ko, kc, rfl, _, _, _, _, g1, g2, _, _, hi⟩ := hF
  obtain ⟨b, off, rfl, hlo, hbl, hrow⟩ := hi (by show 0 < 2; omega)
  obtain ⟨a0, a1, a2, a3, a4, ⟨ca0, ca1, ca2, ca3, ca4⟩, hA⟩ := hrow 0 (by show 0 < 2; omega)
  obtain ⟨jo, jc, jko, jkc, ha, _⟩ := hA
  obtain ⟨b0, b1, b2, b3, b4, ⟨cb0, cb1, cb2, cb3, cb4⟩, hB⟩ := hrow 1 (by show 1 < 2; omega)
  obtain ⟨jo2, jc2, jko2, jkc2, hb, _, _, _, _, _, gk, _, hk, _⟩ := hB
  obtain ⟨kb, koff, rfl, _, hkl, hkr⟩ := hk (by show 0 < 1; omega)
  have ck := hkr 0 (by show 0 < 1; omega)
  simp only [Value.agg.injEq, Array.mk.injEq, List.cons.injEq, and_true] at ha hb
  obtain ⟨rfl, rfl, rfl, rfl, rfl⟩ := ha
  obtain ⟨rfl, rfl, rfl, rfl, rfl⟩ := hb
  have hck : w1.cell? ⟨kb, koff, none⟩ = some (.string ⟨#[97]⟩) := ck
  have hc1 : w1.cell? ⟨b, off + 1, none⟩ = some (.string ⟨#[49]⟩) := by have h := ca1; rw [Nat.zero_mul, Nat.add_zero] at h; exact h
  have hc4 : w1.cell? ⟨b, off + 5 + 4, none⟩ = some (.slice (some ⟨kb, koff, none⟩) 1 jkc2) := by have h := cb4; rw [Nat.one_mul] at h; exact h
  have hg1 : (2 : Nat) ≤ ic := g1
  have hgk : (1 : Nat) ≤ jkc2 := gk
  have HB1 := Hid.mk hb1
  clear hi hrow hk hkr ca0 ca1 ca2 ca3 ca4 cb0 cb1 cb2 cb3 cb4 ck hb1 g1 g2 gk
  go_wp2_with fail
  have HB2 : Hid (Below w.heap.size w (w1.alloc (.cells #[.int .i64 5, .string ⟨#[]⟩, .string ⟨#[]⟩, .slice (some ⟨b, off, none⟩) 2 ic, .slice ko 0 kc] 27))) := HB1.out.alloc HB1.out.size _
  refine (H2.out _ (HE.out.keep HB2.out)).mono ?_
  rintro e w2 ⟨hb2, rfl⟩
  have HB3 : Hid (Below w.heap.size w w2) := HB2.out.trans (hb2.mono HB2.out.size)
  clear hb2
  unfold v0V
  go_wp2_with fail
  have HB4 : Hid (Below w.heap.size w (w2.alloc (.cells #[.int .i64 0, .string ⟨#[]⟩, .string ⟨#[]⟩, .slice none 0 0, .slice none 0 0] 27))) := HB3.out.alloc HB3.out.size _
  refine (H3.out _ (HE.out.keep HB4.out)).mono ?_
  rintro e w3 ⟨hb3, hm⟩
  have HB5 : Hid (Below w.heap.size w w3) := HB4.out.trans (hb3.mono HB4.out.size)
  clear hb3
  rcases hm with ⟨_, k, io3, cap3, c3, rfl, hM⟩ | ⟨h0, _⟩
  · have hlen : 2 = k := hM.len
    subst hlen
    obtain ⟨q0, q1, q2, q3, hq⟩ : ∃ g cap cur, True ∧ io3 = some ⟨g, 0, none⟩ := by
      rcases hM.own.2 with ⟨e1, e2⟩ | ⟨g, cap, cur, e1, _⟩
      · omega
      · simp only [Value.slice.injEq] at e1
        exact ⟨g, cap, cur, trivial, e1.1⟩
    subst hq
    have ct := own_cellAt hM.own (j := 5) (by omega)
    have e5 : (flat c3 2)[5]? = some (c3 1 0) := flat_get c3 2 1 0 (by omega)
    rw [e5] at ct
    obtain ⟨jo5, jc5, ko5, kc5, h5, _⟩ := hM.trees 1 (by show 1 < 2; omega)
    simp only [Value.agg.injEq, Array.mk.injEq, List.cons.injEq, and_true] at h5
    have hk5 : c3 1 0 = .int .i64 2 := h5.1
    rw [hk5] at ct
    clear h5 e5 hk5
    go_wp2_with fail
    refine bodyPost_ret (v := .bool true) (by simp [results, Tryz.results8, go_sem]) rfl ?_
    exact ⟨HB5.out, rfl⟩
  · exact absurd rfl h0
end Go.Proofs.YtcbngdkekdhfeaaGreatDoor
