import Derived.Test.YtohclfgghobldaaGreatDoorZBK1
import Derived.Test.YtohclfgghobldaaGreatDoorM29
namespace Go.Proofs.YtohclfgghobldaaGreatDoor
open Go.RowKit Go.Shelf
set_option linter.unusedVariables false
set_option linter.unusedSimpArgs false
attribute [local go_sem] Oper.semAt_some

theorem Tryz.infoToks : (Tryz.prog.info? 22).map (fun i => (i.zero, i.size, i.bytes)) = some (some (.slice none 0 0), 1, 24) := by kernel_rfl
/-- the book: its tokens alone -/
def BkAt (W : World) (gb : Nat) (v : Value) : Prop := W.heap[gb]? = some (.cells #[.slice none 0 0, .slice none 0 0, .slice none 0 0, .slice none 0 0, .slice none 0 0, v, .slice none 0 0, .slice none 0 0, .slice none 0 0, .slice none 0 0, .slice none 0 0, .slice none 0 0, .slice none 0 0, .slice none 0 0, .slice none 0 0, .slice none 0 0] 44 (0, 0))
theorem own_typeT {w : World} {B : Nat} {e t : TypeId} {size : Nat} {v : Value} {n : Nat} {xs : List Value} {g : Nat} {cs : Array Value} {f : Nat × Nat} (h : w.ownsRow B e size v n xs) (hg : w.heap[g]? = some (.cells cs t f)) (ht : t ≠ e) : v.ownBlock ≠ some g := by
  intro hb
  rcases h.2 with ⟨rfl, _⟩ | ⟨g', cap, cur, rfl, e2, e3, _⟩
  · cases hb
  · simp [Value.ownBlock] at hb
    subst hb
    rw [hg] at e3
    simp at e3
    exact ht e3.2.1
/-- what laying a list down keeps -/
structure Laid (W W' : World) (gb : Nat) (row : Option Nat) : Prop where
  size : W.heap.size ≤ W'.heap.size
  block : ∀ b, b < W.heap.size → b ≠ gb → row ≠ some b → W'.heap[b]? = W.heap[b]?

set_option maxRecDepth 100000 in
set_option maxHeartbeats 3200000 in
theorem w_bTokens (B gb m gc : Nat) (go : Option Addr) (vs : List Value) (so : Option Addr) (sc : Nat) (ts : List Tok) (W : World)
    (hbk : BkAt W gb (.slice go m gc)) (hrow : W.ownsRow B 22 1 (.slice go m gc) m vs) (hB : B ≤ gb) (hm : m ≤ 255) (hn : ts.length ≤ 1048576) (hsc : ts.length ≤ sc)
    (ht : TRow W so ts) (hso : ∀ b o f, so = some ⟨b, o, f⟩ → b ≠ gb ∧ (Value.slice go m gc).ownBlock ≠ some b) :
    Calls Tryz.prog 7 #[.pointer (some ⟨gb, 0, none⟩), .slice so ts.length sc] W fun e W' => (∃ v, e = .returned v) ∧ (∃ go' gc', BkAt W' gb (.slice go' (m + 1) gc') ∧ W'.ownsRow B 22 1 (.slice go' (m + 1) gc') (m + 1) (vs ++ [.slice so ts.length sc])) ∧ Laid W W' gb (Value.slice go m gc).ownBlock ∧ Below B W W' := by
  obtain ⟨i0, hi0, hz0, hz1, hz2⟩ := info_parts Tryz.infoToks
  obtain ⟨N, hN⟩ : ∃ N, ts.length = N := ⟨_, rfl⟩
  rw [hN] at hn hsc ⊢
  have HN := Hid.mk hN
  have HT := Hid.mk ht
  have HSO := Hid.mk hso
  have HBK := Hid.mk hbk
  have c5 : W.cell? ⟨gb, 5, none⟩ = some (.slice go m gc) := by rw [cell_of_row _ _ 5 _ _ _ hbk]; rfl
  have hgl : gb < W.heap.size := (Array.getElem?_eq_some_iff.1 hbk).1
  clear hN ht hso hbk
  go_enter Tryz.func7, Tryz.ntmps7
  go_wp2_with (at_builtin; go_loud (refine wpList_append_own _ rfl _ _ 32 rfl B 22 i0 (.slice none 0 0) 1 24 Tryz.underlying32 hi0 hz0 hz1 hz2 rfl (by decide) _ _ _ rfl (hrow.alloc _) ⟨W.heap.size, 0, none⟩ 1 1 [.slice so N sc] rfl rfl (World.news_of_block (cs := #[.slice so N sc]) (t := 22) (fr := (0, 0)) (heap_alloc_new W _)) (by intro u hu; simp at hu; subst hu; rfl) (by unfold maxLen; omega) (by omega) (by simp; omega) ?_))
  intro v' w5 hown' hgrow _
  obtain ⟨g', cap', rfl⟩ := ownsRow_succ hown'
  have hgs := hgrow.size
  simp at hgs
  have hob : (Value.slice go m gc).ownBlock ≠ some gb := own_typeT hrow HBK.out (by decide)
  have hbk5 : BkAt w5 gb (.slice go m gc) := (hgrow.block gb (by simp; omega) (fun e => hob e.symm)).trans ((Below.heap_alloc _ _ _ (by omega)).trans HBK.out)
  have e5 : w5.cell? ⟨gb, 5, none⟩ = some (.slice go m gc) := by rw [cell_of_row _ _ 5 _ _ _ hbk5]; rfl
  have f5 : w5.frozen? ⟨gb, 5, none⟩ = false := frozen_rowT (j := 5) hbk5
  obtain ⟨w6, hw6⟩ : ∃ w6, w5.setCell ⟨gb, 5, none⟩ (.slice (some ⟨g', 0, none⟩) (m + 1) cap') = w6 := ⟨_, rfl⟩
  have HBK6 : Hid (BkAt w6 gb (.slice (some ⟨g', 0, none⟩) (m + 1) cap')) := by rw [← hw6]; exact heap_setCell_same w5 gb 5 _ _ _ hbk5
  have HOW6 : Hid (w6.ownsRow B 22 1 (.slice (some ⟨g', 0, none⟩) (m + 1) cap') (m + 1) (vs ++ [.slice so N sc])) := by rw [← hw6]; exact own_setT hown' (own_typeT hown' hbk5 (by decide))
  have HLD6 : Hid (Laid W w6 gb (Value.slice go m gc).ownBlock) := by
    rw [← hw6]
    refine ⟨by rw [World.size_setCell]; omega, fun b hb h1 h2 => ?_⟩
    exact (Below.heap_setCell _ _ _ _ h1).trans ((hgrow.block b (by simp; omega) (fun e => h2 e.symm)).trans (Below.heap_alloc _ _ _ (by omega)))
  have HBW6 : Hid (Below B W w6) := by
    rw [← hw6]
    exact ((((Below.refl B W).alloc (by omega) _).grown hgrow (by simp; omega) (fun r e => own_baseT hrow e))).setCell (p := ⟨gb, 5, none⟩) hB _
  have HT6 : Hid (TRow w6 so ts) := fun i hi => by
    obtain ⟨g, off, e, hg, a0, a1, a2, a3⟩ := HT.out i hi
    obtain ⟨h1, h2⟩ := HSO.out g off none e
    have hh := HLD6.out.block g hg h1 h2
    refine ⟨g, off, e, Nat.lt_of_lt_of_le hg HLD6.out.size, ?_, ?_, ?_, ?_⟩
    · rw [← a0]; unfold World.cell?; rw [hh]
    · rw [← a1]; unfold World.cell?; rw [hh]
    · rw [← a2]; unfold World.cell?; rw [hh]
    · rw [← a3]; unfold World.cell?; rw [hh]
  have HSZ : Hid (B ≤ w6.heap.size) := Nat.le_trans hB (Nat.le_of_lt (Array.getElem?_eq_some_iff.1 HBK6.out).1)
  clear hown' hgrow hob hbk5 HBK
  go_wp2_with fail
  (try rw [hw6])
  clear hw6 e5 f5 c5
  go_loopw [4] (fun i wr => ∃ k : Nat, k ≤ N ∧ i = .int .i64 (k : Int) ∧ Hid (Below w6.heap.size w6 wr)) (fun i _ => N - (intOf i).toNat)
  case atStart => exact ⟨0, Nat.zero_le _, rfl, Below.refl _ _⟩
  case round =>
    obtain ⟨k, hk, rfl, HW⟩ := hrel
    by_cases hlt : k < N
    · have hi1 : (k : Int) < (N : Int) := by omega
      have hi0' : (0 : Int) ≤ (k : Int) := by omega
      have hk2 : k < ts.length := by rw [HN.out]; exact hlt
      obtain ⟨g, off, rfl, hg, a0, a1, a2, a3⟩ := (HT6.out.keep HW.out) k hk2
      generalize ts[k] = t at *
      obtain ⟨kd, pa, fi, tx, er⟩ := t
      dsimp only at a0 a1 a2 a3
      clear hk2
      go_wp2_with fail
      refine (w_bToken _ _ _ _ _ _).mono ?_
      rintro e w7 ⟨⟨v7, rfl⟩, hb7⟩
      have HW7 := Hid.mk (HW.out.trans (hb7.mono HW.out.size))
      clear hb7
      go_wp2_with fail
      go_roundw
      case rel => exact ⟨k + 1, by omega, by go_num, HW7⟩
      case measure => simp [intOf]; omega
    · have hi1 : ¬ (k : Int) < (N : Int) := by omega
      go_wp2_with fail
      first | go_ret | go_ret2 | go_end0
      have hb := HW.out
      refine ⟨⟨_, rfl⟩, ⟨some ⟨g', 0, none⟩, cap', heap_lowT hb (Array.getElem?_eq_some_iff.1 HBK6.out).1 HBK6.out, below_row hb HOW6.out⟩, ⟨Nat.le_trans HLD6.out.size hb.size, fun b h0 h1 h2 => (hb.block b (Nat.lt_of_lt_of_le h0 HLD6.out.size)).trans (HLD6.out.block b h0 h1 h2)⟩, HBW6.out.trans (hb.mono HSZ.out)⟩
end Go.Proofs.YtohclfgghobldaaGreatDoor
