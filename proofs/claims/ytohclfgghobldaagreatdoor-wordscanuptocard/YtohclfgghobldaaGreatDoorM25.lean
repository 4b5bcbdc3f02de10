import Derived.Test.YtohclfgghobldaaGreatDoorM24
import Derived.Test.YtohclfgghobldaaGreatDoorM20
import Derived.Test.YtohclfgghobldaaGreatDoorM21
namespace Go.Proofs.YtohclfgghobldaaGreatDoor
open Go.RowKit Go.Shelf
set_option linter.unusedVariables false
set_option linter.unusedSimpArgs false
attribute [local go_sem] Oper.semAt_some

theorem BkAt.cells {W : World} {gb : Nat} {v : Value} (h : BkAt W gb v) : W.cell? ⟨gb, 5, none⟩ = some v ∧ ∀ j, j < 16 → j ≠ 5 → W.cell? ⟨gb, j, none⟩ = some (.slice none 0 0) := by
  refine ⟨by rw [cell_of_row _ _ 5 _ _ _ h]; rfl, fun j hj h5 => ?_⟩
  rw [cell_of_row _ _ j _ _ _ h]
  rcases (show j = 0 ∨ j = 1 ∨ j = 2 ∨ j = 3 ∨ j = 4 ∨ j = 6 ∨ j = 7 ∨ j = 8 ∨ j = 9 ∨ j = 10 ∨ j = 11 ∨ j = 12 ∨ j = 13 ∨ j = 14 ∨ j = 15 by omega) with rfl | rfl | rfl | rfl | rfl | rfl | rfl | rfl | rfl | rfl | rfl | rfl | rfl | rfl | rfl <;> rfl

set_option maxRecDepth 100000 in
set_option maxHeartbeats 3200000 in
theorem w_bApart (B gb : Nat) (v : Value) (W : World) (hbk : BkAt W gb v)
    (hT : Calls Tryz.prog 23 #[v] W fun e W' => e = .returned (.bool true) ∧ BkAt W' gb v ∧ Below B W W') :
    Calls Tryz.prog 8 #[.pointer (some ⟨gb, 0, none⟩)] W fun e W' => e = .returned (.bool true) ∧ Below B W W' := by
  have HT := Hid.mk hT
  have c0 := hbk.cells.2 0 (by decide) (by decide)
  have c1 := hbk.cells.2 1 (by decide) (by decide)
  have c2 := hbk.cells.2 2 (by decide) (by decide)
  have c3 := hbk.cells.2 3 (by decide) (by decide)
  have c4 := hbk.cells.2 4 (by decide) (by decide)
  have c6 := hbk.cells.2 6 (by decide) (by decide)
  have c7 := hbk.cells.2 7 (by decide) (by decide)
  have c8 := hbk.cells.2 8 (by decide) (by decide)
  have c9 := hbk.cells.2 9 (by decide) (by decide)
  have c10 := hbk.cells.2 10 (by decide) (by decide)
  have c11 := hbk.cells.2 11 (by decide) (by decide)
  have c12 := hbk.cells.2 12 (by decide) (by decide)
  have c13 := hbk.cells.2 13 (by decide) (by decide)
  have c14 := hbk.cells.2 14 (by decide) (by decide)
  have c15 := hbk.cells.2 15 (by decide) (by decide)
  have c5 := hbk.cells.1
  clear hbk hT
  go_enter Tryz.func8, Tryz.ntmps8
  go_wp2_with fail
  refine (w_apartStrings0 W).mono ?_
  rintro e u ⟨rfl, hu⟩
  rw [hu]
  clear hu
  go_wp2_with fail
  refine (w_apartBools0 W).mono ?_
  rintro e u ⟨rfl, hu⟩
  rw [hu]
  clear hu
  go_wp2_with fail
  refine (w_apartInts0 W).mono ?_
  rintro e u ⟨rfl, hu⟩
  rw [hu]
  clear hu
  go_wp2_with fail
  refine (w_apartBytes0 W).mono ?_
  rintro e u ⟨rfl, hu⟩
  rw [hu]
  clear hu
  go_wp2_with fail
  refine (w_apartValues0 W).mono ?_
  rintro e u ⟨rfl, hu⟩
  rw [hu]
  clear hu
  go_wp2_with fail
  refine HT.out.mono ?_
  rintro e w1 ⟨rfl, hbk1, hb1⟩
  have HB := Hid.mk hb1
  clear hb1 c0 c1 c2 c3 c4 c5 c6 c7 c8 c9 c10 c11 c12 c13 c14 c15
  have d6 := hbk1.cells.2 6 (by decide) (by decide)
  have d7 := hbk1.cells.2 7 (by decide) (by decide)
  have d8 := hbk1.cells.2 8 (by decide) (by decide)
  have d9 := hbk1.cells.2 9 (by decide) (by decide)
  have d10 := hbk1.cells.2 10 (by decide) (by decide)
  have d11 := hbk1.cells.2 11 (by decide) (by decide)
  have d12 := hbk1.cells.2 12 (by decide) (by decide)
  have d13 := hbk1.cells.2 13 (by decide) (by decide)
  have d14 := hbk1.cells.2 14 (by decide) (by decide)
  have d15 := hbk1.cells.2 15 (by decide) (by decide)
  clear hbk1
  go_wp2_with fail
  refine (w_apartSpans0 w1).mono ?_
  rintro e u ⟨rfl, hu⟩
  rw [hu]
  clear hu
  go_wp2_with fail
  refine (w_apartArrs0 w1).mono ?_
  rintro e u ⟨rfl, hu⟩
  rw [hu]
  clear hu
  go_wp2_with fail
  refine (w_apartObjs0 w1).mono ?_
  rintro e u ⟨rfl, hu⟩
  rw [hu]
  clear hu
  go_wp2_with fail
  refine (w_apartTypes0 w1).mono ?_
  rintro e u ⟨rfl, hu⟩
  rw [hu]
  clear hu
  go_wp2_with fail
  refine (w_apartNodes0 w1).mono ?_
  rintro e u ⟨rfl, hu⟩
  rw [hu]
  clear hu
  go_wp2_with fail
  refine (w_apartResults0 w1).mono ?_
  rintro e u ⟨rfl, hu⟩
  rw [hu]
  clear hu
  go_wp2_with fail
  refine (w_apartTypeds0 w1).mono ?_
  rintro e u ⟨rfl, hu⟩
  rw [hu]
  clear hu
  go_wp2_with fail
  refine (w_apartCodes0 w1).mono ?_
  rintro e u ⟨rfl, hu⟩
  rw [hu]
  clear hu
  go_wp2_with fail
  refine (w_apartReasons0 w1).mono ?_
  rintro e u ⟨rfl, hu⟩
  rw [hu]
  clear hu
  go_wp2_with fail
  refine (w_apartVerdicts0 w1).mono ?_
  rintro e u ⟨rfl, hu⟩
  rw [hu]
  clear hu
  go_wp2_with fail
  go_ret
  exact ⟨rfl, HB.out⟩
end Go.Proofs.YtohclfgghobldaaGreatDoor
namespace Go.Proofs.YtohclfgghobldaaGreatDoor
open Go.RowKit Go.Shelf
set_option linter.unusedVariables false
set_option linter.unusedSimpArgs false
attribute [local go_sem] Oper.semAt_some

def ScU (T : List Tok) (E P : Int) (w w' : World) (e : Ending) : Prop := ∃ so sc, e = .returned (.tuple #[.slice so T.length sc, .int .i64 E, .int .i64 P]) ∧ Hid (w'.ownsRow w.heap.size 54 4 (.slice so T.length sc) T.length (flT T)) ∧ Below w.heap.size w w'

def f4 {α : Type} (a b c d : α) : Nat → α
  | 0 => a
  | 1 => b
  | 2 => c
  | _ => d
theorem ap_mk {B gb gl lc : Nat} {v : Value} {w W : World} {s0 s1 s2 s3 : Option Addr} {n0 n1 n2 n3 c0 c1 c2 c3 : Nat} {L0 L1 L2 L3 : List Value} {m1 m2 m3 : Nat} (hb : Below B w W) (hle : B ≤ W.heap.size)
    (o0 : W.ownsRow B 54 4 (.slice s0 n0 c0) n0 L0) (o1 : W.ownsRow B 54 4 (.slice s1 n1 c1) n1 L1) (o2 : W.ownsRow B 54 4 (.slice s2 n2 c2) n2 L2) (o3 : W.ownsRow B 54 4 (.slice s3 n3 c3) n3 L3)
    (r0 : ∀ g, (Value.slice s0 n0 c0).ownBlock = some g → g < m1) (r1 : ∀ g, (Value.slice s1 n1 c1).ownBlock = some g → m1 ≤ g ∧ g < m2) (r2 : ∀ g, (Value.slice s2 n2 c2).ownBlock = some g → m2 ≤ g ∧ g < m3) (r3 : ∀ g, (Value.slice s3 n3 c3).ownBlock = some g → m3 ≤ g) (hm : m1 ≤ m2 ∧ m2 ≤ m3)
    (ls : W.ownsRow B 22 1 (.slice (some ⟨gl, 0, none⟩) 4 lc) 4 [.slice s0 n0 c0, .slice s1 n1 c1, .slice s2 n2 c2, .slice s3 n3 c3]) (bk : BkAt W gb v) :
    Ap B gb gl lc (f4 s0 s1 s2 s3) (f4 n0 n1 n2 n3) (f4 c0 c1 c2 c3) v w W (f4 L0 L1 L2 L3) := by
  obtain ⟨hm1, hm2⟩ := hm
  refine ⟨hb, fun k hk => ?_, fun j hj k hk hne g e1 e2 => ?_, ls, bk, hle⟩
  · rcases (show k = 0 ∨ k = 1 ∨ k = 2 ∨ k = 3 by omega) with rfl | rfl | rfl | rfl
    · exact o0
    · exact o1
    · exact o2
    · exact o3
  · rcases (show j = 0 ∨ j = 1 ∨ j = 2 ∨ j = 3 by omega) with rfl | rfl | rfl | rfl <;> rcases (show k = 0 ∨ k = 1 ∨ k = 2 ∨ k = 3 by omega) with rfl | rfl | rfl | rfl
    · omega
    · have := r0 g e1; have := r1 g e2; omega
    · have := r0 g e1; have := r2 g e2; omega
    · have := r0 g e1; have := r3 g e2; omega
    · have := r1 g e1; have := r0 g e2; omega
    · omega
    · have := r1 g e1; have := r2 g e2; omega
    · have := r1 g e1; have := r3 g e2; omega
    · have := r2 g e1; have := r0 g e2; omega
    · have := r2 g e1; have := r1 g e2; omega
    · omega
    · have := r2 g e1; have := r3 g e2; omega
    · have := r3 g e1; have := r0 g e2; omega
    · have := r3 g e1; have := r1 g e2; omega
    · have := r3 g e1; have := r2 g e2; omega
    · omega
end Go.Proofs.YtohclfgghobldaaGreatDoor
