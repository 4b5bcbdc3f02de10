import Derived.Test.YtohclfgghobldaaGreatDoorZBK4
import Derived.Test.YtohclfgghobldaaGreatDoorZBK8
import Derived.Test.YtohclfgghobldaaGreatDoorM29
namespace Go.Proofs.YtohclfgghobldaaGreatDoor
open Go.RowKit Go.Shelf
set_option linter.unusedVariables false
set_option linter.unusedSimpArgs false
attribute [local go_sem] Oper.semAt_some

def ScU (T : List Tok) (E P : Int) (w w' : World) (e : Ending) : Prop := ∃ so sc, e = .returned (.tuple #[.slice so T.length sc, .int .i64 E, .int .i64 P]) ∧ Hid (w'.ownsRow w.heap.size 54 4 (.slice so T.length sc) T.length (flT T)) ∧ Below w.heap.size w w'

def f4 {α : Type} (a b c d : α) : Nat → α
  | 0 => a
  | 1 => b
  | 2 => c
  | _ => d
theorem ap_mk {B gb gl lc : Nat} {v : Value} {w W : World} {s0 s1 s2 s3 : Option Addr} {n0 n1 n2 n3 c0 c1 c2 c3 : Nat} {L0 L1 L2 L3 : List Value} {m1 m2 m3 : Nat} (hb : Below B w W) (hle : B ≤ W.heap.size)
    (o0 : W.ownsRow B 54 4 (.slice s0 n0 c0) n0 L0) (o1 : W.ownsRow B 54 4 (.slice s1 n1 c1) n1 L1) (o2 : W.ownsRow B 54 4 (.slice s2 n2 c2) n2 L2) (o3 : W.ownsRow B 54 4 (.slice s3 n3 c3) n3 L3)
    (r0 : ∀ g, (Value.slice s0 n0 c0).ownBlock = some g → g < m1) (r1 : ∀ g, (Value.slice s1 n1 c1).ownBlock = some g → m1 ≤ g ∧ g < m2) (r2 : ∀ g, (Value.slice s2 n2 c2).ownBlock = some g → m2 ≤ g ∧ g < m3) (r3 : ∀ g, (Value.slice s3 n3 c3).ownBlock = some g → m3 ≤ g) (hm : m1 ≤ m2 ∧ m2 ≤ m3)
    (ls : W.ownsRow B 22 1 (.slice (some ⟨gl, 0, none⟩) 4 lc) 4 [.slice s0 n0 c0, .slice s1 n1 c1, .slice s2 n2 c2, .slice s3 n3 c3]) (bk : BkAt W gb v) :
    Ap B gb gl lc (f4 s0 s1 s2 s3) (f4 n0 n1 n2 n3) (f4 c0 c1 c2 c3) v w W (f4 L0 L1 L2 L3) := by
  obtain ⟨hm1, hm2⟩ := hm
  refine ⟨hb, fun k hk => ?_, fun j hj k hk hne g e1 e2 => ?_, ls, bk, hle⟩
  · rcases (show k = 0 ∨ k = 1 ∨ k = 2 ∨ k = 3 by omega) with rfl | rfl | rfl | rfl
    · exact o0
    · exact o1
    · exact o2
    · exact o3
  · rcases (show j = 0 ∨ j = 1 ∨ j = 2 ∨ j = 3 by omega) with rfl | rfl | rfl | rfl <;> rcases (show k = 0 ∨ k = 1 ∨ k = 2 ∨ k = 3 by omega) with rfl | rfl | rfl | rfl
    · omega
    · have := r0 g e1; have := r1 g e2; omega
    · have := r0 g e1; have := r2 g e2; omega
    · have := r0 g e1; have := r3 g e2; omega
    · have := r1 g e1; have := r0 g e2; omega
    · omega
    · have := r1 g e1; have := r2 g e2; omega
    · have := r1 g e1; have := r3 g e2; omega
    · have := r2 g e1; have := r0 g e2; omega
    · have := r2 g e1; have := r1 g e2; omega
    · omega
    · have := r2 g e1; have := r3 g e2; omega
    · have := r3 g e1; have := r0 g e2; omega
    · have := r3 g e1; have := r1 g e2; omega
    · have := r3 g e1; have := r2 g e2; omega
    · omega
end Go.Proofs.YtohclfgghobldaaGreatDoor
