import Derived.Test.YtdehejadiofomaaGreatDoorZBK4
import Derived.Test.YtdehejadiofomaaGreatDoorZBK8
import Derived.Test.YtdehejadiofomaaGreatDoorM39
import Derived.Test.YtdehejadiofomaaGreatDoorM26
namespace Go.Proofs.YtdehejadiofomaaGreatDoor
open Go.RowKit Go.Shelf
set_option linter.unusedVariables false
set_option linter.unusedSimpArgs false
attribute [local go_sem] Oper.semAt_some

/-- what Scan answers, in one form -/
noncomputable def sT (l : List UInt8) : List Tok := open Classical in if ∀ t ∈ allY l, t.err = 0 then allY l else []
noncomputable def sE (l : List UInt8) : Int := open Classical in if ∀ t ∈ allY l, t.err = 0 then 0 else (((allY l).getLast?.map (·.err)).getD 0 : Nat)
noncomputable def sP (l : List UInt8) : Int := open Classical in if ∀ t ∈ allY l, t.err = 0 then 0 else (((allY l).getLast?.map (·.at_)).getD 0 : Nat)
def ScU (T : List Tok) (E P : Int) (w w' : World) (e : Ending) : Prop := ∃ so sc, e = .returned (.tuple #[.slice so T.length sc, .int .i64 E, .int .i64 P]) ∧ Hid (w'.ownsRow w.heap.size 52 4 (.slice so T.length sc) T.length (flT T)) ∧ Below w.heap.size w w'
theorem bad_all {l : List UInt8} {pre : List Tok} {x : Tok} (h : allY l = pre ++ [x]) (hx : x.err ≠ 0) : ¬ ∀ t ∈ allY l, t.err = 0 := fun ha => hx (ha x (by rw [h]; simp))
theorem scan_uni {l : List UInt8} {w w' : World} {e : Ending} (h : ScanR l w w' e) : ScU (sT l) (sE l) (sP l) w w' e := by
  obtain ⟨⟨ha, so, sc, rfl, hr⟩ | ⟨pre, x, hp, hx, rfl⟩, hb⟩ := h
  · refine ⟨so, sc, ?_, ?_, hb⟩
    · unfold sT sE sP; rw [if_pos ha, if_pos ha, if_pos ha]
    · unfold sT; rw [if_pos ha]; exact hr
  · have hn := bad_all hp hx
    refine ⟨none, 0, ?_, ?_, hb⟩
    · unfold sT sE sP; rw [if_neg hn, if_neg hn, if_neg hn, hp]; simp
    · unfold sT; rw [if_neg hn]; exact World.ownsRow_nil _ _ _ _
theorem sT_len (l : List UInt8) : (sT l).length ≤ l.length := by
  unfold sT
  split
  · exact allY_len l
  · simp

set_option maxRecDepth 100000 in
set_option maxHeartbeats 1600000 in
theorem w_rScan (s : ByteArray) (w : World) (hs : s.size ≤ 1048576) :
    Calls Tryz.prog 4 #[.string s] w fun e w' => ScU (sT s.data.toList) (sE s.data.toList) (sP s.data.toList) w w' e := by
  have HA := Hid.mk (w_rAhead s w hs)
  generalize s.data.toList = l at *
  go_enter Tryz.func4, Tryz.ntmps4
  go_wp2_with fail
  refine HA.out.mono ?_
  rintro e w1 ⟨⟨ha, so, sc, rfl, HR⟩ | ⟨pre, x, so, sc, hp, hx, hxx, rfl, HR⟩, hb⟩
  · have HF : Hid (ScU (sT l) (sE l) (sP l) w w1 (.returned (.tuple #[.slice so (allY l).length sc, .int .i64 0, .int .i64 0]))) := scan_uni (.intro (.inl ⟨ha, so, sc, rfl, HR⟩) hb)
    clear ha HR hb HA
    generalize (allY l).length = N at *
    go_wp2_with fail
    (try simp only [Exit.inBlock, Exit.then])
    refine bodyPost_ret (v := .tuple #[.slice so N sc, .int .i64 0, .int .i64 0]) (by simp [results, Tryz.results4, go_sem]) rfl ?_
    exact HF.out
  · have HF : Hid (ScU (sT l) (sE l) (sP l) w w1 (.returned (.tuple #[.slice none 0 0, .int .i64 (x.err : Int), .int .i64 (x.at_ : Int)]))) := scan_uni (.intro (.inr ⟨pre, x, hp, hx, rfl⟩) hb)
    have hne : (((x.err : Nat) : Int) == 0) = false := by rw [beq_eq_false_iff_ne]; omega
    clear hp HR hb HA hxx hx
    generalize x.err = er at *
    generalize x.at_ = pa at *
    generalize pre.length = N at *
    go_wp2_with fail
    (try simp only [Exit.inBlock, Exit.then])
    refine bodyPost_ret (v := .tuple #[.slice none 0 0, .int .i64 (er : Int), .int .i64 (pa : Int)]) (by simp [results, Tryz.results4, go_sem]) rfl ?_
    exact HF.out

def f4 {α : Type} (a b c d : α) : Nat → α
  | 0 => a
  | 1 => b
  | 2 => c
  | _ => d
theorem ap_mk {B gb gl lc : Nat} {v : Value} {w W : World} {s0 s1 s2 s3 : Option Addr} {n0 n1 n2 n3 c0 c1 c2 c3 : Nat} {L0 L1 L2 L3 : List Value} {m1 m2 m3 : Nat} (hb : Below B w W) (hle : B ≤ W.heap.size)
    (o0 : W.ownsRow B 52 4 (.slice s0 n0 c0) n0 L0) (o1 : W.ownsRow B 52 4 (.slice s1 n1 c1) n1 L1) (o2 : W.ownsRow B 52 4 (.slice s2 n2 c2) n2 L2) (o3 : W.ownsRow B 52 4 (.slice s3 n3 c3) n3 L3)
    (r0 : ∀ g, (Value.slice s0 n0 c0).ownBlock = some g → g < m1) (r1 : ∀ g, (Value.slice s1 n1 c1).ownBlock = some g → m1 ≤ g ∧ g < m2) (r2 : ∀ g, (Value.slice s2 n2 c2).ownBlock = some g → m2 ≤ g ∧ g < m3) (r3 : ∀ g, (Value.slice s3 n3 c3).ownBlock = some g → m3 ≤ g) (hm : m1 ≤ m2 ∧ m2 ≤ m3)
    (ls : W.ownsRow B 22 1 (.slice (some ⟨gl, 0, none⟩) 4 lc) 4 [.slice s0 n0 c0, .slice s1 n1 c1, .slice s2 n2 c2, .slice s3 n3 c3]) (bk : BkAt W gb v) :
    Ap B gb gl lc (f4 s0 s1 s2 s3) (f4 n0 n1 n2 n3) (f4 c0 c1 c2 c3) v w W (f4 L0 L1 L2 L3) := by
  obtain ⟨hm1, hm2⟩ := hm
  refine ⟨hb, fun k hk => ?_, fun j hj k hk hne g e1 e2 => ?_, ls, bk, hle⟩
  · rcases (show k = 0 ∨ k = 1 ∨ k = 2 ∨ k = 3 by omega) with rfl | rfl | rfl | rfl
    · exact o0
    · exact o1
    · exact o2
    · exact o3
  · rcases (show j = 0 ∨ j = 1 ∨ j = 2 ∨ j = 3 by omega) with rfl | rfl | rfl | rfl <;> rcases (show k = 0 ∨ k = 1 ∨ k = 2 ∨ k = 3 by omega) with rfl | rfl | rfl | rfl
    · omega
    · have := r0 g e1; have := r1 g e2; omega
    · have := r0 g e1; have := r2 g e2; omega
    · have := r0 g e1; have := r3 g e2; omega
    · have := r1 g e1; have := r0 g e2; omega
    · omega
    · have := r1 g e1; have := r2 g e2; omega
    · have := r1 g e1; have := r3 g e2; omega
    · have := r2 g e1; have := r0 g e2; omega
    · have := r2 g e1; have := r1 g e2; omega
    · omega
    · have := r2 g e1; have := r3 g e2; omega
    · have := r3 g e1; have := r0 g e2; omega
    · have := r3 g e1; have := r1 g e2; omega
    · have := r3 g e1; have := r2 g e2; omega
    · omega
end Go.Proofs.YtdehejadiofomaaGreatDoor
