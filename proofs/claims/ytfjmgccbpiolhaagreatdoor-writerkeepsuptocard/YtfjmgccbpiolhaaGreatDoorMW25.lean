import Derived.Test.YtfjmgccbpiolhaaGreatDoorMW22
import Derived.Test.YtfjmgccbpiolhaaGreatDoorMW12
import Derived.Test.YtfjmgccbpiolhaaGreatDoorMW9
import Derived.Lib.QuietBelow
import Derived.BigQuiet
import Derived.Test.YtfjmgccbpiolhaaGreatDoorMW10
namespace Go.Proofs.YtfjmgccbpiolhaaGreatDoor
open Go.RowKit
set_option linter.unusedVariables false
set_option linter.unusedSimpArgs false

structure PutOk (B S fk : Nat) (St : World → List UInt8 → Prop) : Prop where
  ent : ∀ args w, (callFunc fk args).run Tryz.prog w = .ok (.enter fk args) w
  call : ∀ (w : World) (l : List UInt8) (s : ByteArray), St w l → l.length + s.size ≤ 140737488355328 → B ≤ w.heap.size → Calls Tryz.prog fk #[.pointer (some ⟨S, 0, none⟩), .string s] w fun e w' => e = .returned (.tuple #[]) ∧ St w' (l ++ s.data.toList) ∧ Below B w w' ∧ Lib.OthersKept 5 (some S) w w'
  keep : ∀ (w w' : World) (l : List UInt8), St w l → (∀ k o, w.heap[k]? = some o → (k = S ∨ ∃ c fz, o = .cells c 5 fz) → w'.heap[k]? = some o) → St w' l
theorem keep_ok (B S : Nat) : PutOk B S 25 (Sheet B S) :=
  ⟨enters_of Tryz.func25 (by kernel_rfl) rfl, fun w l s h h1 h2 => w_keep B S l s w h h1 h2, fun w w' l h hk => h.keep hk⟩
theorem count_ok (B S : Nat) : PutOk B S 28 (SheetN B S) :=
  ⟨enters_of Tryz.func28 (by kernel_rfl) rfl, fun w l s h h1 h2 => w_count B S l s w h h1 h2, fun w w' l h hk => h.keep hk⟩

def WrAt (w : World) (Wr fk S : Nat) (st : Option Nat) (d : Nat) : Prop := w.heap[Wr]? = some (.cells #[.func (.func fk) #[.pointer (some ⟨S, 0, none⟩)] #[], .bool st.isSome, .int .i64 ((st.getD 0 : Nat) : Int), .int .i64 ((d : Nat) : Int)] 79 (0, 0))
theorem WrAt.c0 {w : World} {Wr fk S : Nat} {st : Option Nat} {d : Nat} (h : WrAt w Wr fk S st d) : w.cell? ⟨Wr, 0, none⟩ = some (.func (.func fk) #[.pointer (some ⟨S, 0, none⟩)] #[]) := by unfold WrAt at h; rw [Lib.cell_of_heap h]; rfl
theorem WrAt.c1 {w : World} {Wr fk S : Nat} {st : Option Nat} {d : Nat} (h : WrAt w Wr fk S st d) : w.cell? ⟨Wr, 1, none⟩ = some (.bool st.isSome) := by unfold WrAt at h; rw [Lib.cell_of_heap h]; rfl
theorem WrAt.c2 {w : World} {Wr fk S : Nat} {st : Option Nat} {d : Nat} (h : WrAt w Wr fk S st d) : w.cell? ⟨Wr, 2, none⟩ = some (.int .i64 ((st.getD 0 : Nat) : Int)) := by unfold WrAt at h; rw [Lib.cell_of_heap h]; rfl
theorem WrAt.c3 {w : World} {Wr fk S : Nat} {st : Option Nat} {d : Nat} (h : WrAt w Wr fk S st d) : w.cell? ⟨Wr, 3, none⟩ = some (.int .i64 ((d : Nat) : Int)) := by unfold WrAt at h; rw [Lib.cell_of_heap h]; rfl
theorem WrAt.f3 {w : World} {Wr fk S : Nat} {st : Option Nat} {d : Nat} (h : WrAt w Wr fk S st d) : w.frozen? ⟨Wr, 3, none⟩ = false := Lib.frozen_of_heap h 3
theorem WrAt.others {w w' : World} {Wr fk S : Nat} {st : Option Nat} {d : Nat} (h : WrAt w Wr fk S st d) (hk : Lib.OthersKept 5 (some S) w w') (hne : Wr ≠ S) : WrAt w' Wr fk S st d :=
  hk Wr _ h (fun e => hne (Option.some.inj e)) (fun c fz e => by injection e with _ e2; exact absurd e2 (by decide))
theorem WrAt.below {w w' : World} {Wr fk S : Nat} {st : Option Nat} {d : Nat} (h : WrAt w Wr fk S st d) (hb : Below w.heap.size w w') : WrAt w' Wr fk S st d := (hb.block Wr (heap_lt h)).trans h
theorem WrAt.set {w : World} {Wr fk S : Nat} {st : Option Nat} {d : Nat} (h : WrAt w Wr fk S st d) (d' : Nat) : WrAt (w.setCell ⟨Wr, 3, none⟩ (.int .i64 ((d' : Nat) : Int))) Wr fk S st d' := by
  unfold WrAt at h ⊢
  simp [World.setCell, Array.getElem?_modify, h]
theorem PutOk.below {B S fk : Nat} {St : World → List UInt8 → Prop} (P : PutOk B S fk St) {w w' : World} {l : List UInt8} (h : St w l) (hb : Below w.heap.size w w') : St w' l :=
  P.keep w w' l h (fun k o hk _ => (hb.block k (heap_lt hk)).trans hk)
theorem PutOk.set {B S fk : Nat} {St : World → List UInt8 → Prop} (P : PutOk B S fk St) {w : World} {l : List UInt8} (h : St w l) {Wr : Nat} {st : Option Nat} {d : Nat} (hW : WrAt w Wr fk S st d) (hne : Wr ≠ S) (p : Value) (i : Nat) : St (w.setCell ⟨Wr, i, none⟩ p) l := by
  refine P.keep w _ l h (fun k o hk ho => ?_)
  have hne2 : k ≠ Wr := by
    rintro rfl
    rcases ho with h1 | ⟨c, fz, rfl⟩
    · exact hne h1
    · unfold WrAt at hW
      rw [hW] at hk
      injection hk with e
      injection e with _ e2
      exact absurd e2 (by decide)
  rw [Below.heap_setCell _ _ _ _ (fun e => hne2 (by simpa using e))]
  exact hk
theorem others_of_below {w w' : World} {e : TypeId} {b : Option Nat} (h : Below w.heap.size w w') : Lib.OthersKept e b w w' := fun k o hk _ _ => (h.block k (heap_lt hk)).trans hk

set_option maxHeartbeats 800000 in
set_option maxRecDepth 100000 in
theorem w_colon (w : World) (Wr fk S : Nat) (st : Option Nat) (d : Nat) (hW : WrAt w Wr fk S st d) :
    Calls Tryz.prog 135 #[.pointer (some ⟨Wr, 0, none⟩)] w fun e w' => e = .returned (.string ⟨(clW st).toArray⟩) ∧ Below w.heap.size w w' := by
  have c1 := hW.c1
  clear hW
  cases st with
  | none =>
    simp only [Option.isSome] at c1
    go_enter Tryz.func135, Tryz.ntmps135
    go_wp2_with fail
    go_ret
    exact ⟨rfl, Below.refl _ _⟩
  | some s =>
    simp only [Option.isSome] at c1
    go_enter Tryz.func135, Tryz.ntmps135
    go_wp2_with fail
    go_ret
    exact ⟨rfl, Below.refl _ _⟩
end Go.Proofs.YtfjmgccbpiolhaaGreatDoor
namespace Go.Proofs.YtfjmgccbpiolhaaGreatDoor
open Go.RowKit Go.Sort
set_option linter.unusedVariables false
set_option linter.unusedSimpArgs false

theorem repeat_sp : ∀ c, Lib.repeatL [32] c = List.replicate c 32
  | 0 => rfl
  | c + 1 => by simp [Lib.repeatL, repeat_sp c, List.replicate_succ]

set_option maxHeartbeats 1600000 in
set_option maxRecDepth 100000 in
theorem w_line (w : World) (Wr fk S : Nat) (st : Option Nat) (d : Nat) (hW : WrAt w Wr fk S st d) (hlen : (lnW st d).length ≤ 140737488355328) (hd : d ≤ 1099511627776) (hst : ∀ s, st = some s → s ≤ 8) :
    Calls Tryz.prog 144 #[.pointer (some ⟨Wr, 0, none⟩)] w fun e w' => e = .returned (.string ⟨(lnW st d).toArray⟩) ∧ Below w.heap.size w w' := by
  have c1 := hW.c1
  have c2 := hW.c2
  have c3 := hW.c3
  clear hW
  cases st with
  | none =>
    simp only [Option.isSome] at c1
    go_enter Tryz.func144, Tryz.ntmps144
    go_wp2_with fail
    go_ret
    exact ⟨rfl, Below.refl _ _⟩
  | some s =>
    simp only [Option.isSome, Option.getD] at c1 c2
    have hs := hst s rfl
    have hm0 : d * s ≤ d * 8 := Nat.mul_le_mul_left d hs
    obtain ⟨m, hm⟩ : ∃ m, d * s = m := ⟨_, rfl⟩
    have hm2 : ((d : Int) * (s : Int)) = (m : Int) := by rw [← hm]; simp
    obtain ⟨rs, hrs⟩ : ∃ rs : ByteArray, rs = ⟨(List.replicate m (32 : UInt8)).toArray⟩ := ⟨_, rfl⟩
    have HR : ∀ dd os, Calls Tryz.prog 154 #[.string ⟨#[32]⟩, .int .i64 (wrap64 (m : Int))] (grow (redrawn w dd) os) fun e w'' => e = .returned (.string rs) ∧ ∃ p : Regrown, w'' = grow (redrawn w p.d) p.os := fun dd os => by
      have hw : wrap64 (m : Int) = (m : Int) := by unfold wrap64; omega
      rw [hw]
      refine Calls.regrown_of ?_
      have h := Tryz.strings_Repeat ⟨#[32]⟩ m (grow (redrawn w dd) os) (by omega) (by show 1 * m ≤ _; omega)
      rw [show (ByteArray.mk #[32]).data.toList = [32] from rfl, repeat_sp, ← hrs] at h
      exact h
    have HL : Hid (ByteArray.mk #[10] ++ rs = ⟨(lnW (some s) d).toArray⟩) := by
      show _ = _
      unfold lnW
      simp only []
      rw [hm, hrs]
      rfl
    have hrz : rs.size = m := by rw [hrs]; simp [ByteArray.size]
    have hrl : ¬ 9223372036854775807 < 1 + rs.size := by rw [hrz]; omega
    have Rc2 := fun dd os => cell_regrown c2 dd os
    have Rc3 := fun dd os => cell_regrown c3 dd os
    clear hlen hst c2 c3 hm0 hm hrs hrz
    go_enter Tryz.func144, Tryz.ntmps144
    go_wp2_with fail
    refine wp_region_quiet_below (by kernel_rfl) (by kernel_rfl) ?_
    repeat (go_big_quiet_step (exact HR _ _))
    refine wpQuiet_nil ?_
    intro _ hw'
    obtain ⟨⟨dq, osq⟩, hw''⟩ := hw'
    subst hw''
    go_wp2_with fail
    go_ret
    exact ⟨by rw [HL.out]; rfl, below_regrown w dq osq⟩

theorem vbx_others {w u u' : World} {a b c d e : Value} {S : Nat} (h : u.heap[w.heap.size]? = some (.cells #[a, b, c, d, e] 49 (0, 0))) (hk : Lib.OthersKept 5 (some S) u u') (hS : S < w.heap.size) : u'.heap[w.heap.size]? = some (.cells #[a, b, c, d, e] 49 (0, 0)) :=
  hk _ _ h (fun e1 => by have := Option.some.inj e1; omega) (fun c fz e1 => by injection e1 with _ e2; exact absurd e2 (by decide))

set_option maxHeartbeats 1600000 in
set_option maxRecDepth 100000 in
theorem w_number {B S fk : Nat} {St : World → List UInt8 → Prop} (P : PutOk B S fk St) (w : World) (Wr : Nat) (st : Option Nat) (d : Nat) (l : List UInt8) (kd : Int) (nm tx : ByteArray) (io ko : Value) (hW : WrAt w Wr fk S st d) (hSt : St w l) (hne : Wr ≠ S) (hlen : l.length + nm.size ≤ 140737488355328) (hB : B ≤ w.heap.size) :
    Calls Tryz.prog 108 #[.pointer (some ⟨Wr, 0, none⟩), .agg #[.int .i64 kd, .string nm, .string tx, io, ko]] w fun e w' => e = .returned (.tuple #[]) ∧ St w' (l ++ nm.data.toList) ∧ Below B w w' ∧ Lib.OthersKept 5 (some S) w w' := by
  have hent := P.ent
  have HX := Hid.mk (vbx_new w (.int .i64 kd) (.string nm) (.string tx) io ko)
  obtain ⟨W0, hW0⟩ : ∃ W0, W0 = w.alloc (.cells #[.int .i64 kd, .string nm, .string tx, io, ko] 49) := ⟨_, rfl⟩
  rw [← hW0] at HX
  have c0 := (hW.below HX.out.below).c0
  have c1 := HX.out.c1
  have HP : Hid (∀ u, Below W0.heap.size W0 u → Calls Tryz.prog fk #[.pointer (some ⟨S, 0, none⟩), .string nm] u fun e w' => e = .returned (.tuple #[]) ∧ Hid (St w' (l ++ nm.data.toList) ∧ Below B w w' ∧ Lib.OthersKept 5 (some S) w w')) := fun u hu => by
    have hb : Below w.heap.size w u := HX.out.below.trans (hu.mono (Nat.le_of_lt HX.out.lt))
    refine (P.call u l nm (P.below hSt hb) hlen (Nat.le_trans hB hb.size)).mono ?_
    rintro e w' ⟨he, h1, h2, h3⟩
    exact ⟨he, h1, (hb.mono hB).trans h2, (others_of_below hb).trans h3⟩
  have HD0 := Hid.mk (Below.refl W0.heap.size W0).drew
  have D0 : (W0.drew).cell? ⟨Wr, 0, none⟩ = _ := c0
  have D1 : (W0.drew).cell? ⟨w.heap.size, 1, none⟩ = _ := c1
  have mixed : Tryz.prog.follows .mixedOrders = true := by kernel_rfl
  clear hW hSt hlen
  go_enter Tryz.func108, Tryz.ntmps108
  go_wp2_with fail
  rw [← hW0]
  clear hW0
  go_region_with (go_at_fn fk; refine (HP.out _ HD0.out).mono ?_; rintro e w4 ⟨rfl, HL⟩)
  all_goals go_wp2_with fail
  all_goals go_end0
  all_goals exact ⟨rfl, HL.out⟩
end Go.Proofs.YtfjmgccbpiolhaaGreatDoor
