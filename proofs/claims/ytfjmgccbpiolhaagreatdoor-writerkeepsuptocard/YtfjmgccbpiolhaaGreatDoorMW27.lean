import Derived.Test.YtfjmgccbpiolhaaGreatDoorMW25
import Derived.Deep.RegionHeld3
import Derived.Deep.RegionWith
import Derived.Test.YtfjmgccbpiolhaaGreatDoorMW9
import Derived.Test.YtfjmgccbpiolhaaGreatDoorMW15
import Derived.Test.YtfjmgccbpiolhaaGreatDoorMW16
namespace Go.Proofs.YtfjmgccbpiolhaaGreatDoor
open Go.RowKit Go.Sort
set_option linter.unusedVariables false
set_option linter.unusedSimpArgs false

set_option maxHeartbeats 1600000 in
set_option maxRecDepth 100000 in
theorem w_text {B S fk : Nat} {St : World → List UInt8 → Prop} (P : PutOk B S fk St) (w : World) (Wr : Nat) (st : Option Nat) (d : Nat) (l : List UInt8) (kd : Int) (nm tx : ByteArray) (io ko : Value) (hW : WrAt w Wr fk S st d) (hSt : St w l) (hne : Wr ≠ S) (hlen : l.length + (wQ tx.data.toList).length ≤ 140737488355328) (hB : B ≤ w.heap.size) (htx : tx.size ≤ 68719476736) (hS : S < w.heap.size) :
    Calls Tryz.prog 109 #[.pointer (some ⟨Wr, 0, none⟩), .agg #[.int .i64 kd, .string nm, .string tx, io, ko]] w fun e w' => e = .returned (.tuple #[]) ∧ St w' (l ++ wQ tx.data.toList) ∧ Below B w w' ∧ Lib.OthersKept 5 (some S) w w' := by
  have hent := P.ent
  have HX := Hid.mk (vbx_new w (.int .i64 kd) (.string nm) (.string tx) io ko)
  obtain ⟨W0, hW0⟩ : ∃ W0, W0 = w.alloc (.cells #[.int .i64 kd, .string nm, .string tx, io, ko] 49) := ⟨_, rfl⟩
  rw [← hW0] at HX
  have c0 := (hW.below HX.out.below).c0
  have c2 := HX.out.c2
  obtain ⟨qs, hqs⟩ : ∃ qs : ByteArray, qs = ⟨(wQ tx.data.toList).toArray⟩ := ⟨_, rfl⟩
  have hql : qs.data.toList = wQ tx.data.toList := by rw [hqs]
  have hqz : qs.size = (wQ tx.data.toList).length := by rw [hqs]; simp [ByteArray.size]
  have HP : Hid (∀ u, Below W0.heap.size W0 u → Calls Tryz.prog fk #[.pointer (some ⟨S, 0, none⟩), .string qs] u fun e w' => e = .returned (.tuple #[]) ∧ Hid ((w'.cell? ⟨Wr, 0, none⟩ = some (.func (.func fk) #[.pointer (some ⟨S, 0, none⟩)] #[]) ∧ w'.cell? ⟨w.heap.size, 2, none⟩ = some (.string tx)) ∧ St w' (l ++ wQ tx.data.toList) ∧ Below B w w' ∧ Lib.OthersKept 5 (some S) w w')) := fun u hu => by
    have hb : Below w.heap.size w u := HX.out.below.trans (hu.mono (Nat.le_of_lt HX.out.lt))
    refine (P.call u l qs (P.below hSt hb) (by rw [hqz]; exact hlen) (Nat.le_trans hB hb.size)).mono ?_
    rintro e w' ⟨he, h1, h2, h3⟩
    rw [hql] at h1
    have hbx : u.heap[w.heap.size]? = some (.cells #[.int .i64 kd, .string nm, .string tx, io, ko] 49 (0, 0)) := by
      rw [hu.block _ HX.out.lt, hW0]
      exact heap_alloc_new w _
    have hbx2 := vbx_others hbx h3 hS
    exact ⟨he, ⟨((hW.below hb).others h3 hne).c0, by rw [Lib.cell_of_heap hbx2]; rfl⟩, h1, (hb.mono hB).trans h2, (others_of_below hb).trans h3⟩
  have HQ : Hid (∀ u, Below W0.heap.size W0 u → Calls Tryz.prog 131 #[.string tx] u fun e w' => e = .returned (.string qs) ∧ Hid ((w'.cell? ⟨Wr, 0, none⟩ = some (.func (.func fk) #[.pointer (some ⟨S, 0, none⟩)] #[]) ∧ w'.cell? ⟨w.heap.size, 2, none⟩ = some (.string tx)) ∧ Below W0.heap.size W0 w')) := fun u hu => by
    refine (w_Quote tx u htx).mono ?_
    rintro e w' ⟨he, hb⟩
    have hb2 : Below W0.heap.size W0 w' := hu.trans (hb.mono hu.size)
    refine ⟨by rw [he, hqs]; rfl, ⟨(hb2.cell (p := ⟨_, _, _⟩) ?_).trans c0, (hb2.cell (p := ⟨_, _, _⟩) HX.out.lt).trans c2⟩, hb2⟩
    exact heap_lt (hW.below HX.out.below)
  have HL : Hid ((W0.drew.cell? ⟨Wr, 0, none⟩ = some (.func (.func fk) #[.pointer (some ⟨S, 0, none⟩)] #[]) ∧ W0.drew.cell? ⟨w.heap.size, 2, none⟩ = some (.string tx)) ∧ Below W0.heap.size W0 W0.drew) := ⟨⟨c0, c2⟩, (Below.refl W0.heap.size W0).drew⟩
  have mixed : Tryz.prog.follows .mixedOrders = true := by kernel_rfl
  clear hW hSt hlen hqs hql hqz c0 c2
  go_enter Tryz.func109, Tryz.ntmps109
  go_wp2_with fail
  rw [← hW0]
  clear hW0
  go_region_held3 (fun u => u.cell? ⟨Wr, 0, none⟩ = some (.func (.func fk) #[.pointer (some ⟨S, 0, none⟩)] #[]) ∧ u.cell? ⟨w.heap.size, 2, none⟩ = some (.string tx)) (exact HL.out.1) (first | (go_at_call 131; refine (HQ.out _ HL.out.2).mono ?_; rintro e w4 ⟨rfl, HL⟩) | (go_at_fn fk; refine (HP.out _ HL.out.2).mono ?_; rintro e w4 ⟨rfl, HL⟩))
  all_goals go_wp2_with fail
  all_goals go_end0
  all_goals exact ⟨rfl, HL.out.2⟩
end Go.Proofs.YtfjmgccbpiolhaaGreatDoor
namespace Go.Proofs.YtfjmgccbpiolhaaGreatDoor
open Go.RowKit Go.Sort
set_option linter.unusedVariables false
set_option linter.unusedSimpArgs false

structure WordsAt (w : World) : Prop where
  c0 : w.cell? ⟨0, 0, none⟩ = some (.string ⟨#[110, 117, 108, 108]⟩)
  c1 : w.cell? ⟨0, 1, none⟩ = some (.string ⟨#[102, 97, 108, 115, 101]⟩)
  c2 : w.cell? ⟨0, 2, none⟩ = some (.string ⟨#[116, 114, 117, 101]⟩)
theorem WordsAt.lt {w : World} (h : WordsAt w) : 0 < w.heap.size := World.block_lt_of_cell? _ _ h.c0
theorem WordsAt.keepB {w w' : World} {B : Nat} (h : WordsAt w) (hb : Below B w w') (hB : 0 < B) : WordsAt w' :=
  ⟨(hb.cell (p := ⟨_, _, _⟩) hB).trans h.c0, (hb.cell (p := ⟨_, _, _⟩) hB).trans h.c1, (hb.cell (p := ⟨_, _, _⟩) hB).trans h.c2⟩
theorem WordsAt.keep {w w' : World} (h : WordsAt w) (hb : Below w.heap.size w w') : WordsAt w' := h.keepB hb h.lt

set_option maxHeartbeats 1600000 in
set_option maxRecDepth 100000 in
theorem w_word0 {B S fk : Nat} {St : World → List UInt8 → Prop} (P : PutOk B S fk St) (w : World) (Wr : Nat) (st : Option Nat) (d : Nat) (l : List UInt8) (nm tx : ByteArray) (io ko : Value) (hW : WrAt w Wr fk S st d) (hSt : St w l) (hne : Wr ≠ S) (hlen : l.length + 4 ≤ 140737488355328) (hB : B ≤ w.heap.size) (hS : S < w.heap.size) (hwd : WordsAt w) (hgB : 0 < B) :
    Calls Tryz.prog 112 #[.pointer (some ⟨Wr, 0, none⟩), .agg #[.int .i64 0, .string nm, .string tx, io, ko]] w fun e w' => e = .returned (.tuple #[]) ∧ St w' (l ++ [110, 117, 108, 108]) ∧ Below B w w' ∧ Lib.OthersKept 5 (some S) w w' := by
  have hent := P.ent
  have HX := Hid.mk (vbx_new w (.int .i64 0) (.string nm) (.string tx) io ko)
  obtain ⟨W0, hW0⟩ : ∃ W0, W0 = w.alloc (.cells #[.int .i64 0, .string nm, .string tx, io, ko] 49) := ⟨_, rfl⟩
  rw [← hW0] at HX
  have c0 := (hW.below HX.out.below).c0
  have c2 := HX.out.c0
  have c3 := (hwd.keep HX.out.below).c0
  have HP : Hid (∀ u, Below W0.heap.size W0 u → Calls Tryz.prog fk #[.pointer (some ⟨S, 0, none⟩), .string ⟨#[110, 117, 108, 108]⟩] u fun e w' => e = .returned (.tuple #[]) ∧ Hid ((w'.cell? ⟨Wr, 0, none⟩ = some (.func (.func fk) #[.pointer (some ⟨S, 0, none⟩)] #[]) ∧ w'.cell? ⟨w.heap.size, 0, none⟩ = some (.int .i64 0) ∧ w'.cell? ⟨0, 0, none⟩ = some (.string ⟨#[110, 117, 108, 108]⟩)) ∧ St w' (l ++ [110, 117, 108, 108]) ∧ Below B w w' ∧ Lib.OthersKept 5 (some S) w w')) := fun u hu => by
    have hb : Below w.heap.size w u := HX.out.below.trans (hu.mono (Nat.le_of_lt HX.out.lt))
    refine (P.call u l ⟨#[110, 117, 108, 108]⟩ (P.below hSt hb) hlen (Nat.le_trans hB hb.size)).mono ?_
    rintro e w' ⟨he, h1, h2, h3⟩
    have hbx : u.heap[w.heap.size]? = some (.cells #[.int .i64 0, .string nm, .string tx, io, ko] 49 (0, 0)) := by
      rw [hu.block _ HX.out.lt, hW0]
      exact heap_alloc_new w _
    have hbx2 := vbx_others hbx h3 hS
    exact ⟨he, ⟨((hW.below hb).others h3 hne).c0, by rw [Lib.cell_of_heap hbx2]; rfl, (((hwd.keep hb).keepB h2 hgB).c0)⟩, h1, (hb.mono hB).trans h2, (others_of_below hb).trans h3⟩
  have HL : Hid ((W0.drew.cell? ⟨Wr, 0, none⟩ = some (.func (.func fk) #[.pointer (some ⟨S, 0, none⟩)] #[]) ∧ W0.drew.cell? ⟨w.heap.size, 0, none⟩ = some (.int .i64 0) ∧ W0.drew.cell? ⟨0, 0, none⟩ = some (.string ⟨#[110, 117, 108, 108]⟩)) ∧ Below W0.heap.size W0 W0.drew) := ⟨⟨c0, c2, c3⟩, (Below.refl W0.heap.size W0).drew⟩
  have mixed : Tryz.prog.follows .mixedOrders = true := by kernel_rfl
  clear hW hSt hlen c0 c2 c3 hwd
  go_enter Tryz.func112, Tryz.ntmps112
  go_wp2_with fail
  rw [← hW0]
  clear hW0
  go_region_held3 (fun u => u.cell? ⟨Wr, 0, none⟩ = some (.func (.func fk) #[.pointer (some ⟨S, 0, none⟩)] #[]) ∧ u.cell? ⟨w.heap.size, 0, none⟩ = some (.int .i64 0) ∧ u.cell? ⟨0, 0, none⟩ = some (.string ⟨#[110, 117, 108, 108]⟩)) (exact HL.out.1) ((go_at_fn fk; refine (HP.out _ HL.out.2).mono ?_; rintro e w4 ⟨rfl, HL⟩))
  all_goals go_wp2_with fail
  all_goals go_end0
  all_goals exact ⟨rfl, HL.out.2⟩

set_option maxHeartbeats 1600000 in
set_option maxRecDepth 100000 in
theorem w_word1 {B S fk : Nat} {St : World → List UInt8 → Prop} (P : PutOk B S fk St) (w : World) (Wr : Nat) (st : Option Nat) (d : Nat) (l : List UInt8) (nm tx : ByteArray) (io ko : Value) (hW : WrAt w Wr fk S st d) (hSt : St w l) (hne : Wr ≠ S) (hlen : l.length + 5 ≤ 140737488355328) (hB : B ≤ w.heap.size) (hS : S < w.heap.size) (hwd : WordsAt w) (hgB : 0 < B) :
    Calls Tryz.prog 112 #[.pointer (some ⟨Wr, 0, none⟩), .agg #[.int .i64 1, .string nm, .string tx, io, ko]] w fun e w' => e = .returned (.tuple #[]) ∧ St w' (l ++ [102, 97, 108, 115, 101]) ∧ Below B w w' ∧ Lib.OthersKept 5 (some S) w w' := by
  have hent := P.ent
  have HX := Hid.mk (vbx_new w (.int .i64 1) (.string nm) (.string tx) io ko)
  obtain ⟨W0, hW0⟩ : ∃ W0, W0 = w.alloc (.cells #[.int .i64 1, .string nm, .string tx, io, ko] 49) := ⟨_, rfl⟩
  rw [← hW0] at HX
  have c0 := (hW.below HX.out.below).c0
  have c2 := HX.out.c0
  have c3 := (hwd.keep HX.out.below).c1
  have HP : Hid (∀ u, Below W0.heap.size W0 u → Calls Tryz.prog fk #[.pointer (some ⟨S, 0, none⟩), .string ⟨#[102, 97, 108, 115, 101]⟩] u fun e w' => e = .returned (.tuple #[]) ∧ Hid ((w'.cell? ⟨Wr, 0, none⟩ = some (.func (.func fk) #[.pointer (some ⟨S, 0, none⟩)] #[]) ∧ w'.cell? ⟨w.heap.size, 0, none⟩ = some (.int .i64 1) ∧ w'.cell? ⟨0, 1, none⟩ = some (.string ⟨#[102, 97, 108, 115, 101]⟩)) ∧ St w' (l ++ [102, 97, 108, 115, 101]) ∧ Below B w w' ∧ Lib.OthersKept 5 (some S) w w')) := fun u hu => by
    have hb : Below w.heap.size w u := HX.out.below.trans (hu.mono (Nat.le_of_lt HX.out.lt))
    refine (P.call u l ⟨#[102, 97, 108, 115, 101]⟩ (P.below hSt hb) hlen (Nat.le_trans hB hb.size)).mono ?_
    rintro e w' ⟨he, h1, h2, h3⟩
    have hbx : u.heap[w.heap.size]? = some (.cells #[.int .i64 1, .string nm, .string tx, io, ko] 49 (0, 0)) := by
      rw [hu.block _ HX.out.lt, hW0]
      exact heap_alloc_new w _
    have hbx2 := vbx_others hbx h3 hS
    exact ⟨he, ⟨((hW.below hb).others h3 hne).c0, by rw [Lib.cell_of_heap hbx2]; rfl, (((hwd.keep hb).keepB h2 hgB).c1)⟩, h1, (hb.mono hB).trans h2, (others_of_below hb).trans h3⟩
  have HL : Hid ((W0.drew.cell? ⟨Wr, 0, none⟩ = some (.func (.func fk) #[.pointer (some ⟨S, 0, none⟩)] #[]) ∧ W0.drew.cell? ⟨w.heap.size, 0, none⟩ = some (.int .i64 1) ∧ W0.drew.cell? ⟨0, 1, none⟩ = some (.string ⟨#[102, 97, 108, 115, 101]⟩)) ∧ Below W0.heap.size W0 W0.drew) := ⟨⟨c0, c2, c3⟩, (Below.refl W0.heap.size W0).drew⟩
  have mixed : Tryz.prog.follows .mixedOrders = true := by kernel_rfl
  clear hW hSt hlen c0 c2 c3 hwd
  go_enter Tryz.func112, Tryz.ntmps112
  go_wp2_with fail
  rw [← hW0]
  clear hW0
  go_region_held3 (fun u => u.cell? ⟨Wr, 0, none⟩ = some (.func (.func fk) #[.pointer (some ⟨S, 0, none⟩)] #[]) ∧ u.cell? ⟨w.heap.size, 0, none⟩ = some (.int .i64 1) ∧ u.cell? ⟨0, 1, none⟩ = some (.string ⟨#[102, 97, 108, 115, 101]⟩)) (exact HL.out.1) ((go_at_fn fk; refine (HP.out _ HL.out.2).mono ?_; rintro e w4 ⟨rfl, HL⟩))
  all_goals go_wp2_with fail
  all_goals go_end0
  all_goals exact ⟨rfl, HL.out.2⟩

set_option maxHeartbeats 1600000 in
set_option maxRecDepth 100000 in
theorem w_word2 {B S fk : Nat} {St : World → List UInt8 → Prop} (P : PutOk B S fk St) (w : World) (Wr : Nat) (st : Option Nat) (d : Nat) (l : List UInt8) (nm tx : ByteArray) (io ko : Value) (hW : WrAt w Wr fk S st d) (hSt : St w l) (hne : Wr ≠ S) (hlen : l.length + 4 ≤ 140737488355328) (hB : B ≤ w.heap.size) (hS : S < w.heap.size) (hwd : WordsAt w) (hgB : 0 < B) :
    Calls Tryz.prog 112 #[.pointer (some ⟨Wr, 0, none⟩), .agg #[.int .i64 2, .string nm, .string tx, io, ko]] w fun e w' => e = .returned (.tuple #[]) ∧ St w' (l ++ [116, 114, 117, 101]) ∧ Below B w w' ∧ Lib.OthersKept 5 (some S) w w' := by
  have hent := P.ent
  have HX := Hid.mk (vbx_new w (.int .i64 2) (.string nm) (.string tx) io ko)
  obtain ⟨W0, hW0⟩ : ∃ W0, W0 = w.alloc (.cells #[.int .i64 2, .string nm, .string tx, io, ko] 49) := ⟨_, rfl⟩
  rw [← hW0] at HX
  have c0 := (hW.below HX.out.below).c0
  have c2 := HX.out.c0
  have c3 := (hwd.keep HX.out.below).c2
  have HP : Hid (∀ u, Below W0.heap.size W0 u → Calls Tryz.prog fk #[.pointer (some ⟨S, 0, none⟩), .string ⟨#[116, 114, 117, 101]⟩] u fun e w' => e = .returned (.tuple #[]) ∧ Hid ((w'.cell? ⟨Wr, 0, none⟩ = some (.func (.func fk) #[.pointer (some ⟨S, 0, none⟩)] #[]) ∧ w'.cell? ⟨w.heap.size, 0, none⟩ = some (.int .i64 2) ∧ w'.cell? ⟨0, 2, none⟩ = some (.string ⟨#[116, 114, 117, 101]⟩)) ∧ St w' (l ++ [116, 114, 117, 101]) ∧ Below B w w' ∧ Lib.OthersKept 5 (some S) w w')) := fun u hu => by
    have hb : Below w.heap.size w u := HX.out.below.trans (hu.mono (Nat.le_of_lt HX.out.lt))
    refine (P.call u l ⟨#[116, 114, 117, 101]⟩ (P.below hSt hb) hlen (Nat.le_trans hB hb.size)).mono ?_
    rintro e w' ⟨he, h1, h2, h3⟩
    have hbx : u.heap[w.heap.size]? = some (.cells #[.int .i64 2, .string nm, .string tx, io, ko] 49 (0, 0)) := by
      rw [hu.block _ HX.out.lt, hW0]
      exact heap_alloc_new w _
    have hbx2 := vbx_others hbx h3 hS
    exact ⟨he, ⟨((hW.below hb).others h3 hne).c0, by rw [Lib.cell_of_heap hbx2]; rfl, (((hwd.keep hb).keepB h2 hgB).c2)⟩, h1, (hb.mono hB).trans h2, (others_of_below hb).trans h3⟩
  have HL : Hid ((W0.drew.cell? ⟨Wr, 0, none⟩ = some (.func (.func fk) #[.pointer (some ⟨S, 0, none⟩)] #[]) ∧ W0.drew.cell? ⟨w.heap.size, 0, none⟩ = some (.int .i64 2) ∧ W0.drew.cell? ⟨0, 2, none⟩ = some (.string ⟨#[116, 114, 117, 101]⟩)) ∧ Below W0.heap.size W0 W0.drew) := ⟨⟨c0, c2, c3⟩, (Below.refl W0.heap.size W0).drew⟩
  have mixed : Tryz.prog.follows .mixedOrders = true := by kernel_rfl
  clear hW hSt hlen c0 c2 c3 hwd
  go_enter Tryz.func112, Tryz.ntmps112
  go_wp2_with fail
  rw [← hW0]
  clear hW0
  go_region_held3 (fun u => u.cell? ⟨Wr, 0, none⟩ = some (.func (.func fk) #[.pointer (some ⟨S, 0, none⟩)] #[]) ∧ u.cell? ⟨w.heap.size, 0, none⟩ = some (.int .i64 2) ∧ u.cell? ⟨0, 2, none⟩ = some (.string ⟨#[116, 114, 117, 101]⟩)) (exact HL.out.1) ((go_at_fn fk; refine (HP.out _ HL.out.2).mono ?_; rintro e w4 ⟨rfl, HL⟩))
  all_goals go_wp2_with fail
  all_goals go_end0
  all_goals exact ⟨rfl, HL.out.2⟩
end Go.Proofs.YtfjmgccbpiolhaaGreatDoor
namespace Go.Proofs.YtfjmgccbpiolhaaGreatDoor
open Go.RowKit Go.Sort
set_option linter.unusedVariables false
set_option linter.unusedSimpArgs false

def nextF (kd : Int) : Nat := if kd = 3 then 108 else if kd = 4 then 109 else if kd = 5 then 110 else if kd = 6 then 111 else 112

set_option maxHeartbeats 400000 in
set_option maxRecDepth 100000 in
theorem w_next0 (w : World) (Wr : Nat) : Calls Tryz.prog 65 #[.pointer (some ⟨Wr, 0, none⟩), .int .i64 0] w fun e w' => e = .returned (.func (.func (nextF 0)) #[.pointer (some ⟨Wr, 0, none⟩)] #[]) ∧ w' = w := by
  have hmf : ∀ (fn : Fn) (first cap : Array Value) (w : World), (Instr.makeFunc fn first cap).run Tryz.prog w = .ok (.func fn first cap) w := fun _ _ _ _ => rfl
  go_enter Tryz.func65, Tryz.ntmps65
  go_wp2_with fail
  go_ret
  exact ⟨rfl, rfl⟩

set_option maxHeartbeats 400000 in
set_option maxRecDepth 100000 in
theorem w_next1 (w : World) (Wr : Nat) : Calls Tryz.prog 65 #[.pointer (some ⟨Wr, 0, none⟩), .int .i64 1] w fun e w' => e = .returned (.func (.func (nextF 1)) #[.pointer (some ⟨Wr, 0, none⟩)] #[]) ∧ w' = w := by
  have hmf : ∀ (fn : Fn) (first cap : Array Value) (w : World), (Instr.makeFunc fn first cap).run Tryz.prog w = .ok (.func fn first cap) w := fun _ _ _ _ => rfl
  go_enter Tryz.func65, Tryz.ntmps65
  go_wp2_with fail
  go_ret
  exact ⟨rfl, rfl⟩

set_option maxHeartbeats 400000 in
set_option maxRecDepth 100000 in
theorem w_next2 (w : World) (Wr : Nat) : Calls Tryz.prog 65 #[.pointer (some ⟨Wr, 0, none⟩), .int .i64 2] w fun e w' => e = .returned (.func (.func (nextF 2)) #[.pointer (some ⟨Wr, 0, none⟩)] #[]) ∧ w' = w := by
  have hmf : ∀ (fn : Fn) (first cap : Array Value) (w : World), (Instr.makeFunc fn first cap).run Tryz.prog w = .ok (.func fn first cap) w := fun _ _ _ _ => rfl
  go_enter Tryz.func65, Tryz.ntmps65
  go_wp2_with fail
  go_ret
  exact ⟨rfl, rfl⟩

set_option maxHeartbeats 400000 in
set_option maxRecDepth 100000 in
theorem w_next3 (w : World) (Wr : Nat) : Calls Tryz.prog 65 #[.pointer (some ⟨Wr, 0, none⟩), .int .i64 3] w fun e w' => e = .returned (.func (.func (nextF 3)) #[.pointer (some ⟨Wr, 0, none⟩)] #[]) ∧ w' = w := by
  have hmf : ∀ (fn : Fn) (first cap : Array Value) (w : World), (Instr.makeFunc fn first cap).run Tryz.prog w = .ok (.func fn first cap) w := fun _ _ _ _ => rfl
  go_enter Tryz.func65, Tryz.ntmps65
  go_wp2_with fail
  go_ret
  exact ⟨rfl, rfl⟩

set_option maxHeartbeats 400000 in
set_option maxRecDepth 100000 in
theorem w_next4 (w : World) (Wr : Nat) : Calls Tryz.prog 65 #[.pointer (some ⟨Wr, 0, none⟩), .int .i64 4] w fun e w' => e = .returned (.func (.func (nextF 4)) #[.pointer (some ⟨Wr, 0, none⟩)] #[]) ∧ w' = w := by
  have hmf : ∀ (fn : Fn) (first cap : Array Value) (w : World), (Instr.makeFunc fn first cap).run Tryz.prog w = .ok (.func fn first cap) w := fun _ _ _ _ => rfl
  go_enter Tryz.func65, Tryz.ntmps65
  go_wp2_with fail
  go_ret
  exact ⟨rfl, rfl⟩

set_option maxHeartbeats 400000 in
set_option maxRecDepth 100000 in
theorem w_next5 (w : World) (Wr : Nat) : Calls Tryz.prog 65 #[.pointer (some ⟨Wr, 0, none⟩), .int .i64 5] w fun e w' => e = .returned (.func (.func (nextF 5)) #[.pointer (some ⟨Wr, 0, none⟩)] #[]) ∧ w' = w := by
  have hmf : ∀ (fn : Fn) (first cap : Array Value) (w : World), (Instr.makeFunc fn first cap).run Tryz.prog w = .ok (.func fn first cap) w := fun _ _ _ _ => rfl
  go_enter Tryz.func65, Tryz.ntmps65
  go_wp2_with fail
  go_ret
  exact ⟨rfl, rfl⟩

set_option maxHeartbeats 400000 in
set_option maxRecDepth 100000 in
theorem w_next6 (w : World) (Wr : Nat) : Calls Tryz.prog 65 #[.pointer (some ⟨Wr, 0, none⟩), .int .i64 6] w fun e w' => e = .returned (.func (.func (nextF 6)) #[.pointer (some ⟨Wr, 0, none⟩)] #[]) ∧ w' = w := by
  have hmf : ∀ (fn : Fn) (first cap : Array Value) (w : World), (Instr.makeFunc fn first cap).run Tryz.prog w = .ok (.func fn first cap) w := fun _ _ _ _ => rfl
  go_enter Tryz.func65, Tryz.ntmps65
  go_wp2_with fail
  go_ret
  exact ⟨rfl, rfl⟩

set_option maxHeartbeats 400000 in
set_option maxRecDepth 100000 in
theorem w_noname (w : World) (i : Int) : Calls Tryz.prog 133 #[.int .i64 i] w fun e w' => e = .returned (.string ⟨#[]⟩) ∧ Below w.heap.size w w' := by
  go_enter Tryz.func133, Tryz.ntmps133
  go_wp2_with fail
  go_ret
  exact ⟨rfl, Below.refl _ _⟩

set_option maxHeartbeats 1600000 in
set_option maxRecDepth 100000 in
theorem w_name (w : World) (vb wb Wr fk S : Nat) (st : Option Nat) (d : Nat) (ko : Option Addr) (K kcap : Nat) (keys : List ByteArray) (i : Nat) (hi : i < K) (hK : keys.length = K) (hkc : K ≤ kcap) (hK2 : K ≤ 140737488355328) (hW : WrAt w Wr fk S st d) (hk : KIn w ko keys) (h4 : w.cell? ⟨vb, 4, none⟩ = some (.slice ko K kcap)) (h0 : w.cell? ⟨wb, 0, none⟩ = some (.pointer (some ⟨Wr, 0, none⟩))) (hsz : ∀ k ∈ keys, k.size ≤ 68719476736) :
    Calls Tryz.prog 134 #[.int .i64 (i : Int), .pointer (some ⟨vb, 0, none⟩), .pointer (some ⟨wb, 0, none⟩)] w fun e w' => e = .returned (.string ⟨(wQ (keys.getD i .empty).data.toList ++ clW st).toArray⟩) ∧ Below w.heap.size w w' := by
  obtain ⟨b, off, rfl, hbl, hcell⟩ := hk.row (by omega)
  have hc := hcell i (by omega)
  have hsk : (keys.getD i .empty).size ≤ 68719476736 := by
    have hm : keys.getD i .empty = keys[i] := by simp [List.getD, hK, hi]
    rw [hm]
    exact hsz _ (List.getElem_mem _)
  generalize keys.getD i .empty = key at hc hsk ⊢
  obtain ⟨qs, hqs⟩ : ∃ qs : ByteArray, qs = ⟨(wQ key.data.toList).toArray⟩ := ⟨_, rfl⟩
  obtain ⟨cs, hcs⟩ : ∃ cs : ByteArray, cs = ⟨(clW st).toArray⟩ := ⟨_, rfl⟩
  have HQ : ∀ dd os, Calls Tryz.prog 131 #[.string key] (grow (redrawn w dd) os) fun e w'' => e = .returned (.string qs) ∧ ∃ p : Regrown, w'' = grow (redrawn w p.d) p.os := fun dd os => by
    refine Calls.regrown_of ?_
    have h := w_Quote key (grow (redrawn w dd) os) hsk
    rw [show (ByteArray.mk (34 :: (qb (runes key.data.toList) ++ [34])).toArray) = qs from hqs.symm] at h
    exact h
  have HCo : ∀ dd os, Calls Tryz.prog 135 #[.pointer (some ⟨Wr, 0, none⟩)] (grow (redrawn w dd) os) fun e w'' => e = .returned (.string cs) ∧ ∃ p : Regrown, w'' = grow (redrawn w p.d) p.os := fun dd os => by
    refine Calls.regrown_of ?_
    have h := w_colon (grow (redrawn w dd) os) Wr fk S st d (hW.below (below_regrown w dd os))
    rw [← hcs] at h
    exact h
  have HE : Hid (qs ++ cs = ⟨(wQ key.data.toList ++ clW st).toArray⟩) := by
    show _ = _
    rw [hqs, hcs]
    exact ByteArray.ext (by simp)
  have hq1 : qs.size = (wQ key.data.toList).length := by rw [hqs]; simp [ByteArray.size]
  have hq2 := wQ_len key.data.toList
  have hq3 : key.data.toList.length = key.size := by rw [Array.length_toList]; rfl
  have hc1 : cs.size = (clW st).length := by rw [hcs]; simp [ByteArray.size]
  have hc2 := clW_len st
  have hlim : ¬ 9223372036854775807 < qs.size + cs.size := by omega
  have Rc := fun dd os => cell_regrown hc dd os
  have R4 := fun dd os => cell_regrown h4 dd os
  have R0 := fun dd os => cell_regrown h0 dd os
  have hi1 : (0 : Int) ≤ (i : Int) ∧ (i : Int) < (K : Int) := by omega
  clear hq1 hq2 hq3 hc1 hc2 hqs hcs hsk hc h4 h0 hcell hsz hk hW hbl hK
  go_enter Tryz.func134, Tryz.ntmps134
  go_wp2_with fail
  refine wp_region_quiet_below (by kernel_rfl) (by kernel_rfl) ?_
  repeat (go_big_quiet_step (first | exact HQ _ _ | exact HCo _ _))
  refine wpQuiet_nil ?_
  intro _ hw'
  obtain ⟨⟨dq, osq⟩, hw''⟩ := hw'
  subst hw''
  go_wp2_with fail
  go_ret
  exact ⟨by rw [HE.out]; rfl, below_regrown w dq osq⟩

theorem others_wr {w u : World} {Wr fk S : Nat} {st : Option Nat} {d d' : Nat} (hW : WrAt w Wr fk S st d) (x : Value) (hk : Lib.OthersKept 5 (some S) (w.setCell ⟨Wr, 3, none⟩ x) u) (hU : WrAt u Wr fk S st d') : Lib.OthersKept 5 (some S) w (u.setCell ⟨Wr, 3, none⟩ (.int .i64 ((d : Nat) : Int))) := by
  intro k o h1 h2 h3
  by_cases hkw : k = Wr
  · subst hkw
    have e := hW.symm.trans h1
    rw [← Option.some.inj e]
    exact hU.set d
  · rw [Below.heap_setCell _ _ _ _ (fun e => hkw (by simpa using e))]
    refine hk k o ?_ h2 h3
    rw [Below.heap_setCell _ _ _ _ (fun e => hkw (by simpa using e))]
    exact h1
end Go.Proofs.YtfjmgccbpiolhaaGreatDoor
namespace Go.Proofs.YtfjmgccbpiolhaaGreatDoor
open Go.RowKit Go.Sort
set_option linter.unusedVariables false
set_option linter.unusedSimpArgs false

structure NameOk (B S fn : Nat) (caps : Array Value) (Wr fk : Nat) (st : Option Nat) (N : Nat) (NP : World → Prop) (nm : Nat → List UInt8) : Prop where
  ent : ∀ args w, (callFunc fn args).run Tryz.prog w = .ok (.enter fn args) w
  call : ∀ (w : World) (d i : Nat), NP w → WrAt w Wr fk S st d → i < N → Calls Tryz.prog fn (#[.int .i64 (i : Int)] ++ caps) w fun e w' => e = .returned (.string ⟨(nm i).toArray⟩) ∧ Below w.heap.size w w'
  keepO : ∀ w w', NP w → Lib.OthersKept 5 (some S) w w' → Below B w w' → NP w'
  keepW : ∀ w x, NP w → (∃ d, WrAt w Wr fk S st d) → NP (w.setCell ⟨Wr, 3, none⟩ x)

def VOk (B S fk : Nat) (St : World → List UInt8 → Prop) (Wr : Nat) (st : Option Nat) (w0 : World) (h : Nat) : Prop :=
  ∀ (T : VT) (v : Value) (w : World) (d : Nat) (l : List UInt8), InH w0 h T v → formN h T = true → ShV h T → Below w0.heap.size w0 w → WrAt w Wr fk S st d → St w l → B ≤ w.heap.size → S < w.heap.size → d + szN h T ≤ 1099511627776 → l.length + (wrV st h d T).length ≤ 140737488355328 →
    Calls Tryz.prog 26 #[.pointer (some ⟨Wr, 0, none⟩), v] w fun e w' => e = .returned (.tuple #[]) ∧ St w' (l ++ wrV st h d T) ∧ Below B w w' ∧ Lib.OthersKept 5 (some S) w w'

structure RwSt (B S fk : Nat) (St : World → List UInt8 → Prop) (Wr : Nat) (st : Option Nat) (NP : World → Prop) (w W1 wr : World) (d : Nat) (l : List UInt8) : Prop where
  st_ : St wr l
  wr_ : WrAt wr Wr fk S st d
  np : NP wr
  below : Below B w wr
  others : Lib.OthersKept 5 (some S) W1 wr

theorem RwSt.low {B S fk : Nat} {St : World → List UInt8 → Prop} {Wr : Nat} {st : Option Nat} {NP : World → Prop} {w W1 u u' : World} {d : Nat} {l : List UInt8} (P : PutOk B S fk St) (hN : ∀ w w', NP w → Lib.OthersKept 5 (some S) w w' → Below B w w' → NP w') (h : RwSt B S fk St Wr st NP w W1 u d l) (hB : B ≤ u.heap.size) (hb : Below u.heap.size u u') : RwSt B S fk St Wr st NP w W1 u' d l :=
  ⟨P.below h.st_ hb, h.wr_.below hb, hN _ _ h.np (others_of_below hb) (hb.mono hB), h.below.trans (hb.mono hB), h.others.trans (others_of_below hb)⟩
theorem RwSt.put {B S fk : Nat} {St : World → List UInt8 → Prop} {Wr : Nat} {st : Option Nat} {NP : World → Prop} {w W1 u u' : World} {d : Nat} {l l' : List UInt8} (hN : ∀ w w', NP w → Lib.OthersKept 5 (some S) w w' → Below B w w' → NP w') (h : RwSt B S fk St Wr st NP w W1 u d l) (hne : Wr ≠ S) (hS : St u' l') (hb : Below B u u') (ho : Lib.OthersKept 5 (some S) u u') : RwSt B S fk St Wr st NP w W1 u' d l' :=
  ⟨hS, h.wr_.others ho hne, hN _ _ h.np ho hb, h.below.trans hb, h.others.trans ho⟩
structure RdSt (B S fk : Nat) (St : World → List UInt8 → Prop) (Wr : Nat) (st : Option Nat) (NP : World → Prop) (w W1 : World) (bx : Nat) (a0 a1 a2 a3 a4 : Value) (u : World) (d : Nat) (l : List UInt8) : Prop where
  r : RwSt B S fk St Wr st NP w W1 u d l
  box : u.heap[bx]? = some (.cells #[a0, a1, a2, a3, a4] 49 (0, 0))
  sB : B ≤ u.heap.size
  sS : S < bx
theorem RdSt.low {B S fk : Nat} {St : World → List UInt8 → Prop} {Wr : Nat} {st : Option Nat} {NP : World → Prop} {w W1 u u' : World} {bx : Nat} {a0 a1 a2 a3 a4 : Value} {d : Nat} {l : List UInt8} (P : PutOk B S fk St) (hN : ∀ w w', NP w → Lib.OthersKept 5 (some S) w w' → Below B w w' → NP w') (h : RdSt B S fk St Wr st NP w W1 bx a0 a1 a2 a3 a4 u d l) (hb : Below u.heap.size u u') : RdSt B S fk St Wr st NP w W1 bx a0 a1 a2 a3 a4 u' d l :=
  ⟨h.r.low P hN h.sB hb, (hb.block _ (heap_lt h.box)).trans h.box, Nat.le_trans h.sB hb.size, h.sS⟩
theorem RdSt.put {B S fk : Nat} {St : World → List UInt8 → Prop} {Wr : Nat} {st : Option Nat} {NP : World → Prop} {w W1 u u' : World} {bx : Nat} {a0 a1 a2 a3 a4 : Value} {d : Nat} {l l' : List UInt8} (hN : ∀ w w', NP w → Lib.OthersKept 5 (some S) w w' → Below B w w' → NP w') (h : RdSt B S fk St Wr st NP w W1 bx a0 a1 a2 a3 a4 u d l) (hne : Wr ≠ S) (hS : St u' l') (hb : Below B u u') (ho : Lib.OthersKept 5 (some S) u u') : RdSt B S fk St Wr st NP w W1 bx a0 a1 a2 a3 a4 u' d l' :=
  ⟨h.r.put hN hne hS hb ho, ho _ _ h.box (fun e => by have := Option.some.inj e; have := h.sS; omega) (fun c fz e => by injection e with _ e2; exact absurd e2 (by decide)), Nat.le_trans h.sB hb.size, h.sS⟩
theorem RdSt.cells {B S fk : Nat} {St : World → List UInt8 → Prop} {Wr : Nat} {st : Option Nat} {NP : World → Prop} {w W1 u : World} {bx : Nat} {a0 a1 a2 a3 a4 : Value} {d : Nat} {l : List UInt8} (h : RdSt B S fk St Wr st NP w W1 bx a0 a1 a2 a3 a4 u d l) : u.cell? ⟨bx, 0, none⟩ = some a0 ∧ u.cell? ⟨bx, 1, none⟩ = some a1 ∧ u.cell? ⟨bx, 2, none⟩ = some a2 ∧ u.cell? ⟨bx, 3, none⟩ = some a3 ∧ u.cell? ⟨bx, 4, none⟩ = some a4 :=
  ⟨by rw [Lib.cell_of_heap h.box]; rfl, by rw [Lib.cell_of_heap h.box]; rfl, by rw [Lib.cell_of_heap h.box]; rfl, by rw [Lib.cell_of_heap h.box]; rfl, by rw [Lib.cell_of_heap h.box]; rfl⟩

theorem joinR_le (g : Nat → List UInt8) {k N : Nat} (h : k ≤ N) : (joinR g k).length ≤ (joinR g N).length := by
  induction N with
  | zero => obtain rfl : k = 0 := by omega
            exact Nat.le_refl _
  | succ N ih =>
    by_cases e : k = N + 1
    · subst e; exact Nat.le_refl _
    · have := ih (by omega)
      simp only [joinR, List.length_append]
      omega

set_option maxHeartbeats 3200000 in
set_option maxRecDepth 100000 in
theorem w_row {B S fk : Nat} {St : World → List UInt8 → Prop} (P : PutOk B S fk St) (Wr : Nat) (st : Option Nat) (w0 : World) (h : Nat) (ih : VOk B S fk St Wr st w0 h) (fn : Nat) (caps : Array Value) (N : Nat) (NP : World → Prop) (nm : Nat → List UInt8) (NM : NameOk B S fn caps Wr fk st N NP nm)
    (o c : UInt8) (io : Option Addr) (icap : Nat) (ts : List VT) (hts : ts.length = N) (hI : IIn w0 h io ts) (hN : N ≤ icap) (hN2 : N ≤ 140737488355328) (hf : ∀ t ∈ ts, formN h t = true) (hsh : ∀ t ∈ ts, ShV h t) (w : World) (d : Nat) (l : List UInt8) (hb : Below w0.heap.size w0 w) (hW : WrAt w Wr fk S st d) (hSt : St w l) (hNP : NP w) (hB : B ≤ w.heap.size) (hB0 : w0.heap.size ≤ B) (hBW : B ≤ Wr) (hS : S < w.heap.size) (hne : Wr ≠ S) (hst : ∀ s, st = some s → s ≤ 8) (hd : d + 1 ≤ 1099511627776) (hdt : ∀ t ∈ ts, d + 1 + szN h t ≤ 1099511627776)
    (it : Nat → List UInt8) (hit : ∀ i, (hi : i < ts.length) → it i = wrV st h (d + 1) ts[i]) (hlen : l.length + (rowW o c (lnW st (d + 1)) (lnW st d) nm it N).length ≤ 140737488355328) :
    Calls Tryz.prog 132 #[.pointer (some ⟨Wr, 0, none⟩), .string ⟨#[o]⟩, .string ⟨#[c]⟩, .slice io N icap, .func (.func fn) #[] caps] w fun e w' => e = .returned (.tuple #[]) ∧ St w' (l ++ rowW o c (lnW st (d + 1)) (lnW st d) nm it N) ∧ Below B w w' ∧ Lib.OthersKept 5 (some S) w w' := by
  have hent := P.ent
  have hentN := NM.ent
  by_cases h0 : N = 0
  · subst h0
    have c0 := hW.c0
    have HP := Hid.mk (P.call w l (⟨#[o]⟩ ++ ⟨#[c]⟩) hSt (by simp [rowW] at hlen; show _ + 2 ≤ _; omega) hB)
    have hr : rowW o c (lnW st (d + 1)) (lnW st d) nm it 0 = [o, c] := rfl
    rw [hr]
    have HP2 : Hid (Calls Tryz.prog fk #[.pointer (some ⟨S, 0, none⟩), .string (⟨#[o]⟩ ++ ⟨#[c]⟩)] w fun e w' => e = .returned (.tuple #[]) ∧ St w' (l ++ [o, c]) ∧ Below B w w' ∧ Lib.OthersKept 5 (some S) w w') := HP.out
    clear hlen hr HP hW hSt hNP hb hI
    go_enter Tryz.func132, Tryz.ntmps132
    go_wp2_with fail
    refine HP2.out.mono ?_
    rintro e w1 ⟨rfl, hR⟩
    have HR := Hid.mk hR
    clear hR
    go_wp2_with fail
    refine bodyPost_ret (v := .tuple #[]) (by simp [results, Tryz.results132, go_sem]) rfl ⟨rfl, HR.out⟩
  · have hn0 : ((N : Int) == 0) = false := by rw [beq_eq_false_iff_ne]; omega
    have c3 := hW.c3
    have f3 := hW.f3
    obtain ⟨W1, hW1⟩ : ∃ W1, W1 = w.setCell ⟨Wr, 3, none⟩ (.int .i64 ((d : Int) + 1)) := ⟨_, rfl⟩
    have hcast : ((d : Int) + 1) = (((d + 1 : Nat)) : Int) := by omega
    obtain ⟨g, hg⟩ : ∃ g, g = pcW o (lnW st (d + 1)) nm it := ⟨_, rfl⟩
    have HR0 : Hid (RwSt B S fk St Wr st NP w W1 W1 (d + 1) l) := by
      refine ⟨?_, ?_, ?_, ?_, Lib.OthersKept.refl _ _ _⟩
      · rw [hW1]; exact P.set hSt hW hne _ _
      · rw [hW1, hcast]; exact hW.set (d + 1)
      · rw [hW1]; exact NM.keepW w _ hNP ⟨d, hW⟩
      · rw [hW1]; exact (Below.refl B w).setCell (p := ⟨Wr, 3, none⟩) hBW _
    have HW1 := Hid.mk hW1
    have HG := Hid.mk hg
    clear hcast hW1 hg
    go_enter Tryz.func132, Tryz.ntmps132
    go_wp2_with fail
    rw [← HW1.out]
    go_loopw [10, 34] (fun ah ix wr => ∃ (k : Nat) (a : ByteArray), k ≤ N ∧ ah = .string a ∧ ix = .int .i64 (k : Int) ∧ Hid (a.data.toList = sepW o k) ∧ Hid (RwSt B S fk St Wr st NP w W1 wr (d + 1) (l ++ joinR g k))) (fun _ ix _ => N - (intOf ix).toNat)
    case atStart =>
      refine ⟨0, ⟨#[o]⟩, Nat.zero_le _, rfl, rfl, rfl, ?_⟩
      have e : l ++ joinR g 0 = l := by simp [joinR]
      rw [e]; exact HR0
    case round =>
      obtain ⟨k, a, hk, rfl, rfl, HA, HS⟩ := hrel
      by_cases hlt : k < N
      · have hl1 : (k : Int) < (N : Int) := by omega
        obtain ⟨b, off, hio, hbl, hrow⟩ := hI.row (by omega)
        subst hio
        have hkt : k < ts.length := by omega
        obtain ⟨v0, v1, v2, v3, v4, ⟨e0, e1, e2, e3, e4⟩, ht⟩ := hrow k hkt
        have hbw : Below w0.heap.size w0 wr := hb.trans (HS.out.below.mono hB0)
        have c0 := (hbw.cell (p := ⟨_, _, _⟩) hbl).trans e0
        have c1 := (hbw.cell (p := ⟨_, _, _⟩) hbl).trans e1
        have c2 := (hbw.cell (p := ⟨_, _, _⟩) hbl).trans e2
        have c3 := (hbw.cell (p := ⟨_, _, _⟩) hbl).trans e3
        have c4 := (hbw.cell (p := ⟨_, _, _⟩) hbl).trans e4
        clear e0 e1 e2 e3 e4
        obtain ⟨ik, inm, itx, iio, iN, iicap, iko, iK, ikcap, rfl, rfl, rfl, rfl, rfl⟩ := ht.shape
        obtain ⟨W2, hW2⟩ : ∃ W2, W2 = wr.alloc (.cells #[.int .i64 ik, .string inm, .string itx, .slice iio iN iicap, .slice iko iK ikcap] 49) := ⟨_, rfl⟩
        have hSr : S < wr.heap.size := Nat.lt_of_lt_of_le hS HS.out.below.size
        have hBr : B ≤ wr.heap.size := Nat.le_trans hB HS.out.below.size
        have HL : Hid (RdSt B S fk St Wr st NP w W1 wr.heap.size (.int .i64 ik) (.string inm) (.string itx) (.slice iio iN iicap) (.slice iko iK ikcap) W2 (d + 1) (l ++ joinR g k)) := by
          have hb2 : Below wr.heap.size wr W2 := by rw [hW2]; exact below1 wr _
          exact ⟨HS.out.low P NM.keepO hBr hb2, by rw [hW2]; exact heap_alloc_new wr _, Nat.le_trans hBr hb2.size, hSr⟩
        have HW2 := Hid.mk hW2
        have hg := HG.out
        have hgk : g k = (sepW o k ++ lnW st (d + 1) ++ nm k) ++ it k := by rw [hg]; rfl
        have hjl : (joinR g (k + 1)).length ≤ (joinR g N).length := joinR_le g (by omega)
        have hjk : (joinR g (k + 1)).length = (joinR g k).length + (1 + (lnW st (d + 1)).length + (nm k).length + (it k).length) := by simp only [joinR, List.length_append, hgk, sepW_len]
        have hrow : (rowW o c (lnW st (d + 1)) (lnW st d) nm it N).length = (joinR g N).length + ((lnW st d).length + 1) := by unfold rowW; rw [if_neg h0, ← hg]; simp
        obtain ⟨ls, hls⟩ : ∃ ls : ByteArray, ls = ⟨(lnW st (d + 1)).toArray⟩ := ⟨_, rfl⟩
        obtain ⟨ns, hns⟩ : ∃ ns : ByteArray, ns = ⟨(nm k).toArray⟩ := ⟨_, rfl⟩
        have hlz : ls.size = (lnW st (d + 1)).length := by rw [hls]; simp [ByteArray.size]
        have hnz : ns.size = (nm k).length := by rw [hns]; simp [ByteArray.size]
        have haz : a.size = 1 := by
          have e1 : a.data.toList.length = a.size := by rw [Array.length_toList]; rfl
          rw [HA.out, sepW_len] at e1
          exact e1.symm
        have hp1 : ¬ 9223372036854775807 < a.size + ls.size := by omega
        have hp2 : ¬ 9223372036854775807 < (a ++ ls).size + ns.size := by rw [ByteArray.size_append]; omega
        have HLn : Hid (∀ u, RdSt B S fk St Wr st NP w W1 wr.heap.size (.int .i64 ik) (.string inm) (.string itx) (.slice iio iN iicap) (.slice iko iK ikcap) u (d + 1) (l ++ joinR g k) → Calls Tryz.prog 144 #[.pointer (some ⟨Wr, 0, none⟩)] u fun e w' => e = .returned (.string ls) ∧ Hid (RdSt B S fk St Wr st NP w W1 wr.heap.size (.int .i64 ik) (.string inm) (.string itx) (.slice iio iN iicap) (.slice iko iK ikcap) w' (d + 1) (l ++ joinR g k))) := fun u hu => by
          refine (w_line u Wr fk S st (d + 1) hu.r.wr_ (by omega) hd hst).mono ?_
          rintro e w' ⟨he, hbb⟩
          exact ⟨by rw [he, hls], hu.low P NM.keepO hbb⟩
        have HNm : Hid (∀ u, RdSt B S fk St Wr st NP w W1 wr.heap.size (.int .i64 ik) (.string inm) (.string itx) (.slice iio iN iicap) (.slice iko iK ikcap) u (d + 1) (l ++ joinR g k) → Calls Tryz.prog fn (#[.int .i64 (k : Int)] ++ caps) u fun e w' => e = .returned (.string ns) ∧ Hid (RdSt B S fk St Wr st NP w W1 wr.heap.size (.int .i64 ik) (.string inm) (.string itx) (.slice iio iN iicap) (.slice iko iK ikcap) w' (d + 1) (l ++ joinR g k))) := fun u hu => by
          refine (NM.call u (d + 1) k hu.r.np hu.r.wr_ hlt).mono ?_
          rintro e w' ⟨he, hbb⟩
          exact ⟨by rw [he, hns], hu.low P NM.keepO hbb⟩
        have hap : (a ++ ls ++ ns).data.toList = sepW o k ++ lnW st (d + 1) ++ nm k := by rw [hls, hns]; simp [HA.out]
        have HPt : Hid (∀ u, RdSt B S fk St Wr st NP w W1 wr.heap.size (.int .i64 ik) (.string inm) (.string itx) (.slice iio iN iicap) (.slice iko iK ikcap) u (d + 1) (l ++ joinR g k) → Calls Tryz.prog fk #[.pointer (some ⟨S, 0, none⟩), .string (a ++ ls ++ ns)] u fun e w' => e = .returned (.tuple #[]) ∧ Hid (RdSt B S fk St Wr st NP w W1 wr.heap.size (.int .i64 ik) (.string inm) (.string itx) (.slice iio iN iicap) (.slice iko iK ikcap) w' (d + 1) (l ++ joinR g k ++ (sepW o k ++ lnW st (d + 1) ++ nm k)))) := fun u hu => by
          refine (P.call u _ _ hu.r.st_ (by rw [List.length_append, ByteArray.size_append, ByteArray.size_append]; omega) hu.sB).mono ?_
          rintro e w' ⟨he, h1, h2, h3⟩
          rw [hap] at h1
          exact ⟨he, hu.put NM.keepO hne h1 h2 h3⟩
        have htm : ts[k] ∈ ts := List.getElem_mem hkt
        have hik := hit k hkt
        have HVl : Hid (∀ u, RdSt B S fk St Wr st NP w W1 wr.heap.size (.int .i64 ik) (.string inm) (.string itx) (.slice iio iN iicap) (.slice iko iK ikcap) u (d + 1) (l ++ joinR g k ++ (sepW o k ++ lnW st (d + 1) ++ nm k)) → Calls Tryz.prog 26 #[.pointer (some ⟨Wr, 0, none⟩), .agg #[.int .i64 ik, .string inm, .string itx, .slice iio iN iicap, .slice iko iK ikcap]] u fun e w' => e = .returned (.tuple #[]) ∧ Hid (RwSt B S fk St Wr st NP w W1 w' (d + 1) (l ++ joinR g (k + 1)))) := fun u hu => by
          have hbu : Below w0.heap.size w0 u := hb.trans (hu.r.below.mono hB0)
          refine (ih ts[k] _ u (d + 1) _ ht (hf _ htm) (hsh _ htm) hbu hu.r.wr_ hu.r.st_ hu.sB (Nat.lt_trans hu.sS (heap_lt hu.box)) (hdt _ htm) ?_).mono ?_
          · rw [← hik]; simp only [List.length_append, sepW_len]; omega
          · rintro e w' ⟨he, h1, h2, h3⟩
            rw [← hik] at h1
            have e2 : l ++ joinR g k ++ (sepW o k ++ lnW st (d + 1) ++ nm k) ++ it k = l ++ joinR g (k + 1) := by simp only [joinR, hgk, List.append_assoc]
            rw [e2] at h1
            exact ⟨he, hu.r.put NM.keepO hne h1 h2 h3⟩
        clear hik htm hap hnz hlz hns hls hrow hjk hjl hgk hg hW2 ht hbw hbl HS
        go_wp2_with fail
        rw [← HW2.out]
        refine (HLn.out _ HL.out).mono ?_
        rintro e w3 ⟨rfl, HL⟩
        go_wp2_with fail
        refine (HNm.out _ HL.out).mono ?_
        rintro e w4 ⟨rfl, HL⟩
        have cW := HL.out.r.wr_.c0
        go_wp2_with fail
        refine (HPt.out _ HL.out).mono ?_
        rintro e w5 ⟨rfl, HL⟩
        obtain ⟨b0, b1, b2, b3, b4⟩ := HL.out.cells
        go_wp2_with fail
        refine (HVl.out _ HL.out).mono ?_
        rintro e w6 ⟨rfl, HS⟩
        clear b0 b1 b2 b3 b4 cW
        go_wp2_with fail
        go_roundw
        case rel => exact ⟨k + 1, ⟨#[44]⟩, hlt, rfl, by go_num, by show _ = _; unfold sepW; rw [if_neg (by omega)], HS⟩
        case measure => simp [intOf]; omega
      · have hl1 : ¬ (k : Int) < (N : Int) := by omega
        obtain rfl : k = N := by omega
        have c3 := HS.out.wr_.c3
        have f3 := HS.out.wr_.f3
        have hc1 : (((d + 1 : Nat)) : Int) = (d : Int) + 1 := by omega
        rw [hc1] at c3
        obtain ⟨W5, hW5⟩ : ∃ W5, W5 = wr.setCell ⟨Wr, 3, none⟩ (.int .i64 (d : Int)) := ⟨_, rfl⟩
        have hU5 : WrAt W5 Wr fk S st d := by rw [hW5]; exact HS.out.wr_.set d
        have hS5 : St W5 (l ++ joinR g k) := by rw [hW5]; exact P.set HS.out.st_ HS.out.wr_ hne _ _
        have hO5 : Lib.OthersKept 5 (some S) w W5 := by
          rw [hW5]
          refine others_wr hW (.int .i64 ((d : Int) + 1)) ?_ HS.out.wr_
          rw [← HW1.out]; exact HS.out.others
        have hB5 : Below B w W5 := by rw [hW5]; exact HS.out.below.setCell (p := ⟨Wr, 3, none⟩) hBW _
        have hz5 : B ≤ W5.heap.size := Nat.le_trans hB hB5.size
        have hg := HG.out
        have hrow : rowW o c (lnW st (d + 1)) (lnW st d) nm it k = joinR g k ++ (lnW st d ++ [c]) := by unfold rowW; rw [if_neg h0, ← hg]
        rw [hrow] at hlen
        have HRow := Hid.mk hrow
        obtain ⟨ls, hls⟩ : ∃ ls : ByteArray, ls = ⟨(lnW st d).toArray⟩ := ⟨_, rfl⟩
        have hlz : ls.size = (lnW st d).length := by rw [hls]; simp [ByteArray.size]
        simp only [List.length_append, List.length_cons, List.length_nil] at hlen
        have hp1 : ¬ 9223372036854775807 < ls.size + 1 := by omega
        have hap : (ls ++ ⟨#[c]⟩).data.toList = lnW st d ++ [c] := by rw [hls]; simp
        have hc5 := hU5.c0
        have HLn : Hid (∀ u, Below W5.heap.size W5 u → Calls Tryz.prog 144 #[.pointer (some ⟨Wr, 0, none⟩)] u fun e w' => e = .returned (.string ls) ∧ Hid (w'.cell? ⟨Wr, 0, none⟩ = some (.func (.func fk) #[.pointer (some ⟨S, 0, none⟩)] #[]) ∧ Below W5.heap.size W5 w')) := fun u hu => by
          refine (w_line u Wr fk S st d (hU5.below hu) (by omega) (by omega) hst).mono ?_
          rintro e w' ⟨he, hbb⟩
          have hb2 : Below W5.heap.size W5 w' := hu.trans (hbb.mono hu.size)
          exact ⟨by rw [he, hls], (hU5.below hb2).c0, hb2⟩
        have HPt : Hid (∀ u, Below W5.heap.size W5 u → Calls Tryz.prog fk #[.pointer (some ⟨S, 0, none⟩), .string (ls ++ ⟨#[c]⟩)] u fun e w' => e = .returned (.tuple #[]) ∧ Hid (w'.cell? ⟨Wr, 0, none⟩ = some (.func (.func fk) #[.pointer (some ⟨S, 0, none⟩)] #[]) ∧ St w' (l ++ (joinR g k ++ (lnW st d ++ [c]))) ∧ Below B w w' ∧ Lib.OthersKept 5 (some S) w w')) := fun u hu => by
          refine (P.call u _ _ (P.below hS5 hu) (by rw [List.length_append, ByteArray.size_append]; show _ + (_ + 1) ≤ _; omega) (Nat.le_trans hz5 hu.size)).mono ?_
          rintro e w' ⟨he, h1, h2, h3⟩
          rw [hap, List.append_assoc] at h1
          exact ⟨he, ((hU5.below hu).others h3 hne).c0, h1, (hB5.trans (hu.mono hz5)).trans h2, (hO5.trans (others_of_below hu)).trans h3⟩
        have HL : Hid (W5.drew.cell? ⟨Wr, 0, none⟩ = some (.func (.func fk) #[.pointer (some ⟨S, 0, none⟩)] #[]) ∧ Below W5.heap.size W5 W5.drew) := ⟨hc5, (Below.refl W5.heap.size W5).drew⟩
        have HW5 := Hid.mk hW5
        have mixed : Tryz.prog.follows .mixedOrders = true := by kernel_rfl
        clear hap hlz hls hrow hg hz5 hB5 hO5 hS5 hU5 hW5 hc1 hc5 hlen
        go_wp2_with fail
        rw [← HW5.out]
        go_region_held3 (fun u => u.cell? ⟨Wr, 0, none⟩ = some (.func (.func fk) #[.pointer (some ⟨S, 0, none⟩)] #[])) (exact HL.out.1) (first | (go_at_call 144; refine (HLn.out _ HL.out.2).mono ?_; rintro e w4 ⟨rfl, HL⟩) | (go_at_fn fk; refine (HPt.out _ HL.out.2).mono ?_; rintro e w4 ⟨rfl, HL⟩))
        all_goals go_wp2_with fail
        all_goals go_end0
        all_goals exact ⟨rfl, by rw [HRow.out]; exact HL.out.2.1, HL.out.2.2⟩
end Go.Proofs.YtfjmgccbpiolhaaGreatDoor
namespace Go.Proofs.YtfjmgccbpiolhaaGreatDoor
open Go.RowKit Go.Sort
set_option linter.unusedVariables false
set_option linter.unusedSimpArgs false

set_option maxHeartbeats 1600000 in
set_option maxRecDepth 100000 in
theorem value_gen {B S fk : Nat} {St : World → List UInt8 → Prop} (P : PutOk B S fk St) (nf : Nat) (ent : ∀ args w, (callFunc nf args).run Tryz.prog w = .ok (.enter nf args) w) (w : World) (Wr : Nat) (kd : Int) (nm tx : ByteArray) (io ko : Value) (l' : List UInt8) (hB : B ≤ w.heap.size)
    (hnx : ∀ u, Calls Tryz.prog 65 #[.pointer (some ⟨Wr, 0, none⟩), .int .i64 kd] u fun e w' => e = .returned (.func (.func nf) #[.pointer (some ⟨Wr, 0, none⟩)] #[]) ∧ w' = u)
    (hbd : ∀ u, Below w.heap.size w u → Calls Tryz.prog nf #[.pointer (some ⟨Wr, 0, none⟩), .agg #[.int .i64 kd, .string nm, .string tx, io, ko]] u fun e w' => e = .returned (.tuple #[]) ∧ St w' l' ∧ Below B u w' ∧ Lib.OthersKept 5 (some S) u w') :
    Calls Tryz.prog 26 #[.pointer (some ⟨Wr, 0, none⟩), .agg #[.int .i64 kd, .string nm, .string tx, io, ko]] w fun e w' => e = .returned (.tuple #[]) ∧ St w' l' ∧ Below B w w' ∧ Lib.OthersKept 5 (some S) w w' := by
  have HX := Hid.mk (vbx_new w (.int .i64 kd) (.string nm) (.string tx) io ko)
  obtain ⟨W0, hW0⟩ : ∃ W0, W0 = w.alloc (.cells #[.int .i64 kd, .string nm, .string tx, io, ko] 49) := ⟨_, rfl⟩
  rw [← hW0] at HX
  have b0 := HX.out.c0
  have b1 := HX.out.c1
  have b2 := HX.out.c2
  have b3 := HX.out.c3
  have b4 := HX.out.c4
  have HN := Hid.mk (hnx W0)
  have HB : Hid (Calls Tryz.prog nf #[.pointer (some ⟨Wr, 0, none⟩), .agg #[.int .i64 kd, .string nm, .string tx, io, ko]] W0 fun e w' => e = .returned (.tuple #[]) ∧ St w' l' ∧ Below B w w' ∧ Lib.OthersKept 5 (some S) w w') := by
    refine (hbd W0 HX.out.below).mono ?_
    rintro e w' ⟨he, h1, h2, h3⟩
    exact ⟨he, h1, (HX.out.below.mono hB).trans h2, (others_of_below HX.out.below).trans h3⟩
  have HW0 := Hid.mk hW0
  clear hnx hbd hW0
  go_enter Tryz.func26, Tryz.ntmps26
  go_wp2_with fail
  rw [← HW0.out]
  refine HN.out.mono ?_
  rintro e w1 ⟨rfl, rfl⟩
  go_wp2_with fail
  refine HB.out.mono ?_
  rintro e w2 ⟨rfl, hR⟩
  have HR := Hid.mk hR
  clear hR b0 b1 b2 b3 b4
  go_wp2_with fail
  go_end0
  exact ⟨rfl, HR.out⟩

theorem noName_ok (B S Wr fk : Nat) (st : Option Nat) (N : Nat) : NameOk B S 133 #[] Wr fk st N (fun _ => True) (fun _ => []) :=
  ⟨enters_of Tryz.func133 (by kernel_rfl) rfl, fun w d i _ _ _ => w_noname w i, fun _ _ _ _ _ => trivial, fun _ _ _ _ => trivial⟩

set_option maxHeartbeats 1600000 in
set_option maxRecDepth 100000 in
theorem w_Warray {B S fk : Nat} {St : World → List UInt8 → Prop} (P : PutOk B S fk St) (Wr : Nat) (st : Option Nat) (w0 : World) (h : Nat) (ih : VOk B S fk St Wr st w0 h) (N : Nat) (nm tx : ByteArray) (ko : Value)
    (io : Option Addr) (icap : Nat) (ts : List VT) (hts : ts.length = N) (hI : IIn w0 h io ts) (hN : N ≤ icap) (hN2 : N ≤ 140737488355328) (hf : ∀ t ∈ ts, formN h t = true) (hsh : ∀ t ∈ ts, ShV h t) (w : World) (d : Nat) (l : List UInt8) (hb : Below w0.heap.size w0 w) (hW : WrAt w Wr fk S st d) (hSt : St w l) (hB : B ≤ w.heap.size) (hB0 : w0.heap.size ≤ B) (hBW : B ≤ Wr) (hS : S < w.heap.size) (hne : Wr ≠ S) (hst : ∀ s, st = some s → s ≤ 8) (hd : d + 1 ≤ 1099511627776) (hdt : ∀ t ∈ ts, d + 1 + szN h t ≤ 1099511627776)
    (it : Nat → List UInt8) (hit : ∀ i, (hi : i < ts.length) → it i = wrV st h (d + 1) ts[i]) (hlen : l.length + (rowW 91 93 (lnW st (d + 1)) (lnW st d) (fun _ => []) it N).length ≤ 140737488355328) :
    Calls Tryz.prog 110 #[.pointer (some ⟨Wr, 0, none⟩), .agg #[.int .i64 5, .string nm, .string tx, .slice io N icap, ko]] w fun e w' => e = .returned (.tuple #[]) ∧ St w' (l ++ rowW 91 93 (lnW st (d + 1)) (lnW st d) (fun _ => []) it N) ∧ Below B w w' ∧ Lib.OthersKept 5 (some S) w w' := by
  have HX := Hid.mk (vbx_new w (.int .i64 5) (.string nm) (.string tx) (.slice io N icap) ko)
  obtain ⟨W0, hW0⟩ : ∃ W0, W0 = w.alloc (.cells #[.int .i64 5, .string nm, .string tx, .slice io N icap, ko] 49) := ⟨_, rfl⟩
  rw [← hW0] at HX
  have b3 := HX.out.c3
  have hwb := HX.out.below
  have HB : Hid (Calls Tryz.prog 132 #[.pointer (some ⟨Wr, 0, none⟩), .string ⟨#[91]⟩, .string ⟨#[93]⟩, .slice io N icap, .func (.func 133) #[] #[]] W0 fun e w' => e = .returned (.tuple #[]) ∧ St w' (l ++ rowW 91 93 (lnW st (d + 1)) (lnW st d) (fun _ => []) it N) ∧ Below B w w' ∧ Lib.OthersKept 5 (some S) w w') := by
    refine (w_row P Wr st w0 h ih _ #[] N _ _ (noName_ok B S Wr fk st N) 91 93 io icap ts hts hI hN hN2 hf hsh W0 d l (hb.trans (hwb.mono hb.size)) (hW.below hwb) (P.below hSt hwb) trivial (Nat.le_trans hB hwb.size) hB0 hBW (Nat.lt_of_lt_of_le hS hwb.size) hne hst hd hdt it hit hlen).mono ?_
    rintro e w' ⟨he, h1, h2, h3⟩
    exact ⟨he, h1, (hwb.mono hB).trans h2, (others_of_below hwb).trans h3⟩
  have HW0 := Hid.mk hW0
  clear hW0 hwb hI hf hsh hit hdt hlen hst
  go_enter Tryz.func110, Tryz.ntmps110
  go_wp2_with fail
  rw [← HW0.out]
  refine HB.out.mono ?_
  rintro e w2 ⟨rfl, hR⟩
  have HR := Hid.mk hR
  clear hR b3
  go_wp2_with fail
  go_end0
  exact ⟨rfl, HR.out⟩

structure NmP (w0 : World) (wb vb Wr : Nat) (a : Array Value) (u : World) : Prop where
  box : u.heap[wb]? = some (.cells #[.pointer (some ⟨Wr, 0, none⟩)] 116 (0, 0))
  val : u.heap[vb]? = some (.cells a 49 (0, 0))
  below : Below w0.heap.size w0 u
theorem name_ok (w0 : World) (B S Wr fk wb vb : Nat) (st : Option Nat) (kd : Int) (nm tx : ByteArray) (io : Value) (ko : Option Addr) (K kcap : Nat) (keys : List ByteArray) (hK : keys.length = K) (hkc : K ≤ kcap) (hK2 : K ≤ 140737488355328) (hk : KIn w0 ko keys) (hsz : ∀ k ∈ keys, k.size ≤ 68719476736) (hB0 : w0.heap.size ≤ B) (hBW : B ≤ Wr) (hwS : wb ≠ S) (hvS : vb ≠ S) (hwW : wb ≠ Wr) (hvW : vb ≠ Wr) :
    NameOk B S 134 #[.pointer (some ⟨vb, 0, none⟩), .pointer (some ⟨wb, 0, none⟩)] Wr fk st K (NmP w0 wb vb Wr #[.int .i64 kd, .string nm, .string tx, io, .slice ko K kcap]) (fun i => wQ (keys.getD i .empty).data.toList ++ clW st) where
  ent := enters_of Tryz.func134 (by kernel_rfl) rfl
  call := fun w d i hP hW hi => w_name w vb wb Wr fk S st d ko K kcap keys i hi hK hkc hK2 hW (hk.keep hP.below) (by rw [Lib.cell_of_heap hP.val]; rfl) (by rw [Lib.cell_of_heap hP.box]; rfl) hsz
  keepO := fun w w' hP ho hb => ⟨ho _ _ hP.box (fun e => hwS (Option.some.inj e)) (fun c fz e => by injection e with _ e2; exact absurd e2 (by decide)), ho _ _ hP.val (fun e => hvS (Option.some.inj e)) (fun c fz e => by injection e with _ e2; exact absurd e2 (by decide)), hP.below.trans (hb.mono hB0)⟩
  keepW := fun w x hP _ => ⟨(Below.heap_setCell _ _ _ _ (fun e => hwW (by simpa using e))).trans hP.box, (Below.heap_setCell _ _ _ _ (fun e => hvW (by simpa using e))).trans hP.val, hP.below.setCell (p := ⟨Wr, 3, none⟩) (Nat.le_trans hB0 hBW) _⟩
end Go.Proofs.YtfjmgccbpiolhaaGreatDoor
