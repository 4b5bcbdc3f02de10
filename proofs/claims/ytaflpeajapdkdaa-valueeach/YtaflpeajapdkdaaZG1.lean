import Derived.Test.YtaflpeajapdkdaaM7
import Derived.WideKeyArgs
import Derived.WideKeyElems4
import Derived.Deep.Slices
import Derived.OpenShut
import Derived.WalkKit
namespace Go.Proofs.Ytaflpeajapdkdaa
open Go.ChangeShapes Go.WideShapes Go.RowKit
set_option linter.unusedVariables false

theorem g_laidOut : laidOutB Try.prog = true := by kernel_rfl
theorem g_cells9 : Try.prog.cellsOf 9 = 1 := by kernel_rfl
theorem g_cells3 : Try.prog.cellsOf 3 = 1 := by kernel_rfl
theorem g_cellsV : Try.prog.cellsOf 25 = 5 := by kernel_rfl
theorem g_cellsVs : Try.prog.cellsOf 22 = 1 := by kernel_rfl
theorem g_cellsSs : Try.prog.cellsOf 23 = 1 := by kernel_rfl

section
variable {H : Type} {enc : TypeId × Value → H} {W : World}

/-- all the strings and rows that a reading meets are within reach -/
def WtOk (l : List Nat) : Prop := ∀ x ∈ l, x ≤ 140737488355328

theorem keys_open {fuel : Nat} {cs : List Value} {x : DataW H × List MemPlace} (h : DataW.trod enc Try.prog W 0 (fun _ => true) true fuel 23 cs = some x) :
    ∃ (ko : Option Addr) (kcap : Nat) (keys : List ByteArray) (D : Nat → DataW H) (sp : List (DataW H)), cs = [.slice ko keys.length kcap] ∧ keys.length ≤ kcap ∧ KIn W ko keys ∧ (x.1 = .nil ∧ keys = [] ∨ x.1 = .slice ((List.range keys.length).map D) sp ∧ ∀ i, i < keys.length → D i = .lit (.string (keys.getD i .empty).data.toList)) := by
  rcases Go.Deep.open_slice1 Try.underlying23 g_cells9 h with ⟨rfl, rfl⟩ | ⟨a, len, cap, m, n, V, D, Pl, rfl, hb, hl, hm, hmm, rfl, hx⟩
  · exact ⟨none, 0, [], fun _ => .nil, [], rfl, Nat.le_refl _, ⟨fun h => by cases h⟩, .inl ⟨rfl, rfl⟩⟩
  · have hmc : m = cap := by simpa using hmm
    obtain ⟨s, hs⟩ := Go.Deep.choose_lt (α := ByteArray) (n := len) (p := fun i s => W.cell? (a.add i) = some (.string s) ∧ D i = .lit (.string s.data.toList)) (fun i hi => by
      obtain ⟨h1, h2⟩ := hx i (by omega)
      obtain ⟨s, hs, hd, _⟩ := DataW.trod_string Try.underlying9 h2
      have : V i = .string s := by simpa using hs
      rw [this] at h1
      exact ⟨s, h1, congrArg Prod.fst hd⟩)
    have hg : ∀ i, i < len → ((List.range len).map s).getD i ByteArray.empty = s i := fun i hi => by simp [List.getD, hi]
    refine ⟨some a, cap, (List.range len).map s, D, (List.range (m - len)).map fun j => D (len + j), by simp, by simpa using hl, ⟨fun hp => ?_⟩, .inr ⟨by simp, fun i hi => ?_⟩⟩
    · have hp' : 0 < len := by simpa using hp
      have h0 := (hs 0 hp').1
      obtain ⟨b, off, spot⟩ := a
      have hspot : spot = none := by simpa [Addr.add] using World.cell?_spot h0
      subst hspot
      refine ⟨b, off, rfl, ?_, fun i hi => ?_⟩
      · have := World.block_lt_of_cell? W _ h0
        simpa [Addr.add] using this
      · have hi' : i < len := by simpa using hi
        rw [hg i hi', ← Go.WideShapes.add_plain]; exact (hs i hi').1
    · have hi' : i < len := by simpa using hi
      rw [hg i hi']; exact (hs i hi').2
end
end Go.Proofs.Ytaflpeajapdkdaa
