import Derived.Test.YtcpnodkcnblkdaaGreatDoorM12
import Derived.WideKeyArgs
import Derived.WideKeyElems4
import Derived.Deep.Slices
import Derived.OpenShut
import Derived.WalkKit
namespace Go.Proofs.YtcpnodkcnblkdaaGreatDoor
open Go.ChangeShapes Go.WideShapes Go.RowKit
set_option linter.unusedVariables false

theorem g_cells9 : Tryz.prog.cellsOf 9 = 1 := by kernel_rfl
theorem g_cells3 : Tryz.prog.cellsOf 3 = 1 := by kernel_rfl
theorem g_cellsV : Tryz.prog.cellsOf 25 = 5 := by kernel_rfl
theorem g_cellsVs : Tryz.prog.cellsOf 22 = 1 := by kernel_rfl
theorem g_cellsSs : Tryz.prog.cellsOf 23 = 1 := by kernel_rfl

section
variable {H : Type} {enc : TypeId × Value → H} {W : World}

def WtOk (l : List Nat) : Prop := ∀ x ∈ l, x ≤ 140737488355328

theorem keys_open {fuel : Nat} {cs : List Value} {x : DataW H × List MemPlace} (h : DataW.trod enc Tryz.prog W 0 (fun _ => true) true fuel 23 cs = some x) :
    ∃ (ko : Option Addr) (kcap : Nat) (keys : List ByteArray) (D : Nat → DataW H) (sp : List (DataW H)), cs = [.slice ko keys.length kcap] ∧ keys.length ≤ kcap ∧ KIn W ko keys ∧ (x.1 = .nil ∧ keys = [] ∨ x.1 = .slice ((List.range keys.length).map D) sp ∧ ∀ i, i < keys.length → D i = .lit (.string (keys.getD i .empty).data.toList)) := by
  rcases Go.Deep.open_slice1 Tryz.underlying23 g_cells9 h with ⟨rfl, rfl⟩ | ⟨a, len, cap, m, n, V, D, Pl, rfl, hb, hl, hm, hmm, rfl, hx⟩
  · exact ⟨none, 0, [], fun _ => .nil, [], rfl, Nat.le_refl _, ⟨fun h => by cases h⟩, .inl ⟨rfl, rfl⟩⟩
  · have hmc : m = cap := by simpa using hmm
    obtain ⟨s, hs⟩ := Go.Deep.choose_lt (α := ByteArray) (n := len) (p := fun i s => W.cell? (a.add i) = some (.string s) ∧ D i = .lit (.string s.data.toList)) (fun i hi => by
      obtain ⟨h1, h2⟩ := hx i (by omega)
      obtain ⟨s, hs, hd, _⟩ := DataW.trod_string Tryz.underlying9 h2
      have : V i = .string s := by simpa using hs
      rw [this] at h1
      exact ⟨s, h1, congrArg Prod.fst hd⟩)
    have hg : ∀ i, i < len → ((List.range len).map s).getD i ByteArray.empty = s i := fun i hi => by simp [List.getD, hi]
    refine ⟨some a, cap, (List.range len).map s, D, (List.range (m - len)).map fun j => D (len + j), by simp, by simpa using hl, ⟨fun hp => ?_⟩, .inr ⟨by simp, fun i hi => ?_⟩⟩
    · have hp' : 0 < len := by simpa using hp
      have h0 := (hs 0 hp').1
      obtain ⟨b, off, spot⟩ := a
      have hspot : spot = none := by simpa [Addr.add] using World.cell?_spot h0
      subst hspot
      refine ⟨b, off, rfl, ?_, fun i hi => ?_⟩
      · have := World.block_lt_of_cell? W _ h0
        simpa [Addr.add] using this
      · have hi' : i < len := by simpa using hi
        rw [hg i hi', ← Go.WideShapes.add_plain]; exact (hs i hi').1
    · have hi' : i < len := by simpa using hi
      rw [hg i hi']; exact (hs i hi').2
end
end Go.Proofs.YtcpnodkcnblkdaaGreatDoor
namespace Go.Proofs.YtcpnodkcnblkdaaGreatDoor
open Go.ChangeShapes Go.WideShapes Go.RowKit
set_option linter.unusedVariables false

instance : Inhabited VT := ⟨.mk 0 .empty .empty [] []⟩

theorem InH.up {W : World} : ∀ {h : Nat} {T : VT} {v : Value}, InH W h T v → InH W (h + 1) T v
  | 0, _, _, h => h.elim
  | h + 1, T, v, hI => by
    obtain ⟨io, icap, ko, kcap, e, a1, a2, a3, a4, a5, a6, a7, hk, hi⟩ := hI
    refine ⟨io, icap, ko, kcap, e, a1, a2, a3, a4, a5, a6, a7, hk, fun h0 => ?_⟩
    obtain ⟨b, off, e2, hl, hc⟩ := hi h0
    refine ⟨b, off, e2, hl, fun i hil => ?_⟩
    obtain ⟨v0, v1, v2, v3, v4, c, ht⟩ := hc i hil
    exact ⟨v0, v1, v2, v3, v4, c, InH.up ht⟩
theorem InH.le {W : World} {h h' : Nat} {T : VT} {v : Value} (hI : InH W h T v) (hle : h ≤ h') : InH W h' T v := by
  obtain ⟨k, rfl⟩ := Nat.exists_eq_add_of_le hle
  clear hle
  induction k with
  | zero => exact hI
  | succ k ih => exact ih.up

section
variable {H : Type} {enc : TypeId × Value → H} {W : World}

theorem mem_wAll {P : Program} {e : TypeId} {d : DataW H} {y : Nat} : ∀ {l : List (DataW H)}, d ∈ l → y ∈ d.weights P e → y ∈ DataW.weightsAll P e l
  | a :: r, h, hy => by
    simp only [DataW.weightsAll, List.mem_append]
    rcases List.mem_cons.1 h with rfl | h
    · exact .inl hy
    · exact .inr (mem_wAll h hy)

theorem elems_open {t e : TypeId} {fuel : Nat} {cs : List Value} {x : DataW H × List MemPlace} (ht : Tryz.prog.underlying t = some (.slice e)) (h : DataW.trod enc Tryz.prog W 0 (fun _ => true) true fuel t cs = some x) :
    (cs = [.slice none 0 0] ∧ x.1 = .nil) ∨ ∃ (a : Addr) (len cap n : Nat) (elems sp : List (DataW H)), fuel = n + 1 ∧ cs = [.slice (some a) len cap] ∧ len ≤ cap ∧ elems.length = len ∧ x.1 = .slice elems sp ∧
      ∀ i, (hi : i < elems.length) → ∃ cs' ps, W.cells? 0 (a.add (i * Tryz.prog.cellsOf e)) (Tryz.prog.cellsOf e) = some cs' ∧ DataW.trod enc Tryz.prog W 0 (fun _ => true) true n e cs' = some (elems[i], ps) := by
  rcases DataW.trod_slice ht h with ⟨h0, h1⟩ | ⟨a, len, cap, elems, rest, n, hf, hc, hx, hb, hl, hm, hlen, hel, hsp, hns⟩
  · exact .inl ⟨h0, by rw [h1]⟩
  · refine .inr ⟨a, len, cap, n, elems.map (·.1), rest.map (·.1), hf, hc, hl, by simpa using hlen, by rw [hx], fun i hi => ?_⟩
    have hi' : i < elems.length := by simpa using hi
    have key := hel i (by omega)
    rw [List.getElem?_eq_getElem hi'] at key
    obtain ⟨cs', h1, h2⟩ := Option.bind_eq_some_iff.1 key
    exact ⟨cs', elems[i].2, h1, by rw [h2]; simp⟩

end
end Go.Proofs.YtcpnodkcnblkdaaGreatDoor
