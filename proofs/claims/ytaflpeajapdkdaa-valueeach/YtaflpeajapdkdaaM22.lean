import Derived.Test.YtaflpeajapdkdaaM8
import Derived.Test.YtaflpeajapdkdaaM18
import Derived.Test.YtaflpeajapdkdaaM20
import Derived.Test.YtaflpeajapdkdaaM21
import Derived.Deep.RegionLaw
import Derived.Deep.AppendLies
import Derived.Laws.OwnMore
namespace Go.Proofs.Ytaflpeajapdkdaa
open Go.RowKit
set_option linter.unusedVariables false
set_option linter.unusedSimpArgs false

/-- append where it fits, as one step of a region that draws -/
theorem step_append_fits {P : Program} {ops : Array Oper} {o : Oper} {a : Act} {w : World} {K : Act → World → Prop} {Q : Exit → Act → World → Prop} {E : Prop}
    (hg : o.guard = none) (s x : Operand) (t : TypeId) (hop : o.op = Op.call { callee := Callee.builtin Builtin.append, args := #[s, x], argTypes := #[t, t] })
    (base : Nat) (e : TypeId) (i : TypeInfo) (size : Nat) (h1 : P.underlying t = some (.slice e)) (h2 : P.info? e = some i) (h4 : i.size = size)
    (g k cap : Nat) (xs : List Value) (hs : a.eval s = .slice (some ⟨g, 0, none⟩) k cap) (hown : w.ownsRow base e size (.slice (some ⟨g, 0, none⟩) k cap) k xs) (ad : Addr) (m c : Nat) (news : List Value) (hx : a.eval x = .slice (some ad) m c) (hn : news.length = m * size)
    (hc : ∀ j u, news[j]? = some u → w.cell? (ad.add j) = some u) (h1c : ∀ u ∈ news, u.oneCell' = true) (b1 : k + m ≤ cap)
    (hK : ∀ w', w'.ownsRow base e size (.slice (some ⟨g, 0, none⟩) (k + m) cap) (k + m) (xs ++ news) → w.grownBy w' (some g) → K (a.put o.dst (.slice (some ⟨g, 0, none⟩) (k + m) cap)) w') :
    if Region.wanted o (yielded ops a.tmps) = true then Oper.wp P o a w K Q else E := by
  have hw : Region.wanted o (yielded ops a.tmps) = true := by simp [Region.wanted, hg]
  rw [if_pos hw]
  obtain ⟨w', hrun, r1, r2⟩ := run_append_fits (P := P) w base t o.type e i size h1 h2 h4 g k cap xs hown ad m c news hn hc h1c b1
  unfold Oper.wp
  simp [execOp, hop, resolve, invoke, builtin, hs, hx, hrun, Result.andThen]
  exact hK w' r1 r2

theorem Try.infoV : (Try.prog.info? 25).map (fun i => (i.zero, i.size, i.bytes)) = some (some (.agg #[.int .i64 0, .string ⟨#[]⟩, .string ⟨#[]⟩, .slice none 0 0, .slice none 0 0]), 5, 88) := by kernel_rfl
theorem Try.infoSt : (Try.prog.info? 9).map (fun i => (i.zero, i.size, i.bytes)) = some (some (.string ⟨#[]⟩), 1, 16) := by kernel_rfl

/-- slices.Grow of no slice -/
theorem w_Grow (N : Nat) (w : World) (hN : N ≤ 1048577) : Calls Try.prog 34 #[.slice none 0 0, .int .i64 (N : Int)] w fun e w' =>
    (N = 0 ∧ e = .returned (.slice none 0 0) ∧ w' = w) ∨ (0 < N ∧ ∃ cap, N ≤ cap ∧ e = .returned (.slice (some ⟨w.heap.size, 0, none⟩) 0 cap) ∧ Hid (w'.ownsRow w.heap.size 25 5 (.slice (some ⟨w.heap.size, 0, none⟩) 0 cap) 0 []) ∧ Hid (Below w.heap.size w w')) := by
  obtain ⟨i0, hi0, hz0, hz1, hz2⟩ := info_parts Try.infoV
  rcases Nat.eq_zero_or_pos N with rfl | h0
  · refine (Any8.slices_Grow_room Try.grow69 none 0 0 0 w (Nat.le_refl _) (by omega) (by omega) (by omega)).mono ?_
    rintro e w' ⟨rfl, rfl⟩
    exact .inl ⟨rfl, rfl, rfl⟩
  · have hc := Any8.slices_Grow_grow Try.grow69 i0 _ hi0 hz0 (by rw [hz1]; omega) none 0 0 N [] w (Nat.le_refl _) (by omega) (by rw [hz2]; omega) (by omega) (by simp) (fun _ => rfl) (fun a h => by cases h)
    refine hc.mono ?_
    rintro e w' ⟨rfl, rfl⟩
    have hG := grownCap_ge w (0 + N) 0 (Try.grow69_ren.t 25)
    have hGm := grownCap_le_maxLen w (0 + N) 0 (Try.grow69_ren.t 25) (by unfold maxLen; omega)
    refine .inr ⟨h0, grownCap w (0 + N) 0 (Try.grow69_ren.t 25), by omega, rfl, ?_, ((Below.refl _ w).drew).alloc (Nat.le_refl _) _⟩
    have hm := World.ownsRow_made (base := w.heap.size) (e := 25) (size := 5) w.drew (([] : List Value).toArray ++ Builtin.zeroCells (Value.agg #[.int .i64 0, .string ⟨#[]⟩, .string ⟨#[]⟩, .slice none 0 0, .slice none 0 0]).cells (0 + N - 0) ++ Builtin.zeroCells (Value.agg #[.int .i64 0, .string ⟨#[]⟩, .string ⟨#[]⟩, .slice none 0 0, .slice none 0 0]).cells (grownCap w (0 + N) 0 (Try.grow69_ren.t 25) - (0 + N))) (grownCap w (0 + N) 0 (Try.grow69_ren.t 25)) (Nat.le_refl _) hGm (by
      have z : ∀ n, (Builtin.zeroCells (Value.agg #[.int .i64 0, .string ⟨#[]⟩, .string ⟨#[]⟩, .slice none 0 0, .slice none 0 0]).cells n).size = n * 5 := fun n => by
        simp [Builtin.zeroCells, Value.cells]
      rw [Array.size_append, Array.size_append, z, z, show ([] : List Value).toArray.size = 0 from rfl]; omega)
    exact hm
end Go.Proofs.Ytaflpeajapdkdaa
