import Derived.Test.YtapjfocjeligiaaGreatDoorM7
namespace Go.Proofs.YtapjfocjeligiaaGreatDoor
open Go.RowKit Go.Shelf Go.Sort
set_option linter.unusedVariables false
set_option linter.unusedSimpArgs false
attribute [local go_sem] Oper.semAt_some

/-- what is wrong, and where: nothing, or the way and the reason -/
abbrev Er := Option (List VT × Int)
/-- a step: a leaf of a bounded size -/
def StO (s : VT) : Prop := s.items = [] ∧ s.keys = [] ∧ s.num.size ≤ 140737488355328 ∧ s.text.size ≤ 140737488355328
/-- what is wrong, as it lies: inner ones lie in earlier blocks -/
def ErC (W : World) : List VT → Int → TypeId → Nat → Prop
  | [], r, t, b => t = 77 ∧ b < W.heap.size ∧ W.cell? ⟨b, 0, none⟩ = some (.int .i64 r)
  | s :: p, r, t, b => ∃ t1 b1, t = 80 ∧ b < W.heap.size ∧ (StO s ∧ W.cell? ⟨b, 0, none⟩ = some (.int .i64 s.kind) ∧ W.cell? ⟨b, 1, none⟩ = some (.string s.num) ∧ W.cell? ⟨b, 2, none⟩ = some (.string s.text) ∧ W.cell? ⟨b, 3, none⟩ = some (.slice none 0 0) ∧ W.cell? ⟨b, 4, none⟩ = some (.slice none 0 0)) ∧ W.cell? ⟨b, 5, none⟩ = some (.iface t1 (.pointer (some ⟨b1, 0, none⟩))) ∧ b1 < b ∧ ErC W p r t1 b1
theorem ErC.keep {W W' : World} (hb : Below W.heap.size W W') : ∀ {p : List VT} {r : Int} {t : TypeId} {b : Nat}, ErC W p r t b → ErC W' p r t b
  | [], r, t, b, ⟨e, hl, h⟩ => ⟨e, Nat.lt_of_lt_of_le hl hb.size, (hb.cell (p := ⟨_, _, _⟩) hl).trans h⟩
  | s :: p, r, t, b, ⟨t1, b1, e, hl, ⟨hz, h0, h1, h2, h3, h4⟩, h5, h6, h7⟩ => ⟨t1, b1, e, Nat.lt_of_lt_of_le hl hb.size, ⟨hz, (hb.cell (p := ⟨_, _, _⟩) hl).trans h0, (hb.cell (p := ⟨_, _, _⟩) hl).trans h1, (hb.cell (p := ⟨_, _, _⟩) hl).trans h2, (hb.cell (p := ⟨_, _, _⟩) hl).trans h3, (hb.cell (p := ⟨_, _, _⟩) hl).trans h4⟩, (hb.cell (p := ⟨_, _, _⟩) hl).trans h5, h6, ErC.keep hb h7⟩
theorem ErC.lt {W : World} : ∀ {p : List VT} {r : Int} {t : TypeId} {b : Nat}, ErC W p r t b → b < W.heap.size
  | [], _, _, _, ⟨_, h, _⟩ => h
  | _ :: _, _, _, _, ⟨_, _, _, h, _⟩ => h
def ErV (W : World) : Er → Value → Prop
  | none, v => v = .nilIface
  | some q, v => ∃ t b, v = .iface t (.pointer (some ⟨b, 0, none⟩)) ∧ ErC W q.1 q.2 t b
theorem ErV.keep {W W' : World} (hb : Below W.heap.size W W') {q : Er} {v : Value} (h : ErV W q v) : ErV W' q v := by
  cases q with
  | none => exact h
  | some q => obtain ⟨t, b, e, h⟩ := h; exact ⟨t, b, e, h.keep hb⟩

end Go.Proofs.YtapjfocjeligiaaGreatDoor
