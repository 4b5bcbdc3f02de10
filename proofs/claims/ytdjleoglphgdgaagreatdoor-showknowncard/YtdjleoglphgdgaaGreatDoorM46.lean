import Derived.Test.YtdjleoglphgdgaaGreatDoorM38
import Derived.Recover
set_option linter.unusedVariables false
set_option linter.unusedSimpArgs false
namespace Go.Proofs.YtdjleoglphgdgaaGreatDoor
open Go.RowKit Go.Shelf
attribute [local go_sem] Oper.semAt_some
def Kd (d:ND) (w:World):Prop:=d.op=12∧d.at_=2∧d.kN=2∧2≤d.kc∧∃ g',d.ko=some ⟨g',0,none⟩∧w.cell? ⟨g',10,none⟩=some (.int .i64 1)
theorem Kd.keep {d:ND} {w w':World} (h:Kd d w) (hk:∀ k,w'.heap[k]? =w.heap[k]? ∨w.cell? ⟨k,10,none⟩=none):Kd d w':=by
 obtain ⟨h1,h2,h3,h4,g',h5,h6⟩:=h;refine ⟨h1,h2,h3,h4,g',h5,?_⟩;rcases hk g' with h|h
 · exact (World.cell?_of_block (a:=⟨g',10,none⟩) h).trans h6
 · rw [h] at h6;cases h6
theorem Kd.put {d:ND} {w w':World} {B:Nat} {o:Obj} {cs:Array Value} {t:TypeId} (h:Kd d w) (hp:Put B o w w') (hb:w.heap[B]? =some (.cells cs t (0,0))) (hc:cs.size≤10):Kd d w':=
 h.keep fun k=>by
  by_cases e:k=B
  · refine .inr ?_;rw [e,cell_of_row _ _ _ _ _ _ hb];exact Array.getElem?_eq_none hc
  · exact .inl (hp.rest k e)
theorem Kd.low {d:ND} {w w':World} (h:Kd d w) (hb:Below w.heap.size w w'):Kd d w':=
 h.keep fun k=>by
  by_cases e:k<w.heap.size
  · exact .inl (hb.block k e)
  · refine .inr ?_;simp only [World.cell?];rw [Array.getElem?_eq_none (by show w.heap.size≤k;omega)]
end Go.Proofs.YtdjleoglphgdgaaGreatDoor
