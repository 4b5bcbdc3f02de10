import Derived.RangeFuncNested
import Derived.RangeFuncBound
import Derived.RangeFuncCalls
import Derived.RangeFuncLeaves
import Derived.RangeFuncBox
import Derived.Shelf.Abstract
import Derived.Shelf.RegionOpen
import Derived.WalkKit
import Derived.OwnWalkIn
import Derived.TacticsInMore
import Derived.LoopNIn
import Derived.LoopIn
import Derived.Test.YtnokkmiaeacogaaGreatM6
set_option linter.unusedVariables false
set_option linter.unusedSimpArgs false
namespace Go.Proofs.YtnokkmiaeacogaaGreat
open Go.RowKit Go.Shelf
attribute [local go_sem] Oper.semAt_some
structure KpV (n₀ B:Nat) (W W':World):Prop where
 below:Below n₀ W W'
 box:∀ j v,W.cell? ⟨B,j,none⟩=some v→W'.cell? ⟨B,j,none⟩=some v
theorem KpV.trans {n₀ B:Nat} {X Y Z:World} (h:KpV n₀ B X Y) (k:KpV n₀ B Y Z):KpV n₀ B X Z:=⟨h.below.trans k.below,fun j v hv=>k.box j v (h.box j v hv)⟩
theorem KpV.put {n₀ B:Nat} {w:World} (hm:n₀≤w.heap.size) (W:World) (l:Nat) (o o':Obj) (hl:w.heap.size≤l) (h:W.heap[l]? =some o) (hc:o.isCells=false) (hw:o.isWalk=false):KpV n₀ B W (W.putObj l o'):=by
 refine ⟨belowK_b (w:=w) hm W l o o' hl h hc hw,fun j v hv=> ?_⟩
 have hne:B≠l:=by
  rintro rfl;unfold World.cell? at hv;simp only [h] at hv
  cases o <;> simp_all [Obj.isCells]
 unfold World.cell? at hv ⊢;rw [show (W.putObj l o').heap[B]? =W.heap[B]? from by simp [World.putObj,Array.getElem?_setIfInBounds,Ne.symm hne]];exact hv
structure InSt (W:World) (n₀ B N K:Nat) (io:Option Addr) (icap:Nat) (ko:Option Addr) (kcap:Nat) (c:Nat→Fin 5→Value) (ky:Nat→ByteArray):Prop where
 c3:W.cell? ⟨B,3,none⟩=some (.slice io N icap)
 c4:W.cell? ⟨B,4,none⟩=some (.slice ko K kcap)
 items:∀ i,i<N→∃ b off,io=some ⟨b,off,none⟩∧b<n₀∧W.cell? ⟨b,off+i*5,none⟩=some (c i 0)∧W.cell? ⟨b,off+i*5+1,none⟩=some (c i 1)∧W.cell? ⟨b,off+i*5+2,none⟩=some (c i 2)∧W.cell? ⟨b,off+i*5+3,none⟩=some (c i 3)∧W.cell? ⟨b,off+i*5+4,none⟩=some (c i 4)
 keys:∀ i,i<K→∃ b off,ko=some ⟨b,off,none⟩∧b<n₀∧W.cell? ⟨b,off+i,none⟩=some (.string (ky i))
theorem InSt.keep {W W':World} {n₀ B N K:Nat} {io:Option Addr} {icap:Nat} {ko:Option Addr} {kcap:Nat} {c:Nat→Fin 5→Value} {ky:Nat→ByteArray} (h:InSt W n₀ B N K io icap ko kcap c ky) (hk:KpV n₀ B W W'):InSt W' n₀ B N K io icap ko kcap c ky:=by
 refine ⟨hk.box 3 _ h.c3,hk.box 4 _ h.c4,fun i hi=> ?_,fun i hi=> ?_⟩
 · obtain ⟨b,off,e,hb,a0,a1,a2,a3,a4⟩:=h.items i hi;exact ⟨b,off,e,hb,(hk.below.cell (p:=⟨_,_,_⟩) hb).trans a0,(hk.below.cell (p:=⟨_,_,_⟩) hb).trans a1,(hk.below.cell (p:=⟨_,_,_⟩) hb).trans a2,(hk.below.cell (p:=⟨_,_,_⟩) hb).trans a3,(hk.below.cell (p:=⟨_,_,_⟩) hb).trans a4⟩
 · obtain ⟨b,off,e,hb,a0⟩:=h.keys i hi;exact ⟨b,off,e,hb,(hk.below.cell (p:=⟨_,_,_⟩) hb).trans a0⟩
end Go.Proofs.YtnokkmiaeacogaaGreat
