import Derived.Test.YtdjleoglphgdgaaGreatDoorM31
import Derived.LoopN
set_option linter.unusedVariables false
set_option linter.unusedSimpArgs false
namespace Go.Proofs.YtdjleoglphgdgaaGreatDoor
open Go.RowKit Go.Shelf
attribute [local go_sem] Oper.semAt_some
def opTab:List (List UInt8 × Nat × Nat × Nat):=[([44],13,1,0),([61],36,2,2),([124,61],37,2,2),([43,61],38,2,2),([45,61],39,2,2),([42,61],40,2,2),([47,61],41,2,2),([37,61],42,2,2),([47,47,61],43,2,2),([47,47],27,3,1),([111,114],26,4,0),([97,110,100],25,5,0),([61,61],19,6,2),([33,61],20,6,2),([60],21,6,2),([60,61],22,6,2),([62],23,6,2),([62,61],24,6,2),([43],14,7,0),([45],15,7,0),([42],16,8,0),([47],17,8,0),([37],18,8,0)]
def opsA:Array Value:=(opTab.flatMap fun r=>[.string ⟨r.1.toArray⟩,.int .i64 (r.2.1:Int),.int .i64 (r.2.2.1:Int),.int .i64 (r.2.2.2:Int)]).toArray
def OpsIn (w:World):Prop:=∃ t,w.heap[(2:Nat)]? =some (.cells opsA t (0,0))
theorem OpsIn.lt {w:World} (h:OpsIn w):2<w.heap.size:=by
 obtain ⟨t,h⟩:=h;exact (Array.getElem?_eq_some_iff.1 h).1
theorem OpsIn.keep {w w':World} (h:OpsIn w) (hb:Below w.heap.size w w'):OpsIn w':=by
 have hl:=h.lt;obtain ⟨t,h⟩:=h;exact ⟨t,(hb.block _ hl).trans h⟩
theorem OpsIn.bt {B:Nat} {w w':World} (h:OpsIn w) (hb:Bt B w w') (hB:B≠2):OpsIn w':=by
 have hl:=h.lt;obtain ⟨t,h⟩:=h;exact ⟨t,(hb.block _ hl (fun e=>hB e.symm)).trans h⟩
structure OpS (w:World) (X:Nat) (kd pa fi:Nat) (tx:List UInt8) (W:World):Prop where
 below:Below w.heap.size w W
 lt:w.heap.size<X
 xl:X<W.heap.size
 res:W.heap[w.heap.size]? =some (.cells #[.string ⟨#[]⟩,.int .i64 0,.int .i64 0,.int .i64 0] 177 (0,0))
 box:W.heap[X]? =some (.cells #[.int .i64 (kd:Int),.int .i64 (pa:Int),.int .i64 (fi:Int),.string ⟨tx.toArray⟩] 82 (0,0))
theorem OpS.alloc {w:World} {X kd pa fi:Nat} {tx:List UInt8} {W:World} (h:OpS w X kd pa fi tx W) (o:Obj):OpS w X kd pa fi tx (W.alloc o):=by
 have h1:=h.below.size;have h2:=h.xl;have h3:=h.lt;exact ⟨h.below.alloc h1 o,h.lt,by simp;omega,(Below.heap_alloc _ _ _ (by omega)).trans h.res,(Below.heap_alloc _ _ _ h2).trans h.box⟩
theorem noGoto_ret {Q:Exit→Act→World→Prop} {a:Act} {w:World} (h:Q .ret a w):Exit.noGoto Q .ret a w:=h
structure St2 (w:World) (B:Nat) (so:Option Addr) (sc:Nat) (ws:List Tok) (nb t o:Nat) (cs:Array Value) (W:World):Prop where
 bt:Bt B w W
 pat:PAt W B so sc ws nb t o
 lt:w.heap.size+1<W.heap.size
 box:W.heap[w.heap.size]? =some (.cells cs 28 (0,0))
 res:W.heap[w.heap.size+1]? =some (.cells #[.int .i64 0,.int .i64 0,.string ⟨#[]⟩,.int .i64 0,.string ⟨#[]⟩,.string ⟨#[]⟩,.slice none 0 0,.slice none 0 0,.slice none 0 0,.slice none 0 0] 28 (0,0))
theorem St2.new {w:World} {B:Nat} {so:Option Addr} {sc:Nat} {ws:List Tok} {nb t o:Nat} (h:PAt w B so sc ws nb t o) (cs:Array Value):St2 w B so sc ws nb t o cs ((w.alloc (.cells cs 28)).alloc (.cells #[.int .i64 0,.int .i64 0,.string ⟨#[]⟩,.int .i64 0,.string ⟨#[]⟩,.string ⟨#[]⟩,.slice none 0 0,.slice none 0 0,.slice none 0 0,.slice none 0 0] 28)):=by
 refine ⟨((Bt.refl B w).alloc _).alloc _,(h.alloc _).alloc _,by simp,(Below.heap_alloc _ _ _ (by simp)).trans (heap_alloc_new w _),?_⟩;have:=heap_alloc_new (w.alloc (.cells cs 28)) (.cells #[.int .i64 0,.int .i64 0,.string ⟨#[]⟩,.int .i64 0,.string ⟨#[]⟩,.string ⟨#[]⟩,.slice none 0 0,.slice none 0 0,.slice none 0 0,.slice none 0 0] 28);rwa [World.size_alloc] at this
theorem St2.keep {w W W':World} {B:Nat} {so:Option Addr} {sc:Nat} {ws:List Tok} {nb t o:Nat} {cs:Array Value} (h:St2 w B so sc ws nb t o cs W) (hb:Below W.heap.size W W'):St2 w B so sc ws nb t o cs W':=⟨h.bt.trans (Bt.of hb),h.pat.keep hb,Nat.lt_of_lt_of_le h.lt hb.size,(hb.block _ (Nat.lt_trans (Nat.lt_succ_self _) h.lt)).trans h.box,(hb.block _ h.lt).trans h.res⟩
theorem St2.step {w W W':World} {B:Nat} {so:Option Addr} {sc:Nat} {ws:List Tok} {nb t o:Nat} {cs:Array Value} {t' o':Nat} (h:St2 w B so sc ws nb t o cs W) (hB:B<w.heap.size) (hb:Bt B W W') (hp:PAt W' B so sc ws nb t' o'):St2 w B so sc ws nb t' o' cs W':=⟨h.bt.trans hb,hp,Nat.lt_of_lt_of_le h.lt hb.size,(hb.block _ (Nat.lt_trans (Nat.lt_succ_self _) h.lt) (by omega)).trans h.box,(hb.block _ h.lt (by omega)).trans h.res⟩
theorem St2.put {w W W':World} {B:Nat} {so:Option Addr} {sc:Nat} {ws:List Tok} {nb t o:Nat} {cs:Array Value} {t0 o0:Nat} {x:Obj} (h:St2 w B so sc ws nb t o cs W) (h0:PAt w B so sc ws nb t0 o0) (hp:Put (w.heap.size+1) x W W'):Bt B w W'∧PAt W' B so sc ws nb t o:=by
 have hB:=h0.lt;have hb:Bt B w W':=hp.bt h.bt (by omega);exact ⟨hb,h0.stepT t o hb h.pat.le h.pat.open_ ((hp.rest B (by omega)).trans h.pat.box)⟩
theorem PAt.drew {W:World} {B:Nat} {so:Option Addr} {sc:Nat} {ws:List Tok} {nb t o:Nat} (h:PAt W B so sc ws nb t o):PAt W.drew B so sc ws nb t o:=h.keep (Below.refl _ _).drew
def ND.c (d:ND):Array Value:= #[.int .i64 d.op,.int .i64 d.at_,.string d.tx,.int .i64 d.vk,.string d.nu,.string d.vt,.slice d.io d.iN d.ic,.slice d.yo d.yN d.yc,.slice d.no d.nN d.nc,.slice d.ko d.kN d.kc]
structure St3 (w:World) (B:Nat) (so:Option Addr) (sc:Nat) (ws:List Tok) (nb t o:Nat) (L:Nat) (cs:Array Value) (W:World):Prop where
 st:St w B so sc ws nb t o W
 ll:w.heap.size<L
 lt:L<W.heap.size
 box:W.heap[L]? =some (.cells cs 28 (0,0))
theorem St3.new {w W:World} {B:Nat} {so:Option Addr} {sc:Nat} {ws:List Tok} {nb t o:Nat} (h:St w B so sc ws nb t o W) (cs:Array Value):St3 w B so sc ws nb t o W.heap.size cs (W.alloc (.cells cs 28)):=⟨h.alloc _,h.lt,by simp,heap_alloc_new W _⟩
theorem St3.keep {w W W':World} {B:Nat} {so:Option Addr} {sc:Nat} {ws:List Tok} {nb t o:Nat} {L:Nat} {cs:Array Value} (h:St3 w B so sc ws nb t o L cs W) (hb:Below W.heap.size W W'):St3 w B so sc ws nb t o L cs W':=⟨h.st.keep hb,h.ll,Nat.lt_of_lt_of_le h.lt hb.size,(hb.block _ h.lt).trans h.box⟩
theorem St3.step {w W W':World} {B:Nat} {so:Option Addr} {sc:Nat} {ws:List Tok} {nb t o:Nat} {L:Nat} {cs:Array Value} {t' o':Nat} (h:St3 w B so sc ws nb t o L cs W) (hB:B<w.heap.size) (hb:Bt B W W') (hp:PAt W' B so sc ws nb t' o'):St3 w B so sc ws nb t' o' L cs W':=⟨h.st.step hB hb hp,h.ll,Nat.lt_of_lt_of_le h.lt hb.size,(hb.block _ h.lt (by have:=h.ll;omega)).trans h.box⟩
end Go.Proofs.YtdjleoglphgdgaaGreatDoor
