import Derived.Test.YtdjleoglphgdgaaGreatDoorM7
import Derived.Laws.RangeAny
import Derived.Lib.AppendStr
import Derived.Lib.ItoaNum
import Derived.Lib.OthersKept
import Derived.Lib.RuneBytes
set_option linter.unusedVariables false
set_option linter.unusedSimpArgs false
namespace Go.Proofs.YtdjleoglphgdgaaGreatDoor
open Go.RowKit
set_option maxHeartbeats 400000 in
theorem w_stray_no (s:ByteArray) (p r:Int) (w:World) (hr:(r==65533)=false):
 Calls Tryz.prog 63 #[.string s,.int .i64 p,.int .i32 r] w fun e w'=>e= .returned (.bool false)∧w'=w:=by
 go_in;go_wp2_with fail;go_ret;exact ⟨rfl,rfl⟩
theorem iter_below (w:World) (s:ByteArray) (p:Nat):Below w.heap.size w (w.iter s p):=q0a w _
end Go.Proofs.YtdjleoglphgdgaaGreatDoor
set_option linter.unusedVariables false
set_option linter.unusedSimpArgs false
namespace Go.Proofs.YtdjleoglphgdgaaGreatDoor
open Go.RowKit
theorem Tryz.infoB:(Tryz.prog.info? 5).map (fun i=>(i.zero,i.size,i.bytes))=some (some (.int .u8 0),1,1):=by kernel_rfl
theorem own_base {w:World} {base:Nat} {e:TypeId} {size:Nat} {v:Value} {n:Nat} {xs:List Value} (h:w.ownsRow base e size v n xs):∀ k,v.ownBlock=some k→base≤k:=by
 intro k hk;obtain ⟨_,⟨rfl,_⟩|⟨g,cap,cur,rfl,hg,_⟩⟩:=h
 · cases hk
 · simp [Value.ownBlock] at hk;omega
theorem q0m {w:World} {base:Nat} {e:TypeId} {size:Nat} {v:Value} {n:Nat} {xs:List Value} (h:w.ownsRow base e size v n xs):∃ ao cap,v= .slice ao n cap:=by
 rcases h.2 with ⟨e,e2⟩|⟨g,cap,cur,e,_⟩
 · exact ⟨none,0,by rw [e,e2]⟩
 · exact ⟨_,_,e⟩
theorem own_some {w:World} {base n:Nat} {v:Value} {xs:List Value} (h:w.ownsRow base 5 1 v n xs) (hn:0<n):∃ g cap,v= .slice (some ⟨g,0,none⟩) n cap:=by
 rcases h.2 with ⟨e,e2⟩|⟨g,cap,cur,e,_⟩
 · omega
 · exact ⟨g,cap,e⟩
theorem q0T {B:Nat} {w wr w1:World} {e:TypeId} {size:Nat} {v:Value} {n:Nat} {xs:List Value} {o:Obj} (hown:wr.ownsRow B e size v n xs) (hBw:B≤wr.heap.size) (hb:Below B w wr) (hg:(wr.alloc o).grownBy w1 v.ownBlock):Below B w w1:=
 (hb.alloc hBw o).grown hg (by simp;omega) (own_base hown)
theorem bytes_conv {wr:World} {base n cap g:Nat} {l:List UInt8} (h1:l.length=n) (h3:wr.ownsRow base 5 1 (.slice (some ⟨g,0,none⟩) n cap) n (Lib.byteCells l)):(convert 48 9 (.slice (some ⟨g,0,none⟩) n cap)).run Tryz.prog wr= .ok (.string ⟨l.toArray⟩) wr:=by
 subst h1;refine run_convert_bytes_back (P:=Tryz.prog) wr 48 9 5 ⟨g,0,none⟩ cap l Tryz.underlying48 Tryz.underlying5 Tryz.underlying9 (fun j hj=> ?_);have:=h3.cellAt j (by omega)
 have e:(⟨g,0,none⟩:Addr).add j=⟨g,j,none⟩:=by
  unfold Addr.add;by_cases h0:j=0 <;> simp [h0]
 rw [e,this];simp [Lib.byteCells,hj]
def brow (m:Nat):Obj:= .cells (madeCells #[.int .u8 0] m) 5 (0,0)
theorem run_make_bytes (m:Nat) (z:Int) (hz:z=(m:Int)) (hn:m≤140737488355328) (u:World):(Instr.makeSlice 48 (.int .i64 0) (.int .i64 z)).run Tryz.prog u= .ok (.slice (some ⟨u.heap.size,0,none⟩) 0 m) (u.alloc (brow m)):=by
 subst hz;obtain ⟨i0,hi,hz0,hz1,hz2⟩:=info_parts Tryz.infoB;have h:=run_make (P:=Tryz.prog) u 48 5 i0 (.int .u8 0) Tryz.underlying48 hi hz0 .i64 .i64 0 (m:Int) (by omega) (by omega) (by rw [hz2];omega) (by omega);have e:((m:Int)).toNat=m:=by omega
 rw [e] at h;simpa [hz1,Value.cells,brow] using h
theorem own_bytes (w:World) (m:Nat) (hm:m≤140737488355328):(w.alloc (brow m)).ownsRow w.heap.size 5 1 (.slice (some ⟨w.heap.size,0,none⟩) 0 m) 0 (Lib.byteCells []):=
 ⟨rfl,Or.inr ⟨w.heap.size,m,madeCells #[.int .u8 0] m,rfl,Nat.le_refl _,heap_alloc_new w _,Nat.zero_le _,by unfold maxLen;omega,by rw [size_madeCells,Nat.mul_one],rfl⟩⟩
def AppR (B:Nat) (v:Value) (w w':World) (e:Ending) (n:Nat) (l:List UInt8):Prop:=∃ ao cap,e= .returned (.slice ao n cap)∧w'.ownsRow B 5 1 (.slice ao n cap) n (Lib.byteCells l)∧Below B w w'∧w.grownBy w' v.ownBlock
theorem q2n {a b c:World} {r:Option Nat} (h:a.grownBy b r) (k:b.grownBy c r):a.grownBy c r:=
 ⟨k.os.trans h.os,k.tape.trans h.tape,k.output.trans h.output,Nat.le_trans h.size k.size,fun i hi hr=>(k.block i (Nat.lt_of_lt_of_le hi h.size) hr).trans (h.block i hi hr)⟩
theorem q0O {w w1:World} {o:Obj} {r:Option Nat} (h:(w.alloc o).grownBy w1 r):w.grownBy w1 r:=q2n (World.grownBy_alloc w o r) h
theorem own_ne_iter {w:World} {B e size n:Nat} {v:Value} {xs:List Value} {k:Nat} {s:ByteArray} {pos:Nat} (h:w.ownsRow B e size v n xs) (hk:w.heap[k]? =some (.stringIter s pos)):some k≠v.ownBlock:=by
 rcases h.2 with ⟨rfl,_⟩|⟨g,cap,cur,rfl,hb,hg,rest⟩
 · simp [Value.ownBlock]
 · intro e;simp only [Value.ownBlock,Option.some.injEq] at e;subst e;rw [hk] at hg
   cases hg
theorem own_iterAt {w:World} {B e size n:Nat} {v:Value} {xs:List Value} {k:Nat} {s:ByteArray} {pos:Nat} (h:w.ownsRow B e size v n xs) (hk:w.heap[k]? =some (.stringIter s pos)) (pos':Nat):(w.iterAt k s pos').ownsRow B e size v n xs:=by
 refine ⟨h.1,?_⟩;rcases h.2 with h0|⟨g,cap,cur,hv,hb,hg,rest⟩
 · exact .inl h0
 · refine .inr ⟨g,cap,cur,hv,hb,?_,rest⟩;rw [Lib.iterAt_other _ _ _ _ _ (fun e=>by subst e;rw [hk] at hg;cases hg)];exact hg
theorem iter_kept {w w':World} {B e size n:Nat} {v:Value} {xs:List Value} {k:Nat} {s:ByteArray} {pos:Nat} (h:w.ownsRow B e size v n xs) (hk:w.heap[k]? =some (.stringIter s pos)) (hg:w.grownBy w' v.ownBlock):w'.heap[k]? =some (.stringIter s pos):=by
 rw [hg.block k (Array.getElem?_eq_some_iff.1 hk).1 (own_ne_iter h hk)];exact hk
theorem nxtAt (w:World) (k:Nat) (s:ByteArray) (p:Nat) (r q:Nat) (hk:w.heap[k]? =some (.stringIter s p)) (h:p<s.size) (hd:Utf8.decode s p=(r,q-p)) (hq:p≤q) (ty:TypeId):
 (Instr.next (.pointer (some ⟨k,0,none⟩)) true ty).run Tryz.prog w= .ok (.tuple #[.bool true,.int .i64 (p:Int),.int .i32 (r:Int)]) (w.iterAt k s q):=by
 have:=Lib.run_next_any_at (P:=Tryz.prog) w k s p ty hk h;rw [hd,show p+(q-p)=q by omega] at this;exact this
set_option maxRecDepth 100000 in
set_option maxHeartbeats 1600000 in
theorem f_appendQuoted (B n:Nat) (v:Value) (l:List UInt8) (w:World) (hown:w.ownsRow B 5 1 v n (Lib.byteCells l)) (hBw:B≤w.heap.size) (hn:n≤1099511627776):
 Calls Tryz.prog 65 #[v,.int .i32 10] w fun e w'=>AppR B v w w' e (n+2) (l++[92,110]):=by
 obtain ⟨i0,hi0,hz0,hz1,hz2⟩:=info_parts Tryz.infoB;obtain ⟨ao,cap,rfl⟩:=q0m hown;have HI:=hQz (fun u=>Tryz.strings_IndexRune_ascii ⟨#[34,92,47,8,12,10,13,9]⟩ 10 u (by decide) (by decide));rw [show Lib.indexByte (ByteArray.mk #[34,92,47,8,12,10,13,9]).data.toList (10:Int).toNat.toUInt8=5 by decide] at HI;go_in;go_wp2_with fail;refine (HI.out _).mono ?_;rintro e w1 ⟨rfl,hw⟩;obtain rfl:=hw.symm;go_wp2_with (at_builtin;refine wpList_append_own _ rfl _ _ 48 rfl B 5 i0 (.int .u8 0) 1 1 Tryz.underlying48 hi0 hz0 hz1 hz2 rfl (by decide) _ _ _ rfl (hown.alloc _) ⟨w.heap.size,0,none⟩ 2 2 [.int .u8 92,.int .u8 110] rfl rfl (by intro j u hj;match j,hj with|0,hj=>simp at hj;subst hj;simp [Addr.add]|1,hj=>simp at hj;subst hj;simp [Addr.add];rfl) (by intro u hu;simp at hu;rcases hu with rfl|rfl <;> rfl) (by unfold maxLen;omega) (by omega) (by simp;omega) ?_);intro v1 w1 hown1 hgrow1 hnn;obtain ⟨so,sc,hv⟩:=q0m hown1;have HB:=hQz (q0T hown hBw (Below.refl _ _) hgrow1);have HG:=hQz (q0O hgrow1)
 have HO:Hid (w1.ownsRow B 5 1 v1 (n+2) (Lib.byteCells (l++[92,110]))):=by
  show World.ownsRow _ _ _ _ _ _ _;rw [Lib.byteCells_append];exact hown1
 subst hv;clear hown1 hgrow1 hnn hown;go_wp2_with fail;go_ret;exact ⟨_,_,rfl,HO.out,HB.out,HG.out⟩
end Go.Proofs.YtdjleoglphgdgaaGreatDoor
