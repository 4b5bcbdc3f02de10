import Derived.Test.YtdjleoglphgdgaaGreatDoorCards
import Derived.Test.YtdjleoglphgdgaaGreatDoorTie
import Derived.Test.YtdjleoglphgdgaaGreatDoorM47
import Derived.Test.YtdjleoglphgdgaaGreatDoorM52
import GoSem.PinnedTables
import Derived.WalkKit
import Derived.ProofKit
import Derived.OpenShut
import Derived.ShutString
import Derived.SizedLaws
import Derived.Stop.LaidErr
import Derived.Deep.DeepHandedRow
import Derived.Lib.LaidTab
import Derived.Test.YtdjleoglphgdgaaGreatDoorM56
set_option linter.unusedVariables false
namespace Go.Proofs.YtdjleoglphgdgaaGreatDoor
open Go.ChangeShapes Go.WideShapes Go.ChangeAt Go.RowKit
set_option maxRecDepth 100000
set_option maxHeartbeats 12800000
theorem own3:ownKnob Tryz.prog.godebug=none:=by kernel_rfl
theorem reach47 {s:ByteArray} (h:s.data.toList.length≤reachBytes):s.size≤140737488355328:=by
 have e0:s.data.toList.length=s.size:=by rw [Array.length_toList];rfl
 have:=reachBytes_lt;omega
noncomputable def low3:Nat:=(World.holding Tryz.prog default ⟨#[],#[],[]⟩).heap.size
noncomputable def laidWorld3 (os:Os):World:=
 let w0:=World.holding Tryz.prog os ⟨#[.cells #[.string ⟨#[105,110,118,97,108,105,100,32,115,121,110,116,97,120]⟩] 205,.cells #[.string ⟨#[118,97,108,117,101,32,111,117,116,32,111,102,32,114,97,110,103,101]⟩] 205],#[],[]⟩
 { w0 with heap:=(((((((w0.heap.modify 3 fun
  | .cells _ t frozen=> .cells #[.iface 203 (.pointer (some ⟨low3,0,none⟩))] t frozen
  | o=>o).modify 4 fun
  | .cells _ t frozen=> .cells #[.iface 203 (.pointer (some ⟨low3+1,0,none⟩))] t frozen
  | o=>o).modify 5 fun
  | .cells _ t frozen=> .cells #[.int .u64 1,.int .u64 10,.int .u64 100,.int .u64 1000,.int .u64 10000,.int .u64 100000,.int .u64 1000000,.int .u64 10000000,.int .u64 100000000,.int .u64 1000000000,.int .u64 10000000000,.int .u64 100000000000,.int .u64 1000000000000,.int .u64 10000000000000,.int .u64 100000000000000,.int .u64 1000000000000000,.int .u64 10000000000000000,.int .u64 100000000000000000,.int .u64 1000000000000000000,.int .u64 10000000000000000000] t frozen
  | o=>o).modify 6 fun
  | .cells _ t frozen=> .cells #[.int .u8 0,.int .u8 1,.int .u8 28,.int .u8 2,.int .u8 29,.int .u8 14,.int .u8 24,.int .u8 3,.int .u8 30,.int .u8 22,.int .u8 20,.int .u8 15,.int .u8 25,.int .u8 17,.int .u8 4,.int .u8 8,.int .u8 31,.int .u8 27,.int .u8 13,.int .u8 23,.int .u8 21,.int .u8 19,.int .u8 16,.int .u8 7,.int .u8 26,.int .u8 12,.int .u8 18,.int .u8 6,.int .u8 11,.int .u8 5,.int .u8 10,.int .u8 9] t frozen
  | o=>o).modify 7 fun
  | .cells _ t frozen=> .cells #[.int .u8 0,.int .u8 1,.int .u8 56,.int .u8 2,.int .u8 57,.int .u8 49,.int .u8 28,.int .u8 3,.int .u8 61,.int .u8 58,.int .u8 42,.int .u8 50,.int .u8 38,.int .u8 29,.int .u8 17,.int .u8 4,.int .u8 62,.int .u8 47,.int .u8 59,.int .u8 36,.int .u8 45,.int .u8 43,.int .u8 51,.int .u8 22,.int .u8 53,.int .u8 39,.int .u8 33,.int .u8 30,.int .u8 24,.int .u8 18,.int .u8 12,.int .u8 5,.int .u8 63,.int .u8 55,.int .u8 48,.int .u8 27,.int .u8 60,.int .u8 41,.int .u8 37,.int .u8 16,.int .u8 46,.int .u8 35,.int .u8 44,.int .u8 21,.int .u8 52,.int .u8 32,.int .u8 23,.int .u8 11,.int .u8 54,.int .u8 26,.int .u8 40,.int .u8 15,.int .u8 34,.int .u8 20,.int .u8 31,.int .u8 10,.int .u8 25,.int .u8 14,.int .u8 19,.int .u8 9,.int .u8 13,.int .u8 8,.int .u8 7,.int .u8 6] t frozen
  | o=>o).modify 2 fun
  | .cells _ t frozen=> .cells opsT t frozen
  | o=>o).modify 0 fun
  | .cells _ t frozen=> .cells pTabA t frozen
  | o=>o) }
theorem laid_met3 (os : Os) (args : Array Value) : laidMet Tryz.prog [("math/bits.deBruijn32tab", Rows.laid_math_bits_deBruijn32tab), ("math/bits.deBruijn64tab", Rows.laid_math_bits_deBruijn64tab), ("internal/strconv.uint64pow10", Rows.laid_internal_strconv_uint64pow10), ("strconv.ErrRange", Rows.laid_strconv_ErrRange), ("strconv.ErrSyntax", Rows.laid_strconv_ErrSyntax), ("hallmark/syntax.operations", Rows.laid_hallmark_syntax_operations), ("hallmark/show.operations", Rows.laid_hallmark_show_operations)] ((laidWorld3 os).forCall (fun _ _ => 0) ⟨#[], args, []⟩).memory :=
 laidMet_of_run' 8 (by kernel_rfl) (by kernel_rfl)
theorem gSyn : Tryz.prog.globalNamed "strconv.ErrSyntax" = some 3 := by kernel_rfl
theorem gSynType:(Tryz.prog.globals[3]?).map (·.type)=some 157:=by kernel_rfl
theorem cellsES:Tryz.prog.cellsOf 205=1:=by kernel_rfl
theorem cells9:Tryz.prog.cellsOf 9=1:=by kernel_rfl
theorem star : "*" ++ "errors.errorString" = "*errors.errorString" := by decide
theorem rowES (u : TypeId) (h : Tryz.prog.typeName? 3 u = some "*errors.errorString") : u = 203 :=
 typeName_ptr_named (nm := "errors.errorString") (by rw [star]; kernel_rfl) (by kernel_rfl) (by decide) u (by rw [star]; exact h)
theorem errIn {W : World} (h : laidMetH Tryz.prog [("math/bits.deBruijn32tab", Rows.laid_math_bits_deBruijn32tab), ("math/bits.deBruijn64tab", Rows.laid_math_bits_deBruijn64tab), ("internal/strconv.uint64pow10", Rows.laid_internal_strconv_uint64pow10), ("strconv.ErrRange", Rows.laid_strconv_ErrRange), ("strconv.ErrSyntax", Rows.laid_strconv_ErrSyntax), ("hallmark/syntax.operations", Rows.laid_hallmark_syntax_operations), ("hallmark/show.operations", Rows.laid_hallmark_show_operations)] W) : ErrIn W := by
 have h' : laidMet Tryz.prog [("math/bits.deBruijn32tab", Rows.laid_math_bits_deBruijn32tab), ("math/bits.deBruijn64tab", Rows.laid_math_bits_deBruijn64tab), ("internal/strconv.uint64pow10", Rows.laid_internal_strconv_uint64pow10), ("strconv.ErrRange", Rows.laid_strconv_ErrRange), ("strconv.ErrSyntax", Rows.laid_strconv_ErrSyntax), ("hallmark/syntax.operations", Rows.laid_hallmark_syntax_operations), ("hallmark/show.operations", Rows.laid_hallmark_show_operations)] W := h
 obtain ⟨a,s,hv,_⟩:=laid_sentinel h'.tail.tail.tail.tail gSyn gSynType Tryz.underlying157 rowES Tryz.underlying203 Tryz.underlying205 rfl rfl Tryz.underlying9 cellsES cells9;exact ⟨_,by simpa using World.var?_cell gSyn hv 0,Or.inr ⟨_,_,rfl⟩⟩
theorem arr_el {H:Type} {enc:TypeId × Value→H} {P:Program} {w:World} {base:Nat} {sp:Nat→Bool} {held:Bool} {fuel:Nat} {t e:TypeId} {n:Nat} {cs:List Value} {ds:List (DataW H)} {p:List MemPlace} (ht:P.underlying t=some (.array n e))
 (h:DataW.trod enc P w base sp held fuel t cs=some (.agg ds,p)) (i:Nat) (hi:i<n):
 ∃ fuel' d q,ds[i]? =some d∧DataW.trod enc P w base sp held fuel' e ((cs.drop (i*P.cellsOf e)).take (P.cellsOf e))=some (d,q):=by
 cases fuel with
 | zero=>simp [DataW.trod] at h
 | succ fuel=>
  simp only [DataW.trod,ht] at h
  split at h
  · obtain ⟨xs,hm,hx⟩:=Option.map_eq_some_iff.1 h;obtain ⟨b,hb,hf⟩:=Lib.mapM_at hm i i (by simp [hi])
    have hds:xs.map (·.1)=ds:=by
     have:=congrArg Prod.fst hx;simpa using this
    exact ⟨fuel,b.1,b.2,by rw [← hds];simp [hb],hf⟩
  · cases h
theorem cells152:Tryz.prog.cellsOf 177=4:=by kernel_rfl
theorem cells3o:Tryz.prog.cellsOf 3=1:=by kernel_rfl
theorem gOps : Tryz.prog.globalNamed "hallmark/syntax.operations" = some 2 := by kernel_rfl
theorem gOpsType:(Tryz.prog.globals[(2:Nat)]?).map (·.type)=some 188:=by kernel_rfl
def opD {H:Type} (r:List UInt8 × Nat × Nat × Nat):DataW H:= .agg [.lit (.string r.1),.lit (.int .i64 (r.2.1:Int)),.lit (.int .i64 (r.2.2.1:Int)),.lit (.int .i64 (r.2.2.2:Int))]
theorem laid_ops {H:Type}:(Rows.laid_hallmark_syntax_operations:DataW H)= .agg (opTz.map opD):=rfl
theorem op_cells {H:Type} {enc:TypeId × Value→H} {w:World} {fuel:Nat} {cs:List Value} {r:List UInt8 × Nat × Nat × Nat} {q:List MemPlace} (h:DataW.trod enc Tryz.prog w 0 (fun _=>true) false fuel 177 cs=some (opD r,q)):cs=[.string ⟨r.1.toArray⟩,.int .i64 (r.2.1:Int),.int .i64 (r.2.2.1:Int),.int .i64 (r.2.2.2:Int)]:=by
 obtain ⟨xs,n,rfl,hx,hl,hxl,hall⟩:=DataW.trod_struct Tryz.underlying177 h;rw [cells152] at hl;have hx4:xs.length=4:=hxl;have h0:=hall 0 _ rfl;have h1:=hall 1 _ rfl;have h2:=hall 2 _ rfl;have h3:=hall 3 _ rfl
 match xs,hx4,cs,hl with
 | [y0,y1,y2,y3],_,[v0,v1,v2,v3],_=>
  simp [cells9,cells3o] at h0 h1 h2 h3;have hx':opD r=_:=congrArg Prod.fst hx;simp only [opD,List.map_cons,List.map_nil,DataW.agg.injEq,List.cons.injEq,and_true] at hx';obtain ⟨g0,g1,g2,g3⟩:=hx';obtain ⟨s,e0,d0,_⟩:=DataW.trod_string Tryz.underlying9 h0;obtain ⟨z1,e1,d1,_⟩:=DataW.trod_int Tryz.underlying3 h1;obtain ⟨z2,e2,d2,_⟩:=DataW.trod_int Tryz.underlying3 h2;obtain ⟨z3,e3,d3,_⟩:=DataW.trod_int Tryz.underlying3 h3;rw [d0] at g0;rw [d1] at g1;rw [d2] at g2;rw [d3] at g3;simp only [DataW.lit.injEq,Lit.string.injEq,Lit.int.injEq,true_and] at g0 g1 g2 g3;simp at e0 e1 e2 e3;subst e0 e1 e2 e3;rw [g1,g2,g3];have:(⟨r.1.toArray⟩:ByteArray)=s:=by rw [g0]
  rw [this]
theorem cut4 {α:Type}:∀ (n:Nat) (l m:List α),l.length=4*n→m.length=4*n→(∀ i,i<n→(l.drop (i*4)).take 4=(m.drop (i*4)).take 4)→l=m:=by
 intro n l m hl hm h;apply List.ext_getElem?;intro j;by_cases hj:j<4*n
 · have h1:=congrArg (fun z=>z[j%4]?) (h (j / 4) (by omega));simp only [List.getElem?_take,List.getElem?_drop] at h1;rw [if_pos (by omega),if_pos (by omega),show j / 4*4+j%4=j by omega] at h1;exact h1
 · rw [List.getElem?_eq_none (by omega),List.getElem?_eq_none (by omega)]
theorem opsIn {W : World} (h : laidMetH Tryz.prog [("math/bits.deBruijn32tab", Rows.laid_math_bits_deBruijn32tab), ("math/bits.deBruijn64tab", Rows.laid_math_bits_deBruijn64tab), ("internal/strconv.uint64pow10", Rows.laid_internal_strconv_uint64pow10), ("strconv.ErrRange", Rows.laid_strconv_ErrRange), ("strconv.ErrSyntax", Rows.laid_strconv_ErrSyntax), ("hallmark/syntax.operations", Rows.laid_hallmark_syntax_operations), ("hallmark/show.operations", Rows.laid_hallmark_show_operations)] W) : OpsX W := by
 have h' : laidMet Tryz.prog [("math/bits.deBruijn32tab", Rows.laid_math_bits_deBruijn32tab), ("math/bits.deBruijn64tab", Rows.laid_math_bits_deBruijn64tab), ("internal/strconv.uint64pow10", Rows.laid_internal_strconv_uint64pow10), ("strconv.ErrRange", Rows.laid_strconv_ErrRange), ("strconv.ErrSyntax", Rows.laid_strconv_ErrSyntax), ("hallmark/syntax.operations", Rows.laid_hallmark_syntax_operations), ("hallmark/show.operations", Rows.laid_hallmark_show_operations)] W := h
 obtain ⟨ps,⟨g,t,cs,fuel,p,q,hg,ht,hv,hd,_,e⟩,_,hrows⟩:=h'.tail.tail.tail.tail.tail;obtain rfl:=Option.some.inj (gOps.symm.trans hg);obtain rfl:=Option.some.inj (gOpsType.symm.trans ht);rw [laid_ops] at hd
 have hlen:cs.toList.length=4*23:=by
  cases fuel with
  | zero=>simp [DataW.trod] at hd
  | succ fuel=>
   simp only [DataW.trod,Tryz.underlying188] at hd
   split at hd
   · rename_i hs
     have h92:Tryz.prog.cellsOf 188=92:=by kernel_rfl
     simpa [h92] using hs
   · cases hd
 have hcs:cs=opsT:=by
  apply Array.toList_inj.1;refine cut4 23 _ _ hlen rfl fun i hi=> ?_;obtain ⟨f',d,q',h1,h2⟩:=arr_el Tryz.underlying188 hd i hi;rw [cells152] at h2
  obtain ⟨r,hr,rfl⟩:∃ r,opTz[i]? =some r∧opD r=d:=by
   rw [List.getElem?_map] at h1
   cases hr:opTz[i]? with
   | none=>rw [hr] at h1;cases h1
   | some r=>rw [hr] at h1;exact ⟨r,rfl,by simpa using h1⟩
  rw [op_cells h2]
  have hk:∀ i:Fin 23,∀ r,opTz[i.1]? =some r→(opsT.toList.drop (i.1*4)).take 4=[.string ⟨r.1.toArray⟩,.int .i64 (r.2.1:Int),.int .i64 (r.2.2.1:Int),.int .i64 (r.2.2.2:Int)]:=by
   intro i r hr
   match i with
   | 0=>cases hr;rfl
   | 1=>cases hr;rfl
   | 2=>cases hr;rfl
   | 3=>cases hr;rfl
   | 4=>cases hr;rfl
   | 5=>cases hr;rfl
   | 6=>cases hr;rfl
   | 7=>cases hr;rfl
   | 8=>cases hr;rfl
   | 9=>cases hr;rfl
   | 10=>cases hr;rfl
   | 11=>cases hr;rfl
   | 12=>cases hr;rfl
   | 13=>cases hr;rfl
   | 14=>cases hr;rfl
   | 15=>cases hr;rfl
   | 16=>cases hr;rfl
   | 17=>cases hr;rfl
   | 18=>cases hr;rfl
   | 19=>cases hr;rfl
   | 20=>cases hr;rfl
   | 21=>cases hr;rfl
   | 22=>cases hr;rfl
  exact (hk ⟨i,hi⟩ r hr).symm
 subst hcs
 have hc:MemPlace.cell 2 0∈ps:=by
  rw [e];have:opsT.size=92:=rfl;simp [MemPlace.row,this]
 obtain ⟨⟨c,t,hh⟩,_⟩:=hrows 2 0 hc
 have:c=opsT:=by
  unfold World.var? at hv;rw [gOps] at hv;simp only [Option.bind_some,hh,Option.some.injEq] at hv;exact hv
 subst this;exact ⟨t,hh⟩
theorem cells152P:Tryz.prog.cellsOf 130=4:=by kernel_rfl
theorem gOpsP : Tryz.prog.globalNamed "hallmark/show.operations" = some 0 := by kernel_rfl
theorem gOpsTypeP:(Tryz.prog.globals[(0:Nat)]?).map (·.type)=some 131:=by kernel_rfl
def opDP {H:Type} (r:List UInt8 × Nat × Nat × Nat):DataW H:= .agg [.lit (.string r.1),.lit (.int .i64 (r.2.1:Int)),.lit (.int .i64 (r.2.2.1:Int)),.lit (.int .i64 (r.2.2.2:Int))]
theorem flatRow (i:Nat) (hi:i<pTab.length):(pTabA.toList.drop (i*4)).take 4=[.string ⟨pTab[i].1.toArray⟩,.int .i64 (pTab[i].2.1:Int),.int .i64 (pTab[i].2.2.1:Int),.int .i64 (pTab[i].2.2.2:Int)]:=by
 apply List.ext_getElem?;intro j;by_cases hj:j<4
 · simp only [List.getElem?_take,List.getElem?_drop,if_pos hj];exact flat4 (fun r:List UInt8 × Nat × Nat × Nat=>([.string ⟨r.1.toArray⟩,.int .i64 (r.2.1:Int),.int .i64 (r.2.2.1:Int),.int .i64 (r.2.2.2:Int)]:List Value)) (fun _=>rfl) pTab i j hj hi
 · simp only [List.getElem?_take,if_neg hj];rw [List.getElem?_eq_none];simp;omega
theorem laid_opsP {H:Type}:(Rows.laid_hallmark_show_operations:DataW H)= .agg (pTab.map opDP):=rfl
theorem op_cellsP {H:Type} {enc:TypeId × Value→H} {w:World} {fuel:Nat} {cs:List Value} {r:List UInt8 × Nat × Nat × Nat} {q:List MemPlace} (h:DataW.trod enc Tryz.prog w 0 (fun _=>true) false fuel 130 cs=some (opDP r,q)):cs=[.string ⟨r.1.toArray⟩,.int .i64 (r.2.1:Int),.int .i64 (r.2.2.1:Int),.int .i64 (r.2.2.2:Int)]:=by
 obtain ⟨xs,n,rfl,hx,hl,hxl,hall⟩:=DataW.trod_struct Tryz.underlying130 h;rw [cells152P] at hl;have hx4:xs.length=4:=hxl;have h0:=hall 0 _ rfl;have h1:=hall 1 _ rfl;have h2:=hall 2 _ rfl;have h3:=hall 3 _ rfl
 match xs,hx4,cs,hl with
 | [y0,y1,y2,y3],_,[v0,v1,v2,v3],_=>
  simp [cells9,cells3o] at h0 h1 h2 h3;have hx':opDP r=_:=congrArg Prod.fst hx;simp only [opDP,List.map_cons,List.map_nil,DataW.agg.injEq,List.cons.injEq,and_true] at hx';obtain ⟨g0,g1,g2,g3⟩:=hx';obtain ⟨s,e0,d0,_⟩:=DataW.trod_string Tryz.underlying9 h0;obtain ⟨z1,e1,d1,_⟩:=DataW.trod_int Tryz.underlying3 h1;obtain ⟨z2,e2,d2,_⟩:=DataW.trod_int Tryz.underlying3 h2;obtain ⟨z3,e3,d3,_⟩:=DataW.trod_int Tryz.underlying3 h3;rw [d0] at g0;rw [d1] at g1;rw [d2] at g2;rw [d3] at g3;simp only [DataW.lit.injEq,Lit.string.injEq,Lit.int.injEq,true_and] at g0 g1 g2 g3;simp at e0 e1 e2 e3;subst e0 e1 e2 e3;rw [g1,g2,g3];have:(⟨r.1.toArray⟩:ByteArray)=s:=by rw [g0]
  rw [this]
theorem tabIn {W : World} (h : laidMetH Tryz.prog [("math/bits.deBruijn32tab", Rows.laid_math_bits_deBruijn32tab), ("math/bits.deBruijn64tab", Rows.laid_math_bits_deBruijn64tab), ("internal/strconv.uint64pow10", Rows.laid_internal_strconv_uint64pow10), ("strconv.ErrRange", Rows.laid_strconv_ErrRange), ("strconv.ErrSyntax", Rows.laid_strconv_ErrSyntax), ("hallmark/syntax.operations", Rows.laid_hallmark_syntax_operations), ("hallmark/show.operations", Rows.laid_hallmark_show_operations)] W) : PTabIn W := by
 have h' : laidMet Tryz.prog [("math/bits.deBruijn32tab", Rows.laid_math_bits_deBruijn32tab), ("math/bits.deBruijn64tab", Rows.laid_math_bits_deBruijn64tab), ("internal/strconv.uint64pow10", Rows.laid_internal_strconv_uint64pow10), ("strconv.ErrRange", Rows.laid_strconv_ErrRange), ("strconv.ErrSyntax", Rows.laid_strconv_ErrSyntax), ("hallmark/syntax.operations", Rows.laid_hallmark_syntax_operations), ("hallmark/show.operations", Rows.laid_hallmark_show_operations)] W := h
 obtain ⟨ps,⟨g,t,cs,fuel,p,q,hg,ht,hv,hd,_,e⟩,_,hrows⟩:=h'.tail.tail.tail.tail.tail.tail;obtain rfl:=Option.some.inj (gOpsP.symm.trans hg);obtain rfl:=Option.some.inj (gOpsTypeP.symm.trans ht);rw [laid_opsP] at hd
 have hlen:cs.toList.length=4*44:=by
  cases fuel with
  | zero=>simp [DataW.trod] at hd
  | succ fuel=>
   simp only [DataW.trod,Tryz.underlying131] at hd
   split at hd
   · rename_i hs
     have h176:Tryz.prog.cellsOf 131=176:=by kernel_rfl
     simpa [h176] using hs
   · cases hd
 have hcs:cs=pTabA:=by
  apply Array.toList_inj.1;refine cut4 44 _ _ hlen rfl fun i hi=> ?_;obtain ⟨f',d,q',h1,h2⟩:=arr_el Tryz.underlying131 hd i hi;rw [cells152P] at h2
  obtain ⟨r,hr,rfl⟩:∃ r,pTab[i]? =some r∧opDP r=d:=by
   rw [List.getElem?_map] at h1
   cases hr:pTab[i]? with
   | none=>rw [hr] at h1;cases h1
   | some r=>rw [hr] at h1;exact ⟨r,rfl,by simpa using h1⟩
  rw [op_cellsP h2];have hi':i<pTab.length:=by rw [pTab_len];exact hi
  obtain rfl:pTab[i]=r:=by rw [List.getElem?_eq_getElem hi'] at hr;exact Option.some.inj hr
  exact (flatRow i hi').symm
 subst hcs
 have hc:MemPlace.cell 0 0∈ps:=by
  rw [e];have:pTabA.size=176:=rfl;simp [MemPlace.row,this]
 obtain ⟨⟨c,t,hh⟩,_⟩:=hrows 0 0 hc
 have:c=pTabA:=by
  unfold World.var? at hv;rw [gOpsP] at hv;simp only [Option.bind_some,hh,Option.some.injEq] at hv;exact hv
 subst this;exact ⟨t,hh⟩
end Go.Proofs.YtdjleoglphgdgaaGreatDoor
set_option linter.unusedVariables false
namespace Go.Proofs.YtdjleoglphgdgaaGreatDoor.showKnown
open Go.ChangeShapes Go.WideShapes Go.ChangeAt Go.RowKit
open Go.ChangeMaps (open_string shut_string)
theorem contract (H:Type) (enc:TypeId × Value→H) (W:World) (base:Nat) (args:Array Value) (ds gs:List (DataW H)) (before:List MemPlace)
 (hval:∀ (j:Nat) t v,Tryz.f6.params[j]? =some t→args[j]? =some v→Value.okWide Tryz.prog W .any base t v)
 (hW:DataW.Whole enc Tryz.prog Tryz.f6.params.toList Rows.showKnownSpec.vars false W args.toList ds gs before) (hL:laidMetH Tryz.prog Rows.showKnownRow.laid W):
 Calls Tryz.prog 6 args W fun e W'=>∃ v,e= .returned v∧Rows.showKnownSpec.post enc Tryz.prog Tryz.f6 false true false false W args v W':=by
 have hW':=hW;obtain ⟨p,q,hA0,hV,rfl,hfz,hnd⟩:=hW;have hA:DataW.TrodAll enc Tryz.prog W 0 (fun _=>true) true Tryz.f6.params.toList args.toList ds p:=hA0;rw [Tryz.params6] at hA hval;obtain ⟨hargs,rfl,rfl⟩:=trodAll_nil hA;obtain rfl:args= #[]:=by cases args;simp_all
 obtain ⟨rfl,rfl⟩:=trodVars_none hV;clear hA0;simp only [List.append_nil] at hW';refine (w_ShowKnown W (errIn hL) (opsIn hL) (tabIn hL)).mono fun e W' ⟨he,hb⟩=> ?_;subst he;exact ⟨_,rfl,_,_,_,[],[],[],hW',trodAll_cons_mk (shut_bool Tryz.underlying4 _) trodAll_mk0,trodAll_mk0,rfl,hb.frame _,fun h=>by cases h⟩
theorem reads (os:Os) {H:Type} (enc:TypeId × Value→H):∃ places,DataW.whole enc Tryz.prog ((laidWorld3 os).forCall (fun _ _=>0) ⟨#[],#[],[]⟩).memory Tryz.f6.params.toList Rows.showKnownSpec.vars false (#[]:Array Value).toList 8=some ([],[],places):=
 ⟨[],by kernel_rfl⟩
set_option maxRecDepth 100000 in
theorem lifted (os:Os) (started:os.Started) (H:Type) (enc:TypeId × Value→H) (F:Stop.Interp):
 ReturnsInHanded {} Tryz.checked os 6 .any ((OpenSpec.ofChange Rows.showKnownSpec).preRow enc Tryz.prog Tryz.f6 Rows.showKnownRow.domain false Rows.showKnownRow.laid) (((OpenSpec.ofChange Rows.showKnownSpec).at F).post enc Tryz.prog Tryz.f6 false true false false):=by
 obtain ⟨places,hx⟩:=reads os enc
 refine returnsInHanded_of_row (C:=Tryz.checked) (s:=OpenSpec.ofChange Rows.showKnownSpec) own3 started (by kernel_rfl) Tryz.func6
  (witness_row_at (enc:=enc) (C:=Tryz.checked) false (laidWorld3 os) #[] rfl (by kernel_rfl) (by kernel_rfl) (by kernel_rfl)
   (OpenSpec.preRow_of_cond 8 hx (by kernel_rfl) (fun k hk=>by cases hk) (by kernel_rfl) (laid_met3 os _))) ?_
 intro W base args ds gs before hval hW _ _ _ hL _ _;exact contract H enc W base args ds gs before hval hW hL
theorem said:Rows.ShowKnownSaid:=
 OpenClaim.holds_of_cond 6 Tryz.f6 rfl rfl rfl rfl rfl rfl rfl ⟨rfl,rfl,rfl,rfl,rfl⟩ rfl rfl rfl rfl rfl (by kernel_rfl) Tryz.func6 (by kernel_rfl)
  (of_decide_eq_true (by kernel_rfl)) (by unfold Func.isWrapper;first|(rw [if_pos (by decide +kernel)];kernel_rfl)|(rw [if_neg (by decide +kernel)];exact ⟨rfl,rfl⟩))
  (fun os started H enc _ F=>by rw [OpenClaim.pre_eq_preRow];exact lifted os started H enc F)
theorem plain (f : FuncId) (fn : Func) (hf : Tryz.pinned.checked.prog.funcNamed "hallmark/hallmarklaw18.ShowKnown" = some f) (hfn : Tryz.pinned.checked.prog.funcs[f]? = some fn) :
 true=Tryz.pinned.checked.prog.looks []∧∀ (j:Nat) t,fn.params[j]? =some t→Tryz.pinned.checked.prog.wantsStandIn t=false:=by
 obtain rfl : f = 6 := Option.some.inj ((show Tryz.prog.funcNamed "hallmark/hallmarklaw18.ShowKnown" = some 6 by kernel_rfl).symm.trans hf) |>.symm
 obtain rfl:fn=Tryz.f6:=(Option.some.inj (Tryz.func6.symm.trans hfn)).symm;refine ⟨by kernel_rfl,fun j t ht=> ?_⟩;rw [Tryz.params6] at ht;simp at ht
theorem card:Rows.ShowKnownCardSaid:=
 Claim7.holds_tied_plain_at .later [] _ _ _ _ said (fun _ h=>by cases h) (by kernel_rfl) (fun _ h=>by cases h) showKnown_row_tie rfl ⟨rfl,rfl⟩ (by kernel_rfl) rfl plain (by kernel_rfl)
end Go.Proofs.YtdjleoglphgdgaaGreatDoor.showKnown
namespace Go.Proofs.YtdjleoglphgdgaaGreatDoor
theorem showKnown_card:Rows.ShowKnownCardSaid:=showKnown.card
end Go.Proofs.YtdjleoglphgdgaaGreatDoor
