import Derived.Test.YtnokkmiaeacogaaGreatM6
import Derived.Laws.OwnMore
set_option linter.unusedVariables false
set_option linter.unusedSimpArgs false
namespace Go.Proofs.YtnokkmiaeacogaaGreat
open Go.RowKit
set_option maxRecDepth 100000
set_option maxHeartbeats 12800000
def InF (lo:Nat) (W:World):Nat→VT→Value→Prop
 | 0,_,_=>False
 | h+1,T,v=>∃ (io:Option Addr) (icap:Nat) (ko:Option Addr) (kcap:Nat),
    v= .agg #[.int .i64 T.kind,.string T.num,.string T.text,.slice io T.items.length icap,.slice ko T.keys.length kcap]∧
    T.num.size≤140737488355328∧T.text.size≤140737488355328∧T.items.length≤140737488355328∧T.keys.length≤140737488355328∧T.items.length≤icap∧T.keys.length≤kcap∧
    (∀ k∈T.keys,k.size≤140737488355328)∧
    (0<T.keys.length→∃ b off,ko=some ⟨b,off,none⟩∧lo≤b∧b<W.heap.size∧∀ i,i<T.keys.length→W.cell? ⟨b,off+i,none⟩=some (.string (T.keys.getD i .empty)))∧
    (0<T.items.length→∃ b off,io=some ⟨b,off,none⟩∧lo≤b∧b<W.heap.size∧∀ i,(hi:i<T.items.length)→∃ v0 v1 v2 v3 v4:Value,
     (W.cell? ⟨b,off+i*5,none⟩=some v0∧W.cell? ⟨b,off+i*5+1,none⟩=some v1∧W.cell? ⟨b,off+i*5+2,none⟩=some v2∧W.cell? ⟨b,off+i*5+3,none⟩=some v3∧W.cell? ⟨b,off+i*5+4,none⟩=some v4)∧InF lo W h T.items[i] (.agg #[v0,v1,v2,v3,v4]))
theorem InF.keepB {lo lo':Nat} {W W':World} (hz:W.heap.size≤W'.heap.size) (hs:∀ b,lo≤b→b<W.heap.size→W'.heap[b]? =W.heap[b]?) (hlo:lo'≤lo):∀ {h:Nat} {T:VT} {v:Value},InF lo W h T v→InF lo' W' h T v
 | 0,_,_,h=>h
 | h+1,T,v,hI=>by
  obtain ⟨io,icap,ko,kcap,e,a1,a2,a3,a4,a5,a6,a7,hk,hi⟩:=hI;have cc:∀ b o u,lo≤b→b<W.heap.size→W.cell? ⟨b,o,none⟩=some u→W'.cell? ⟨b,o,none⟩=some u:=fun b o u h1 h2 h3=>(World.cell?_of_block (a:=⟨b,o,none⟩) (hs b h1 h2)).trans h3;refine ⟨io,icap,ko,kcap,e,a1,a2,a3,a4,a5,a6,a7,fun h0=> ?_,fun h0=> ?_⟩
  · obtain ⟨b,off,e2,hb,hl,hc⟩:=hk h0;exact ⟨b,off,e2,Nat.le_trans hlo hb,Nat.lt_of_lt_of_le hl hz,fun i hi=>cc _ _ _ hb hl (hc i hi)⟩
  · obtain ⟨b,off,e2,hb,hl,hc⟩:=hi h0;refine ⟨b,off,e2,Nat.le_trans hlo hb,Nat.lt_of_lt_of_le hl hz,fun i hil=> ?_⟩;obtain ⟨v0,v1,v2,v3,v4,⟨c0,c1,c2,c3,c4⟩,ht⟩:=hc i hil;exact ⟨v0,v1,v2,v3,v4,⟨cc _ _ _ hb hl c0,cc _ _ _ hb hl c1,cc _ _ _ hb hl c2,cc _ _ _ hb hl c3,cc _ _ _ hb hl c4⟩,InF.keepB hz hs hlo ht⟩
theorem InF.low {lo:Nat} {W W':World} {h:Nat} {T:VT} {v:Value} (hI:InF lo W h T v) (hb:Below W.heap.size W W'):InF lo W' h T v:=InF.keepB hb.size (fun b _ hl=>hb.block b hl) (Nat.le_refl _) hI
end Go.Proofs.YtnokkmiaeacogaaGreat
namespace Go.Proofs.YtnokkmiaeacogaaGreat
open Go.RowKit
attribute [local go_sem] Oper.semAt_some
set_option maxRecDepth 100000
set_option maxHeartbeats 12800000
def wbL (i:Nat):ByteArray:=⟨#[35,247,255,255,46,UInt8.ofNat (i%256),UInt8.ofNat (i / 256%256),UInt8.ofNat (i / 65536%256)]⟩
theorem u8_smallL {n:Nat} (h:n<256):(((UInt8.ofNat n).toNat:Nat):Int)=(n:Int):=by
 rw [UInt8.toNat_ofNat'];omega
theorem conv8L (i:Nat) (w:World):(convert 111 9 (.slice (some ⟨w.heap.size,0,none⟩) 8 8)).run Tryz.prog (w.alloc (.cells #[.int .u8 35,.int .u8 247,.int .u8 255,.int .u8 255,.int .u8 46,.int .u8 ((i:Int)%256),.int .u8 ((i:Int) / 256%256),.int .u8 ((i:Int) / 65536%256)] 5))= .ok (.string (wbL i)) (w.alloc (.cells #[.int .u8 35,.int .u8 247,.int .u8 255,.int .u8 255,.int .u8 46,.int .u8 ((i:Int)%256),.int .u8 ((i:Int) / 256%256),.int .u8 ((i:Int) / 65536%256)] 5)):=by
 have e4:(i:Int)%256=(((UInt8.ofNat (i%256)).toNat:Nat):Int):=by rw [u8_smallL (by omega)];omega
 have e5:(i:Int) / 256%256=(((UInt8.ofNat (i / 256%256)).toNat:Nat):Int):=by rw [u8_smallL (by omega)];omega
 have e6:(i:Int) / 65536%256=(((UInt8.ofNat (i / 65536%256)).toNat:Nat):Int):=by rw [u8_smallL (by omega)];omega
 rw [e4,e5,e6];unfold wbL;generalize UInt8.ofNat (i%256)=c4;generalize UInt8.ofNat (i / 256%256)=c5;generalize UInt8.ofNat (i / 65536%256)=c6
 have h:=run_convert_bytes_back (P:=Tryz.prog) (w.alloc (.cells #[.int .u8 35,.int .u8 247,.int .u8 255,.int .u8 255,.int .u8 46,.int .u8 (c4.toNat:Int),.int .u8 (c5.toNat:Int),.int .u8 (c6.toNat:Int)] 5)) 111 9 5 ⟨w.heap.size,0,none⟩ 8 [35,247,255,255,46,c4,c5,c6] Tryz.underlying111 Tryz.underlying5 Tryz.underlying9 (by
  intro j hj;have hj6:j<8:=hj;rcases (show j=0∨j=1∨j=2∨j=3∨j=4∨j=5∨j=6∨j=7 by omega) with rfl|rfl|rfl|rfl|rfl|rfl|rfl|rfl <;> simp [Addr.add,go_sem])
 exact h
theorem w_lword (i:Nat) (w:World) (hi:i≤4294967296):
 Calls Tryz.prog 103 #[.int .i64 (-9),.int .i64 (i:Int)] w fun e w'=>e= .returned (.string (wbL i))∧Below w.heap.size w w':=by
 have hcv:=conv8L i w;have HB:=hQz (q05 w (.cells #[.int .u8 35,.int .u8 247,.int .u8 255,.int .u8 255,.int .u8 46,.int .u8 ((i:Int)%256),.int .u8 ((i:Int) / 256%256),.int .u8 ((i:Int) / 65536%256)] 5));have h2:(0:Int)≤(i:Int):=by omega
 have h3:(i:Int)≤4294967296:=by omega
 go_enter Tryz.func103,Tryz.ntmps103;go_wp2_with fail;go_ret;exact ⟨rfl,HB.out⟩
theorem w_lmarkS (i:Nat) (w:World) (hi:i≤4294967296):
 Calls Tryz.prog 59 #[.int .i64 (-9),.int .i64 (i:Int)] w fun e w'=>e= .returned (.string (wbL i))∧Below w.heap.size w w':=by
 have HW:=hQz (fun u=>w_lword i u hi);generalize wbL i=B at *;go_enter Tryz.func59,Tryz.ntmps59;go_wp2_with fail;refine (HW.out _).mono ?_;rintro e w1 ⟨rfl,hb1⟩;have HB1:=hQz hb1;clear hb1;go_wp2_with fail;go_ret;exact ⟨rfl,HB1.out⟩
end Go.Proofs.YtnokkmiaeacogaaGreat
