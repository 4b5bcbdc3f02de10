import Derived.Test.YtdjleoglphgdgaaGreatDoorRows
import Derived.Test.YtdjleoglphgdgaaGreatDoorM3
import Derived.WalkKit
import Derived.BigCall
import Derived.BigGuard
import Derived.Lib.ConvBytes
import Derived.Lib.AtoiErrMem
import Derived.Lib.Strings
import Derived.Laws.Strings3
set_option linter.unusedVariables false
set_option linter.unusedSimpArgs false
namespace Go.RowKit
theorem Hid.mk {p:Prop} (h:p):Hid p:=h
theorem hQz {p:Prop} (h:p):Hid p:=h
theorem qsA {α:Type} {l:List α} {i:Nat} {a: α}:l.toArray.setIfInBounds i a=(l.set i a).toArray:=by simp
theorem qsB {α:Type} {x a: α} {l:List α}:(x::l).set 0 a=a::l:=rfl
theorem bqZ {α:Type} [BEq α] [LawfulBEq α] {a b: α}:(a==b)=false↔a≠b:=beq_eq_false_iff_ne
theorem mcS {α:Type} {a: α} {l:List α}:a∈a::l:=List.mem_cons_self ..
theorem qsC {α:Type} {x a: α} {l:List α} {n:Nat}:(x::l).set (n+1) a=x::l.set n a:=rfl
end Go.RowKit
namespace Go.Proofs.YtdjleoglphgdgaaGreatDoor
open Go.RowKit
set_option maxRecDepth 100000
set_option maxHeartbeats 12800000
theorem q1t {w w1 w2:World} (h:Below w.heap.size w w1) (h2:Below w1.heap.size w1 w2):Below w.heap.size w w2:=h.trans (h2.mono h.size)
theorem q0a (w:World) (o1:Obj):Below w.heap.size w (w.alloc o1):=(Below.refl w.heap.size w).alloc (Nat.le_refl _) o1
def hexd (c:UInt8):Nat:=if c.toNat≤57 then c.toNat-48 else (c.toNat ||| 32)-87
def q1j (c:UInt8):Bool:=(decide (48≤c.toNat)&&decide (c.toNat≤57))||(decide (97≤(c.toNat ||| 32))&&decide ((c.toNat ||| 32)≤102)&&decide (58≤c.toNat))
def hexN (l:List UInt8):Nat:=l.foldl (fun n c=>n*16+hexd c) 0
theorem hexN_snoc (l:List UInt8) (c:UInt8):hexN (l++[c])=hexN l*16+hexd c:=by simp [hexN]
theorem or32 (c:Nat) (h:c<256):bits .or .u8 (c:Int) 32=((c ||| 32:Nat):Int):=by
 have:∀ c:Fin 256,bits .or .u8 ((c.val:Nat):Int) 32=((c.val ||| 32:Nat):Int):=by decide
 exact this ⟨c,h⟩
theorem hex_cases {c:UInt8} (h:q1j c=true):(48≤c.toNat∧c.toNat≤57∧hexd c=c.toNat-48)∨(58≤c.toNat∧97≤(c.toNat ||| 32)∧(c.toNat ||| 32)≤102∧hexd c=(c.toNat ||| 32)-87):=by
 unfold q1j at h;simp only [Bool.or_eq_true,Bool.and_eq_true,decide_eq_true_eq] at h;rcases h with ⟨h1,h2⟩|⟨⟨h1,h2⟩,h3⟩
 · left;exact ⟨h1,h2,by unfold hexd;rw [if_pos h2]⟩
 · right;exact ⟨h3,h1,h2,by unfold hexd;rw [if_neg (by omega)]⟩
theorem hexd_lt {c:UInt8} (h:q1j c=true):hexd c<16:=by
 rcases hex_cases h with ⟨h1,h2,h3⟩|⟨h1,h2,h3,h4⟩ <;> omega
theorem fold_hex (l:List UInt8):∀ acc,l.foldl (fun n c=>n*16+hexd c) acc=acc*16 ^ l.length+hexN l:=by
 induction l with
 | nil=>intro acc;simp [hexN]
 | cons c r ih=>
  intro acc;rw [List.foldl_cons,ih]
  have e:hexN (c::r)=hexd c*16 ^ r.length+hexN r:=by
   show (c::r).foldl (fun n c=>n*16+hexd c) 0=_;rw [List.foldl_cons,ih];simp
  rw [e,List.length_cons,Nat.pow_succ,Nat.add_mul,Nat.mul_assoc,Nat.mul_comm 16];omega
theorem hexN_cons (c:UInt8) (r:List UInt8):hexN (c::r)=hexd c*16 ^ r.length+hexN r:=by
 show (c::r).foldl (fun n c=>n*16+hexd c) 0=_;rw [List.foldl_cons,fold_hex];simp
theorem hexN_lt' (l:List UInt8) (h:l.all q1j=true):hexN l<16 ^ l.length:=by
 induction l with
 | nil=>decide
 | cons c r ih=>
  simp only [List.all_cons,Bool.and_eq_true] at h;have h1:=ih h.2;have h2:=hexd_lt h.1;rw [hexN_cons,List.length_cons,Nat.pow_succ];have h3:hexd c*16 ^ r.length≤15*16 ^ r.length:=Nat.mul_le_mul_right _ (by omega);omega
theorem hexN_lt (l:List UInt8) (h:l.all q1j=true) (k:Nat) (hk:l.length≤k):hexN l<16 ^ k:=
 Nat.lt_of_lt_of_le (hexN_lt' l h) (Nat.pow_le_pow_right (by decide) hk)
theorem take_snoc4 (t:ByteArray) (k:Nat) (h:k<t.size):t.data.toList.take (k+1)=t.data.toList.take k++[t.data.toList.getD k 0]:=by
 have hl:k<t.data.toList.length:=by simpa using h
 rw [List.take_succ_eq_append_getElem hl,List.getD_eq_getElem?_getD,List.getElem?_eq_getElem hl];rfl
theorem w_iparse16 (t:ByteArray) (w:World) (ht:t.size=4) (hh:t.data.toList.all q1j=true):
 Calls Tryz.prog 248 #[.string t,.int .i64 16,.int .i64 16] w fun e w'=>e= .returned (.tuple #[.int .u64 ((hexN t.data.toList:Nat):Int),.nilIface])∧Below w.heap.size w w':=by
 have hemp:t.toList.isEmpty=false:=by
  rw [← decide_eq_emptyBytes];exact decide_eq_false (fun h=>by rw [h] at ht;simp at ht)
 have hcv:=Lib.run_convert_string_bytes (P:=Tryz.prog) w 9 48 5 t (u:= .string) Tryz.underlying9 Tryz.underlying48 Tryz.underlying5;have hB:∀ j,j<t.size→(Lib.bytesWorld w 5 t).cell? ⟨w.heap.size,j,none⟩=some (.int .u8 (t.data.toList.getD j 0).toNat):=fun j hj=>Lib.bytesWorld_cell w 5 t j hj;have HBW:=hQz (Lib.bytesWorld_below w 5 t);obtain ⟨W1,hW1⟩:∃ W1,W1=Lib.bytesWorld w 5 t:=⟨_,rfl⟩;rw [← hW1] at hcv hB HBW;clear hW1;have HBc:=hQz hB;have HH:=hQz hh;have HT:=hQz ht;rw [ht] at hcv;clear hB hh;go_in
 go_wp2
 go_loop [12,13,101] (fun vu vn vi=>∃ (k:Nat) (n:Int),vu= .bool false∧vn= .int .u64 n∧vi= .int .i64 k∧k≤4∧0≤n∧n<65536∧Hid (n=((hexN (t.data.toList.take k):Nat):Int))) (fun _ _ vi=>4-(intOf vi).toNat)
 case atStart=>exact ⟨0,0,rfl,rfl,rfl,by omega,by omega,by omega,rfl⟩
 case round=>
  obtain ⟨k,n,rfl,rfl,rfl,hk,hn0,hn,HN⟩:=hrel;by_cases hlt:k<4
  · have hk4:(k:Int)<4:=by omega
    have cb:=HBc.out k (by rw [HT.out];exact hlt);obtain ⟨c,hc⟩:∃ c,c=t.data.toList.getD k 0:=⟨_,rfl⟩;rw [← hc] at cb
    have hhc:q1j c=true:=by
     have hl:k<t.data.toList.length:=by have:=HT.out;simp;omega
     rw [hc,List.getD_eq_getElem?_getD,List.getElem?_eq_getElem hl];exact List.all_eq_true.1 HH.out _ (List.getElem_mem _)
    have HS:Hid (((hexN (t.data.toList.take (k+1)):Nat):Int)=n*16+((hexd c:Nat):Int)):=by
     show _=_;rw [take_snoc4 t k (by rw [HT.out];exact hlt),hexN_snoc,HN.out,hc];omega
    have hb:n*16+((hexd c:Nat):Int)<65536:=by
     rw [← HS.out]
     have hall:(t.data.toList.take (k+1)).all q1j=true:=by
      rw [List.all_eq_true];exact fun x hx=>List.all_eq_true.1 HH.out x (List.mem_of_mem_take hx)
     have:=hexN_lt _ hall 4 (by simp;omega);omega
    have hlo:=fun u=>Tryz.internal_strconv_lower (c.toNat:Int) u;have h256:=c.toNat_lt;rw [or32 _ h256] at hlo;have HLo:=hQz hlo;clear hlo HN hc;rcases hex_cases hhc with ⟨h1,h2,h3⟩|⟨h1,h2,h3,h4⟩
    · rw [h3] at HS hb;clear hhc h3 HLo;generalize c.toNat=m at *;have hnm1:(48:Int)≤(m:Int):=by omega
      have hnm2:(m:Int)≤57:=by omega
      go_wp2
      go_round
      case rel=>exact ⟨k+1,n*16+((m-48:Nat):Int),rfl,congrArg (Value.int .u64) (by omega),by go_num,by omega,by omega,by omega,HS.out.symm⟩
      case measure=>simp [intOf];omega
    · rw [h4] at HS hb
      have h95:((c.toNat:Int)==95)=false:=by
       rw [bqZ];intro e;have e2:c.toNat=95:=by omega
       rw [e2] at h3;exact absurd h3 (by decide)
      clear hhc h4;generalize (c.toNat ||| 32)=l at *;generalize c.toNat=m at *;have hm58:¬ (m:Int)≤57:=by omega
      have hl1:(97:Int)≤(l:Int):=by omega
      have hl2:(l:Int)≤122:=by omega
      go_wp2_with (go_at_call 263;refine (HLo.out _).mono ?_;rintro e w' ⟨rfl,rfl⟩)
      go_round
      case rel=>exact ⟨k+1,n*16+((l-87:Nat):Int),rfl,congrArg (Value.int .u64) (by omega),by go_num,by omega,by omega,by omega,HS.out.symm⟩
      case measure=>simp [intOf];omega
  · obtain rfl:k=4:=by omega
    have HE:Hid (n=((hexN t.data.toList:Nat):Int)):=by
     have:=HN.out;rw [List.take_of_length_le (by have:=HT.out;simp;omega)] at this;exact this
    go_wp2
    go_ret2
    exact ⟨by rw [← HE.out];rfl,HBW.out⟩
end Go.Proofs.YtdjleoglphgdgaaGreatDoor
