import Derived.WalkKit
import Derived.Lib.Strings
/- Texts as numbers: what the walks are held against. No Go here. -/
namespace Go.Proofs.YtdjleoglphgdgaaGreatDoor.Pl
def isDig (c:UInt8):Bool:=decide (48≤c.toNat)&&decide (c.toNat≤57)
def neg (l:List UInt8):Bool:=match l with|[]=>false|c::_=>decide (c.toNat=45)
def body (l:List UInt8):List UInt8:=if neg l then l.tail else l
def plainB (l:List UInt8):Bool:=match l with|[]=>false|c::r=> !(decide (c.toNat=48))&&(c::r).all isDig
def formed (l:List UInt8):Bool:=(l==[48])||plainB (body l)
theorem neg_cons (c:UInt8) (r:List UInt8):neg (c::r)=decide (c.toNat=45):=rfl
theorem q2v (s:ByteArray) (h:0<s.size):s.data.toList=s[0]::s.data.toList.tail:=by
 have hl:0<s.data.toList.length:=by simpa using h
 cases e:s.data.toList with
 | nil=>rw [e] at hl;simp at hl
 | cons c r=>
  have:s[0]=s.data.toList[0]'hl:=rfl;simp only [this,e];rfl
theorem take_snoc (s:ByteArray) (k:Nat) (h:k<s.size):s.data.toList.take (k+1)=s.data.toList.take k++[s[k]]:=by
 rw [List.take_succ_eq_append_getElem (by simpa using h)];rfl
theorem size_toList (s:ByteArray):s.data.toList.length=s.size:=by simp
theorem extract_tail (s:ByteArray):(s.extract 1 s.size).data.toList=s.data.toList.tail:=by
 rw [Lib.extract_data];simp only [List.drop_one];exact List.take_of_length_le (by simp)
theorem isEmpty_of (s:ByteArray):s.toList.isEmpty=decide (s.size=0):=by
 rw [Lib.toList_data];have:=size_toList s
 cases e:s.data.toList with
 | nil=>rw [e] at this;simp at this;simp [← this]
 | cons c r=>rw [e] at this;simp at this;have h:¬ s.size=0:=by omega
             simp [h]
theorem neg_of (s:ByteArray) (h:0<s.size):neg s.data.toList=decide (s[0].toNat=45):=by
 rw [q2v s h,neg_cons]
theorem formed_48 (l:List UInt8) (h:l=[48]):formed l=true:=by simp [formed,h]
theorem formed_not (l:List UInt8) (h:¬ l=[48]):formed l=plainB (body l):=by simp [formed,h]
theorem plainB_empty (r:ByteArray) (h:r.size=0):plainB r.data.toList=false:=by
 have:=size_toList r;rw [h] at this;rw [List.eq_nil_of_length_eq_zero this];rfl
theorem plainB_zero (r:ByteArray) (h:0<r.size) (h0:r[0].toNat=48):plainB r.data.toList=false:=by
 rw [q2v r h];simp [plainB,h0]
theorem plainB_some (r:ByteArray) (h:0<r.size) (h0:¬ r[0].toNat=48):plainB r.data.toList=r.data.toList.all isDig:=by
 rw [q2v r h];simp [plainB,h0]
theorem all_take_succ (r:ByteArray) (k:Nat) (h:k<r.size):(r.data.toList.take (k+1)).all isDig=((r.data.toList.take k).all isDig&&isDig r[k]):=by
 rw [take_snoc r k h,List.all_append];simp
theorem all_not (r:ByteArray) (k:Nat) (h:k<r.size) (hd:isDig r[k]=false):r.data.toList.all isDig=false:=by
 rw [← Bool.not_eq_true];intro ha
 have hm:r[k]∈r.data.toList:=by
  have:r[k]=r.data.toList[k]'(by simpa using h):=rfl;rw [this];exact List.getElem_mem _
 have:=List.all_eq_true.1 ha _ hm;rw [hd] at this;cases this
theorem isDig_lo (c:UInt8) (h:c.toNat<48):isDig c=false:=by simp [isDig];omega
theorem isDig_hi (c:UInt8) (h:57<c.toNat):isDig c=false:=by simp [isDig];omega
theorem isDig_mid (c:UInt8) (h:48≤c.toNat) (h':c.toNat≤57):isDig c=true:=by simp [isDig];omega
def cmpI (a b:Int):Int:=if a<b then -1 else if b<a then 1 else 0
def cmpS (a b:List UInt8):Int:=if Op.bytesLess a b then -1 else if a==b then 0 else 1
def cmpT (a b:List UInt8):Int:=if a.length<b.length then -1 else if b.length<a.length then 1 else cmpS a b
def orI (x y:Int):Int:=if x=0 then y else x
theorem cmpT_eq (a b:ByteArray):cmpT a.toList b.toList=orI (cmpI (a.size:Int) (b.size:Int)) (cmpS a.toList b.toList):=by
 unfold cmpT cmpI orI;have ea:a.toList.length=a.size:=by rw [Lib.toList_data];simp
 have eb:b.toList.length=b.size:=by rw [Lib.toList_data];simp
 rw [ea,eb];by_cases h1:a.size<b.size
 · have:(a.size:Int)<b.size:=by omega
   simp [h1,this]
 · by_cases h2:b.size<a.size
   · have h3:¬ (a.size:Int)<b.size:=by omega
     have h4:(b.size:Int)<a.size:=by omega
     simp [h1,h2,h3,h4]
   · have h3:¬ (a.size:Int)<b.size:=by omega
     have h4:¬ (b.size:Int)<a.size:=by omega
     simp [h1,h2,h3,h4]
def errN (a b:List UInt8):Int:=if formed a&&formed b then 0 else 1
def cmpN (a b:List UInt8):Int:=if formed a&&formed b then (if neg a then (if neg b then cmpT (body b) (body a) else -1) else if neg b then 1 else cmpT (body a) (body b)) else 0
end Go.Proofs.YtdjleoglphgdgaaGreatDoor.Pl
namespace Go.RowKit
theorem Hid.mk {p:Prop} (h:p):Hid p:=h
theorem hQz {p:Prop} (h:p):Hid p:=h
theorem qsA {α:Type} {l:List α} {i:Nat} {a: α}:l.toArray.setIfInBounds i a=(l.set i a).toArray:=by simp
theorem qsB {α:Type} {x a: α} {l:List α}:(x::l).set 0 a=a::l:=rfl
theorem bqZ {α:Type} [BEq α] [LawfulBEq α] {a b: α}:(a==b)=false↔a≠b:=beq_eq_false_iff_ne
theorem mcS {α:Type} {a: α} {l:List α}:a∈a::l:=List.mem_cons_self ..
theorem qsC {α:Type} {x a: α} {l:List α} {n:Nat}:(x::l).set (n+1) a=x::l.set n a:=rfl
end Go.RowKit
