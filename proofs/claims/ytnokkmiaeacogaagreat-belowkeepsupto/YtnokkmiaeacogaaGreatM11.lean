import Derived.Test.YtnokkmiaeacogaaGreatM10
import Derived.Test.YtnokkmiaeacogaaGreatM0
set_option linter.unusedVariables false
set_option linter.unusedSimpArgs false
namespace Go.Proofs.YtnokkmiaeacogaaGreat
open Go.RowKit
structure Ord {α:Type} (P: α→Prop) (c: α→ α→Int):Prop where
 bd:∀ x y,P x→P y→ -1≤c x y∧c x y≤1
 sw:∀ x y,P x→P y→c y x= -c x y
 zr:∀ x y,P x→P y→c x y=0→x=y
 tr:∀ x y z,P x→P y→P z→c x y≤0→c y z≤0→c x z≤0
def q0F {α:Type} (c: α→ α→Int):List α→List α→Int
 | [],[]=>0
 | [],_::_=> -1
 | _::_,[]=>1
 | x::xs,y::ys=>if c x y=0 then q0F c xs ys else c x y
theorem listC_ord {α:Type} {P: α→Prop} {c: α→ α→Int} (h:Ord P c):Ord (fun l:List α=>∀ x∈l,P x) (q0F c) where
 bd:=by
  intro xs
  induction xs with
  | nil=>intro ys _ _;cases ys <;> simp [q0F]
  | cons x xs ih=>
   intro ys hx hy
   cases ys with
   | nil=>simp [q0F]
   | cons y ys=>
    simp only [q0F]
    split
    · exact ih ys (fun z hz=>hx z (List.mem_cons_of_mem _ hz)) (fun z hz=>hy z (List.mem_cons_of_mem _ hz))
    · exact h.bd x y (hx x mcS) (hy y mcS)
 sw:=by
  intro xs
  induction xs with
  | nil=>intro ys _ _;cases ys <;> simp [q0F]
  | cons x xs ih=>
   intro ys hx hy
   cases ys with
   | nil=>simp [q0F]
   | cons y ys=>
    have e:=h.sw x y (hx x mcS) (hy y mcS);simp only [q0F];by_cases h0:c x y=0
    · rw [if_pos h0,if_pos (by omega)];exact ih ys (fun z hz=>hx z (List.mem_cons_of_mem _ hz)) (fun z hz=>hy z (List.mem_cons_of_mem _ hz))
    · rw [if_neg h0,if_neg (by omega)];exact e
 zr:=by
  intro xs
  induction xs with
  | nil=>intro ys _ _ h0;cases ys with
   | nil=>rfl
   | cons y ys=>simp [q0F] at h0
  | cons x xs ih=>
   intro ys hx hy h0
   cases ys with
   | nil=>simp [q0F] at h0
   | cons y ys=>
    simp only [q0F] at h0;by_cases h1:c x y=0
    · rw [if_pos h1] at h0;rw [h.zr x y (hx x mcS) (hy y mcS) h1,ih ys (fun z hz=>hx z (List.mem_cons_of_mem _ hz)) (fun z hz=>hy z (List.mem_cons_of_mem _ hz)) h0]
    · rw [if_neg h1] at h0;exact absurd h0 h1
 tr:=by
  intro xs
  induction xs with
  | nil=>intro ys zs _ _ _ _ _;cases zs <;> simp [q0F]
  | cons x xs ih=>
   intro ys zs hx hy hz h1 h2
   cases ys with
   | nil=>simp [q0F] at h1
   | cons y ys=>
    cases zs with
    | nil=>simp [q0F] at h2
    | cons z zs=>
     have px:=hx x mcS;have py:=hy y mcS;have pz:=hz z mcS;have tx:=fun z hz=>hx z (List.mem_cons_of_mem _ hz);have ty:=fun z hz=>hy z (List.mem_cons_of_mem _ hz);have tz:=fun w hw=>hz w (List.mem_cons_of_mem _ hw);simp only [q0F] at h1 h2 ⊢;by_cases a:c x y=0
     · rw [if_pos a] at h1;obtain rfl:=h.zr x y px py a;by_cases b:c x z=0
       · rw [if_pos b] at h2 ⊢;exact ih ys zs tx ty tz h1 h2
       · rw [if_neg b] at h2 ⊢;exact h2
     · rw [if_neg a] at h1;by_cases b:c y z=0
       · obtain rfl:=h.zr y z py pz b;rw [if_neg a];exact h1
       · rw [if_neg b] at h2;have t:=h.tr x y z px py pz h1 h2;by_cases d:c x z=0
         · obtain rfl:=h.zr x z px pz d;have:=h.sw x y px py;omega
         · rw [if_neg d];exact t
def byteC (x y:UInt8):Int:=if x<y then -1 else if x=y then 0 else 1
theorem byteC_ord:Ord (fun _:UInt8=>True) byteC:=by
 have hl:∀ x y:UInt8,x<y↔x.toNat<y.toNat:=fun x y=>UInt8.lt_iff_toNat_lt;have he:∀ x y:UInt8,x=y↔x.toNat=y.toNat:=fun x y=>UInt8.toNat_inj.symm;refine ⟨?_,?_,?_,?_⟩
 · intro x y _ _;unfold byteC;split <;> (try split) <;> omega
 · intro x y _ _;unfold byteC;simp only [hl,he];repeat' split
   all_goals omega
 · intro x y _ _ h0;unfold byteC at h0;simp only [hl,he] at h0 ⊢;split at h0 <;> (try split at h0) <;> omega
 · intro x y z _ _ _ h1 h2;unfold byteC at *;simp only [hl,he] at *;repeat' split at h1
   all_goals repeat' split at h2
   all_goals repeat' split
   all_goals omega
theorem cmpS_list:∀ a b:List UInt8,Pl.cmpS a b=q0F byteC a b
 | [],[]=>by simp [Pl.cmpS,Op.bytesLess,q0F]
 | [],_::_=>by simp [Pl.cmpS,Op.bytesLess,q0F]
 | _::_,[]=>by simp [Pl.cmpS,Op.bytesLess,q0F]
 | x::xs,y::ys=>by
  have ih:=cmpS_list xs ys;simp only [q0F];rw [← ih];by_cases h:x<y
  · have e:byteC x y= -1:=by unfold byteC;rw [if_pos h]
    rw [e,if_neg (by omega)];unfold Pl.cmpS;rw [if_pos (by simp [Op.bytesLess,h])]
  · by_cases h2:x=y
    · subst h2;have e:byteC x x=0:=by unfold byteC;rw [if_neg h,if_pos rfl]
      rw [e,if_pos rfl];unfold Pl.cmpS;simp [Op.bytesLess,h]
    · have e:byteC x y=1:=by unfold byteC;rw [if_neg h,if_neg h2]
      rw [e,if_neg (by omega)];unfold Pl.cmpS;rw [if_neg (by simp [Op.bytesLess,h,h2]),if_neg (by simp [h2])]
def keyC (a b:ByteArray):Int:=Pl.cmpS a.toList b.toList
def numC (a b:ByteArray):Int:=Pl.cmpN a.data.toList b.data.toList
theorem formed_inj {a b:List UInt8} (ha:Pl.formed a=true) (hb:Pl.formed b=true) (h:Pl.cmpN a b=0):a=b:=by
 have hs:∀ p q:List UInt8,Pl.cmpS p q=0→p=q:=fun p q h0=>by
  rw [cmpS_list] at h0;exact (listC_ord byteC_ord).zr p q (fun _ _=>trivial) (fun _ _=>trivial) h0
 have ht:∀ p q:List UInt8,Pl.cmpT p q=0→p=q:=fun p q h0=>by
  unfold Pl.cmpT at h0
  split at h0
  · omega
  · split at h0
    · omega
    · exact hs p q h0
 have hbn:∀ l:List UInt8,Pl.neg l=true→l=45::Pl.body l:=fun l h=>by
  cases l with
  | nil=>simp [Pl.neg] at h
  | cons c r=>
   have h2:c.toNat=45:=by simpa [Pl.neg] using h
   have h3:c=45:=UInt8.toNat_inj.1 h2;unfold Pl.body;rw [if_pos h,h3];rfl
 have hbp:∀ l:List UInt8,Pl.neg l=false→l=Pl.body l:=fun l h=>by
  unfold Pl.body;rw [h];rfl
 unfold Pl.cmpN at h;rw [ha,hb] at h;simp only [Bool.and_self,if_true] at h
 cases na:Pl.neg a with
 | true=>
  cases nb:Pl.neg b with
  | true=>
   rw [na,nb] at h;simp only [if_true] at h;rw [hbn a na,hbn b nb,ht _ _ h]
  | false=>rw [na,nb] at h;simp at h
 | false=>
  cases nb:Pl.neg b with
  | true=>rw [na,nb] at h;simp at h
  | false=>
   rw [na,nb] at h;simp only [Bool.false_eq_true,if_false] at h;rw [hbp a na,hbp b nb,ht _ _ h]
theorem numC_ord:Ord (fun a:ByteArray=>Pl.formed a.data.toList=true) numC:=by
 have e:∀ a b:ByteArray,Pl.formed a.data.toList=true→Pl.formed b.data.toList=true→numC a b=Pl.cmpI (Pl.ival a.data.toList) (Pl.ival b.data.toList):=fun a b ha hb=>Pl.cmpN_val ha hb;refine ⟨fun x y hx hy=> ?_,fun x y hx hy=> ?_,fun x y hx hy h=> ?_,fun x y z hx hy hz h1 h2=> ?_⟩
 · exact Pl.cmpN_bd _ _
 · rw [e _ _ hx hy,e _ _ hy hx];exact Pl.cmpI_swap _ _
 · exact Pl.eq_of_toList (formed_inj hx hy h)
 · rw [e _ _ hx hy] at h1;rw [e _ _ hy hz] at h2;rw [e _ _ hx hz];unfold Pl.cmpI at*
   repeat' split at h1
   all_goals repeat' split at h2
   all_goals repeat' split
   all_goals omega
theorem Ord.map {α β:Type} {Q: β→Prop} {c: β→ β→Int} (o:Ord Q c) {P: α→Prop} {d: α→ α→Int} (g: β→ α) (hg:∀ x,P x→∃ n,x=g n∧Q n) (hd:∀ n m,Q n→Q m→d (g n) (g m)=c n m):Ord P d where
 bd:=fun x y hx hy=>by
  obtain ⟨n,rfl,hn⟩:=hg x hx;obtain ⟨m,rfl,hm⟩:=hg y hy;rw [hd n m hn hm];exact o.bd n m hn hm
 sw:=fun x y hx hy=>by
  obtain ⟨n,rfl,hn⟩:=hg x hx;obtain ⟨m,rfl,hm⟩:=hg y hy;rw [hd n m hn hm,hd m n hm hn];exact o.sw n m hn hm
 zr:=fun x y hx hy h=>by
  obtain ⟨n,rfl,hn⟩:=hg x hx;obtain ⟨m,rfl,hm⟩:=hg y hy;rw [hd n m hn hm] at h;rw [o.zr n m hn hm h]
 tr:=fun x y z hx hy hz h1 h2=>by
  obtain ⟨n,rfl,hn⟩:=hg x hx;obtain ⟨m,rfl,hm⟩:=hg y hy;obtain ⟨k,rfl,hk⟩:=hg z hz;rw [hd n m hn hm] at h1;rw [hd m k hm hk] at h2;rw [hd n k hn hk];exact o.tr n m k hn hm hk h1 h2
end Go.Proofs.YtnokkmiaeacogaaGreat
