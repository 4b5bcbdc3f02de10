import Derived.Test.YtnokkmiaeacogaaGreatM28
import Derived.Test.YtnokkmiaeacogaaGreatM14
import Derived.Test.YtnokkmiaeacogaaGreatM30
import Derived.Test.YtnokkmiaeacogaaGreatM10
import Derived.Test.YtnokkmiaeacogaaGreatM7
set_option linter.unusedVariables false
set_option linter.unusedSimpArgs false
namespace Go.Proofs.YtnokkmiaeacogaaGreat
open Go.RowKit Go.Shelf Go.Sort
set_option maxRecDepth 100000
set_option maxHeartbeats 12800000
def hasK (ks:List ByteArray) (s:ByteArray):Bool:=ks.any fun k=>eqS k s
theorem any_up {α:Type} {l:List α} {f: α→Bool} {k:Nat} (hk:k<l.length):(l.take (k+1)).any f=((l.take k).any f||f l[k]):=by
 rw [List.take_succ_eq_append_getElem hk,List.any_append];simp
theorem any_yes {α:Type} {l:List α} {f: α→Bool} {k:Nat} (hk:k<l.length) (h:f l[k]=true):l.any f=true:=List.any_eq_true.2 ⟨_,List.getElem_mem hk,h⟩
theorem bx2_two (w:World) (xs ys:Array Value) (t t2:TypeId):Bx2 w ((w.alloc (.cells xs t)).alloc (.cells ys t2)) xs ys:=by
 refine ⟨((Below.refl _ _).alloc (Nat.le_refl _) _).alloc (by simp) _,fun j=> ?_,fun j=> ?_,by simp⟩
 · exact cell_of_row _ _ j xs t (0,0) ((Below.heap_alloc _ _ _ (by simp)).trans (World.alloc_heap_new w _))
 · have h:=World.alloc_heap_new (w.alloc (.cells xs t)) (.cells ys t2);rw [World.size_alloc] at h;exact cell_of_row _ _ j ys t2 (0,0) h
theorem q0Q:∀ a b:List UInt8,Op.bytesLess a b=decide (a<b)
 | [],[]=>by simp [Op.bytesLess]
 | [],_::_=>by simp [Op.bytesLess]
 | _::_,[]=>by simp [Op.bytesLess]
 | c::r,d::t=>by
  have hbl:Op.bytesLess (c::r) (d::t)=(decide (c<d)||(c==d&&Op.bytesLess r t)):=rfl;rw [hbl,q0Q r t];by_cases h1:c<d
  · simp [List.cons_lt_cons_iff,h1]
  · by_cases h2:c=d
    · subst h2;simp [List.cons_lt_cons_iff,h1]
    · simp [List.cons_lt_cons_iff,h1,h2]
theorem rise_ltB {ks:List ByteArray} (hr:rK ks ks.length=true):∀ (k:Nat) (hk:k<ks.length) (j:Nat) (hj:j<k),ks[j].toList<ks[k].toList
 | 0,_,j,hj=>absurd hj (Nat.not_lt_zero _)
 | k+1,hk,j,hj=>by
  have h1:=List.all_eq_true.1 hr (k+1) (List.mem_range.2 hk);have h2:rA ks (k+1)=true:=by simpa using h1
  unfold rA at h2;rw [Nat.add_sub_cancel,List.getD_eq_getElem?_getD,List.getD_eq_getElem?_getD,List.getElem?_eq_getElem (by omega:k<ks.length),List.getElem?_eq_getElem hk,q0Q,decide_eq_true_eq] at h2;have h3:ks[k].toList<ks[k+1].toList:=h2;by_cases hjk:j=k
  · subst hjk;exact h3
  · exact List.lt_trans (rise_ltB hr k (by omega) j (by omega)) h3
def fldL:List ByteArray→List TT→List Bool→TT→ByteArray→TT × Bool
 | n::ns,f::fs,m::ms,r,s=>if eqS n s then (f,m) else fldL ns fs ms r s
 | _,_,_,r,_=>(r,false)
def fldO (o:OB) (s:ByteArray):TT × Bool:=fldL o.names o.fields o.must o.rest s
def laidT:TT:= .mk false true true true true [(.empty,.empty)] [] [.mk ttEv 0 (-1)] [.mk [] [] [] ttEv]
def laid (T:TT):TT:=if T.all then laidT else T
def spL:List (ByteArray × ByteArray)→List (ByteArray × ByteArray)→Bool
 | [],_=>true
 | _::_,[]=>false
 | p::_,q::_=>inS p.1 p.2 q.1 q.2
def txL (A B:TT):Bool:=B.any||(!A.any&&A.texts.all fun s=>hasK B.texts s)
def arX (f:TT→TT→Bool) (x y:AR):Bool:= !(decide (x.min<y.min)||(decide (0≤y.max)&&(decide (x.max<0)||decide (y.max<x.max))))&&(decide (x.max=0)||f x.item y.item)
def arL (f:TT→TT→Bool):List AR→List AR→Bool
 | [],_=>true
 | _::_,[]=>false
 | x::_,y::_=>arX f x y
def fitF (f:TT→TT→Bool) (x y:TT × Bool):Bool:=(x.2|| !y.2)&&f x.1 y.1
def obX (f:TT→TT→Bool) (a b:OB):Bool:=((a.names++b.names).all fun s=>fitF f (fldO a s) (fldO b s))&&f a.rest b.rest
def obL (f:TT→TT→Bool) (xs ys:List OB):Bool:=xs.all fun a=>ys.any fun b=>obX f a b
def flL (A B:TT):Bool:=(!A.nul||B.nul)&&((!A.fls||B.fls)&&(!A.tru||B.tru))
def bwK (f:TT→TT→Bool) (A B:TT):Bool:=flL A B&&(spL A.nums B.nums&&(txL A B&&(arL f A.arrs B.arrs&&obL f A.objs B.objs)))
def bwN:Nat→TT→TT→Bool
 | 0,_,_=>false
 | h+1,A,B=>B.all||bwK (bwN h) (laid A) B
def spM:List (ByteArray × ByteArray)→List (ByteArray × ByteArray)→Bool
 | p::_,q::_=> !abv p.1 q.2&& !abv q.1 p.2
 | _,_=>false
def txM (A B:TT):Bool:=if A.any then B.any||decide (0<B.texts.length) else if B.any then decide (0<A.texts.length) else A.texts.any fun s=>hasK B.texts s
def longI (n m:Int):Bool:=decide (0≤m)&&decide (m<n)
def arY (f:TT→TT→Bool) (x y:AR):Bool:= !(longI (max x.min y.min) x.max||longI (max x.min y.min) y.max)&&(decide (max x.min y.min=0)||f x.item y.item)
def arM (f:TT→TT→Bool):List AR→List AR→Bool
 | x::_,y::_=>arY f x y
 | _,_=>false
def metF (f:TT→TT→Bool) (x y:TT × Bool):Bool:=(!x.2&& !y.2)||f x.1 y.1
def obY (f:TT→TT→Bool) (a b:OB):Bool:=(a.names++b.names).all fun s=>metF f (fldO a s) (fldO b s)
def obM (f:TT→TT→Bool) (xs ys:List OB):Bool:=xs.any fun a=>ys.any fun b=>obY f a b
def flM (A B:TT):Bool:=(A.nul&&B.nul)||((A.fls&&B.fls)||(A.tru&&B.tru))
def mtK (f:TT→TT→Bool) (A B:TT):Bool:=flM A B||(spM A.nums B.nums||(txM A B||(arM f A.arrs B.arrs||obM f A.objs B.objs)))
def mtN:Nat→TT→TT→Bool
 | 0,_,_=>false
 | h+1,A,B=>if A.all then !B.never else if B.all then !A.never else mtK (mtN h) A B
def mgF (g:TT × Bool→TT × Bool→Bool) (ra rb:TT):Nat→List (ByteArray × TT × Bool)→List (ByteArray × TT × Bool)→Bool
 | 0,_,_=>true
 | _+1,[],[]=>true
 | n+1,x::xs,[]=>g x.2 (rb,false)&&mgF g ra rb n xs []
 | n+1,[],y::ys=>g (ra,false) y.2&&mgF g ra rb n [] ys
 | n+1,x::xs,y::ys=>
  if x.1.toList<y.1.toList then g x.2 (rb,false)&&mgF g ra rb n xs (y::ys)
  else if y.1.toList<x.1.toList then g (ra,false) y.2&&mgF g ra rb n (x::xs) ys
  else g x.2 y.2&&mgF g ra rb n xs ys
def lkF:List (ByteArray × TT × Bool)→TT→ByteArray→TT × Bool
 | [],r,_=>(r,false)
 | x::xs,r,s=>if eqS x.1 s then x.2 else lkF xs r s
def zipO (o:OB):List (ByteArray × TT × Bool):=o.names.zip (o.fields.zip o.must)
theorem lk_fld:∀ (ns:List ByteArray) (fs:List TT) (ms:List Bool) (r:TT) (s:ByteArray),fldL ns fs ms r s=lkF (ns.zip (fs.zip ms)) r s
 | [],_,_,r,s=>by simp [fldL,lkF]
 | n::ns,[],_,r,s=>by simp [fldL,lkF]
 | n::ns,f::fs,[],r,s=>by simp [fldL,lkF]
 | n::ns,f::fs,m::ms,r,s=>by
  rw [fldL,List.zip_cons_cons,List.zip_cons_cons,lkF,lk_fld ns fs ms r s]
theorem lk_none:∀ {l:List (ByteArray × TT × Bool)} {r:TT} {s:ByteArray},(∀ x∈l,x.1≠s)→lkF l r s=(r,false)
 | [],_,_,_=>rfl
 | x::xs,r,s,h=>by
  rw [lkF,if_neg (fun e=>h x mcS ((q0o _ _).1 e)),lk_none (fun y hy=>h y (List.mem_cons_of_mem _ hy))]
theorem lk_tail {x:ByteArray × TT × Bool} {xs:List (ByteArray × TT × Bool)} {r:TT} {s:ByteArray} (h:x.1≠s):lkF (x::xs) r s=lkF xs r s:=by
 rw [lkF,if_neg (fun e=>h ((q0o _ _).1 e))]
theorem lk_head {x:ByteArray × TT × Bool} {xs:List (ByteArray × TT × Bool)} {r:TT}:lkF (x::xs) r x.1=x.2:=by
 rw [lkF,if_pos ((q0o _ _).2 rfl)]
def risF (l:List (ByteArray × TT × Bool)):Prop:=l.Pairwise fun x y=>x.1.toList<y.1.toList
theorem q0l {a b:ByteArray} (h:a.toList<b.toList):a≠b:=fun e=>by rw [e] at h;exact List.lt_irrefl _ h
theorem list_tri {a b:ByteArray} (h1:¬ a.toList<b.toList) (h2:¬ b.toList<a.toList):a=b:=by
 have e:a.toList=b.toList:=List.le_antisymm h2 h1;exact (q0o _ _).1 (by unfold eqS;rw [e];simp)
theorem mg_all (g:TT × Bool→TT × Bool→Bool) (ra rb:TT):∀ (n:Nat) (xs ys:List (ByteArray × TT × Bool)),xs.length+ys.length≤n→risF xs→risF ys→
 (mgF g ra rb n xs ys=true↔((∀ x∈xs,g x.2 (lkF ys rb x.1)=true)∧(∀ y∈ys,g (lkF xs ra y.1) y.2=true)))
 | 0,xs,ys,hl,_,_=>by
  obtain rfl:xs=[]:=List.eq_nil_of_length_eq_zero (by omega);obtain rfl:ys=[]:=List.eq_nil_of_length_eq_zero (by omega);exact ⟨fun _=>⟨fun x hx=>(by cases hx),fun y hy=>(by cases hy)⟩,fun _=>rfl⟩
 | n+1,[],[],hl,_,_=>⟨fun _=>⟨fun x hx=>(by cases hx),fun y hy=>(by cases hy)⟩,fun _=>rfl⟩
 | n+1,x::xs,[],hl,rx,ry=>by
  have ih:=mg_all g ra rb n xs [] (by simp at hl ⊢;omega) (List.pairwise_cons.1 rx).2 ry;rw [mgF,Bool.and_eq_true,ih];constructor
  · rintro ⟨h1,h2,h3⟩;refine ⟨fun z hz=> ?_,fun y hy=>(by cases hy)⟩;rcases List.mem_cons.1 hz with rfl|hz
    · exact h1
    · exact h2 z hz
  · rintro ⟨h1,h2⟩;exact ⟨h1 x mcS,fun z hz=>h1 z (List.mem_cons_of_mem _ hz),fun y hy=>(by cases hy)⟩
 | n+1,[],y::ys,hl,rx,ry=>by
  have ih:=mg_all g ra rb n [] ys (by simp at hl ⊢;omega) rx (List.pairwise_cons.1 ry).2;rw [mgF,Bool.and_eq_true,ih];constructor
  · rintro ⟨h1,h2,h3⟩;refine ⟨fun z hz=>(by cases hz),fun z hz=> ?_⟩;rcases List.mem_cons.1 hz with rfl|hz
    · exact h1
    · exact h3 z hz
  · rintro ⟨h1,h2⟩;exact ⟨h2 y mcS,fun z hz=>(by cases hz),fun z hz=>h2 z (List.mem_cons_of_mem _ hz)⟩
 | n+1,x::xs,y::ys,hl,rx,ry=>by
  have px:=List.pairwise_cons.1 rx;have py:=List.pairwise_cons.1 ry;rw [mgF];by_cases c1:x.1.toList<y.1.toList
  · have ih:=mg_all g ra rb n xs (y::ys) (by simp at hl ⊢;omega) px.2 ry;rw [if_pos c1,Bool.and_eq_true,ih]
    have e1:lkF (y::ys) rb x.1=(rb,false):=lk_none (fun z hz e=>by
     rcases List.mem_cons.1 hz with rfl|hz
     · exact q0l c1 e.symm
     · exact q0l (List.lt_trans c1 (py.1 z hz)) e.symm)
    have e2:∀ z∈y::ys,lkF (x::xs) ra z.1=lkF xs ra z.1:=fun z hz=>lk_tail (by
     rcases List.mem_cons.1 hz with rfl|hz
     · exact q0l c1
     · exact q0l (List.lt_trans c1 (py.1 z hz)))
    constructor
    · rintro ⟨h1,h2,h3⟩;refine ⟨fun z hz=> ?_,fun z hz=>by rw [e2 z hz];exact h3 z hz⟩;rcases List.mem_cons.1 hz with rfl|hz
      · rw [e1];exact h1
      · exact h2 z hz
    · rintro ⟨h1,h2⟩;exact ⟨by rw [← e1];exact h1 x mcS,fun z hz=>h1 z (List.mem_cons_of_mem _ hz),fun z hz=>by rw [← e2 z hz];exact h2 z hz⟩
  · by_cases c2:y.1.toList<x.1.toList
    · have ih:=mg_all g ra rb n (x::xs) ys (by simp at hl ⊢;omega) rx py.2;rw [if_neg c1,if_pos c2,Bool.and_eq_true,ih]
      have e1:lkF (x::xs) ra y.1=(ra,false):=lk_none (fun z hz e=>by
       rcases List.mem_cons.1 hz with rfl|hz
       · exact q0l c2 e.symm
       · exact q0l (List.lt_trans c2 (px.1 z hz)) e.symm)
      have e2:∀ z∈x::xs,lkF (y::ys) rb z.1=lkF ys rb z.1:=fun z hz=>lk_tail (by
       rcases List.mem_cons.1 hz with rfl|hz
       · exact q0l c2
       · exact q0l (List.lt_trans c2 (px.1 z hz)))
      constructor
      · rintro ⟨h1,h2,h3⟩;refine ⟨fun z hz=>by rw [e2 z hz];exact h2 z hz,fun z hz=> ?_⟩;rcases List.mem_cons.1 hz with rfl|hz
        · rw [e1];exact h1
        · exact h3 z hz
      · rintro ⟨h1,h2⟩;exact ⟨by rw [← e1];exact h2 y mcS,fun z hz=>by rw [← e2 z hz];exact h1 z hz,fun z hz=>h2 z (List.mem_cons_of_mem _ hz)⟩
    · have ih:=mg_all g ra rb n xs ys (by simp at hl ⊢;omega) px.2 py.2;rw [if_neg c1,if_neg c2,Bool.and_eq_true,ih];have exy:=list_tri c1 c2;have e1:∀ z∈xs,lkF (y::ys) rb z.1=lkF ys rb z.1:=fun z hz=>lk_tail (by rw [← exy];exact q0l (px.1 z hz));have e2:∀ z∈ys,lkF (x::xs) ra z.1=lkF xs ra z.1:=fun z hz=>lk_tail (by rw [exy];exact q0l (py.1 z hz));constructor
      · rintro ⟨h1,h2,h3⟩;refine ⟨fun z hz=> ?_,fun z hz=> ?_⟩
        · rcases List.mem_cons.1 hz with rfl|hz
          · rw [exy,lk_head];exact h1
          · rw [e1 z hz];exact h2 z hz
        · rcases List.mem_cons.1 hz with rfl|hz
          · rw [← exy,lk_head];exact h1
          · rw [e2 z hz];exact h3 z hz
      · rintro ⟨h1,h2⟩;refine ⟨?_,fun z hz=>by rw [← e1 z hz];exact h1 z (List.mem_cons_of_mem _ hz),fun z hz=>by rw [← e2 z hz];exact h2 z (List.mem_cons_of_mem _ hz)⟩;have:=h1 x mcS;rw [exy,lk_head] at this;exact this
structure OkO (o:OB):Prop where
 fl:o.names.length=o.fields.length
 ml:o.names.length=o.must.length
 ris:rK o.names o.names.length=true
theorem q0d {o:OB} (h:OkO o):(zipO o).map (·.1)=o.names:=by
 unfold zipO;rw [List.map_fst_zip];have h1:=h.fl;have h2:=h.ml;simp only [List.length_zip];omega
theorem q0V {o:OB} (h:OkO o):risF (zipO o):=by
 have e:((zipO o).map (·.1)).Pairwise (fun x y=>x.toList<y.toList):=by
  rw [q0d h,List.pairwise_iff_getElem];exact fun i j hi hj hij=>rise_ltB h.ris j hj i hij
 exact (List.pairwise_map (f:=fun x:ByteArray × TT × Bool=>x.1) (R:=fun x y:ByteArray=>x.toList<y.toList)).1 e
theorem lk_mem:∀ {l:List (ByteArray × TT × Bool)} {r:TT} {x:ByteArray × TT × Bool},risF l→x∈l→lkF l r x.1=x.2
 | y::ys,r,x,hr,hx=>by
  have p:=List.pairwise_cons.1 hr;rcases List.mem_cons.1 hx with rfl|hx
  · exact lk_head
  · rw [lk_tail (q0l (p.1 x hx)),lk_mem p.2 hx]
theorem mg_is (g:TT × Bool→TT × Bool→Bool) {a b:OB} (ha:OkO a) (hb:OkO b) {n:Nat} (hn:a.names.length+b.names.length≤n):
 mgF g a.rest b.rest n (zipO a) (zipO b)=(a.names++b.names).all fun s=>g (fldO a s) (fldO b s):=by
 have la:(zipO a).length=a.names.length:=by rw [← List.length_map (f:=(·.1)),q0d ha]
 have lb:(zipO b).length=b.names.length:=by rw [← List.length_map (f:=(·.1)),q0d hb]
 have fa:∀ s,fldO a s=lkF (zipO a) a.rest s:=fun s=>lk_fld _ _ _ _ _;have fb:∀ s,fldO b s=lkF (zipO b) b.rest s:=fun s=>lk_fld _ _ _ _ _;rw [Bool.eq_iff_iff,mg_all g _ _ n _ _ (by omega) (q0V ha) (q0V hb),List.all_append,Bool.and_eq_true,List.all_eq_true,List.all_eq_true];refine ⟨fun ⟨h1,h2⟩=>⟨fun s hs=> ?_,fun s hs=> ?_⟩,fun ⟨h1,h2⟩=>⟨fun x hx=> ?_,fun y hy=> ?_⟩⟩
 · rw [← q0d ha] at hs;obtain ⟨x,hx,rfl⟩:=List.mem_map.1 hs;rw [fa,fb,lk_mem (q0V ha) hx];exact h1 x hx
 · rw [← q0d hb] at hs;obtain ⟨y,hy,rfl⟩:=List.mem_map.1 hs;rw [fa,fb,lk_mem (q0V hb) hy];exact h2 y hy
 · have:=h1 x.1 (by rw [← q0d ha];exact List.mem_map.2 ⟨x,hx,rfl⟩);rw [fa,fb,lk_mem (q0V ha) hx] at this;exact this
 · have:=h2 y.1 (by rw [← q0d hb];exact List.mem_map.2 ⟨y,hy,rfl⟩);rw [fa,fb,lk_mem (q0V hb) hy] at this;exact this
structure PtT (w:World) (h:Nat) (T:TT) (b off:Nat):Prop where
 lt:b<w.heap.size
 ok:∃ c0 c1 c2 c3 c4 c5 c6 c7 c8:Value,C9 w b off c0 c1 c2 c3 c4 c5 c6 c7 c8∧InT w h T (.agg #[c0,c1,c2,c3,c4,c5,c6,c7,c8])
theorem PtT.keep {w w':World} {h:Nat} {T:TT} {b off:Nat} (x:PtT w h T b off) (hb:Below w.heap.size w w'):PtT w' h T b off:=by
 obtain ⟨c0,c1,c2,c3,c4,c5,c6,c7,c8,h1,h2⟩:=x.ok;exact ⟨Nat.lt_of_lt_of_le x.lt hb.size,c0,c1,c2,c3,c4,c5,c6,c7,c8,h1.keep hb x.lt,h2.keep hb⟩
structure PtO (w:World) (h:Nat) (o:OB) (b off:Nat) (ko:Option Addr) (kc:Nat) (fo:Option Addr) (fc:Nat) (mo:Option Addr) (mc:Nat):Prop where
 lt:b<w.heap.size
 c0:w.cell? ⟨b,off,none⟩=some (.slice ko o.names.length kc)
 c1:w.cell? ⟨b,off+1,none⟩=some (.slice fo o.fields.length fc)
 c2:w.cell? ⟨b,off+2,none⟩=some (.slice mo o.must.length mc)
 caps:o.names.length≤kc∧o.fields.length≤fc∧o.must.length≤mc
 lens:o.names.length≤140737488355328∧o.fields.length≤140737488355328∧o.must.length≤140737488355328∧∀ k∈o.names,k.size≤140737488355328
 nm:KIn w ko o.names
 ms:BoIn w mo o.must
 fd:0<o.fields.length→∃ b2 off2,fo=some ⟨b2,off2,none⟩∧∀ j,(hj:j<o.fields.length)→PtT w h o.fields[j] b2 (off2+j*9)
 rest:PtT w h o.rest b (off+3)
theorem PtO.keep {w w':World} {h:Nat} {o:OB} {b off:Nat} {ko:Option Addr} {kc:Nat} {fo:Option Addr} {fc:Nat} {mo:Option Addr} {mc:Nat} (x:PtO w h o b off ko kc fo fc mo mc) (hb:Below w.heap.size w w'):PtO w' h o b off ko kc fo fc mo mc:=by
 refine ⟨Nat.lt_of_lt_of_le x.lt hb.size,(hb.cell (p:=⟨_,_,_⟩) x.lt).trans x.c0,(hb.cell (p:=⟨_,_,_⟩) x.lt).trans x.c1,(hb.cell (p:=⟨_,_,_⟩) x.lt).trans x.c2,x.caps,x.lens,x.nm.keep hb,x.ms.keep hb,fun h0=> ?_,x.rest.keep hb⟩;obtain ⟨b2,off2,e,hc⟩:=x.fd h0;exact ⟨b2,off2,e,fun j hj=>(hc j hj).keep hb⟩
structure OpT (w:World) (h:Nat) (T:TT) (b off:Nat) (no:Option Addr) (nc:Nat) (xo:Option Addr) (xc:Nat) (ao:Option Addr) (ac:Nat) (oo:Option Addr) (oc:Nat):Prop where
 lt:b<w.heap.size
 d0:w.cell? ⟨b,off,none⟩=some (.bool T.all)
 d1:w.cell? ⟨b,off+1,none⟩=some (.bool T.nul)
 d2:w.cell? ⟨b,off+2,none⟩=some (.bool T.fls)
 d3:w.cell? ⟨b,off+3,none⟩=some (.bool T.tru)
 d4:w.cell? ⟨b,off+4,none⟩=some (.slice no T.nums.length nc)
 d5:w.cell? ⟨b,off+5,none⟩=some (.bool T.any)
 d6:w.cell? ⟨b,off+6,none⟩=some (.slice xo T.texts.length xc)
 d7:w.cell? ⟨b,off+7,none⟩=some (.slice ao T.arrs.length ac)
 d8:w.cell? ⟨b,off+8,none⟩=some (.slice oo T.objs.length oc)
 caps:T.nums.length≤nc∧T.texts.length≤xc∧T.arrs.length≤ac∧T.objs.length≤oc
 lens:T.nums.length≤140737488355328∧T.texts.length≤140737488355328∧T.arrs.length≤140737488355328∧T.objs.length≤140737488355328
 zn:∀ p∈T.nums,p.1.size≤140737488355328∧p.2.size≤140737488355328
 zx:∀ k∈T.texts,k.size≤140737488355328
 sp:SpIn w no T.nums
 tx:KIn w xo T.texts
 ar:0<T.arrs.length→∃ b2 off2,ao=some ⟨b2,off2,none⟩∧∀ i,(hi:i<T.arrs.length)→PtT w h T.arrs[i].item b2 (off2+i*11)∧w.cell? ⟨b2,off2+i*11+9,none⟩=some (.int .i64 T.arrs[i].min)∧w.cell? ⟨b2,off2+i*11+10,none⟩=some (.int .i64 T.arrs[i].max)
 ob:0<T.objs.length→∃ b2 off2,oo=some ⟨b2,off2,none⟩∧∀ i,(hi:i<T.objs.length)→∃ (ko:Option Addr) (kc:Nat) (fo:Option Addr) (fc:Nat) (mo:Option Addr) (mc:Nat),PtO w h T.objs[i] b2 (off2+i*12) ko kc fo fc mo mc
theorem PtT.open {w:World} {h:Nat} {T:TT} {b off:Nat} (x:PtT w (h+1) T b off):∃ (no:Option Addr) (nc:Nat) (xo:Option Addr) (xc:Nat) (ao:Option Addr) (ac:Nat) (oo:Option Addr) (oc:Nat),OpT w h T b off no nc xo xc ao ac oo oc:=by
 obtain ⟨c0,c1,c2,c3,c4,c5,c6,c7,c8,⟨e0,e1,e2,e3,e4,e5,e6,e7,e8⟩,no,nc,xo,xc,ao,ac,oo,oc,ev,caps,lens,zn,zx,hs,hk,ha,ho⟩:=x.ok;simp only [Value.agg.injEq,Array.mk.injEq,List.cons.injEq,and_true] at ev;obtain ⟨rfl,rfl,rfl,rfl,rfl,rfl,rfl,rfl,rfl⟩:=ev;refine ⟨no,nc,xo,xc,ao,ac,oo,oc,x.lt,e0,e1,e2,e3,e4,e5,e6,e7,e8,caps,lens,zn,zx,hs,hk,fun h0=> ?_,fun h0=> ?_⟩
 · obtain ⟨b2,off2,e,hl,hc⟩:=ha h0;refine ⟨b2,off2,e,fun i hi=> ?_⟩;obtain ⟨d0,d1,d2,d3,d4,d5,d6,d7,d8,k1,k2,k3,k4⟩:=hc i hi;exact ⟨⟨hl,d0,d1,d2,d3,d4,d5,d6,d7,d8,k1,k4⟩,k2,k3⟩
 · obtain ⟨b2,off2,e,hl,hc⟩:=ho h0;refine ⟨b2,off2,e,fun i hi=> ?_⟩;obtain ⟨ko,kc,fo,fc,mo,mc,d0,d1,d2,d3,d4,d5,d6,d7,d8,⟨g1,g2,g3⟩,k1,k2,k3,k4,k5,k6,k7⟩:=hc i hi;refine ⟨ko,kc,fo,fc,mo,mc,hl,g1,g2,g3,k2,k3,k4,k5,fun h1=> ?_,⟨hl,d0,d1,d2,d3,d4,d5,d6,d7,d8,k1,k7⟩⟩;obtain ⟨b3,off3,e3,hl3,hc3⟩:=k6 h1;refine ⟨b3,off3,e3,fun j hj=> ?_⟩;obtain ⟨q0,q1,q2,q3,q4,q5,q6,q7,q8,m1,m2⟩:=hc3 j hj;exact ⟨hl3,q0,q1,q2,q3,q4,q5,q6,q7,q8,m1,m2⟩
theorem OpT.keep {w w':World} {h:Nat} {T:TT} {b off:Nat} {no:Option Addr} {nc:Nat} {xo:Option Addr} {xc:Nat} {ao:Option Addr} {ac:Nat} {oo:Option Addr} {oc:Nat} (x:OpT w h T b off no nc xo xc ao ac oo oc) (hb:Below w.heap.size w w'):OpT w' h T b off no nc xo xc ao ac oo oc:=by
 refine ⟨Nat.lt_of_lt_of_le x.lt hb.size,(hb.cell (p:=⟨_,_,_⟩) x.lt).trans x.d0,(hb.cell (p:=⟨_,_,_⟩) x.lt).trans x.d1,(hb.cell (p:=⟨_,_,_⟩) x.lt).trans x.d2,(hb.cell (p:=⟨_,_,_⟩) x.lt).trans x.d3,(hb.cell (p:=⟨_,_,_⟩) x.lt).trans x.d4,(hb.cell (p:=⟨_,_,_⟩) x.lt).trans x.d5,(hb.cell (p:=⟨_,_,_⟩) x.lt).trans x.d6,(hb.cell (p:=⟨_,_,_⟩) x.lt).trans x.d7,(hb.cell (p:=⟨_,_,_⟩) x.lt).trans x.d8,x.caps,x.lens,x.zn,x.zx,x.sp.keep hb,x.tx.keep hb,fun h0=> ?_,fun h0=> ?_⟩
 · obtain ⟨b2,off2,e,hc⟩:=x.ar h0;refine ⟨b2,off2,e,fun i hi=> ?_⟩;obtain ⟨k1,k2,k3⟩:=hc i hi;exact ⟨k1.keep hb,(hb.cell (p:=⟨_,_,_⟩) k1.lt).trans k2,(hb.cell (p:=⟨_,_,_⟩) k1.lt).trans k3⟩
 · obtain ⟨b2,off2,e,hc⟩:=x.ob h0;refine ⟨b2,off2,e,fun i hi=> ?_⟩;obtain ⟨ko,kc,fo,fc,mo,mc,k1⟩:=hc i hi;exact ⟨ko,kc,fo,fc,mo,mc,k1.keep hb⟩
structure Bx2c (w u:World) (B:Nat) (x y:Value):Prop where
 below:Below w.heap.size w u
 lt:B<u.heap.size
 c0:u.cell? ⟨B,0,none⟩=some x
 c1:u.cell? ⟨B,1,none⟩=some y
theorem Bx2c.keep {w u u':World} {B:Nat} {x y:Value} (h:Bx2c w u B x y) (hb:Below u.heap.size u u'):Bx2c w u' B x y:=
 ⟨h.below.trans (hb.mono h.below.size),Nat.lt_of_lt_of_le h.lt hb.size,(hb.cell (p:=⟨_,_,_⟩) h.lt).trans h.c0,(hb.cell (p:=⟨_,_,_⟩) h.lt).trans h.c1⟩
theorem q07 (w:World) (x y:Value) (t:TypeId):Bx2c w (w.alloc (.cells #[x,y] t)) w.heap.size x y:=
 ⟨(Below.refl _ _).alloc (Nat.le_refl _) _,by simp,cell_of_row _ _ 0 _ t (0,0) (World.alloc_heap_new w _),cell_of_row _ _ 1 _ t (0,0) (World.alloc_heap_new w _)⟩
theorem fm_open {h:Nat} {T:TT} (hf:fmN (h+1) T=true):rK T.texts T.texts.length=true∧spB T.nums=true∧arB (fmN h) T.arrs=true∧(∀ o∈T.objs,obOk (fmN h) o=true)∧(T.all=true→T.bare=true)∧(T.any=true→T.texts=[]):=by
 unfold fmN at hf;simp only [Bool.and_eq_true] at hf;obtain ⟨h1,⟨h2,h2'⟩,h3,h4,h5,h6⟩:=hf;refine ⟨h2,h4,h5,fun o ho=>List.all_eq_true.1 h6 o ho,fun ha=> ?_,fun ha=> ?_⟩
 · rw [ha] at h1;simpa using h1
 · rw [ha] at h3
   cases e:T.texts with
   | nil=>rfl
   | cons a l=>rw [e] at h3;simp at h3
theorem q0U {h:Nat} {o:OB} (hf:obOk (fmN h) o=true):OkO o∧fmN h o.rest=true∧(∀ t∈o.fields,fmN h t=true):=by
 unfold obOk at hf;simp only [Bool.and_eq_true,decide_eq_true_eq] at hf;obtain ⟨h1,h2,⟨h3,h3'⟩,h4,h5⟩:=hf;refine ⟨⟨h1,h2,h3⟩,h4,fun t ht=> ?_⟩;obtain ⟨k,hk,rfl⟩:=List.getElem_of_mem ht;have hkm:k<o.must.length:=by omega
 have hz:k<(o.fields.zip o.must).length:=by rw [List.length_zip];omega
 have:=List.all_eq_true.1 h5 _ (List.getElem_mem hz);rw [List.getElem_zip] at this;have h7:(fmN h o.fields[k]&& !(o.must[k]&&o.fields[k].never))=true:=this;rw [Bool.and_eq_true] at h7;exact h7.1
end Go.Proofs.YtnokkmiaeacogaaGreat
namespace Go.Proofs.YtnokkmiaeacogaaGreat
open Go.RowKit Go.Shelf Go.Sort
attribute [local go_sem] Oper.semAt_some
set_option maxRecDepth 100000
set_option maxHeartbeats 12800000
theorem ix_txl (so:Option Addr) (N cap:Nat) (es:Nat→Value) (rs:Nat→Bool) (B:Nat) (w:World) (hcap:N≤cap) (hN2:N≤140737488355328)
 (HR:Hid (∀ u,Below w.heap.size w u→0<N→∃ b off,so=some ⟨b,off,none⟩∧∀ k,k<N→u.cell? ⟨b,off+k,none⟩=some (es k)))
 (HC:Hid (∀ k,k<N→∀ u,Below w.heap.size w u→Calls Tryz.prog 134 #[es k,.pointer (some ⟨B,0,none⟩)] u fun e w'=>e= .returned (.bool (rs k))∧Below u.heap.size u w')) (HE:Hid (∀ k,k<N→∃ s,es k= .string s)):
 Calls Tryz.prog 151 #[.slice so N cap,.func (.func 134) #[] #[.pointer (some ⟨B,0,none⟩)]] w fun e w'=>(∃ c:Int,e= .returned (.int .i64 c)∧decide (0≤c)=(List.range N).any rs)∧Below w.heap.size w w':=by
 go_enter Tryz.func151,Tryz.ntmps151;go_wp2_with fail
 go_loopw [8] (fun i wr=>∃ k:Nat,k≤N∧i= .int .i64 (k:Int)∧Hid (Below w.heap.size w wr)∧Hid ((List.range k).any rs=false)) (fun i _=>N-(intOf i).toNat)
 case atStart=>exact ⟨0,Nat.zero_le _,rfl,Below.refl _ _,rfl⟩
 case round=>
  obtain ⟨k,hk,rfl,HB,HQ⟩:=hrel;by_cases hlt:k<N
  · have hl1:(k:Int)<(N:Int):=by omega
    have hl0:(0:Int)≤(k:Int):=by omega
    obtain ⟨b,off,hso,hrow⟩:=HR.out wr HB.out (by omega);subst hso;have c0:=hrow k hlt;have HC1:=hQz (HC.out k hlt wr HB.out);obtain ⟨s,hel⟩:=HE.out k hlt;rw [hel] at c0 HC1;clear hrow hel
    cases hrk:rs k with
    | true=>
     rw [hrk] at HC1;have HY:Hid ((List.range N).any rs=true):=List.any_eq_true.2 ⟨k,List.mem_range.2 hlt,hrk⟩;clear hrk;go_wp2_with fail;refine HC1.out.mono ?_;rintro e w2 ⟨rfl,hq⟩;have HB2:=hQz (HB.out.trans (hq.mono HB.out.size));clear hq;go_wp2_with fail;go_ret;exact ⟨⟨_,rfl,by rw [HY.out];exact decide_eq_true (by omega)⟩,HB2.out⟩
    | false=>
     rw [hrk] at HC1;have HN:Hid ((List.range (k+1)).any rs=false):=by show _=_;rw [List.range_succ,List.any_append,HQ.out];simp [hrk]
     clear hrk;go_wp2_with fail;refine HC1.out.mono ?_;rintro e w2 ⟨rfl,hq⟩;have HB2:=hQz (HB.out.trans (hq.mono HB.out.size));clear hq;go_wp2_with fail;go_roundw
     case rel=>exact ⟨k+1,hlt,by go_num,HB2,HN⟩
     case measure=>simp [intOf];omega
  · obtain rfl:k=N:=by omega
    have hl1:¬ (k:Int)<(k:Int):=by omega
    go_wp2_with fail;go_ret;exact ⟨⟨_,rfl,by rw [HQ.out];rfl⟩,HB.out⟩
theorem has_txl (so:Option Addr) (N cap:Nat) (es:Nat→Value) (rs:Nat→Bool) (B:Nat) (w:World) (hcap:N≤cap) (hN2:N≤140737488355328)
 (HR:Hid (∀ u,Below w.heap.size w u→0<N→∃ b off,so=some ⟨b,off,none⟩∧∀ k,k<N→u.cell? ⟨b,off+k,none⟩=some (es k)))
 (HC:Hid (∀ k,k<N→∀ u,Below w.heap.size w u→Calls Tryz.prog 134 #[es k,.pointer (some ⟨B,0,none⟩)] u fun e w'=>e= .returned (.bool (rs k))∧Below u.heap.size u w')) (HE:Hid (∀ k,k<N→∃ s,es k= .string s)):
 Calls Tryz.prog 136 #[.slice so N cap,.func (.func 134) #[] #[.pointer (some ⟨B,0,none⟩)]] w fun e w'=>e= .returned (.bool ((List.range N).any rs))∧Below w.heap.size w w':=by
 have HI:=hQz (ix_txl so N cap es rs B w hcap hN2 HR HC HE);generalize (List.range N).any rs=R at HI ⊢;clear HR HC HE;go_enter Tryz.func136,Tryz.ntmps136;go_wp2_with fail;refine HI.out.mono ?_;rintro e w2 ⟨⟨c,rfl,hc⟩,hq⟩;subst hc;go_wp2_with fail;go_ret;exact ⟨by first|rfl|simp,hq⟩
theorem ix_txm (so:Option Addr) (N cap:Nat) (es:Nat→Value) (rs:Nat→Bool) (B:Nat) (w:World) (hcap:N≤cap) (hN2:N≤140737488355328)
 (HR:Hid (∀ u,Below w.heap.size w u→0<N→∃ b off,so=some ⟨b,off,none⟩∧∀ k,k<N→u.cell? ⟨b,off+k,none⟩=some (es k)))
 (HC:Hid (∀ k,k<N→∀ u,Below w.heap.size w u→Calls Tryz.prog 144 #[es k,.pointer (some ⟨B,0,none⟩)] u fun e w'=>e= .returned (.bool (rs k))∧Below u.heap.size u w')) (HE:Hid (∀ k,k<N→∃ s,es k= .string s)):
 Calls Tryz.prog 151 #[.slice so N cap,.func (.func 144) #[] #[.pointer (some ⟨B,0,none⟩)]] w fun e w'=>(∃ c:Int,e= .returned (.int .i64 c)∧decide (0≤c)=(List.range N).any rs)∧Below w.heap.size w w':=by
 go_enter Tryz.func151,Tryz.ntmps151;go_wp2_with fail
 go_loopw [8] (fun i wr=>∃ k:Nat,k≤N∧i= .int .i64 (k:Int)∧Hid (Below w.heap.size w wr)∧Hid ((List.range k).any rs=false)) (fun i _=>N-(intOf i).toNat)
 case atStart=>exact ⟨0,Nat.zero_le _,rfl,Below.refl _ _,rfl⟩
 case round=>
  obtain ⟨k,hk,rfl,HB,HQ⟩:=hrel;by_cases hlt:k<N
  · have hl1:(k:Int)<(N:Int):=by omega
    have hl0:(0:Int)≤(k:Int):=by omega
    obtain ⟨b,off,hso,hrow⟩:=HR.out wr HB.out (by omega);subst hso;have c0:=hrow k hlt;have HC1:=hQz (HC.out k hlt wr HB.out);obtain ⟨s,hel⟩:=HE.out k hlt;rw [hel] at c0 HC1;clear hrow hel
    cases hrk:rs k with
    | true=>
     rw [hrk] at HC1;have HY:Hid ((List.range N).any rs=true):=List.any_eq_true.2 ⟨k,List.mem_range.2 hlt,hrk⟩;clear hrk;go_wp2_with fail;refine HC1.out.mono ?_;rintro e w2 ⟨rfl,hq⟩;have HB2:=hQz (HB.out.trans (hq.mono HB.out.size));clear hq;go_wp2_with fail;go_ret;exact ⟨⟨_,rfl,by rw [HY.out];exact decide_eq_true (by omega)⟩,HB2.out⟩
    | false=>
     rw [hrk] at HC1;have HN:Hid ((List.range (k+1)).any rs=false):=by show _=_;rw [List.range_succ,List.any_append,HQ.out];simp [hrk]
     clear hrk;go_wp2_with fail;refine HC1.out.mono ?_;rintro e w2 ⟨rfl,hq⟩;have HB2:=hQz (HB.out.trans (hq.mono HB.out.size));clear hq;go_wp2_with fail;go_roundw
     case rel=>exact ⟨k+1,hlt,by go_num,HB2,HN⟩
     case measure=>simp [intOf];omega
  · obtain rfl:k=N:=by omega
    have hl1:¬ (k:Int)<(k:Int):=by omega
    go_wp2_with fail;go_ret;exact ⟨⟨_,rfl,by rw [HQ.out];rfl⟩,HB.out⟩
theorem has_txm (so:Option Addr) (N cap:Nat) (es:Nat→Value) (rs:Nat→Bool) (B:Nat) (w:World) (hcap:N≤cap) (hN2:N≤140737488355328)
 (HR:Hid (∀ u,Below w.heap.size w u→0<N→∃ b off,so=some ⟨b,off,none⟩∧∀ k,k<N→u.cell? ⟨b,off+k,none⟩=some (es k)))
 (HC:Hid (∀ k,k<N→∀ u,Below w.heap.size w u→Calls Tryz.prog 144 #[es k,.pointer (some ⟨B,0,none⟩)] u fun e w'=>e= .returned (.bool (rs k))∧Below u.heap.size u w')) (HE:Hid (∀ k,k<N→∃ s,es k= .string s)):
 Calls Tryz.prog 136 #[.slice so N cap,.func (.func 144) #[] #[.pointer (some ⟨B,0,none⟩)]] w fun e w'=>e= .returned (.bool ((List.range N).any rs))∧Below w.heap.size w w':=by
 have HI:=hQz (ix_txm so N cap es rs B w hcap hN2 HR HC HE);generalize (List.range N).any rs=R at HI ⊢;clear HR HC HE;go_enter Tryz.func136,Tryz.ntmps136;go_wp2_with fail;refine HI.out.mono ?_;rintro e w2 ⟨⟨c,rfl,hc⟩,hq⟩;subst hc;go_wp2_with fail;go_ret;exact ⟨by first|rfl|simp,hq⟩
theorem ix_lie (so:Option Addr) (N cap:Nat) (es:Nat→Value) (rs:Nat→Bool) (B:Nat) (w:World) (hcap:N≤cap) (hN2:N≤140737488355328)
 (HR:Hid (∀ u,Below w.heap.size w u→0<N→∃ b off,so=some ⟨b,off,none⟩∧∀ k,k<N→u.cell? ⟨b,off+k,none⟩=some (es k)))
 (HC:Hid (∀ k,k<N→∀ u,Below w.heap.size w u→Calls Tryz.prog 67 #[es k,.pointer (some ⟨B,0,none⟩)] u fun e w'=>e= .returned (.bool (rs k))∧Below u.heap.size u w')) (HE:Hid (∀ k,k<N→∃ f,es k= .func (.func f) #[] #[])):
 Calls Tryz.prog 107 #[.slice so N cap,.func (.func 67) #[] #[.pointer (some ⟨B,0,none⟩)]] w fun e w'=>(∃ c:Int,e= .returned (.int .i64 c)∧decide (0≤c)=(List.range N).any rs)∧Below w.heap.size w w':=by
 go_enter Tryz.func107,Tryz.ntmps107;go_wp2_with fail
 go_loopw [8] (fun i wr=>∃ k:Nat,k≤N∧i= .int .i64 (k:Int)∧Hid (Below w.heap.size w wr)∧Hid ((List.range k).any rs=false)) (fun i _=>N-(intOf i).toNat)
 case atStart=>exact ⟨0,Nat.zero_le _,rfl,Below.refl _ _,rfl⟩
 case round=>
  obtain ⟨k,hk,rfl,HB,HQ⟩:=hrel;by_cases hlt:k<N
  · have hl1:(k:Int)<(N:Int):=by omega
    have hl0:(0:Int)≤(k:Int):=by omega
    obtain ⟨b,off,hso,hrow⟩:=HR.out wr HB.out (by omega);subst hso;have c0:=hrow k hlt;have HC1:=hQz (HC.out k hlt wr HB.out);obtain ⟨s,hel⟩:=HE.out k hlt;rw [hel] at c0 HC1;clear hrow hel
    cases hrk:rs k with
    | true=>
     rw [hrk] at HC1;have HY:Hid ((List.range N).any rs=true):=List.any_eq_true.2 ⟨k,List.mem_range.2 hlt,hrk⟩;clear hrk;go_wp2_with fail;refine HC1.out.mono ?_;rintro e w2 ⟨rfl,hq⟩;have HB2:=hQz (HB.out.trans (hq.mono HB.out.size));clear hq;go_wp2_with fail;go_ret;exact ⟨⟨_,rfl,by rw [HY.out];exact decide_eq_true (by omega)⟩,HB2.out⟩
    | false=>
     rw [hrk] at HC1;have HN:Hid ((List.range (k+1)).any rs=false):=by show _=_;rw [List.range_succ,List.any_append,HQ.out];simp [hrk]
     clear hrk;go_wp2_with fail;refine HC1.out.mono ?_;rintro e w2 ⟨rfl,hq⟩;have HB2:=hQz (HB.out.trans (hq.mono HB.out.size));clear hq;go_wp2_with fail;go_roundw
     case rel=>exact ⟨k+1,hlt,by go_num,HB2,HN⟩
     case measure=>simp [intOf];omega
  · obtain rfl:k=N:=by omega
    have hl1:¬ (k:Int)<(k:Int):=by omega
    go_wp2_with fail;go_ret;exact ⟨⟨_,rfl,by rw [HQ.out];rfl⟩,HB.out⟩
theorem has_lie (so:Option Addr) (N cap:Nat) (es:Nat→Value) (rs:Nat→Bool) (B:Nat) (w:World) (hcap:N≤cap) (hN2:N≤140737488355328)
 (HR:Hid (∀ u,Below w.heap.size w u→0<N→∃ b off,so=some ⟨b,off,none⟩∧∀ k,k<N→u.cell? ⟨b,off+k,none⟩=some (es k)))
 (HC:Hid (∀ k,k<N→∀ u,Below w.heap.size w u→Calls Tryz.prog 67 #[es k,.pointer (some ⟨B,0,none⟩)] u fun e w'=>e= .returned (.bool (rs k))∧Below u.heap.size u w')) (HE:Hid (∀ k,k<N→∃ f,es k= .func (.func f) #[] #[])):
 Calls Tryz.prog 65 #[.slice so N cap,.func (.func 67) #[] #[.pointer (some ⟨B,0,none⟩)]] w fun e w'=>e= .returned (.bool ((List.range N).any rs))∧Below w.heap.size w w':=by
 have HI:=hQz (ix_lie so N cap es rs B w hcap hN2 HR HC HE);generalize (List.range N).any rs=R at HI ⊢;clear HR HC HE;go_enter Tryz.func65,Tryz.ntmps65;go_wp2_with fail;refine HI.out.mono ?_;rintro e w2 ⟨⟨c,rfl,hc⟩,hq⟩;subst hc;go_wp2_with fail;go_ret;exact ⟨by first|rfl|simp,hq⟩
theorem ix_met (so:Option Addr) (N cap:Nat) (es:Nat→Value) (rs:Nat→Bool) (B:Nat) (w:World) (hcap:N≤cap) (hN2:N≤140737488355328)
 (HR:Hid (∀ u,Below w.heap.size w u→0<N→∃ b off,so=some ⟨b,off,none⟩∧∀ k,k<N→u.cell? ⟨b,off+k,none⟩=some (es k)))
 (HC:Hid (∀ k,k<N→∀ u,Below w.heap.size w u→Calls Tryz.prog 70 #[es k,.pointer (some ⟨B,0,none⟩)] u fun e w'=>e= .returned (.bool (rs k))∧Below u.heap.size u w')) (HE:Hid (∀ k,k<N→∃ f,es k= .func (.func f) #[] #[])):
 Calls Tryz.prog 107 #[.slice so N cap,.func (.func 70) #[] #[.pointer (some ⟨B,0,none⟩)]] w fun e w'=>(∃ c:Int,e= .returned (.int .i64 c)∧decide (0≤c)=(List.range N).any rs)∧Below w.heap.size w w':=by
 go_enter Tryz.func107,Tryz.ntmps107;go_wp2_with fail
 go_loopw [8] (fun i wr=>∃ k:Nat,k≤N∧i= .int .i64 (k:Int)∧Hid (Below w.heap.size w wr)∧Hid ((List.range k).any rs=false)) (fun i _=>N-(intOf i).toNat)
 case atStart=>exact ⟨0,Nat.zero_le _,rfl,Below.refl _ _,rfl⟩
 case round=>
  obtain ⟨k,hk,rfl,HB,HQ⟩:=hrel;by_cases hlt:k<N
  · have hl1:(k:Int)<(N:Int):=by omega
    have hl0:(0:Int)≤(k:Int):=by omega
    obtain ⟨b,off,hso,hrow⟩:=HR.out wr HB.out (by omega);subst hso;have c0:=hrow k hlt;have HC1:=hQz (HC.out k hlt wr HB.out);obtain ⟨s,hel⟩:=HE.out k hlt;rw [hel] at c0 HC1;clear hrow hel
    cases hrk:rs k with
    | true=>
     rw [hrk] at HC1;have HY:Hid ((List.range N).any rs=true):=List.any_eq_true.2 ⟨k,List.mem_range.2 hlt,hrk⟩;clear hrk;go_wp2_with fail;refine HC1.out.mono ?_;rintro e w2 ⟨rfl,hq⟩;have HB2:=hQz (HB.out.trans (hq.mono HB.out.size));clear hq;go_wp2_with fail;go_ret;exact ⟨⟨_,rfl,by rw [HY.out];exact decide_eq_true (by omega)⟩,HB2.out⟩
    | false=>
     rw [hrk] at HC1;have HN:Hid ((List.range (k+1)).any rs=false):=by show _=_;rw [List.range_succ,List.any_append,HQ.out];simp [hrk]
     clear hrk;go_wp2_with fail;refine HC1.out.mono ?_;rintro e w2 ⟨rfl,hq⟩;have HB2:=hQz (HB.out.trans (hq.mono HB.out.size));clear hq;go_wp2_with fail;go_roundw
     case rel=>exact ⟨k+1,hlt,by go_num,HB2,HN⟩
     case measure=>simp [intOf];omega
  · obtain rfl:k=N:=by omega
    have hl1:¬ (k:Int)<(k:Int):=by omega
    go_wp2_with fail;go_ret;exact ⟨⟨_,rfl,by rw [HQ.out];rfl⟩,HB.out⟩
theorem has_met (so:Option Addr) (N cap:Nat) (es:Nat→Value) (rs:Nat→Bool) (B:Nat) (w:World) (hcap:N≤cap) (hN2:N≤140737488355328)
 (HR:Hid (∀ u,Below w.heap.size w u→0<N→∃ b off,so=some ⟨b,off,none⟩∧∀ k,k<N→u.cell? ⟨b,off+k,none⟩=some (es k)))
 (HC:Hid (∀ k,k<N→∀ u,Below w.heap.size w u→Calls Tryz.prog 70 #[es k,.pointer (some ⟨B,0,none⟩)] u fun e w'=>e= .returned (.bool (rs k))∧Below u.heap.size u w')) (HE:Hid (∀ k,k<N→∃ f,es k= .func (.func f) #[] #[])):
 Calls Tryz.prog 65 #[.slice so N cap,.func (.func 70) #[] #[.pointer (some ⟨B,0,none⟩)]] w fun e w'=>e= .returned (.bool ((List.range N).any rs))∧Below w.heap.size w w':=by
 have HI:=hQz (ix_met so N cap es rs B w hcap hN2 HR HC HE);generalize (List.range N).any rs=R at HI ⊢;clear HR HC HE;go_enter Tryz.func65,Tryz.ntmps65;go_wp2_with fail;refine HI.out.mono ?_;rintro e w2 ⟨⟨c,rfl,hc⟩,hq⟩;subst hc;go_wp2_with fail;go_ret;exact ⟨by first|rfl|simp,hq⟩
end Go.Proofs.YtnokkmiaeacogaaGreat
