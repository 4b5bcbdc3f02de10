import Derived.Test.YtnokkmiaeacogaaGreatM20
set_option linter.unusedVariables false
set_option linter.unusedSimpArgs false
namespace Go.Proofs.YtnokkmiaeacogaaGreat
open Go.RowKit
def gaG {α:Type} (most:Int) (g: α→Int→Int):List α→Int→Int
 | [],n=>n
 | a::r,n=>if n≤most then gaG most g r (g a n) else n
def ptF:Nat→TT→Int→Int
 | 0,_,_=>0
 | h+1,T,most=>gaG most (fun o n=>gaG most (fun t n=>n+ptF h t (most-n)) o.fields (n+(o.names.length:Int)+(o.must.length:Int)+ptF h o.rest (most-n))) T.objs (gaG most (fun a n=>n+ptF h a.item (most-n)) T.arrs (1+(T.texts.length:Int)+(T.nums.length:Int)))
theorem gaG_le {α:Type} {most:Int} {g: α→Int→Int} {c: α→Nat}:∀ (l:List α),(∀ a∈l,∀ n,0≤n→n≤most→n≤g a n∧g a n≤n+(c a:Int))→∀ n,0≤n→n≤gaG most g l n∧gaG most g l n≤n+((sumL (l.map c):Nat):Int)
 | [],h,n,hn=>⟨Int.le_refl _,by show n≤n+((0:Nat):Int);omega⟩
 | a::r,h,n,hn=>by
  unfold gaG;by_cases hm:n≤most
  · rw [if_pos hm];have h1:=h a mcS n hn hm;have h2:=gaG_le r (fun b hb=>h b (List.mem_cons_of_mem _ hb)) (g a n) (by omega);rw [List.map_cons];show _∧_≤n+((c a+sumL (r.map c):Nat):Int);omega
  · rw [if_neg hm];rw [List.map_cons];show _∧_≤n+((c a+sumL (r.map c):Nat):Int);omega
theorem q0T:∀ (h:Nat) (T:TT) (most:Int),0≤ptF h T most∧ptF h T most≤(tpN h T:Int)
 | 0,T,most=>⟨Int.le_refl _,by show (0:Int)≤((0:Nat):Int);omega⟩
 | h+1,T,most=>by
  have hA:=gaG_le (most:=most) (g:=fun (a:AR) n=>n+ptF h a.item (most-n)) (c:=fun a=>tpN h a.item) T.arrs (fun a _ n hn _=>by have:=q0T h a.item (most-n);show _∧n+_≤_;omega) (1+(T.texts.length:Int)+(T.nums.length:Int)) (by omega)
  have hO:=gaG_le (most:=most) (g:=fun (o:OB) n=>gaG most (fun t n=>n+ptF h t (most-n)) o.fields (n+(o.names.length:Int)+(o.must.length:Int)+ptF h o.rest (most-n))) (c:=fun o=>o.names.length+o.must.length+tpN h o.rest+sumL (o.fields.map (tpN h))) T.objs (fun o _ n hn _=>by
   have h1:=q0T h o.rest (most-n);have h2:=gaG_le (most:=most) (g:=fun (t:TT) n=>n+ptF h t (most-n)) (c:=tpN h) o.fields (fun t _ n hn _=>by have:=q0T h t (most-n);show _∧n+_≤_;omega) (n+(o.names.length:Int)+(o.must.length:Int)+ptF h o.rest (most-n)) (by omega);show n≤gaG most _ o.fields _∧gaG most _ o.fields _≤n+((o.names.length+o.must.length+tpN h o.rest+sumL (o.fields.map (tpN h)):Nat):Int);omega) (gaG most (fun a n=>n+ptF h a.item (most-n)) T.arrs (1+(T.texts.length:Int)+(T.nums.length:Int))) (by omega)
  show 0≤gaG most _ T.objs _∧gaG most _ T.objs _≤((1+T.texts.length+T.nums.length+sumL (T.arrs.map fun a=>tpN h a.item)+sumL (T.objs.map fun o=>o.names.length+o.must.length+tpN h o.rest+sumL (o.fields.map (tpN h))):Nat):Int);omega
theorem gaG_few {α:Type} {most:Int} {g: α→Int→Int} {c: α→Nat}:∀ (l:List α),(∀ a∈l,∀ n,0≤n→n≤most→(n+(c a:Int)≤most→g a n=n+(c a:Int))∧(most<n+(c a:Int)→most<g a n)∧0≤g a n)→∀ n,0≤n→(n+((sumL (l.map c):Nat):Int)≤most→gaG most g l n=n+((sumL (l.map c):Nat):Int))∧(most<n+((sumL (l.map c):Nat):Int)→most<gaG most g l n)
 | [],h,n,hn=>by
  show (n+((0:Nat):Int)≤most→n=n+((0:Nat):Int))∧(most<n+((0:Nat):Int)→most<n);omega
 | a::r,h,n,hn=>by
  unfold gaG;rw [List.map_cons];show (n+((c a+sumL (r.map c):Nat):Int)≤most→_=n+((c a+sumL (r.map c):Nat):Int))∧(most<n+((c a+sumL (r.map c):Nat):Int)→_);by_cases hm:n≤most
  · rw [if_pos hm];obtain ⟨h1,h2,h3⟩:=h a mcS n hn hm;have ih:=gaG_few r (fun b hb=>h b (List.mem_cons_of_mem _ hb)) (g a n) h3
    have hgt:most<g a n→gaG most g r (g a n)=g a n:=fun hg=>by
     cases r with
     | nil=>rfl
     | cons b r=>unfold gaG;rw [if_neg (by omega)]
    refine ⟨fun hle=> ?_,fun hle=> ?_⟩
    · have e1:=h1 (by omega);rw [e1] at ih ⊢;have:=ih.1 (by omega);omega
    · by_cases h4:n+(c a:Int)≤most
      · have e1:=h1 h4;rw [e1] at ih ⊢;exact ih.2 (by omega)
      · have e2:=h2 (by omega);rw [hgt e2];exact e2
  · rw [if_neg hm];omega
theorem pt_few:∀ (h:Nat) (T:TT) (most:Int),0≤most→((tpN h T:Int)≤most→ptF h T most=(tpN h T:Int))∧(most<(tpN h T:Int)→most<ptF h T most)
 | 0,T,most,h0=>⟨fun _=>rfl,fun h=>absurd h (by show ¬ most<((0:Nat):Int);omega)⟩
 | h+1,T,most,h0=>by
  have hA:=gaG_few (most:=most) (g:=fun (a:AR) n=>n+ptF h a.item (most-n)) (c:=fun a=>tpN h a.item) T.arrs (fun a _ n hn hm=>by
   have h1:=pt_few h a.item (most-n) (by omega);have h2:=q0T h a.item (most-n);refine ⟨fun hle=> ?_,fun hle=> ?_,?_⟩
   · show n+_=_;rw [h1.1 (by omega)]
   · show most<n+_;have:=h1.2 (by omega);omega
   · show 0≤n+_;omega) (1+(T.texts.length:Int)+(T.nums.length:Int)) (by omega)
  have hAle:=gaG_le (most:=most) (g:=fun (a:AR) n=>n+ptF h a.item (most-n)) (c:=fun a=>tpN h a.item) T.arrs (fun a _ n hn _=>by have:=q0T h a.item (most-n);show _∧n+_≤_;omega) (1+(T.texts.length:Int)+(T.nums.length:Int)) (by omega)
  have hO:=gaG_few (most:=most) (g:=fun (o:OB) n=>gaG most (fun t n=>n+ptF h t (most-n)) o.fields (n+(o.names.length:Int)+(o.must.length:Int)+ptF h o.rest (most-n))) (c:=fun o=>o.names.length+o.must.length+tpN h o.rest+sumL (o.fields.map (tpN h))) T.objs (fun o _ n hn hm=>by
   have h1:=pt_few h o.rest (most-n) (by omega);have h2:=q0T h o.rest (most-n)
   have h3:=gaG_few (most:=most) (g:=fun (t:TT) n=>n+ptF h t (most-n)) (c:=tpN h) o.fields (fun t _ n hn hm=>by
    have h1:=pt_few h t (most-n) (by omega);have h2:=q0T h t (most-n);refine ⟨fun hle=> ?_,fun hle=> ?_,?_⟩
    · show n+_=_;rw [h1.1 (by omega)]
    · show most<n+_;have:=h1.2 (by omega);omega
    · show 0≤n+_;omega) (n+(o.names.length:Int)+(o.must.length:Int)+ptF h o.rest (most-n)) (by omega)
   have h4:=gaG_le (most:=most) (g:=fun (t:TT) n=>n+ptF h t (most-n)) (c:=tpN h) o.fields (fun t _ n hn _=>by have:=q0T h t (most-n);show _∧n+_≤_;omega) (n+(o.names.length:Int)+(o.must.length:Int)+ptF h o.rest (most-n)) (by omega);show (n+((o.names.length+o.must.length+tpN h o.rest+sumL (o.fields.map (tpN h)):Nat):Int)≤most→gaG most _ o.fields _=n+((o.names.length+o.must.length+tpN h o.rest+sumL (o.fields.map (tpN h)):Nat):Int))∧(most<n+((o.names.length+o.must.length+tpN h o.rest+sumL (o.fields.map (tpN h)):Nat):Int)→most<gaG most _ o.fields _)∧0≤gaG most _ o.fields _;refine ⟨fun hle=> ?_,fun hle=> ?_,by omega⟩
   · have e1:=h1.1 (by omega);have e2:=h3.1 (by omega);omega
   · by_cases h5:(tpN h o.rest:Int)≤most-n
     · have e1:=h1.1 h5;exact h3.2 (by omega)
     · have e1:=h1.2 (by omega);omega) (gaG most (fun a n=>n+ptF h a.item (most-n)) T.arrs (1+(T.texts.length:Int)+(T.nums.length:Int))) (by omega)
  have hOle:=(q0T (h+1) T most);show (((1+T.texts.length+T.nums.length+sumL (T.arrs.map fun a=>tpN h a.item)+sumL (T.objs.map fun o=>o.names.length+o.must.length+tpN h o.rest+sumL (o.fields.map (tpN h))):Nat):Int)≤most→gaG most _ T.objs _=((1+T.texts.length+T.nums.length+sumL (T.arrs.map fun a=>tpN h a.item)+sumL (T.objs.map fun o=>o.names.length+o.must.length+tpN h o.rest+sumL (o.fields.map (tpN h))):Nat):Int))∧(most<((1+T.texts.length+T.nums.length+sumL (T.arrs.map fun a=>tpN h a.item)+sumL (T.objs.map fun o=>o.names.length+o.must.length+tpN h o.rest+sumL (o.fields.map (tpN h))):Nat):Int)→most<gaG most _ T.objs _);refine ⟨fun hle=> ?_,fun hle=> ?_⟩
  · have e1:=hA.1 (by omega);have e2:=hO.1 (by omega);omega
  · by_cases h5:1+(T.texts.length:Int)+(T.nums.length:Int)+((sumL (T.arrs.map fun a=>tpN h a.item):Nat):Int)≤most
    · have e1:=hA.1 h5;exact hO.2 (by omega)
    · have e1:=hA.2 (by omega);exact hO.2 (by omega)
theorem fit_dec (h:Nat) (T:TT):decide (ptF h T 20000≤20000)=decide (tpN h T≤20000):=by
 have:=pt_few h T 20000 (by omega);by_cases h1:tpN h T≤20000
 · rw [decide_eq_true h1,decide_eq_true (by have:=this.1 (by omega);omega)]
 · rw [decide_eq_false h1,decide_eq_false (by have:=this.2 (by omega);omega)]
structure TBx (w u:World) (a b c d e f g h i:Value):Prop where
 below:Below w.heap.size w u
 c0:u.cell? ⟨w.heap.size,0,none⟩=some a
 c1:u.cell? ⟨w.heap.size,1,none⟩=some b
 c2:u.cell? ⟨w.heap.size,2,none⟩=some c
 c3:u.cell? ⟨w.heap.size,3,none⟩=some d
 c4:u.cell? ⟨w.heap.size,4,none⟩=some e
 c5:u.cell? ⟨w.heap.size,5,none⟩=some f
 c6:u.cell? ⟨w.heap.size,6,none⟩=some g
 c7:u.cell? ⟨w.heap.size,7,none⟩=some h
 c8:u.cell? ⟨w.heap.size,8,none⟩=some i
 lt:w.heap.size<u.heap.size
theorem TBx.keep {w u u':World} {a b c d e f g h i:Value} (x:TBx w u a b c d e f g h i) (hb:Below u.heap.size u u'):TBx w u' a b c d e f g h i:=
 ⟨x.below.trans (hb.mono x.below.size),(hb.cell (p:=⟨_,_,_⟩) x.lt).trans x.c0,(hb.cell (p:=⟨_,_,_⟩) x.lt).trans x.c1,(hb.cell (p:=⟨_,_,_⟩) x.lt).trans x.c2,(hb.cell (p:=⟨_,_,_⟩) x.lt).trans x.c3,(hb.cell (p:=⟨_,_,_⟩) x.lt).trans x.c4,(hb.cell (p:=⟨_,_,_⟩) x.lt).trans x.c5,(hb.cell (p:=⟨_,_,_⟩) x.lt).trans x.c6,(hb.cell (p:=⟨_,_,_⟩) x.lt).trans x.c7,(hb.cell (p:=⟨_,_,_⟩) x.lt).trans x.c8,Nat.lt_of_lt_of_le x.lt hb.size⟩
theorem tbx_new (w:World) (a b c d e f g h i:Value):TBx w (w.alloc (.cells #[a,b,c,d,e,f,g,h,i] 27)) a b c d e f g h i:=
 ⟨(Below.refl _ _).alloc (Nat.le_refl _) _,by simp [go_sem],by simp [go_sem],by simp [go_sem],by simp [go_sem],by simp [go_sem],by simp [go_sem],by simp [go_sem],by simp [go_sem],by simp [go_sem],by simp⟩
end Go.Proofs.YtnokkmiaeacogaaGreat
