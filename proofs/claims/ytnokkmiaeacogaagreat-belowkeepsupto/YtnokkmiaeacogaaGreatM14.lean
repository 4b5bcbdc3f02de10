import Derived.Test.YtnokkmiaeacogaaGreatM13
import Derived.Test.YtnokkmiaeacogaaGreatM1
import Derived.Lib.QuietBelow
import Derived.BigQuiet
set_option linter.unusedVariables false
set_option linter.unusedSimpArgs false
namespace Go.Proofs.YtnokkmiaeacogaaGreat
open Go.RowKit Go.Sort
attribute [local go_sem] Oper.semAt_some
set_option maxRecDepth 100000
set_option maxHeartbeats 12800000
def abv (a b:ByteArray):Bool:=decide (0<Pl.cmpN a.data.toList b.data.toList)
theorem w_above (a b:ByteArray) (w:World) (ha:a.size≤140737488355328) (hb:b.size≤140737488355328):
 Calls Tryz.prog 143 #[.string a,.string b] w fun e w'=>e= .returned (.bool (abv a b))∧Below w.heap.size w w':=by
 have HC:=hQz (fun u=>w_Cmp a b u (by simp [maxLen];omega) (by simp [maxLen];omega));have HA:Hid (∀ c,Pl.cmpN a.data.toList b.data.toList=c→abv a b=decide (0<c)):=fun c h=>by rw [← h];rfl
 generalize Pl.cmpN a.data.toList b.data.toList=c at HC HA;generalize Pl.errN a.data.toList b.data.toList=c2 at HC;rw [HA.out c rfl];clear HA;go_enter Tryz.func143,Tryz.ntmps143;go_wp2_with fail;refine (HC.out _).mono ?_;rintro e w1 ⟨rfl,hb1⟩;have HB:=hQz hb1;clear hb1;go_wp2_with fail;go_ret;exact ⟨by first|rfl|simp,HB.out⟩
structure SBx (w u:World) (a b c d:Value):Prop where
 below:Below w.heap.size w u
 c0:u.cell? ⟨w.heap.size,0,none⟩=some a
 c1:u.cell? ⟨w.heap.size,1,none⟩=some b
 c2:u.cell? ⟨w.heap.size+1,0,none⟩=some c
 c3:u.cell? ⟨w.heap.size+1,1,none⟩=some d
 lt:w.heap.size+1<u.heap.size
theorem SBx.keep {w u u':World} {a b c d:Value} (x:SBx w u a b c d) (hb:Below u.heap.size u u'):SBx w u' a b c d:=
 ⟨x.below.trans (hb.mono x.below.size),(hb.cell (p:=⟨_,_,_⟩) (by have:=x.lt;show w.heap.size<_;omega)).trans x.c0,(hb.cell (p:=⟨_,_,_⟩) (by have:=x.lt;show w.heap.size<_;omega)).trans x.c1,(hb.cell (p:=⟨_,_,_⟩) x.lt).trans x.c2,(hb.cell (p:=⟨_,_,_⟩) x.lt).trans x.c3,Nat.lt_of_lt_of_le x.lt hb.size⟩
theorem sbx_new (w:World) (a b c d:Value):SBx w ((w.alloc (.cells #[a,b] 83)).alloc (.cells #[c,d] 83)) a b c d:=
 ⟨((Below.refl _ _).alloc (Nat.le_refl _) _).alloc (by simp) _,by simp [go_sem],by simp [go_sem],by simp [go_sem],by simp [go_sem],by simp⟩
structure S1x (w u:World) (a b:Value):Prop where
 below:Below w.heap.size w u
 c0:u.cell? ⟨w.heap.size,0,none⟩=some a
 c1:u.cell? ⟨w.heap.size,1,none⟩=some b
 lt:w.heap.size<u.heap.size
theorem S1x.keep {w u u':World} {a b:Value} (x:S1x w u a b) (hb:Below u.heap.size u u'):S1x w u' a b:=
 ⟨x.below.trans (hb.mono x.below.size),(hb.cell (p:=⟨_,_,_⟩) x.lt).trans x.c0,(hb.cell (p:=⟨_,_,_⟩) x.lt).trans x.c1,Nat.lt_of_lt_of_le x.lt hb.size⟩
theorem s1x_new (w:World) (a b:Value):S1x w (w.alloc (.cells #[a,b] 83)) a b:=
 ⟨(Below.refl _ _).alloc (Nat.le_refl _) _,by simp [go_sem],by simp [go_sem],by simp⟩
theorem bspan_v (al ah bl bh:ByteArray) (w:World) (p q r:Bool)
 (H1:Hid (∀ u,Calls Tryz.prog 143 #[.string al,.string ah] u fun e w'=>e= .returned (.bool p)∧Below u.heap.size u w'))
 (H2:Hid (∀ u,Calls Tryz.prog 143 #[.string bl,.string al] u fun e w'=>e= .returned (.bool q)∧Below u.heap.size u w'))
 (H3:Hid (∀ u,Calls Tryz.prog 143 #[.string ah,.string bh] u fun e w'=>e= .returned (.bool r)∧Below u.heap.size u w'))
 : Calls Tryz.prog 133 #[.agg #[.string al,.string ah],.agg #[.string bl,.string bh]] w fun e w'=>e= .returned (.bool (p||((bl.toList.isEmpty||(!al.toList.isEmpty&& !q))&&(bh.toList.isEmpty||(!ah.toList.isEmpty&& !r)))))∧Below w.heap.size w w':=by
 obtain ⟨W0,hW0⟩:∃ W0,(w.alloc (.cells #[.string al,.string ah] 83)).alloc (.cells #[.string bl,.string bh] 83)=W0:=⟨_,rfl⟩;have HX0:=hQz (sbx_new w (.string al) (.string ah) (.string bl) (.string bh));rw [hW0] at HX0;obtain ⟨_,c0_0,c0_1,c0_2,c0_3,_⟩:=HX0.out;go_enter Tryz.func133,Tryz.ntmps133;go_wp2_with fail;refine (H1.out _).mono ?_;rintro e v1 ⟨rfl,hq⟩;have HX1:=hQz (HX0.out.keep hq);obtain ⟨_,c1_0,c1_1,c1_2,c1_3,_⟩:=HX1.out;clear hq c0_0 c0_1 c0_2 c0_3 hW0
 cases p
 · skip
   by_cases e_bl:bl.toList=[]
   · skip
     by_cases e_bh:bh.toList=[]
     · skip
       go_wp2_with fail;go_ret;exact ⟨by simp [*],HX1.out.below⟩
     · skip
       by_cases e_ah:ah.toList=[]
       · skip
         go_wp2_with fail;go_ret;exact ⟨by simp [*],HX1.out.below⟩
       · skip
         cases r
         · skip
           go_wp2_with fail;refine (H3.out _).mono ?_;rintro e v2 ⟨rfl,hq⟩;have HX2:=hQz (HX1.out.keep hq);obtain ⟨_,c2_0,c2_1,c2_2,c2_3,_⟩:=HX2.out;clear hq c1_0 c1_1 c1_2 c1_3;go_wp2_with fail;go_ret;exact ⟨by simp [*],HX2.out.below⟩
         · skip
           go_wp2_with fail;refine (H3.out _).mono ?_;rintro e v2 ⟨rfl,hq⟩;have HX2:=hQz (HX1.out.keep hq);obtain ⟨_,c2_0,c2_1,c2_2,c2_3,_⟩:=HX2.out;clear hq c1_0 c1_1 c1_2 c1_3;go_wp2_with fail;go_ret;exact ⟨by simp [*],HX2.out.below⟩
   · skip
     by_cases e_al:al.toList=[]
     · skip
       by_cases e_bh:bh.toList=[]
       · skip
         go_wp2_with fail;go_ret;exact ⟨by simp [*],HX1.out.below⟩
       · skip
         by_cases e_ah:ah.toList=[]
         · skip
           go_wp2_with fail;go_ret;exact ⟨by simp [*],HX1.out.below⟩
         · skip
           cases r
           · skip
             go_wp2_with fail;refine (H3.out _).mono ?_;rintro e v2 ⟨rfl,hq⟩;have HX2:=hQz (HX1.out.keep hq);obtain ⟨_,c2_0,c2_1,c2_2,c2_3,_⟩:=HX2.out;clear hq c1_0 c1_1 c1_2 c1_3;go_wp2_with fail;go_ret;exact ⟨by simp [*],HX2.out.below⟩
           · skip
             go_wp2_with fail;refine (H3.out _).mono ?_;rintro e v2 ⟨rfl,hq⟩;have HX2:=hQz (HX1.out.keep hq);obtain ⟨_,c2_0,c2_1,c2_2,c2_3,_⟩:=HX2.out;clear hq c1_0 c1_1 c1_2 c1_3;go_wp2_with fail;go_ret;exact ⟨by simp [*],HX2.out.below⟩
     · skip
       cases q
       · skip
         go_wp2_with fail;refine (H2.out _).mono ?_;rintro e v2 ⟨rfl,hq⟩;have HX2:=hQz (HX1.out.keep hq);obtain ⟨_,c2_0,c2_1,c2_2,c2_3,_⟩:=HX2.out;clear hq c1_0 c1_1 c1_2 c1_3;by_cases e_bh:bh.toList=[]
         · skip
           go_wp2_with fail;go_ret;exact ⟨by simp [*],HX2.out.below⟩
         · skip
           by_cases e_ah:ah.toList=[]
           · skip
             go_wp2_with fail;go_ret;exact ⟨by simp [*],HX2.out.below⟩
           · skip
             cases r
             · skip
               go_wp2_with fail;refine (H3.out _).mono ?_;rintro e v3 ⟨rfl,hq⟩;have HX3:=hQz (HX2.out.keep hq);obtain ⟨_,c3_0,c3_1,c3_2,c3_3,_⟩:=HX3.out;clear hq c2_0 c2_1 c2_2 c2_3;go_wp2_with fail;go_ret;exact ⟨by simp [*],HX3.out.below⟩
             · skip
               go_wp2_with fail;refine (H3.out _).mono ?_;rintro e v3 ⟨rfl,hq⟩;have HX3:=hQz (HX2.out.keep hq);obtain ⟨_,c3_0,c3_1,c3_2,c3_3,_⟩:=HX3.out;clear hq c2_0 c2_1 c2_2 c2_3;go_wp2_with fail;go_ret;exact ⟨by simp [*],HX3.out.below⟩
       · skip
         go_wp2_with fail;refine (H2.out _).mono ?_;rintro e v2 ⟨rfl,hq⟩;have HX2:=hQz (HX1.out.keep hq);obtain ⟨_,c2_0,c2_1,c2_2,c2_3,_⟩:=HX2.out;clear hq c1_0 c1_1 c1_2 c1_3;by_cases e_bh:bh.toList=[]
         · skip
           go_wp2_with fail;go_ret;exact ⟨by simp [*],HX2.out.below⟩
         · skip
           by_cases e_ah:ah.toList=[]
           · skip
             go_wp2_with fail;go_ret;exact ⟨by simp [*],HX2.out.below⟩
           · skip
             cases r
             · skip
               go_wp2_with fail;refine (H3.out _).mono ?_;rintro e v3 ⟨rfl,hq⟩;have HX3:=hQz (HX2.out.keep hq);obtain ⟨_,c3_0,c3_1,c3_2,c3_3,_⟩:=HX3.out;clear hq c2_0 c2_1 c2_2 c2_3;go_wp2_with fail;go_ret;exact ⟨by simp [*],HX3.out.below⟩
             · skip
               go_wp2_with fail;refine (H3.out _).mono ?_;rintro e v3 ⟨rfl,hq⟩;have HX3:=hQz (HX2.out.keep hq);obtain ⟨_,c3_0,c3_1,c3_2,c3_3,_⟩:=HX3.out;clear hq c2_0 c2_1 c2_2 c2_3;go_wp2_with fail;go_ret;exact ⟨by simp [*],HX3.out.below⟩
 · skip
   go_wp2_with fail;go_ret;exact ⟨by simp [*],HX1.out.below⟩
theorem hollow_v (al ah:ByteArray) (w:World) (c:Int)
 (H1:Hid (¬ al.toList=[]→¬ ah.toList=[]→∀ u,Calls Tryz.prog 98 #[.string al,.string ah] u fun e w'=>e= .returned (.int .i64 c)∧Below u.heap.size u w'))
 : Calls Tryz.prog 100 #[.agg #[.string al,.string ah]] w fun e w'=>e= .returned (.bool (!al.toList.isEmpty&&(!ah.toList.isEmpty&&decide (0<c))))∧Below w.heap.size w w':=by
 obtain ⟨W0,hW0⟩:∃ W0,w.alloc (.cells #[.string al,.string ah] 83)=W0:=⟨_,rfl⟩;have HX0:=hQz (s1x_new w (.string al) (.string ah));rw [hW0] at HX0;obtain ⟨_,c0_0,c0_1,_⟩:=HX0.out;go_enter Tryz.func100,Tryz.ntmps100;by_cases e_al:al.toList=[]
 · have i_al:al.toList.isEmpty=true:=by rw [e_al];rfl
   go_wp2_with fail;go_ret;exact ⟨by first|(simp only [i_al];rfl)|(simp [*];done)|(simp [*];omega),HX0.out.below⟩
 · have i_al:al.toList.isEmpty=false:=by cases h:al.toList with|nil=>exact absurd h e_al|cons=>rfl
   by_cases e_ah:ah.toList=[]
   · have i_ah:ah.toList.isEmpty=true:=by rw [e_ah];rfl
     go_wp2_with fail;go_ret;exact ⟨by first|(simp only [i_al,i_ah];rfl)|(simp [*];done)|(simp [*];omega),HX0.out.below⟩
   · have i_ah:ah.toList.isEmpty=false:=by cases h:ah.toList with|nil=>exact absurd h e_ah|cons=>rfl
     by_cases hc:0<c
     · have d_hc:=decide_eq_true hc;go_wp2_with fail;refine (H1.out e_al e_ah _).mono ?_;rintro e v1 ⟨rfl,hq⟩;have HX1:=hQz (HX0.out.keep hq);obtain ⟨_,c1_0,c1_1,_⟩:=HX1.out;clear hq c0_0 c0_1 hW0;go_wp2_with fail;go_ret;exact ⟨by first|(simp only [i_al,i_ah,d_hc];rfl)|(simp [*];done)|(simp [*];omega),HX1.out.below⟩
     · have d_hc:=decide_eq_false hc;go_wp2_with fail;refine (H1.out e_al e_ah _).mono ?_;rintro e v1 ⟨rfl,hq⟩;have HX1:=hQz (HX0.out.keep hq);obtain ⟨_,c1_0,c1_1,_⟩:=HX1.out;clear hq c0_0 c0_1 hW0;go_wp2_with fail;go_ret;exact ⟨by first|(simp only [i_al,i_ah,d_hc];rfl)|(simp [*];done)|(simp [*];omega),HX1.out.below⟩
theorem rspan_v (al ah bl bh:ByteArray) (w:World) (p:Bool) (c d:Int)
 (H1:Hid (∀ u,Calls Tryz.prog 100 #[.agg #[.string al,.string ah]] u fun e w'=>e= .returned (.bool p)∧Below u.heap.size u w'))
 (H2:Hid (¬ bl.toList=[]→¬ al.toList=[]→∀ u,Calls Tryz.prog 98 #[.string al,.string bl] u fun e w'=>e= .returned (.int .i64 c)∧Below u.heap.size u w'))
 (H3:Hid (¬ bh.toList=[]→¬ ah.toList=[]→∀ u,Calls Tryz.prog 98 #[.string ah,.string bh] u fun e w'=>e= .returned (.int .i64 d)∧Below u.heap.size u w'))
 : Calls Tryz.prog 52 #[.agg #[.string al,.string ah],.agg #[.string bl,.string bh]] w fun e w'=>e= .returned (.bool (p||(!(!bl.toList.isEmpty&&(al.toList.isEmpty||decide (c<0)))&&(bh.toList.isEmpty||(!ah.toList.isEmpty&&decide (d≤0))))))∧Below w.heap.size w w':=by
 obtain ⟨W0,hW0⟩:∃ W0,(w.alloc (.cells #[.string al,.string ah] 83)).alloc (.cells #[.string bl,.string bh] 83)=W0:=⟨_,rfl⟩;have HX0:=hQz (sbx_new w (.string al) (.string ah) (.string bl) (.string bh));rw [hW0] at HX0;obtain ⟨_,c0_0,c0_1,c0_2,c0_3,_⟩:=HX0.out;go_enter Tryz.func52,Tryz.ntmps52;go_wp2_with fail;refine (H1.out _).mono ?_;rintro e v1 ⟨rfl,hq⟩;have HX1:=hQz (HX0.out.keep hq);obtain ⟨_,c1_0,c1_1,c1_2,c1_3,_⟩:=HX1.out;clear hq c0_0 c0_1 c0_2 c0_3 hW0
 cases p
 · skip
   by_cases e_bl:bl.toList=[]
   · have i_bl:bl.toList.isEmpty=true:=by rw [e_bl];rfl
     by_cases e_bh:bh.toList=[]
     · have i_bh:bh.toList.isEmpty=true:=by rw [e_bh];rfl
       go_wp2_with fail;go_ret;exact ⟨by first|(simp only [i_bl,i_bh];rfl)|(simp [*];done)|(simp [*];omega),HX1.out.below⟩
     · have i_bh:bh.toList.isEmpty=false:=by cases h:bh.toList with|nil=>exact absurd h e_bh|cons=>rfl
       by_cases e_ah:ah.toList=[]
       · have i_ah:ah.toList.isEmpty=true:=by rw [e_ah];rfl
         go_wp2_with fail;go_ret;exact ⟨by first|(simp only [i_bl,i_bh,i_ah];rfl)|(simp [*];done)|(simp [*];omega),HX1.out.below⟩
       · have i_ah:ah.toList.isEmpty=false:=by cases h:ah.toList with|nil=>exact absurd h e_ah|cons=>rfl
         by_cases hd:d≤0
         · have d_hd:=decide_eq_true hd;go_wp2_with fail;refine (H3.out e_bh e_ah _).mono ?_;rintro e v2 ⟨rfl,hq⟩;have HX2:=hQz (HX1.out.keep hq);obtain ⟨_,c2_0,c2_1,c2_2,c2_3,_⟩:=HX2.out;clear hq c1_0 c1_1 c1_2 c1_3;go_wp2_with fail;go_ret;exact ⟨by first|(simp only [i_bl,i_bh,i_ah,d_hd];rfl)|(simp [*];done)|(simp [*];omega),HX2.out.below⟩
         · have d_hd:=decide_eq_false hd;go_wp2_with fail;refine (H3.out e_bh e_ah _).mono ?_;rintro e v2 ⟨rfl,hq⟩;have HX2:=hQz (HX1.out.keep hq);obtain ⟨_,c2_0,c2_1,c2_2,c2_3,_⟩:=HX2.out;clear hq c1_0 c1_1 c1_2 c1_3;go_wp2_with fail;go_ret;exact ⟨by first|(simp only [i_bl,i_bh,i_ah,d_hd];rfl)|(simp [*];done)|(simp [*];omega),HX2.out.below⟩
   · have i_bl:bl.toList.isEmpty=false:=by cases h:bl.toList with|nil=>exact absurd h e_bl|cons=>rfl
     by_cases e_al:al.toList=[]
     · have i_al:al.toList.isEmpty=true:=by rw [e_al];rfl
       go_wp2_with fail;go_ret;exact ⟨by first|(simp only [i_bl,i_al];rfl)|(simp [*];done)|(simp [*];omega),HX1.out.below⟩
     · have i_al:al.toList.isEmpty=false:=by cases h:al.toList with|nil=>exact absurd h e_al|cons=>rfl
       by_cases hc:c<0
       · have d_hc:=decide_eq_true hc;go_wp2_with fail;refine (H2.out e_bl e_al _).mono ?_;rintro e v2 ⟨rfl,hq⟩;have HX2:=hQz (HX1.out.keep hq);obtain ⟨_,c2_0,c2_1,c2_2,c2_3,_⟩:=HX2.out;clear hq c1_0 c1_1 c1_2 c1_3;go_wp2_with fail;go_ret;exact ⟨by first|(simp only [i_bl,i_al,d_hc];rfl)|(simp [*];done)|(simp [*];omega),HX2.out.below⟩
       · have d_hc:=decide_eq_false hc;go_wp2_with fail;refine (H2.out e_bl e_al _).mono ?_;rintro e v2 ⟨rfl,hq⟩;have HX2:=hQz (HX1.out.keep hq);obtain ⟨_,c2_0,c2_1,c2_2,c2_3,_⟩:=HX2.out;clear hq c1_0 c1_1 c1_2 c1_3;by_cases e_bh:bh.toList=[]
         · have i_bh:bh.toList.isEmpty=true:=by rw [e_bh];rfl
           go_wp2_with fail;go_ret;exact ⟨by first|(simp only [i_bl,i_al,d_hc,i_bh];rfl)|(simp [*];done)|(simp [*];omega),HX2.out.below⟩
         · have i_bh:bh.toList.isEmpty=false:=by cases h:bh.toList with|nil=>exact absurd h e_bh|cons=>rfl
           by_cases e_ah:ah.toList=[]
           · have i_ah:ah.toList.isEmpty=true:=by rw [e_ah];rfl
             go_wp2_with fail;go_ret;exact ⟨by first|(simp only [i_bl,i_al,d_hc,i_bh,i_ah];rfl)|(simp [*];done)|(simp [*];omega),HX2.out.below⟩
           · have i_ah:ah.toList.isEmpty=false:=by cases h:ah.toList with|nil=>exact absurd h e_ah|cons=>rfl
             by_cases hd:d≤0
             · have d_hd:=decide_eq_true hd;go_wp2_with fail;refine (H3.out e_bh e_ah _).mono ?_;rintro e v3 ⟨rfl,hq⟩;have HX3:=hQz (HX2.out.keep hq);obtain ⟨_,c3_0,c3_1,c3_2,c3_3,_⟩:=HX3.out;clear hq c2_0 c2_1 c2_2 c2_3;go_wp2_with fail;go_ret;exact ⟨by first|(simp only [i_bl,i_al,d_hc,i_bh,i_ah,d_hd];rfl)|(simp [*];done)|(simp [*];omega),HX3.out.below⟩
             · have d_hd:=decide_eq_false hd;go_wp2_with fail;refine (H3.out e_bh e_ah _).mono ?_;rintro e v3 ⟨rfl,hq⟩;have HX3:=hQz (HX2.out.keep hq);obtain ⟨_,c3_0,c3_1,c3_2,c3_3,_⟩:=HX3.out;clear hq c2_0 c2_1 c2_2 c2_3;go_wp2_with fail;go_ret;exact ⟨by first|(simp only [i_bl,i_al,d_hc,i_bh,i_ah,d_hd];rfl)|(simp [*];done)|(simp [*];omega),HX3.out.below⟩
 · skip
   go_wp2_with fail;go_ret;exact ⟨by first|(simp only [];rfl)|(simp [*];done)|(simp [*];omega),HX1.out.below⟩
def bdB (s:ByteArray):Bool:=s.toList.isEmpty||Pl.formed s.data.toList
theorem q0q {s:ByteArray} (h:bdB s=true) (h2:¬ s.toList=[]):Pl.formed s.data.toList=true:=by
 unfold bdB at h
 cases hh:s.toList with
 | nil=>exact absurd hh h2
 | cons a r=>rw [hh] at h;simpa using h
theorem formed_none {s:ByteArray} (h:s.toList.isEmpty=true):Pl.formed s.data.toList=false:=by
 rw [Lib.toList_data] at h;rw [List.isEmpty_iff.1 h];rfl
theorem abv_l {a b:ByteArray} (h:a.toList.isEmpty=true):abv a b=false:=by
 unfold abv Pl.cmpN;rw [formed_none h];rfl
theorem abv_r {a b:ByteArray} (h:b.toList.isEmpty=true):abv a b=false:=by
 unfold abv Pl.cmpN;rw [formed_none h,Bool.and_false];rfl
def inS (al ah bl bh:ByteArray):Bool:=
 (!al.toList.isEmpty&&(!ah.toList.isEmpty&&decide (0<numC al ah)))||(!(!bl.toList.isEmpty&&(al.toList.isEmpty||decide (numC al bl<0)))&&(bh.toList.isEmpty||(!ah.toList.isEmpty&&decide (numC ah bh≤0))))
theorem inS_prog {al ah bl bh:ByteArray} (h1:bdB al=true) (h2:bdB ah=true) (h3:bdB bl=true) (h4:bdB bh=true):
 (abv al ah||((bl.toList.isEmpty||(!al.toList.isEmpty&& !abv bl al))&&(bh.toList.isEmpty||(!ah.toList.isEmpty&& !abv ah bh))))=inS al ah bl bh:=by
 have sw:∀ a b:ByteArray,bdB a=true→bdB b=true→a.toList.isEmpty=false→b.toList.isEmpty=false→abv b a=decide (numC a b<0):=fun a b ha hb ea eb=>by
  have:=numC_ord.sw a b (q0q ha (fun h=>by rw [h] at ea;cases ea)) (q0q hb (fun h=>by rw [h] at eb;cases eb));unfold abv;show decide (0<numC b a)=_;rw [this];exact decide_eq_decide.2 (by omega)
 have nt:∀ a b:ByteArray,(!abv a b)=decide (numC a b≤0):=fun a b=>by
  show (!decide (0<numC a b))=_;by_cases h:0<numC a b
  · rw [decide_eq_true h,decide_eq_false (by omega)];rfl
  · rw [decide_eq_false h,decide_eq_true (by omega)];rfl
 have e1:abv al ah=(!al.toList.isEmpty&&(!ah.toList.isEmpty&&decide (0<numC al ah))):=by
  cases ea:al.toList.isEmpty with
  | true=>rw [abv_l ea];rfl
  | false=>
   cases eb:ah.toList.isEmpty with
   | true=>rw [abv_r eb];rfl
   | false=>rfl
 have e2:(bl.toList.isEmpty||(!al.toList.isEmpty&& !abv bl al))= !(!bl.toList.isEmpty&&(al.toList.isEmpty||decide (numC al bl<0))):=by
  cases eb:bl.toList.isEmpty with
  | true=>rfl
  | false=>
   cases ea:al.toList.isEmpty with
   | true=>rfl
   | false=>rw [sw al bl h1 h3 ea eb];rfl
 unfold inS;rw [e1,e2,nt ah bh]
theorem w_bSpan (al ah bl bh:ByteArray) (w:World) (h1:al.size≤140737488355328) (h2:ah.size≤140737488355328) (h3:bl.size≤140737488355328) (h4:bh.size≤140737488355328):
 Calls Tryz.prog 133 #[.agg #[.string al,.string ah],.agg #[.string bl,.string bh]] w fun e w'=>
  e= .returned (.bool (abv al ah||((bl.toList.isEmpty||(!al.toList.isEmpty&& !abv bl al))&&(bh.toList.isEmpty||(!ah.toList.isEmpty&& !abv ah bh)))))∧Below w.heap.size w w':=
 bspan_v al ah bl bh w _ _ _ (hQz fun u=>w_above al ah u h1 h2) (hQz fun u=>w_above bl al u h3 h1) (hQz fun u=>w_above ah bh u h2 h4)
theorem w_rSpan (al ah bl bh:ByteArray) (w:World) (h1:al.size≤140737488355328) (h2:ah.size≤140737488355328) (h3:bl.size≤140737488355328) (h4:bh.size≤140737488355328) (b1:bdB al=true) (b2:bdB ah=true) (b3:bdB bl=true) (b4:bdB bh=true):
 Calls Tryz.prog 52 #[.agg #[.string al,.string ah],.agg #[.string bl,.string bh]] w fun e w'=>e= .returned (.bool (inS al ah bl bh))∧Below w.heap.size w w':=
 rspan_v al ah bl bh w _ _ _ (hQz fun u=>hollow_v al ah u _ (hQz fun e1 e2 u=>w_Numbers al ah u (q0q b1 e1) (q0q b2 e2) h1 h2)) (hQz fun e1 e2 u=>w_Numbers al bl u (q0q b1 e2) (q0q b3 e1) h1 h3) (hQz fun e1 e2 u=>w_Numbers ah bh u (q0q b2 e2) (q0q b4 e1) h2 h4)
end Go.Proofs.YtnokkmiaeacogaaGreat
