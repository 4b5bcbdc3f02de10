import Derived.Test.YtnokkmiaeacogaaGreatM11
import Derived.Test.YtnokkmiaeacogaaGreatM10
import Derived.Test.YtnokkmiaeacogaaGreatM1
import Derived.Deep.RegionHeld3
import Derived.Laws.EntriesVeiled
import Derived.Deep.QuietTactic
set_option linter.unusedVariables false
set_option linter.unusedSimpArgs false
namespace Go.Proofs.YtnokkmiaeacogaaGreat
open Go.RowKit
set_option maxRecDepth 100000
set_option maxHeartbeats 12800000
theorem VB2.drew {w u:World} {a b c d e b' c' d' e':Value} (h:VB2 w u a b c d e b' c' d' e'):VB2 w u.drew a b c d e b' c' d' e':=⟨h.one.drew,h.two.drew⟩
structure VCm (w w2 u:World) (k:Nat) (f a b c d e b' c' d' e':Value):Prop where
 v:VB2 w u a b c d e b' c' d' e'
 way:u.cell? ⟨w2.heap.size,k,none⟩=some f
 lt:w2.heap.size<u.heap.size
theorem VCm.keep {w w2 u u':World} {k:Nat} {f a b c d e b' c' d' e':Value} (h:VCm w w2 u k f a b c d e b' c' d' e') (hb:Below u.heap.size u u'):VCm w w2 u' k f a b c d e b' c' d' e':=
 ⟨h.v.keep hb,(hb.cell (p:=⟨_,_,_⟩) h.lt).trans h.way,Nat.lt_of_lt_of_le h.lt hb.size⟩
theorem VCm.drew {w w2 u:World} {k:Nat} {f a b c d e b' c' d' e':Value} (h:VCm w w2 u k f a b c d e b' c' d' e'):VCm w w2 u.drew k f a b c d e b' c' d' e':=⟨h.v.drew,h.way,h.lt⟩
theorem w_rTexts (a b:ByteArray) (w:World):
 Calls Tryz.prog 130 #[.string a,.string b] w fun e w'=>e= .returned (.int .i64 (keyC a b))∧w'=w:=by
 cases h1:Op.bytesLess a.toList b.toList with
 | true=>
  have HX:Hid (keyC a b= -1):=by show _=_;simp [keyC,Pl.cmpS,h1]
  go_enter Tryz.func130,Tryz.ntmps130;go_wp2_with fail;go_ret;exact ⟨by rw [HX.out];rfl,rfl⟩
 | false=>
  cases h2:(a.toList==b.toList) with
  | false=>
   have HX:Hid (keyC a b=1):=by show _=_;simp [keyC,Pl.cmpS,h1,h2]
   go_enter Tryz.func130,Tryz.ntmps130;go_wp2_with fail;go_ret;exact ⟨by rw [HX.out];rfl,rfl⟩
  | true=>
   have HX:Hid (keyC a b=0):=by show _=_;simp [keyC,Pl.cmpS,h1,h2]
   go_enter Tryz.func130,Tryz.ntmps130;go_wp2_with fail;go_ret;exact ⟨by rw [HX.out];rfl,rfl⟩
theorem cmpS_key (a b:ByteArray):Pl.cmpS a.data.toList b.data.toList=keyC a b:=by unfold keyC;rw [Lib.toList_data,Lib.toList_data]
theorem first45 (s:ByteArray) (h:0<s.size):(((s[0].toNat:Nat):Int)==45)=Pl.neg s.data.toList:=by
 rw [Pl.neg_of s h];by_cases e:s[0].toNat=45
 · simp [e]
 · rw [decide_eq_false e,bqZ];omega
theorem w_Numbers_pos (a b:ByteArray) (w:World) (ha:0<a.size) (hb:0<b.size) (na:Pl.neg a.data.toList=false) (nb:Pl.neg b.data.toList=false) (sa:a.size≤140737488355328) (sb:b.size≤140737488355328):
 Calls Tryz.prog 98 #[.string a,.string b] w fun e w'=>e= .returned (.int .i64 (Pl.cmpT a.data.toList b.data.toList))∧w'=w:=by
 have h1:=first45 a ha;have h2:=first45 b hb;rw [na] at h1;rw [nb] at h2;have i1:(0:Int)<(a.size:Int):=by omega
 have i2:(0:Int)<(b.size:Int):=by omega
 have la:a.data.toList.length=a.size:=by rw [Array.length_toList];rfl
 have lb:b.data.toList.length=b.size:=by rw [Array.length_toList];rfl
 by_cases hl:a.size<b.size
 · have HX:Hid (Pl.cmpT a.data.toList b.data.toList= -1):=by show _=_;unfold Pl.cmpT;rw [if_pos (by rw [la,lb];exact hl)]
   have g1:((a.size:Int) != (b.size:Int))=true:=by simp;omega
   have g2:(a.size:Int)<(b.size:Int):=by omega
   clear na nb la lb hl;go_enter Tryz.func98,Tryz.ntmps98;go_wp2_with fail;go_ret;exact ⟨by rw [HX.out];rfl,rfl⟩
 · by_cases hg:b.size<a.size
   · have HX:Hid (Pl.cmpT a.data.toList b.data.toList=1):=by show _=_;unfold Pl.cmpT;rw [if_neg (by rw [la,lb];exact hl),if_pos (by rw [la,lb];exact hg)]
     have g1:((a.size:Int) != (b.size:Int))=true:=by simp;omega
     have g2:¬ (a.size:Int)<(b.size:Int):=by omega
     clear na nb la lb hl hg;go_enter Tryz.func98,Tryz.ntmps98;go_wp2_with fail;go_ret;exact ⟨by rw [HX.out];rfl,rfl⟩
   · have HX:Hid (Pl.cmpT a.data.toList b.data.toList=keyC a b):=by show _=_;unfold Pl.cmpT;rw [if_neg (by rw [la,lb];exact hl),if_neg (by rw [la,lb];exact hg)];exact cmpS_key a b
     have g1:((a.size:Int) != (b.size:Int))=false:=by simp;omega
     have HT:=hQz (fun u=>w_rTexts a b u);generalize keyC a b=c at HX HT;clear na nb la lb hl hg;go_enter Tryz.func98,Tryz.ntmps98;go_wp2_with fail;refine (HT.out _).mono ?_;rintro e w1 ⟨rfl,hw⟩;obtain rfl:=hw.symm;go_wp2_with fail;go_ret;exact ⟨by rw [HX.out];rfl,rfl⟩
theorem w_Numbers (a b:ByteArray) (w:World) (fa:Pl.formed a.data.toList=true) (fb:Pl.formed b.data.toList=true) (sa:a.size≤140737488355328) (sb:b.size≤140737488355328):
 Calls Tryz.prog 98 #[.string a,.string b] w fun e w'=>e= .returned (.int .i64 (numC a b))∧Below w.heap.size w w':=by
 have pos:∀ s:ByteArray,Pl.formed s.data.toList=true→0<s.size:=fun s hf=>by
  rcases Nat.eq_zero_or_pos s.size with h0|h0
  · have:s.data.toList=[]:=List.eq_nil_of_length_eq_zero (by rw [Array.length_toList];exact h0);rw [this] at hf;cases hf
  · exact h0
 have ha:=pos a fa;have hb:=pos b fb
 have hN:numC a b=if Pl.neg a.data.toList then (if Pl.neg b.data.toList then Pl.cmpT (Pl.body b.data.toList) (Pl.body a.data.toList) else -1) else if Pl.neg b.data.toList then 1 else Pl.cmpT (Pl.body a.data.toList) (Pl.body b.data.toList):=by
  unfold numC Pl.cmpN;rw [fa,fb];rfl
 have h1:=first45 a ha;have h2:=first45 b hb;have i1:(0:Int)<(a.size:Int):=by omega
 have i2:(0:Int)<(b.size:Int):=by omega
 cases na:Pl.neg a.data.toList with
 | false=>
  cases nb:Pl.neg b.data.toList with
  | false=>
   rw [na,nb] at hN;have ba:Pl.body a.data.toList=a.data.toList:=by unfold Pl.body;rw [na];rfl
   have bb:Pl.body b.data.toList=b.data.toList:=by unfold Pl.body;rw [nb];rfl
   rw [hN,ba,bb];exact (w_Numbers_pos a b w ha hb na nb sa sb).mono fun e w' ⟨he,hw⟩=>⟨he,by rw [hw];exact Below.refl _ _⟩
  | true=>
   rw [na] at h1;rw [nb] at h2;have HX:Hid (numC a b=1):=by show _=_;rw [hN,na,nb];rfl
   clear na nb hN fa fb;go_enter Tryz.func98,Tryz.ntmps98;go_wp2_with fail;go_ret;exact ⟨by rw [HX.out];rfl,Below.refl _ _⟩
 | true=>
  cases nb:Pl.neg b.data.toList with
  | false=>
   rw [na] at h1;rw [nb] at h2;have HX:Hid (numC a b= -1):=by show _=_;rw [hN,na,nb];rfl
   clear na nb hN fa fb;go_enter Tryz.func98,Tryz.ntmps98;go_wp2_with fail;go_ret;exact ⟨by rw [HX.out];rfl,Below.refl _ _⟩
  | true=>
   have ta:(a.extract 1 a.size).data.toList=Pl.body a.data.toList:=by rw [Pl.extract_tail];unfold Pl.body;rw [na];rfl
   have tb:(b.extract 1 b.size).data.toList=Pl.body b.data.toList:=by rw [Pl.extract_tail];unfold Pl.body;rw [nb];rfl
   have szE:∀ s:ByteArray,(s.extract 1 s.size).size=s.size-1:=fun s=>Pl.size_tail s _ (Pl.extract_tail s)
   have plain:∀ s:ByteArray,Pl.formed s.data.toList=true→Pl.neg s.data.toList=true→Pl.neg (Pl.body s.data.toList)=false∧0<(Pl.body s.data.toList).length:=fun s hf hn=>by
    have hp:=Pl.formed_neg hf hn
    cases hl:Pl.body s.data.toList with
    | nil=>rw [hl] at hp;cases hp
    | cons c r=>
     rw [hl] at hp;refine ⟨?_,by simp⟩;unfold Pl.plainB at hp;simp only [Bool.and_eq_true,List.all_cons] at hp;have:=(Pl.isDig_iff c).1 hp.2.1;unfold Pl.neg;exact decide_eq_false (by omega)
   obtain ⟨pa,qa⟩:=plain a fa na;obtain ⟨pb,qb⟩:=plain b fb nb;rw [← ta] at pa qa;rw [← tb] at pb qb;rw [Array.length_toList] at qa qb;have HX:Hid (numC a b=Pl.cmpT (b.extract 1 b.size).data.toList (a.extract 1 a.size).data.toList):=by show _=_;rw [hN,na,nb,ta,tb];rfl
   have HC:=hQz (fun u=>w_Numbers_pos (b.extract 1 b.size) (a.extract 1 a.size) u qb qa pb pa (by rw [szE];omega) (by rw [szE];omega));rw [na] at h1;rw [nb] at h2;generalize Pl.cmpT (b.extract 1 b.size).data.toList (a.extract 1 a.size).data.toList=c at HX HC;have e1:(1:Int)≤(a.size:Int):=by omega
   have e2:(1:Int)≤(b.size:Int):=by omega
   clear na nb hN fa fb ta tb szE plain pa pb qa qb pos;go_enter Tryz.func98,Tryz.ntmps98;go_wp2_with fail;go_quiet ((go_at_call 98;exact Calls.quiet_of_same (HC.out _)));have HB2:Hid (Below w.heap.size w (w.drewN nq)):=below_drewN (Below.refl _ _) _;go_wp2_with fail;go_ret;exact ⟨by rw [HX.out];rfl,HB2.out⟩
end Go.Proofs.YtnokkmiaeacogaaGreat
