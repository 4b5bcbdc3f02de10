import Derived.Test.YtdjleoglphgdgaaGreatDoorRows
import Derived.Test.YtdjleoglphgdgaaGreatDoorM0
import Derived.WalkKit
import Derived.Deep.QuietTactic
import Derived.BigQuiet
import Derived.Outline
import Derived.WalkLawsBesides
set_option linter.unusedVariables false
set_option linter.unusedSimpArgs false
namespace Go.Proofs.YtdjleoglphgdgaaGreatDoor
open Go.RowKit
theorem w_cutMinus (s:ByteArray) (w:World) (hs:s.size≤maxLen):
 Calls Tryz.prog 182 #[.string s] w fun e w'=>∃ r:ByteArray,e= .returned (.tuple #[.bool (Pl.neg s.data.toList),.string r])∧r.data.toList=Pl.body s.data.toList∧r.size≤s.size∧Below w.heap.size w w':=by
 unfold maxLen at hs;by_cases h0:s.size=0
 · have he:s.toList.isEmpty=true:=by rw [Pl.isEmpty_of];simp [h0]
   have hn:s.data.toList=[]:=by have:=Pl.size_toList s;rw [h0] at this;exact List.eq_nil_of_length_eq_zero this
   have HN:Hid (s.data.toList=[]):=hn;clear hn;go_in
   go_wp2
   go_ret2
   exact ⟨s,by rw [HN.out];rfl,by rw [HN.out];rfl,Nat.le_refl _,Below.refl _ _⟩
 · have hp:0<s.size:=by omega
   have he:s.toList.isEmpty=false:=by rw [Pl.isEmpty_of];simp [h0]
   have HN:Hid (Pl.neg s.data.toList=decide (s[0].toNat=45)):=Pl.neg_of s hp;by_cases h45:s[0].toNat=45
   · have hb:(((s[0].toNat:Nat):Int)==45)=true:=by simp [h45]
     have HN':Hid (Pl.neg s.data.toList=true):=by show Pl.neg s.data.toList=true;rw [HN.out];simp [h45]
     clear HN h45;go_in
     go_wp2
     go_quiet (fail)
     go_wp2
     go_ret2
     refine ⟨s.extract 1 s.size,by rw [HN'.out];rfl,?_,?_,?_⟩
     · rw [Pl.extract_tail,Pl.body,HN'.out];rfl
     · simp
     · exact below_drewN (Below.refl _ _) _
   · have hb:(((s[0].toNat:Nat):Int)==45)=false:=by simp;omega
     have HN':Hid (Pl.neg s.data.toList=false):=by show Pl.neg s.data.toList=false;rw [HN.out];simp [h45]
     clear HN h45;go_in
     go_wp2
     go_ret2
     exact ⟨s,by rw [HN'.out];rfl,by rw [Pl.body,HN'.out];rfl,Nat.le_refl _,Below.refl _ _⟩
set_option maxHeartbeats 400000 in
theorem q1a (s:ByteArray) (w:World) (hs:s.size≤maxLen):
 Calls Tryz.prog 149 #[.string s] w fun e w'=>e= .returned (.bool (Pl.formed s.data.toList))∧Below w.heap.size w w':=by
 by_cases h48:s.toList=[48]
 · have hb:(s.toList==[48])=true:=by simp [h48]
   have HF:Hid (Pl.formed s.data.toList=true):=Pl.formed_48 _ (by rw [← Lib.toList_data];exact h48);clear h48;go_in
   go_wp2
   go_ret;exact ⟨by rw [HF.out];rfl,Below.refl _ _⟩
 · have hb:(s.toList==[48])=false:=by simp [h48]
   have HF:Hid (Pl.formed s.data.toList=Pl.plainB (Pl.body s.data.toList)):=Pl.formed_not _ (by rw [← Lib.toList_data];exact h48);clear h48;go_in;go_wp2_with fail;refine (w_cutMinus s _ hs).mono ?_;rintro e w1 ⟨r,rfl,hr,hsz,hbel⟩;have HF':Hid (Pl.formed s.data.toList=Pl.plainB r.data.toList):=by show _=_;rw [HF.out,hr]
   unfold maxLen at hs;clear HF hr hb;by_cases h0:r.size=0
   · have he:r.toList.isEmpty=true:=by rw [Pl.isEmpty_of];simp [h0]
     have HP:Hid (Pl.plainB r.data.toList=false):=Pl.plainB_empty r h0;clear h0
     go_wp2
     go_ret;exact ⟨by rw [HF'.out,HP.out];rfl,hbel⟩
   · have hp:0<r.size:=by omega
     have he:r.toList.isEmpty=false:=by rw [Pl.isEmpty_of];simp [h0]
     clear h0;by_cases hz:r[0].toNat=48
     · have hb:(((r[0].toNat:Nat):Int)==48)=true:=by simp [hz]
       have HP:Hid (Pl.plainB r.data.toList=false):=Pl.plainB_zero r hp hz;clear hz
       go_wp2
       go_ret;exact ⟨by rw [HF'.out,HP.out];rfl,hbel⟩
     · have hb:(((r[0].toNat:Nat):Int)==48)=false:=by simp;omega
       have HP:Hid (Pl.plainB r.data.toList=r.data.toList.all Pl.isDig):=Pl.plainB_some r hp hz;clear hz
       go_wp2
       go_loop [20] (fun i=>∃ k:Nat,k≤r.size∧i= .int .i64 k∧Hid ((r.data.toList.take k).all Pl.isDig=true)) (fun i=>r.size-(intOf i).toNat)
       case atStart=>exact ⟨0,Nat.zero_le _,rfl,rfl⟩
       case round=>
        obtain ⟨k,hk,rfl,HA⟩:=hrel;by_cases hlt:k<r.size
        · by_cases hlo:r[k].toNat<48
          · have HX:Hid (r.data.toList.all Pl.isDig=false):=Pl.all_not r k hlt (Pl.isDig_lo _ hlo)
            go_wp2
            go_ret;exact ⟨by rw [HF'.out,HP.out,HX.out];rfl,hbel⟩
          · by_cases hhi:57<r[k].toNat
            · have HX:Hid (r.data.toList.all Pl.isDig=false):=Pl.all_not r k hlt (Pl.isDig_hi _ hhi)
              go_wp2
              go_ret;exact ⟨by rw [HF'.out,HP.out,HX.out];rfl,hbel⟩
            · have HX:Hid ((r.data.toList.take (k+1)).all Pl.isDig=true):=by
               show _=true;rw [Pl.all_take_succ r k hlt,HA.out,Pl.isDig_mid _ (by omega) (by omega)];rfl
              go_wp2
              go_round
              case rel=>exact ⟨k+1,by omega,by go_num,HX⟩
              case measure=>simp [intOf];omega
        · have HX:Hid (r.data.toList.all Pl.isDig=true):=by
           show _=true;have:=HA.out;rwa [List.take_of_length_le (by simp;omega)] at this
          go_wp2
          go_ret;exact ⟨by rw [HF'.out,HP.out,HX.out];rfl,hbel⟩
theorem w_CompareInt (a b:Int) (w:World):
 Calls Tryz.prog 211 #[.int .i64 a,.int .i64 b] w fun e w'=>e= .returned (.int .i64 (Pl.cmpI a b))∧w'=w:=by
 by_cases h1:a<b
 · have HX:Hid (Pl.cmpI a b= -1):=by show _=_;simp [Pl.cmpI,h1]
   go_in
   go_wp2
   all_goals (go_ret;exact ⟨by rw [HX.out];rfl,rfl⟩)
 · by_cases h2:b<a
   · have HX:Hid (Pl.cmpI a b=1):=by show _=_;simp [Pl.cmpI,h1,h2]
     go_in
     go_wp2
     all_goals (go_ret;exact ⟨by rw [HX.out];rfl,rfl⟩)
   · have HX:Hid (Pl.cmpI a b=0):=by show _=_;simp [Pl.cmpI,h1,h2]
     go_in
     go_wp2
     all_goals (go_ret;exact ⟨by rw [HX.out];rfl,rfl⟩)
theorem w_CompareString (a b:ByteArray) (w:World):
 Calls Tryz.prog 212 #[.string a,.string b] w fun e w'=>e= .returned (.int .i64 (Pl.cmpS a.toList b.toList))∧w'=w:=by
 cases h1:Op.bytesLess a.toList b.toList with
 | true=>
  have HX:Hid (Pl.cmpS a.toList b.toList= -1):=by show _=_;simp [Pl.cmpS,h1]
  go_in
  go_wp2
  all_goals (go_ret;exact ⟨by rw [HX.out];rfl,rfl⟩)
 | false=>
  cases h2:(a.toList==b.toList) with
  | false=>
   have HX:Hid (Pl.cmpS a.toList b.toList=1):=by show _=_;simp [Pl.cmpS,h1,h2]
   go_in
   go_wp2
   all_goals (go_ret;exact ⟨by rw [HX.out];rfl,rfl⟩)
  | true=>
   have HX:Hid (Pl.cmpS a.toList b.toList=0):=by show _=_;simp [Pl.cmpS,h1,h2]
   go_in
   go_wp2
   all_goals (go_ret;exact ⟨by rw [HX.out];rfl,rfl⟩)
theorem w_Or2 (b:Nat) (x y:Int) (w:World) (hx:w.cell? ⟨b,0,none⟩=some (.int .i64 x)) (hy:w.cell? ⟨b,1,none⟩=some (.int .i64 y)):
 Calls Tryz.prog 210 #[.slice (some ⟨b,0,none⟩) 2 2] w fun e w'=>e= .returned (.int .i64 (Pl.orI x y))∧w'=w:=by
 by_cases h:x=0
 · subst h;by_cases h2:y=0
   · subst h2;have HX:Hid (Pl.orI 0 0=0):=rfl;go_in
     go_wp2
     refine wp_loop_rounds 3 ?_;rw [rounds_succ]
     go_wp2
     rw [rounds_succ]
     go_wp2
     rw [rounds_succ]
     go_wp2
     go_ret;exact ⟨by rw [HX.out];rfl,rfl⟩
   · have HX:Hid (Pl.orI 0 y=y):=rfl;have h3:(y==0)=false:=by simp [h2]
     have h4:(y != 0)=true:=by simp [h2]
     go_in
     go_wp2
     refine wp_loop_rounds 2 ?_;rw [rounds_succ]
     go_wp2
     rw [rounds_succ]
     go_wp2
     go_ret;exact ⟨by rw [HX.out];rfl,rfl⟩
 · have HX:Hid (Pl.orI x y=x):=by show _=_;simp [Pl.orI,h]
   have h3:(x==0)=false:=by simp [h]
   have h4:(x != 0)=true:=by simp [h]
   go_in
   go_wp2
   refine wp_loop_rounds 1 ?_;rw [rounds_succ]
   go_wp2
   go_ret;exact ⟨by rw [HX.out];rfl,rfl⟩
theorem q2l (a b:ByteArray) (w:World) (ha:a.size≤maxLen) (hb:b.size≤maxLen):
 Calls Tryz.prog 183 #[.string a,.string b] w fun e w'=>e= .returned (.int .i64 (Pl.cmpT a.toList b.toList))∧Below w.heap.size w w':=by
 unfold maxLen at ha hb;go_in;go_wp2_with fail;refine (w_CompareInt _ _ _).mono ?_;rintro e w' ⟨rfl,rfl⟩;go_wp2_with fail;refine (w_CompareString _ _ _).mono ?_;rintro e w' ⟨rfl,rfl⟩;have HT:Hid (Pl.cmpT a.toList b.toList=Pl.orI (Pl.cmpI (a.size:Int) (b.size:Int)) (Pl.cmpS a.toList b.toList)):=Pl.cmpT_eq a b;generalize Pl.cmpI (a.size:Int) (b.size:Int)=x at HT ⊢;generalize Pl.cmpS a.toList b.toList=y at HT ⊢;go_wp2_with fail;refine (w_Or2 w'.heap.size x y _ (by simp) (by simp)).mono ?_;rintro e w1 ⟨rfl,rfl⟩
 go_wp2
 go_ret;exact ⟨by rw [HT.out];rfl,(Below.refl _ _).alloc (Nat.le_refl _) _⟩
set_option maxHeartbeats 800000 in
theorem w_Cmp (a b:ByteArray) (w:World) (ha:a.size≤maxLen) (hb:b.size≤maxLen):
 Calls Tryz.prog 135 #[.string a,.string b] w fun e w'=>e= .returned (.tuple #[.int .i64 (Pl.cmpN a.data.toList b.data.toList),.int .i64 (Pl.errN a.data.toList b.data.toList)])∧Below w.heap.size w w':=by
 go_in;go_wp2_with fail;refine (q1a a _ ha).mono ?_;rintro e w1 ⟨rfl,hb1⟩
 cases h1:Pl.formed a.data.toList with
 | false=>
  have HC:Hid (Pl.cmpN a.data.toList b.data.toList=0∧Pl.errN a.data.toList b.data.toList=1):=by show _∧_;simp [Pl.cmpN,Pl.errN,h1]
  clear h1;go_wp2_with fail
  go_ret2
  exact ⟨by rw [HC.out.1,HC.out.2];rfl,hb1⟩
 | true=>
  go_wp2_with fail;refine (q1a b _ hb).mono ?_;rintro e w2 ⟨rfl,hb2⟩;have hb3:Below w.heap.size w w2:=hb1.trans (hb2.mono hb1.size)
  cases h2:Pl.formed b.data.toList with
  | false=>
   have HC:Hid (Pl.cmpN a.data.toList b.data.toList=0∧Pl.errN a.data.toList b.data.toList=1):=by show _∧_;simp [Pl.cmpN,Pl.errN,h2]
   clear h1 h2;go_wp2_with fail
   go_ret2
   exact ⟨by rw [HC.out.1,HC.out.2];rfl,hb3⟩
  | true=>
   have HE:Hid (Pl.errN a.data.toList b.data.toList=0):=by show _=_;simp [Pl.errN,h1,h2]
   have HC:Hid (Pl.cmpN a.data.toList b.data.toList=if Pl.neg a.data.toList then (if Pl.neg b.data.toList then Pl.cmpT (Pl.body b.data.toList) (Pl.body a.data.toList) else -1) else if Pl.neg b.data.toList then 1 else Pl.cmpT (Pl.body a.data.toList) (Pl.body b.data.toList)):=by show _=_;simp [Pl.cmpN,h1,h2]
   clear h1 h2;go_wp2_with fail;refine (w_cutMinus a _ ha).mono ?_;rintro e w3 ⟨ra,rfl,hra,hsa,hb4⟩;have HRA:=hQz hra;clear hra;go_wp2_with fail;refine (w_cutMinus b _ hb).mono ?_;rintro e w4 ⟨rb,rfl,hrb,hsb,hb5⟩;have HRB:=hQz hrb;clear hrb;have hb6:Below w.heap.size w w4:=(hb3.trans (hb4.mono hb3.size)).trans (hb5.mono (Nat.le_trans hb3.size hb4.size))
   cases hna:Pl.neg a.data.toList <;> cases hnb:Pl.neg b.data.toList
   · have HC':Hid (Pl.cmpN a.data.toList b.data.toList=Pl.cmpT (Pl.body a.data.toList) (Pl.body b.data.toList)):=by show _=_;rw [HC.out,hna,hnb];rfl
     clear HC hna hnb;go_wp2_with fail;refine (q2l ra rb _ (by omega) (by omega)).mono ?_;rintro e w5 ⟨rfl,hb7⟩;go_wp2_with fail
     go_ret2
     exact ⟨by rw [HC'.out,HE.out,← HRA.out,← HRB.out,Lib.toList_data,Lib.toList_data];rfl,hb6.trans (hb7.mono hb6.size)⟩
   · have HC':Hid (Pl.cmpN a.data.toList b.data.toList=1):=by show _=_;rw [HC.out,hna,hnb];rfl
     clear HC hna hnb;go_wp2_with fail
     go_ret2
     exact ⟨by rw [HC'.out,HE.out];rfl,hb6⟩
   · have HC':Hid (Pl.cmpN a.data.toList b.data.toList= -1):=by show _=_;rw [HC.out,hna,hnb];rfl
     clear HC hna hnb;go_wp2_with fail
     go_ret2
     exact ⟨by rw [HC'.out,HE.out];rfl,hb6⟩
   · have HC':Hid (Pl.cmpN a.data.toList b.data.toList=Pl.cmpT (Pl.body b.data.toList) (Pl.body a.data.toList)):=by show _=_;rw [HC.out,hna,hnb];rfl
     clear HC hna hnb;go_wp2_with fail;refine (q2l rb ra _ (by omega) (by omega)).mono ?_;rintro e w5 ⟨rfl,hb7⟩;go_wp2_with fail
     go_ret2
     exact ⟨by rw [HC'.out,HE.out,← HRA.out,← HRB.out,Lib.toList_data,Lib.toList_data];rfl,hb6.trans (hb7.mono hb6.size)⟩
end Go.Proofs.YtdjleoglphgdgaaGreatDoor
