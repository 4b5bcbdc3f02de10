import Derived.Test.YtbpopnafcpfifaaGreatDoorRows
import Derived.Test.YtbpopnafcpfifaaGreatDoorM0
import Derived.WalkKit
import Derived.Deep.QuietTactic
import Derived.BigQuiet
import Derived.Outline
import Derived.WalkLawsBesides
set_option linter.unusedVariables false
set_option linter.unusedSimpArgs false
namespace Go.Proofs.YtbpopnafcpfifaaGreatDoor
open Go.RowKit
theorem w_cutMinus (s:ByteArray) (w:World) (hs:s.size≤maxLen):
 Calls Tryz.prog 86 #[.string s] w fun e w'=>∃ r:ByteArray,e= .returned (.tuple #[.bool (Pl.neg s.data.toList),.string r])∧r.data.toList=Pl.body s.data.toList∧r.size≤s.size∧Below w.heap.size w w':=by
 unfold maxLen at hs;by_cases h0:s.size=0
 · have he:s.toList.isEmpty=true:=by rw [Pl.isEmpty_of];simp [h0]
   have hn:s.data.toList=[]:=by have:=Pl.size_toList s;rw [h0] at this;exact List.eq_nil_of_length_eq_zero this
   have HN:Hid (s.data.toList=[]):=hn;clear hn;go_enter Tryz.func86,Tryz.ntmps86
   go_wp2
   go_ret2
   exact ⟨s,by rw [HN.out];rfl,by rw [HN.out];rfl,Nat.le_refl _,Below.refl _ _⟩
 · have hp:0<s.size:=by omega
   have he:s.toList.isEmpty=false:=by rw [Pl.isEmpty_of];simp [h0]
   have HN:Hid (Pl.neg s.data.toList=decide (s[0].toNat=45)):=Pl.neg_of s hp;by_cases h45:s[0].toNat=45
   · have hb:(((s[0].toNat:Nat):Int)==45)=true:=by simp [h45]
     have HN':Hid (Pl.neg s.data.toList=true):=by show Pl.neg s.data.toList=true;rw [HN.out];simp [h45]
     clear HN h45;go_enter Tryz.func86,Tryz.ntmps86
     go_wp2
     go_quiet (fail)
     go_wp2
     go_ret2
     refine ⟨s.extract 1 s.size,by rw [HN'.out];rfl,?_,?_,?_⟩
     · rw [Pl.extract_tail,Pl.body,HN'.out];rfl
     · simp
     · exact below_drewN (Below.refl _ _) _
   · have hb:(((s[0].toNat:Nat):Int)==45)=false:=by simp;omega
     have HN':Hid (Pl.neg s.data.toList=false):=by show Pl.neg s.data.toList=false;rw [HN.out];simp [h45]
     clear HN h45;go_enter Tryz.func86,Tryz.ntmps86
     go_wp2
     go_ret2
     exact ⟨s,by rw [HN'.out];rfl,by rw [Pl.body,HN'.out];rfl,Nat.le_refl _,Below.refl _ _⟩
set_option maxHeartbeats 400000 in
theorem w_Formed (s:ByteArray) (w:World) (hs:s.size≤maxLen):
 Calls Tryz.prog 67 #[.string s] w fun e w'=>e= .returned (.bool (Pl.formed s.data.toList))∧Below w.heap.size w w':=by
 by_cases h48:s.toList=[48]
 · have hb:(s.toList==[48])=true:=by simp [h48]
   have HF:Hid (Pl.formed s.data.toList=true):=Pl.formed_48 _ (by rw [← Lib.toList_data];exact h48);clear h48;go_enter Tryz.func67,Tryz.ntmps67
   go_wp2
   go_ret;exact ⟨by rw [HF.out];rfl,Below.refl _ _⟩
 · have hb:(s.toList==[48])=false:=by simp [h48]
   have HF:Hid (Pl.formed s.data.toList=Pl.plainB (Pl.body s.data.toList)):=Pl.formed_not _ (by rw [← Lib.toList_data];exact h48);clear h48;go_enter Tryz.func67,Tryz.ntmps67;go_wp2_with fail;refine (w_cutMinus s _ hs).mono ?_;rintro e w1 ⟨r,rfl,hr,hsz,hbel⟩;have HF':Hid (Pl.formed s.data.toList=Pl.plainB r.data.toList):=by show _=_;rw [HF.out,hr]
   unfold maxLen at hs;clear HF hr hb;by_cases h0:r.size=0
   · have he:r.toList.isEmpty=true:=by rw [Pl.isEmpty_of];simp [h0]
     have HP:Hid (Pl.plainB r.data.toList=false):=Pl.plainB_empty r h0;clear h0
     go_wp2
     go_ret;exact ⟨by rw [HF'.out,HP.out];rfl,hbel⟩
   · have hp:0<r.size:=by omega
     have he:r.toList.isEmpty=false:=by rw [Pl.isEmpty_of];simp [h0]
     clear h0;by_cases hz:r[0].toNat=48
     · have hb:(((r[0].toNat:Nat):Int)==48)=true:=by simp [hz]
       have HP:Hid (Pl.plainB r.data.toList=false):=Pl.plainB_zero r hp hz;clear hz
       go_wp2
       go_ret;exact ⟨by rw [HF'.out,HP.out];rfl,hbel⟩
     · have hb:(((r[0].toNat:Nat):Int)==48)=false:=by simp;omega
       have HP:Hid (Pl.plainB r.data.toList=r.data.toList.all Pl.isDig):=Pl.plainB_some r hp hz;clear hz
       go_wp2
       go_loop [20] (fun i=>∃ k:Nat,k≤r.size∧i= .int .i64 k∧Hid ((r.data.toList.take k).all Pl.isDig=true)) (fun i=>r.size-(intOf i).toNat)
       case atStart=>exact ⟨0,Nat.zero_le _,rfl,rfl⟩
       case round=>
        obtain ⟨k,hk,rfl,HA⟩:=hrel;by_cases hlt:k<r.size
        · by_cases hlo:r[k].toNat<48
          · have HX:Hid (r.data.toList.all Pl.isDig=false):=Pl.all_not r k hlt (Pl.isDig_lo _ hlo)
            go_wp2
            go_ret;exact ⟨by rw [HF'.out,HP.out,HX.out];rfl,hbel⟩
          · by_cases hhi:57<r[k].toNat
            · have HX:Hid (r.data.toList.all Pl.isDig=false):=Pl.all_not r k hlt (Pl.isDig_hi _ hhi)
              go_wp2
              go_ret;exact ⟨by rw [HF'.out,HP.out,HX.out];rfl,hbel⟩
            · have HX:Hid ((r.data.toList.take (k+1)).all Pl.isDig=true):=by
               show _=true;rw [Pl.all_take_succ r k hlt,HA.out,Pl.isDig_mid _ (by omega) (by omega)];rfl
              go_wp2
              go_round
              case rel=>exact ⟨k+1,by omega,by go_num,HX⟩
              case measure=>simp [intOf];omega
        · have HX:Hid (r.data.toList.all Pl.isDig=true):=by
           show _=true;have:=HA.out;rwa [List.take_of_length_le (by simp;omega)] at this
          go_wp2
          go_ret;exact ⟨by rw [HF'.out,HP.out,HX.out];rfl,hbel⟩
set_option maxHeartbeats 400000 in
theorem q2Q (s:ByteArray) (w:World) (hs:s.size≤maxLen) (hp:0<s.size) (f:Nat) (hf1:f≤1) (hf:f=if Pl.neg s.data.toList then 1 else 0) (hb:(((s[0].toNat:Nat):Int)==45)=decide (f=1)):
 Calls Tryz.prog 34 #[.string s] w fun e w'=>e= .returned (.bool (Pl.formed s.data.toList))∧w'=w:=by
 unfold maxLen at hs;have HF:=hQz hf;clear hf;by_cases hfl:f=s.size
 · have hs1:s.size=1:=by omega
   have HX:Hid (Pl.formed s.data.toList=false):=Pl.formed_short s f HF.out hfl;have hf1':f=1:=by omega
   subst hf1';have hsz:(((s.size:Nat):Int)==1)=true:=by simp [hs1]
   have hsz':((1:Int)==((s.size:Nat):Int))=true:=by simp [hs1]
   clear hfl;go_enter Tryz.func34,Tryz.ntmps34
   go_wp2
   go_ret;exact ⟨by rw [HX.out];rfl,rfl⟩
 · have hlt:f<s.size:=by omega
   clear hfl;rcases (show f=0∨f=1 by omega) with hf0|hf0
   · subst hf0;have hsz':((0:Int)==((s.size:Nat):Int))=false:=by rw [bqZ];omega
     have hb':(((s[0].toNat:Nat):Int)==45)=false:=by rw [hb];rfl
     clear hb;go_enter Tryz.func34,Tryz.ntmps34
     go_wp2
     go_loop [4] (fun i=>∃ k:Nat,0≤k∧k≤s.size∧i= .int .i64 k∧Hid (∀ j (h:j<s.size),0≤j→j<k→Pl.isDig s[j]=true)) (fun i=>s.size-(intOf i).toNat)
     case atStart=>exact ⟨0,by omega,by omega,rfl,fun j _ h1 h2=>absurd h2 (by omega)⟩
     case round=>
      obtain ⟨k,hk0,hk,rfl,HA⟩:=hrel;by_cases hlt2:k<s.size
      · by_cases hlo:s[k].toNat<48
        · have HX:Hid (Pl.formed s.data.toList=false):=Pl.formed_bad s _ HF.out k hlt2 hk0 (Pl.isDig_lo _ hlo)
          go_wp2
          go_ret;exact ⟨by rw [HX.out];rfl,rfl⟩
        · by_cases hhi:57<s[k].toNat
          · have HX:Hid (Pl.formed s.data.toList=false):=Pl.formed_bad s _ HF.out k hlt2 hk0 (Pl.isDig_hi _ hhi)
            go_wp2
            go_ret;exact ⟨by rw [HX.out];rfl,rfl⟩
          · have HX:Hid (∀ j (h:j<s.size),0≤j→j<k+1→Pl.isDig s[j]=true):=by
             intro j hj h0 h1;by_cases e:j=k
             · subst e;exact Pl.isDig_mid _ (by omega) (by omega)
             · exact HA.out j hj h0 (by omega)
            go_wp2
            go_round
            case rel=>exact ⟨k+1,by omega,by omega,by go_num,HX⟩
            case measure=>simp [intOf];omega
      · have HX:=hQz (Pl.formed_good s _ HF.out hlt (fun j hj h0=>HA.out j hj h0 (by omega)))
        cases h1:(((s[0].toNat:Nat):Int)==48)
        · have h2:(((s[0].toNat:Nat):Int) != 48)=true:=by simp [bne,h1]
          have HX':Hid (Pl.formed s.data.toList=true):=by show _=_;rw [HX.out,h1];rfl
          clear HX
          go_wp2
          go_ret;exact ⟨by rw [HX'.out];rfl,rfl⟩
        · have h2:(((s[0].toNat:Nat):Int) != 48)=false:=by simp [bne,h1]
          have HX':Hid (Pl.formed s.data.toList=(s.toList==[48])):=by show _=_;rw [HX.out,h1];rfl
          clear HX
          go_wp2
          go_ret;exact ⟨by rw [HX'.out];rfl,rfl⟩
   · subst hf0;have hsz':((1:Int)==((s.size:Nat):Int))=false:=by rw [bqZ];omega
     have hb':(((s[0].toNat:Nat):Int)==45)=true:=by rw [hb];rfl
     clear hb;go_enter Tryz.func34,Tryz.ntmps34
     go_wp2
     go_loop [4] (fun i=>∃ k:Nat,1≤k∧k≤s.size∧i= .int .i64 k∧Hid (∀ j (h:j<s.size),1≤j→j<k→Pl.isDig s[j]=true)) (fun i=>s.size-(intOf i).toNat)
     case atStart=>exact ⟨1,by omega,by omega,rfl,fun j _ h1 h2=>absurd h2 (by omega)⟩
     case round=>
      obtain ⟨k,hk0,hk,rfl,HA⟩:=hrel;by_cases hlt2:k<s.size
      · by_cases hlo:s[k].toNat<48
        · have HX:Hid (Pl.formed s.data.toList=false):=Pl.formed_bad s _ HF.out k hlt2 hk0 (Pl.isDig_lo _ hlo)
          go_wp2
          go_ret;exact ⟨by rw [HX.out];rfl,rfl⟩
        · by_cases hhi:57<s[k].toNat
          · have HX:Hid (Pl.formed s.data.toList=false):=Pl.formed_bad s _ HF.out k hlt2 hk0 (Pl.isDig_hi _ hhi)
            go_wp2
            go_ret;exact ⟨by rw [HX.out];rfl,rfl⟩
          · have HX:Hid (∀ j (h:j<s.size),1≤j→j<k+1→Pl.isDig s[j]=true):=by
             intro j hj h0 h1;by_cases e:j=k
             · subst e;exact Pl.isDig_mid _ (by omega) (by omega)
             · exact HA.out j hj h0 (by omega)
            go_wp2
            go_round
            case rel=>exact ⟨k+1,by omega,by omega,by go_num,HX⟩
            case measure=>simp [intOf];omega
      · have HX:=hQz (Pl.formed_good s _ HF.out hlt (fun j hj h0=>HA.out j hj h0 (by omega)))
        cases h1:(((s[1].toNat:Nat):Int)==48)
        · have h2:(((s[1].toNat:Nat):Int) != 48)=true:=by simp [bne,h1]
          have HX':Hid (Pl.formed s.data.toList=true):=by show _=_;rw [HX.out,h1];rfl
          clear HX
          go_wp2
          go_ret;exact ⟨by rw [HX'.out];rfl,rfl⟩
        · have h2:(((s[1].toNat:Nat):Int) != 48)=false:=by simp [bne,h1]
          have HX':Hid (Pl.formed s.data.toList=(s.toList==[48])):=by show _=_;rw [HX.out,h1];rfl
          clear HX
          go_wp2
          go_ret;exact ⟨by rw [HX'.out];rfl,rfl⟩
theorem w_rFormed (s:ByteArray) (w:World) (hs:s.size≤maxLen):
 Calls Tryz.prog 34 #[.string s] w fun e w'=>e= .returned (.bool (Pl.formed s.data.toList))∧w'=w:=by
 by_cases h0:s.size=0
 · have HX:Hid (Pl.formed s.data.toList=false):=Pl.formed_short s 0 (by
    have:=Pl.size_toList s;rw [h0] at this;rw [List.eq_nil_of_length_eq_zero this];rfl) h0.symm
   unfold maxLen at hs;have hsz:¬ (0:Int)<((s.size:Nat):Int):=by omega
   have hsz':((0:Int)==((s.size:Nat):Int))=true:=by simp [h0]
   clear h0;go_enter Tryz.func34,Tryz.ntmps34
   go_wp2
   go_ret;exact ⟨by rw [HX.out];rfl,rfl⟩
 · have hp:0<s.size:=by omega
   have hn:=Pl.neg_of s hp;by_cases h45:s[0].toNat=45
   · exact q2Q s w hs hp 1 (by omega) (by rw [hn];simp [h45]) (by simp [h45])
   · exact q2Q s w hs hp 0 (by omega) (by rw [hn];simp [h45]) (by simp;omega)
end Go.Proofs.YtbpopnafcpfifaaGreatDoor
