import Derived.Test.YtdjleoglphgdgaaGreatDoorM6
import Derived.BigRegion
set_option linter.unusedVariables false
set_option linter.unusedSimpArgs false
namespace Go.Proofs.YtdjleoglphgdgaaGreatDoor
open Go.RowKit
theorem and15 (x:Int) (h0:0≤x) (h:x<2147483648):bits .and .i32 x 15=x%16:=by
 have h:=bits_mask .i32 31 (by decide) wraps_i32 4 (by decide) x h0 (by omega);have e:((2:Int) ^ 4-1)=15:=by decide
 have e2:((2:Int) ^ 4)=16:=by decide
 rw [e,e2] at h;exact h
def hxs:ByteArray:=⟨#[48,49,50,51,52,53,54,55,56,57,97,98,99,100,101,102]⟩
def hx (i:Nat):UInt8:=hxs.data.toList.getD i 0
theorem hx_at (i:Nat) (h:i<16):(ByteArray.mk #[48,49,50,51,52,53,54,55,56,57,97,98,99,100,101,102])[i]'h=hx i:=by
 have hl:i<hxs.data.toList.length:=h;unfold hx;rw [List.getD_eq_getElem?_getD,List.getElem?_eq_getElem hl];rfl
def unit (n:Nat):List UInt8:=[92,117,hx (n / 4096),hx (n / 256%16),hx (n / 16%16),hx (n%16)]
theorem conv6 (c1 c2 c3 c4:UInt8) (w:World):(convert 48 9 (.slice (some ⟨w.heap.size,0,none⟩) 6 6)).run Tryz.prog ((w.alloc (.cells #[.int .u8 92,.int .u8 117,.int .u8 (c1.toNat:Int),.int .u8 (c2.toNat:Int),.int .u8 (c3.toNat:Int),.int .u8 (c4.toNat:Int)] 5)).drew)= .ok (.string ⟨#[92,117,c1,c2,c3,c4]⟩) ((w.alloc (.cells #[.int .u8 92,.int .u8 117,.int .u8 (c1.toNat:Int),.int .u8 (c2.toNat:Int),.int .u8 (c3.toNat:Int),.int .u8 (c4.toNat:Int)] 5)).drew):=by
 have h:=run_convert_bytes_back (P:=Tryz.prog) ((w.alloc (.cells #[.int .u8 92,.int .u8 117,.int .u8 (c1.toNat:Int),.int .u8 (c2.toNat:Int),.int .u8 (c3.toNat:Int),.int .u8 (c4.toNat:Int)] 5)).drew) 48 9 5 ⟨w.heap.size,0,none⟩ 6 [92,117,c1,c2,c3,c4] Tryz.underlying48 Tryz.underlying5 Tryz.underlying9 (by
  intro j hj;have hj6:j<6:=hj;rcases (show j=0∨j=1∨j=2∨j=3∨j=4∨j=5 by omega) with rfl|rfl|rfl|rfl|rfl|rfl <;> simp [Addr.add,go_sem])
 exact h
set_option maxRecDepth 100000 in
set_option maxHeartbeats 3200000 in
theorem w_byNumber (n:Nat) (w:World) (h1:n<65536):
 Calls Tryz.prog 127 #[.int .i32 (n:Int)] w fun e w'=>e= .returned (.string ⟨(unit n).toArray⟩)∧Below w.heap.size w w':=by
 obtain ⟨m,hm⟩:∃ m:Int,m=(n:Int):=⟨_,rfl⟩;have a1:=and15 (m / 256) (by omega) (by omega);have a2:=and15 (m / 16) (by omega) (by omega);have a3:=and15 m (by omega) (by omega);have b1:0≤m / 4096:=by omega
 have b2:m / 4096<16:=by omega
 have b3:0≤m / 256%16:=by omega
 have b4:m / 256%16<16:=by omega
 have b5:0≤m / 16%16:=by omega
 have b6:m / 16%16<16:=by omega
 have b7:0≤m%16:=by omega
 have b8:m%16<16:=by omega
 have hm0:0≤m:=by omega
 have hm1:m<65536:=by omega
 rw [← hm];have HM:=hQz hm;clear hm;have hcv:=conv6 ((ByteArray.mk #[48,49,50,51,52,53,54,55,56,57,97,98,99,100,101,102])[(m / 4096).toNat]'(by show _<16;omega)) ((ByteArray.mk #[48,49,50,51,52,53,54,55,56,57,97,98,99,100,101,102])[(m / 256%16).toNat]'(by show _<16;omega)) ((ByteArray.mk #[48,49,50,51,52,53,54,55,56,57,97,98,99,100,101,102])[(m / 16%16).toNat]'(by show _<16;omega)) ((ByteArray.mk #[48,49,50,51,52,53,54,55,56,57,97,98,99,100,101,102])[(m%16).toNat]'(by show _<16;omega)) w
 have HS:Hid (⟨(unit n).toArray⟩=(ByteArray.mk #[92,117,(ByteArray.mk #[48,49,50,51,52,53,54,55,56,57,97,98,99,100,101,102])[(m / 4096).toNat]'(by show _<16;omega),(ByteArray.mk #[48,49,50,51,52,53,54,55,56,57,97,98,99,100,101,102])[(m / 256%16).toNat]'(by show _<16;omega),(ByteArray.mk #[48,49,50,51,52,53,54,55,56,57,97,98,99,100,101,102])[(m / 16%16).toNat]'(by show _<16;omega),(ByteArray.mk #[48,49,50,51,52,53,54,55,56,57,97,98,99,100,101,102])[(m%16).toNat]'(by show _<16;omega)])):=by
  show _=_;rw [hx_at _ (by omega),hx_at _ (by omega),hx_at _ (by omega),hx_at _ (by omega)];have:=HM.out;rw [show (m / 4096).toNat=n / 4096 by omega,show (m / 256%16).toNat=n / 256%16 by omega,show (m / 16%16).toNat=n / 16%16 by omega,show (m%16).toNat=n%16 by omega];rfl
 go_in;go_wp2_with fail
 go_region
 all_goals go_wp2
 all_goals go_ret
 all_goals exact ⟨by rw [HS.out];rfl,(q0a w _).drew⟩
def esc (n:Nat):List UInt8:=if n<65536 then unit n else unit (55296+(n-65536) / 1024)++unit (56320+(n-65536)%1024)
def rn (r:Int):Nat:=if Lib.validRune r then r.toNat else 65533
theorem rn_lt (r:Int):rn r≤1114111∧¬ (55296≤rn r∧rn r≤57343):=by
 unfold rn Lib.validRune
 split
 · rename_i h
   simp only [decide_eq_true_eq] at h;omega
 · omega
end Go.Proofs.YtdjleoglphgdgaaGreatDoor
