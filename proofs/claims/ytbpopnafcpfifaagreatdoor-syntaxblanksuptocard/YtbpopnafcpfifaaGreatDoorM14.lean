import Derived.Test.YtbpopnafcpfifaaGreatDoorM11
import Derived.Test.YtbpopnafcpfifaaGreatDoorM10
set_option linter.unusedVariables false
set_option linter.unusedSimpArgs false
namespace Go.Proofs.YtbpopnafcpfifaaGreatDoor
open Go.RowKit
set_option maxRecDepth 100000
set_option maxHeartbeats 12800000
def Head (k:IntKind) (w:World) (g n cap:Nat) (xs:List Int):Prop:=xs.length=n∧n≤cap∧g<w.heap.size∧∀ i,i<n→w.cell? ⟨g,i,none⟩=some (.int k (xs.getD i 0))
theorem Head.keep {k:IntKind} {w w':World} {g n cap:Nat} {xs:List Int} (h:Head k w g n cap xs) (hb:Below w.heap.size w w'):Head k w' g n cap xs:=
 ⟨h.1,h.2.1,Nat.lt_of_lt_of_le h.2.2.1 hb.size,fun i hi=>(hb.cell (p:=⟨g,i,none⟩) h.2.2.1).trans (h.2.2.2 i hi)⟩
theorem q2j (x:Int) (w:World):
 Calls Tryz.prog 60 #[.int .i64 x] w fun e w'=>e= .returned (.bool (Lib.validRune x))∧w'=w:=by
 have HV:Hid (Lib.validRune x=decide ((0≤x∧x<0xD800)∨(0xDFFF<x∧x≤0x10FFFF))):=rfl;rcases (show x<0∨(0≤x∧¬ x≤1114111)∨(0≤x∧x≤1114111∧x<55296)∨(0≤x∧x≤1114111∧¬ x<55296∧57343<x)∨(0≤x∧x≤1114111∧¬ x<55296∧¬ 57343<x) by omega) with h|⟨h,h1⟩|⟨h,h1,h2⟩|⟨h,h1,h2,h3⟩|⟨h,h1,h2,h3⟩
 · have HF:Hid (Lib.validRune x=false):=by show _=_;rw [HV.out];exact decide_eq_false (by omega)
   have h':¬ 0≤x:=by omega
   go_enter Tryz.func60,Tryz.ntmps60;go_wp2_with fail;go_ret;exact ⟨by rw [HF.out];rfl,rfl⟩
 · have HF:Hid (Lib.validRune x=false):=by show _=_;rw [HV.out];exact decide_eq_false (by omega)
   go_enter Tryz.func60,Tryz.ntmps60;go_wp2_with fail;go_ret;exact ⟨by rw [HF.out];rfl,rfl⟩
 · have HF:Hid (Lib.validRune x=true):=by show _=_;rw [HV.out];exact decide_eq_true (by omega)
   go_enter Tryz.func60,Tryz.ntmps60;go_wp2_with fail;go_ret;exact ⟨by rw [HF.out];rfl,rfl⟩
 · have HF:Hid (Lib.validRune x=true):=by show _=_;rw [HV.out];exact decide_eq_true (by omega)
   go_enter Tryz.func60,Tryz.ntmps60;go_wp2_with fail;go_ret;exact ⟨by rw [HF.out];rfl,rfl⟩
 · have HF:Hid (Lib.validRune x=false):=by show _=_;rw [HV.out];exact decide_eq_false (by omega)
   go_enter Tryz.func60,Tryz.ntmps60;go_wp2_with fail;go_ret;exact ⟨by rw [HF.out];rfl,rfl⟩
theorem w_Size (n:Nat) (w:World) (hn:n≤1114111):
 Calls Tryz.prog 61 #[.int .i64 (n:Int)] w fun e w'=>e= .returned (.int .i64 ((enc n).length:Int))∧w'=w:=by
 by_cases h1:n<0x80
 · have HL:Hid ((enc n).length=1):=by show _=_;unfold enc;rw [if_pos h1];rfl
   have q1:(n:Int)<128:=by omega
   clear h1;go_enter Tryz.func61,Tryz.ntmps61;go_wp2_with fail;go_ret;exact ⟨by rw [HL.out];rfl,rfl⟩
 by_cases h2:n<0x800
 · have HL:Hid ((enc n).length=2):=by show _=_;unfold enc;rw [if_neg h1,if_pos h2];rfl
   have q1:¬ (n:Int)<128:=by omega
   have q2:(n:Int)<2048:=by omega
   clear h1 h2;go_enter Tryz.func61,Tryz.ntmps61;go_wp2_with fail;go_ret;exact ⟨by rw [HL.out];rfl,rfl⟩
 by_cases h3:n<0x10000
 · have HL:Hid ((enc n).length=3):=by show _=_;unfold enc;rw [if_neg h1,if_neg h2,if_pos h3];rfl
   have q2:¬ (n:Int)<2048:=by omega
   have q1:¬ (n:Int)<128:=by omega
   have q3:(n:Int)<65536:=by omega
   clear h1 h2 h3;go_enter Tryz.func61,Tryz.ntmps61;go_wp2_with fail;go_ret;exact ⟨by rw [HL.out];rfl,rfl⟩
 · have HL:Hid ((enc n).length=4):=by show _=_;unfold enc;rw [if_neg h1,if_neg h2,if_neg h3];rfl
   have q1:¬ (n:Int)<128:=by omega
   have q2:¬ (n:Int)<2048:=by omega
   have q3:¬ (n:Int)<65536:=by omega
   clear h1 h2 h3;go_enter Tryz.func61,Tryz.ntmps61;go_wp2_with fail;go_ret;exact ⟨by rw [HL.out];rfl,rfl⟩
def BRow (w:World) (g:Nat) (l:List UInt8):Prop:=w.heap[g]? =some (.cells (Lib.byteCells l).toArray 5 (0,0))
theorem BRow.set {w:World} {g:Nat} {l:List UInt8} (h:BRow w g l) (i:Nat) (c:UInt8) (z:Int) (hz:z=(c.toNat:Int)) (hi:i<l.length):BRow (w.setCell ⟨g,i,none⟩ (.int .u8 z)) g (l.set i c):=by
 unfold BRow at *;subst hz;rw [heap_setCell_same w g i _ _ _ h]
 congr 2
 rw [List.setIfInBounds_toArray];simp [Lib.byteCells,List.map_set]
theorem BRow.lt {w:World} {g:Nat} {l:List UInt8} (h:BRow w g l):g<w.heap.size:=(Array.getElem?_eq_some_iff.1 h).1
theorem BRow.free {w:World} {g:Nat} {l:List UInt8} (h:BRow w g l) (i:Nat):w.frozen? ⟨g,i,none⟩=false:=frozen_of_row w g i _ _ h
theorem BRow.cell {w:World} {g:Nat} {l:List UInt8} (h:BRow w g l) (i:Nat) (hi:i<l.length):w.cell? ⟨g,i,none⟩=some (.int .u8 ((l.getD i 0).toNat:Int)):=by
 rw [cell_of_row w g i _ _ _ h];simp [Lib.byteCells,hi]
theorem bmade (m:Nat):madeCells #[.int .u8 0] m=(Lib.byteCells (List.replicate m 0)).toArray:=by
 unfold madeCells Lib.byteCells;apply Array.ext
 · simp
 · intro i h1 h2;have e:i%1=0:=by omega
   simp [e]
theorem brow_new (w:World) (m:Nat):BRow (w.alloc (brow m)) w.heap.size (List.replicate m 0):=by
 have h:=heap_alloc_new w (brow m);unfold BRow;rw [h];unfold brow;rw [bmade]
theorem q1X (m:Nat) (z:Int) (hz:z=(m:Int)) (hn:m≤140737488355328) (u:World):(Instr.makeSlice 64 (.int .i64 z) (.int .i64 z)).run Tryz.prog u= .ok (.slice (some ⟨u.heap.size,0,none⟩) m m) (u.alloc (brow m)):=by
 subst hz;obtain ⟨i0,hi,hz0,hz1,hz2⟩:=info_parts Tryz.infoB;have h:=run_make (P:=Tryz.prog) u 64 5 i0 (.int .u8 0) Tryz.underlying64 hi hz0 .i64 .i64 (m:Int) (m:Int) (by omega) (Int.le_refl _) (by rw [hz2];omega) (by omega);have e:((m:Int)).toNat=m:=by omega
 rw [e] at h;simpa [hz1,Value.cells,brow] using h
def q2t (w w':World) (e:Ending) (l:List UInt8):Prop:=∃ g,e= .returned (.slice (some ⟨g,0,none⟩) l.length l.length)∧w.heap.size≤g∧Hid (BRow w' g l)∧Below w.heap.size w w'
theorem w_Encoding1 (n:Nat) (w:World) (h1:n<0x80):
 Calls Tryz.prog 27 #[.int .i64 (n:Int)] w fun e w'=>q2t w w' e (enc n):=by
 have he:enc n=[UInt8.ofNat n]:=by unfold enc;rw [if_pos h1]
 have HI:=hQz (fun u=>q2j (n:Int) u);rw [show Lib.validRune (n:Int)=true from decide_eq_true (by omega)] at HI;have HS:=hQz (fun u=>w_Size n u (by omega));rw [he] at HS;rw [show (([UInt8.ofNat n].length:Nat):Int)=1 from rfl] at HS
 have HBR:∀ z:Int,z=(n:Int)→BRow (w.alloc (.cells #[.int .u8 z] 5)) w.heap.size [UInt8.ofNat n]:=by
  intro z hz;have h:=heap_alloc_new w (.cells #[.int .u8 z] 5);unfold BRow;rw [h,hz];have e:(UInt8.ofNat n).toNat=n:=q0k (by omega);simp [Lib.byteCells,e]
 have HBH:=hQz HBR;have hn1:(n:Int)<128:=by omega
 unfold q2t;rw [he];clear HBR he;go_enter Tryz.func27,Tryz.ntmps27;go_wp2_with fail;refine (HI.out _).mono ?_;rintro e w1 ⟨rfl,hw⟩;obtain rfl:=hw.symm;go_wp2_with fail;refine (HS.out _).mono ?_;rintro e w1 ⟨rfl,hw⟩;obtain rfl:=hw.symm;go_wp2_with fail;go_ret;exact ⟨_,rfl,Nat.le_refl _,HBH.out _ (by first|rfl|omega),q0a w _⟩
theorem w_Encoding2 (n:Nat) (w:World) (h1:¬ n<0x80) (h2:n<0x800):
 Calls Tryz.prog 27 #[.int .i64 (n:Int)] w fun e w'=>q2t w w' e (enc n):=by
 have he:enc n=[UInt8.ofNat (0xC0+n / 64),UInt8.ofNat (0x80+n%64)]:=by unfold enc;rw [if_neg h1,if_pos h2]
 have HI:=hQz (fun u=>q2j (n:Int) u);rw [show Lib.validRune (n:Int)=true from decide_eq_true (by omega)] at HI;have HS:=hQz (fun u=>w_Size n u (by omega));rw [he] at HS;rw [show (([UInt8.ofNat (0xC0+n / 64),UInt8.ofNat (0x80+n%64)].length:Nat):Int)=2 from rfl] at HS;have hmk:=fun (u:World)=>q1X 2 2 rfl (by decide) u;have hb0:BRow (w.alloc (brow 2)) w.heap.size [0,0]:=brow_new w 2;have hf0:=fun i=>hb0.free i;have hcl0:=hb0.cell 0 (by decide);have hcl1:=hb0.cell 1 (by decide);unfold q2t;rw [he];have hn1:¬ (n:Int)<128:=by omega
 have hn2:(n:Int)<2048:=by omega
 have HB0:=hQz hb0;clear he hb0;go_enter Tryz.func27,Tryz.ntmps27;go_wp2_with fail;refine (HI.out _).mono ?_;rintro e w1 ⟨rfl,hw⟩;obtain rfl:=hw.symm;go_wp2_with fail;refine (HS.out _).mono ?_;rintro e w1 ⟨rfl,hw⟩;obtain rfl:=hw.symm;go_wp2_with fail;refine wp_loop_rounds 2 ?_;rw [rounds_succ];go_wp2_with fail;rw [rounds_succ];go_wp2_with fail;go_ret;have hb0:=HB0.out;exact ⟨_,rfl,Nat.le_refl _,((hb0.set 1 (UInt8.ofNat (0x80+n%64)) _ (by rw [q0k (by omega)];omega) (by simp)).set 0 (UInt8.ofNat (0xC0+n / 64)) _ (by rw [q0k (by omega)];omega) (by simp)),(((q0a w (brow 2)).setCell (Nat.le_refl _) _).setCell (Nat.le_refl _) _)⟩
theorem w_Encoding3 (n:Nat) (w:World) (h1:¬ n<0x80) (h2:¬ n<0x800) (h3:n<0x10000) (hR:isR n):
 Calls Tryz.prog 27 #[.int .i64 (n:Int)] w fun e w'=>q2t w w' e (enc n):=by
 unfold isR at hR;have he:enc n=[UInt8.ofNat (0xE0+n / 4096),UInt8.ofNat (0x80+n / 64%64),UInt8.ofNat (0x80+n%64)]:=by unfold enc;rw [if_neg h1,if_neg h2,if_pos h3]
 have HI:=hQz (fun u=>q2j (n:Int) u);rw [show Lib.validRune (n:Int)=true from decide_eq_true (by omega)] at HI;have HS:=hQz (fun u=>w_Size n u (by omega));rw [he] at HS;rw [show (([UInt8.ofNat (0xE0+n / 4096),UInt8.ofNat (0x80+n / 64%64),UInt8.ofNat (0x80+n%64)].length:Nat):Int)=3 from rfl] at HS;have hmk:=fun (u:World)=>q1X 3 3 rfl (by decide) u;have hb0:BRow (w.alloc (brow 3)) w.heap.size [0,0,0]:=brow_new w 3;have hf0:=fun i=>hb0.free i;have hcl0:=hb0.cell 0 (by decide);have hcl1:=hb0.cell 1 (by decide);have hcl2:=hb0.cell 2 (by decide);unfold q2t;rw [he];have hn1:¬ (n:Int)<128:=by omega
 have hn2:¬ (n:Int)<2048:=by omega
 have hn3:(n:Int)<65536:=by omega
 have HB0:=hQz hb0;clear he hb0;go_enter Tryz.func27,Tryz.ntmps27;go_wp2_with fail;refine (HI.out _).mono ?_;rintro e w1 ⟨rfl,hw⟩;obtain rfl:=hw.symm;go_wp2_with fail;refine (HS.out _).mono ?_;rintro e w1 ⟨rfl,hw⟩;obtain rfl:=hw.symm;go_wp2_with fail;refine wp_loop_rounds 3 ?_;rw [rounds_succ];go_wp2_with fail;rw [rounds_succ];go_wp2_with fail;rw [rounds_succ];go_wp2_with fail;go_ret;have hb0:=HB0.out;exact ⟨_,rfl,Nat.le_refl _,(((hb0.set 2 (UInt8.ofNat (0x80+n%64)) _ (by rw [q0k (by omega)];omega) (by simp)).set 1 (UInt8.ofNat (0x80+n / 64%64)) _ (by rw [q0k (by omega)];omega) (by simp)).set 0 (UInt8.ofNat (0xE0+n / 4096)) _ (by rw [q0k (by omega)];omega) (by simp)),((((q0a w (brow 3)).setCell (Nat.le_refl _) _).setCell (Nat.le_refl _) _).setCell (Nat.le_refl _) _)⟩
theorem w_Encoding4 (n:Nat) (w:World) (h1:¬ n<0x80) (h2:¬ n<0x800) (h3:¬ n<0x10000) (hR:isR n):
 Calls Tryz.prog 27 #[.int .i64 (n:Int)] w fun e w'=>q2t w w' e (enc n):=by
 unfold isR at hR;have he:enc n=[UInt8.ofNat (0xF0+n / 262144),UInt8.ofNat (0x80+n / 4096%64),UInt8.ofNat (0x80+n / 64%64),UInt8.ofNat (0x80+n%64)]:=by unfold enc;rw [if_neg h1,if_neg h2,if_neg h3]
 have HI:=hQz (fun u=>q2j (n:Int) u);rw [show Lib.validRune (n:Int)=true from decide_eq_true (by omega)] at HI;have HS:=hQz (fun u=>w_Size n u (by omega));rw [he] at HS;rw [show (([UInt8.ofNat (0xF0+n / 262144),UInt8.ofNat (0x80+n / 4096%64),UInt8.ofNat (0x80+n / 64%64),UInt8.ofNat (0x80+n%64)].length:Nat):Int)=4 from rfl] at HS;have hmk:=fun (u:World)=>q1X 4 4 rfl (by decide) u;have hb0:BRow (w.alloc (brow 4)) w.heap.size [0,0,0,0]:=brow_new w 4;have hf0:=fun i=>hb0.free i;have hcl0:=hb0.cell 0 (by decide);have hcl1:=hb0.cell 1 (by decide);have hcl2:=hb0.cell 2 (by decide);have hcl3:=hb0.cell 3 (by decide);unfold q2t;rw [he];have hn1:¬ (n:Int)<128:=by omega
 have hn2:¬ (n:Int)<2048:=by omega
 have hn3:¬ (n:Int)<65536:=by omega
 have hn4:(n:Int)≤1114111:=by omega
 have HB0:=hQz hb0;clear he hb0;go_enter Tryz.func27,Tryz.ntmps27;go_wp2_with fail;refine (HI.out _).mono ?_;rintro e w1 ⟨rfl,hw⟩;obtain rfl:=hw.symm;go_wp2_with fail;refine (HS.out _).mono ?_;rintro e w1 ⟨rfl,hw⟩;obtain rfl:=hw.symm;go_wp2_with fail;refine wp_loop_rounds 4 ?_;rw [rounds_succ];go_wp2_with fail;rw [rounds_succ];go_wp2_with fail;rw [rounds_succ];go_wp2_with fail;rw [rounds_succ];go_wp2_with fail;go_ret;have hb0:=HB0.out;exact ⟨_,rfl,Nat.le_refl _,((((hb0.set 3 (UInt8.ofNat (0x80+n%64)) _ (by rw [q0k (by omega)];omega) (by simp)).set 2 (UInt8.ofNat (0x80+n / 64%64)) _ (by rw [q0k (by omega)];omega) (by simp)).set 1 (UInt8.ofNat (0x80+n / 4096%64)) _ (by rw [q0k (by omega)];omega) (by simp)).set 0 (UInt8.ofNat (0xF0+n / 262144)) _ (by rw [q0k (by omega)];omega) (by simp)),(((((q0a w (brow 4)).setCell (Nat.le_refl _) _).setCell (Nat.le_refl _) _).setCell (Nat.le_refl _) _).setCell (Nat.le_refl _) _)⟩
theorem w_EncodingBad (z:Int) (w:World) (hz:Lib.validRune z=false):
 Calls Tryz.prog 27 #[.int .i64 z] w fun e w'=>q2t w w' e [239,191,189]:=by
 have HI:=hQz (fun u=>q2j z u);rw [hz] at HI;have HS:=hQz (fun u=>w_Size 65533 u (by omega));rw [q2c,show (([239,191,189]:List UInt8).length:Int)=3 from rfl,show ((65533:Nat):Int)=65533 from rfl] at HS;have hmk:=fun (u:World)=>q1X 3 3 rfl (by decide) u;have hb0:BRow (w.alloc (brow 3)) w.heap.size [0,0,0]:=brow_new w 3;have hf0:=fun i=>hb0.free i;have hcl0:=hb0.cell 0 (by decide);have hcl1:=hb0.cell 1 (by decide);have hcl2:=hb0.cell 2 (by decide);unfold q2t;have HB0:=hQz hb0;clear hb0 hz;go_enter Tryz.func27,Tryz.ntmps27;go_wp2_with fail;refine (HI.out _).mono ?_;rintro e w1 ⟨rfl,hw⟩;obtain rfl:=hw.symm;go_wp2_with fail;refine (HS.out _).mono ?_;rintro e w1 ⟨rfl,hw⟩;obtain rfl:=hw.symm;go_wp2_with fail;refine wp_loop_rounds 3 ?_;rw [rounds_succ];go_wp2_with fail;rw [rounds_succ];go_wp2_with fail;rw [rounds_succ];go_wp2_with fail;go_ret;have hb0:=HB0.out;exact ⟨_,rfl,Nat.le_refl _,(((hb0.set 2 189 _ (by decide) (by simp)).set 1 191 _ (by decide) (by simp)).set 0 239 _ (by decide) (by simp)),((((q0a w (brow 3)).setCell (Nat.le_refl _) _).setCell (Nat.le_refl _) _).setCell (Nat.le_refl _) _)⟩
theorem w_Encoding (z:Int) (w:World):
 Calls Tryz.prog 27 #[.int .i64 z] w fun e w'=>q2t w w' e (enc (rn z)):=by
 cases hv:Lib.validRune z with
 | false=>
  have e:rn z=65533:=by unfold rn;rw [hv];rfl
  rw [e,q2c];exact w_EncodingBad z w hv
 | true=>
  have hv':decide ((0≤z∧z<0xD800)∨(0xDFFF<z∧z≤0x10FFFF))=true:=hv;have h:=of_decide_eq_true hv';have e:rn z=z.toNat:=by unfold rn;rw [hv];rfl
  have hR:=rn_isR z;have ez:z=((rn z:Nat):Int):=by rw [e];omega
  generalize rn z=n at *;subst ez;by_cases h1:n<0x80
  · exact w_Encoding1 n w h1
  by_cases h2:n<0x800
  · exact w_Encoding2 n w h1 h2
  by_cases h3:n<0x10000
  · exact w_Encoding3 n w h1 h2 h3 hR
  · exact w_Encoding4 n w h1 h2 h3 hR
end Go.Proofs.YtbpopnafcpfifaaGreatDoor
