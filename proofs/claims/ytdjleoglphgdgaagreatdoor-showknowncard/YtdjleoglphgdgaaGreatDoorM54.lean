import Derived.Test.YtdjleoglphgdgaaGreatDoorM52
set_option linter.unusedVariables false
set_option linter.unusedSimpArgs false
namespace Go.Proofs.YtdjleoglphgdgaaGreatDoor
open Go.RowKit Go.Shelf Go.Sort
attribute [local go_sem] Oper.semAt_some
set_option maxRecDepth 100000
set_option maxHeartbeats 12800000
theorem row4 {w:World} {b:Nat} {x y z u:Value} {t:TypeId} {fz:Nat × Nat} (h:w.heap[b]? =some (.cells #[x,y,z,u] t fz)):w.cell? ⟨b,0,none⟩=some x∧w.cell? ⟨b,2,none⟩=some z∧w.cell? ⟨b,3,none⟩=some u:=by
 refine ⟨?_,?_,?_⟩ <;> rw [cell_of_row _ _ _ _ _ _ h] <;> rfl
theorem w_operation (w0:World) (S h g o b off N kc:Nat) (K:Nat→NT) (t:Nat→List UInt8) (c9:w0.cell? ⟨g,o+9,none⟩=some (.slice (some ⟨b,off,none⟩) N kc)) (hcap:N≤kc) (hbig:N≤140737488355328) (hN:2≤N) (m:Nat) (hm:m<44) (c0:w0.cell? ⟨g,o,none⟩=some (.int .i64 (m:Int))) (hT:∀ i,i<N→Say w0 S 26 #[.pointer (some ⟨S,0,none⟩),.pointer (some ⟨b,off+i*10,none⟩)] (t i)) (hA:∀ i,i<N→NAt w0 (h+1) (K i) b (off+i*10)∧0≤(K i).op∧(K i).op<44):Say w0 S 93 #[.pointer (some ⟨S,0,none⟩),.pointer (some ⟨g,o,none⟩)] (sOp (m:Int) K t):=by
 have mixed:Tryz.prog.follows .mixedOrders=true:=by kernel_rfl
 have HH:Hid (∀ i,i<N→∀ (k:Int) (bk bp:Nat) (w:World) (l:List UInt8),PS w0 S w l→w.heap[bk]? =some (.cells #[.int .i64 k] 3 (0,0))→w.heap[bp]? =some (.cells #[.pointer (some ⟨S,0,none⟩)] 74 (0,0))→l.length+(pHd (t i) (K i) k).length≤140737488355328→
  Calls Tryz.prog 186 #[.pointer (some ⟨b,off+i*10,none⟩),.pointer (some ⟨bk,0,none⟩),.pointer (some ⟨bp,0,none⟩)] w fun e w'=>e= .returned (.tuple #[])∧PS w0 S w' (l++pHd (t i) (K i) k)∧Lib.OthersKept 5 (some S) w w'):=fun i hi k bk bp w l hP h1 h2 h3=>q2x w0 S h (K i) b (off+i*10) k bk bp (t i) (hA i hi).1 (hA i hi).2 (hT i hi) w l hP h1 h2 h3
 have q0:((0:Int)<(N:Int)):=by omega
 have q1:((1:Int)<(N:Int)):=by omega
 have HC9:=hQz c9;have hl0:(0:Int)≤(m:Int):=by omega
 have hl1:(m:Int)<44:=by omega
 intro wi l hP hlen;have d:=tab_at (hP.tab.keep hP.low) hm;have p0:=(hP.low.cell (p:=⟨g,o,none⟩) (block_lt_of_cell c0)).trans c0;unfold sOp pSg at *;generalize hle:(pRow (m:Int)).2.2.1=le at *;generalize hri:(pRow (m:Int)).2.2.2=ri at *;generalize hlo:(pRow (m:Int)).2.1=lo at *;generalize hsg:(pRow (m:Int)).1=sg at *;obtain ⟨d0,d1,d2,d3⟩:=d;have HPi:=hQz hP;have HL:=hQz hlen;clear hP hlen c0 c9 hT hA hle hri hlo hsg;have HX:Hid ((⟨sg.toArray⟩:ByteArray).data.toList=sg):=rfl;generalize (⟨sg.toArray⟩:ByteArray)=xs at *;go_in;go_wp2_with fail;generalize hz:wi.alloc (.cells #[.string xs,.int .i64 (lo:Int),.int .i64 (le:Int),.int .i64 (ri:Int)] 130)=w
 obtain ⟨hbx,hbw⟩:w.heap[wi.heap.size]? =some (.cells #[.string xs,.int .i64 (lo:Int),.int .i64 (le:Int),.int .i64 (ri:Int)] 130 (0,0))∧Below wi.heap.size wi w:=by
  rw [← hz];exact ⟨heap_alloc_new wi _,q0a wi _⟩
 have HBx:=hQz hbx;have HP0:Hid (PS w0 S w l∧Lib.OthersKept 5 (some S) w w):=⟨HPi.out.keep hbw,Lib.OthersKept.refl _ _ _⟩;have HW:Hid (Lib.OthersKept 5 (some S) wi w):=ok_low hbw;have hxS:wi.heap.size≠S:=HP0.out.1.ne hbx (by decide);have HxS:=hQz hxS;generalize wi.heap.size=bx at *;clear hz hbx hbw p0 d0 d1 d2 d3 hxS;have c90:=(HP0.out.1.low.cell (p:=⟨g,o+9,none⟩) (block_lt_of_cell HC9.out)).trans HC9.out;have x00:=(row4 (q0l HP0.out.2 HBx.out HxS.out (by decide))).1;have x20:=(row4 (q0l HP0.out.2 HBx.out HxS.out (by decide))).2.1;have x30:=(row4 (q0l HP0.out.2 HBx.out HxS.out (by decide))).2.2;refine wp_region_held_drew (S:=(fun u=>u.cell? ⟨g,o+9,none⟩=some (.slice (some ⟨b,off,none⟩) N kc)∧u.cell? ⟨bx,2,none⟩=some (.int .i64 (le:Int)))) (by kernel_rfl) (by exact ⟨c90,x20⟩) (fun hHeld=> ?_);refine wpAnyH_take (i:=0) (oi:=_) (v:= .pointer (some ⟨S,0,none⟩)) rfl (by kernel_rfl) (by kernel_rfl) (by kernel_rfl) (fun _ _ _ h=>h) (.inl ⟨by rfl,?_⟩) (by assumption) ?_
 · intro w hSw;obtain ⟨hs0,hs1⟩:=hSw;go_simp
   try (intro hq;exfalso;omega)
 try simp only [Act.put,qsA,qsB,qsC]
 refine wpAnyH_take (i:=1) (oi:=_) (v:= .pointer (some ⟨bx,2,none⟩)) rfl (by kernel_rfl) (by kernel_rfl) (by kernel_rfl) (fun _ _ _ h=>h) (.inl ⟨by rfl,?_⟩) (by assumption) ?_
 · intro w hSw;obtain ⟨hs0,hs1⟩:=hSw;go_simp
   try (intro hq;exfalso;omega)
 try simp only [Act.put,qsA,qsB,qsC]
 refine wpAnyH_take (i:=2) (oi:=_) (v:= .int .i64 (le:Int)) rfl (by kernel_rfl) (by kernel_rfl) (by kernel_rfl) (fun _ _ _ h=>h) (.inl ⟨by rfl,?_⟩) (by assumption) ?_
 · intro w hSw;obtain ⟨hs0,hs1⟩:=hSw;go_simp
   try (intro hq;exfalso;omega)
 try simp only [Act.put,qsA,qsB,qsC]
 refine wpAnyH_take (i:=4) (oi:=_) (v:= .pointer (some ⟨g,o,none⟩)) rfl (by kernel_rfl) (by kernel_rfl) (by kernel_rfl) (fun _ _ _ h=>h) (.inl ⟨by rfl,?_⟩) (by assumption) ?_
 · intro w hSw;obtain ⟨hs0,hs1⟩:=hSw;go_simp
   try (intro hq;exfalso;omega)
 try simp only [Act.put,qsA,qsB,qsC]
 refine wpAnyH_take (i:=5) (oi:=_) (v:= .pointer (some ⟨g,o,none⟩)) rfl (by kernel_rfl) (by kernel_rfl) (by kernel_rfl) (fun _ _ _ h=>h) (.inl ⟨by rfl,?_⟩) (by assumption) ?_
 · intro w hSw;obtain ⟨hs0,hs1⟩:=hSw;go_simp
   try (intro hq;exfalso;omega)
 try simp only [Act.put,qsA,qsB,qsC]
 refine wpAnyH_take (i:=6) (oi:=_) (v:= .pointer (some ⟨g,o+9,none⟩)) rfl (by kernel_rfl) (by kernel_rfl) (by kernel_rfl) (fun _ _ _ h=>h) (.inl ⟨by rfl,?_⟩) (by assumption) ?_
 · intro w hSw;obtain ⟨hs0,hs1⟩:=hSw;go_simp
   try (intro hq;exfalso;omega)
 try simp only [Act.put,qsA,qsB,qsC]
 refine wpAnyH_take (i:=7) (oi:=_) (v:= .slice (some ⟨b,off,none⟩) N kc) rfl (by kernel_rfl) (by kernel_rfl) (by kernel_rfl) (fun _ _ _ h=>h) (.inl ⟨by rfl,?_⟩) (by assumption) ?_
 · intro w hSw;obtain ⟨hs0,hs1⟩:=hSw;go_simp
   try (intro hq;exfalso;omega)
 try simp only [Act.put,qsA,qsB,qsC]
 refine wpAnyH_take (i:=8) (oi:=_) (v:= .pointer (some ⟨b,off+0*10,none⟩)) rfl (by kernel_rfl) (by kernel_rfl) (by kernel_rfl) (fun _ _ _ h=>h) (.inl ⟨by rfl,?_⟩) (by assumption) ?_
 · intro w hSw;obtain ⟨hs0,hs1⟩:=hSw;go_simp
   try (intro hq;exfalso;omega)
 try simp only [Act.put,qsA,qsB,qsC]
 refine wpAnyH_ready (rs:=[3]) (by kernel_rfl) (by simp) ?_;refine AllReadyH.cons (o:=_) rfl (fun K2 hK2=> ?_) AllReadyH.nil;go_simp;go_at_call 140;refine (q1M S (le:Int) _).mono ?_;rintro e wh ⟨rfl,hwh⟩;have HPh:Hid (PS w0 S wh (l)∧Lib.OthersKept 5 (some S) w wh):=by rw [hwh];exact ⟨(HP0.out.1.drew.alloc _).alloc _,(Lib.OthersKept.drew HP0.out.2).alloc _ |>.alloc _⟩
 have HBk:Hid (wh.heap[w.drew.heap.size+1]? =some (.cells #[.int .i64 ((le:Int))] 3 (0,0))∧wh.heap[w.drew.heap.size]? =some (.cells #[.pointer (some ⟨S,0,none⟩)] 74 (0,0))):=by rw [hwh];exact ⟨by have:=heap_alloc_new (w.drew.alloc (.cells #[.pointer (some ⟨S,0,none⟩)] 74)) (.cells #[.int .i64 ((le:Int))] 3);simpa using this,(Below.heap_alloc _ _ _ (by simp)).trans (heap_alloc_new _ _)⟩
 clear hwh;have c9h:=(HPh.out.1.low.cell (p:=⟨g,o+9,none⟩) (block_lt_of_cell HC9.out)).trans HC9.out;have x0h:=(row4 (q0l HPh.out.2 HBx.out HxS.out (by decide))).1;have x2h:=(row4 (q0l HPh.out.2 HBx.out HxS.out (by decide))).2.1;have x3h:=(row4 (q0l HPh.out.2 HBx.out HxS.out (by decide))).2.2;go_wp2_with fail;refine hK2.out _ _ (by exact ⟨c9h,x2h⟩) (fun hHeld=> ?_);clear hK2 K2
 try simp only [Act.put,qsA,qsB,qsC]
 refine wpAnyH_ready (rs:=[9]) (by kernel_rfl) (by simp) ?_;refine AllReadyH.cons (o:=_) rfl (fun K2 hK2=> ?_) AllReadyH.nil;go_simp;go_at_call 186;refine (HH.out (0) (by omega) ((le:Int)) _ _ _ _ HPh.out.1 HBk.out.1 HBk.out.2 (by have:=HL.out;(try simp only [List.length_append,List.length_cons,List.length_nil] at this ⊢);omega)).mono ?_;rintro e w1 ⟨rfl,hp,hk⟩;have HP1:Hid (PS w0 S w1 (l++pHd (t (0)) (K (0)) ((le:Int)))∧Lib.OthersKept 5 (some S) w w1):=⟨hp,HPh.out.2.trans hk⟩;clear hp hk;have c9j:=(HP1.out.1.low.cell (p:=⟨g,o+9,none⟩) (block_lt_of_cell HC9.out)).trans HC9.out;have x0j:=(row4 (q0l HP1.out.2 HBx.out HxS.out (by decide))).1;have x2j:=(row4 (q0l HP1.out.2 HBx.out HxS.out (by decide))).2.1;have x3j:=(row4 (q0l HP1.out.2 HBx.out HxS.out (by decide))).2.2;go_wp2_with fail;refine hK2.out _ _ (by exact ⟨c9j,x2j⟩) (fun hHeld=> ?_);clear hK2 K2 hHeld
 try simp only [Act.put,qsA,qsB,qsC]
 refine wpAnyH_done (by kernel_rfl) ?_ _;clear HPh HBk c90 c9h c9j x00 x0h x0j x20 x2h x2j x30 x3h x3j;have c91:=(HP1.out.1.low.cell (p:=⟨g,o+9,none⟩) (block_lt_of_cell HC9.out)).trans HC9.out;have x01:=(row4 (q0l HP1.out.2 HBx.out HxS.out (by decide))).1;have x21:=(row4 (q0l HP1.out.2 HBx.out HxS.out (by decide))).2.1;have x31:=(row4 (q0l HP1.out.2 HBx.out HxS.out (by decide))).2.2;go_wp2_with fail;refine (q0h HP1.out.1 _ (sg) HX.out (by have:=HL.out;(try simp only [List.length_append,List.length_cons,List.length_nil] at this ⊢);omega)).mono ?_;rintro e w2 ⟨rfl,hp,hk⟩;have HP2:Hid (PS w0 S w2 (l++pHd (t (0)) (K (0)) ((le:Int))++(sg))∧Lib.OthersKept 5 (some S) w w2):=⟨hp,HP1.out.2.trans hk⟩;clear hp hk;clear c91 x01 x21 x31;have c92:=(HP2.out.1.low.cell (p:=⟨g,o+9,none⟩) (block_lt_of_cell HC9.out)).trans HC9.out;have x02:=(row4 (q0l HP2.out.2 HBx.out HxS.out (by decide))).1;have x22:=(row4 (q0l HP2.out.2 HBx.out HxS.out (by decide))).2.1;have x32:=(row4 (q0l HP2.out.2 HBx.out HxS.out (by decide))).2.2;go_wp2_with fail;refine wp_region_held_drew (S:=(fun u=>u.cell? ⟨g,o+9,none⟩=some (.slice (some ⟨b,off,none⟩) N kc)∧u.cell? ⟨bx,3,none⟩=some (.int .i64 (ri:Int)))) (by kernel_rfl) (by exact ⟨c92,x32⟩) (fun hHeld=> ?_);refine wpAnyH_take (i:=0) (oi:=_) (v:= .pointer (some ⟨S,0,none⟩)) rfl (by kernel_rfl) (by kernel_rfl) (by kernel_rfl) (fun _ _ _ h=>h) (.inl ⟨by rfl,?_⟩) (by assumption) ?_
 · intro w hSw;obtain ⟨hs0,hs1⟩:=hSw;go_simp
   try (intro hq;exfalso;omega)
 try simp only [Act.put,qsA,qsB,qsC]
 refine wpAnyH_take (i:=1) (oi:=_) (v:= .pointer (some ⟨bx,3,none⟩)) rfl (by kernel_rfl) (by kernel_rfl) (by kernel_rfl) (fun _ _ _ h=>h) (.inl ⟨by rfl,?_⟩) (by assumption) ?_
 · intro w hSw;obtain ⟨hs0,hs1⟩:=hSw;go_simp
   try (intro hq;exfalso;omega)
 try simp only [Act.put,qsA,qsB,qsC]
 refine wpAnyH_take (i:=2) (oi:=_) (v:= .int .i64 (ri:Int)) rfl (by kernel_rfl) (by kernel_rfl) (by kernel_rfl) (fun _ _ _ h=>h) (.inl ⟨by rfl,?_⟩) (by assumption) ?_
 · intro w hSw;obtain ⟨hs0,hs1⟩:=hSw;go_simp
   try (intro hq;exfalso;omega)
 try simp only [Act.put,qsA,qsB,qsC]
 refine wpAnyH_take (i:=4) (oi:=_) (v:= .pointer (some ⟨g,o,none⟩)) rfl (by kernel_rfl) (by kernel_rfl) (by kernel_rfl) (fun _ _ _ h=>h) (.inl ⟨by rfl,?_⟩) (by assumption) ?_
 · intro w hSw;obtain ⟨hs0,hs1⟩:=hSw;go_simp
   try (intro hq;exfalso;omega)
 try simp only [Act.put,qsA,qsB,qsC]
 refine wpAnyH_take (i:=5) (oi:=_) (v:= .pointer (some ⟨g,o,none⟩)) rfl (by kernel_rfl) (by kernel_rfl) (by kernel_rfl) (fun _ _ _ h=>h) (.inl ⟨by rfl,?_⟩) (by assumption) ?_
 · intro w hSw;obtain ⟨hs0,hs1⟩:=hSw;go_simp
   try (intro hq;exfalso;omega)
 try simp only [Act.put,qsA,qsB,qsC]
 refine wpAnyH_take (i:=6) (oi:=_) (v:= .pointer (some ⟨g,o+9,none⟩)) rfl (by kernel_rfl) (by kernel_rfl) (by kernel_rfl) (fun _ _ _ h=>h) (.inl ⟨by rfl,?_⟩) (by assumption) ?_
 · intro w hSw;obtain ⟨hs0,hs1⟩:=hSw;go_simp
   try (intro hq;exfalso;omega)
 try simp only [Act.put,qsA,qsB,qsC]
 refine wpAnyH_take (i:=7) (oi:=_) (v:= .slice (some ⟨b,off,none⟩) N kc) rfl (by kernel_rfl) (by kernel_rfl) (by kernel_rfl) (fun _ _ _ h=>h) (.inl ⟨by rfl,?_⟩) (by assumption) ?_
 · intro w hSw;obtain ⟨hs0,hs1⟩:=hSw;go_simp
   try (intro hq;exfalso;omega)
 try simp only [Act.put,qsA,qsB,qsC]
 refine wpAnyH_take (i:=8) (oi:=_) (v:= .pointer (some ⟨b,off+1*10,none⟩)) rfl (by kernel_rfl) (by kernel_rfl) (by kernel_rfl) (fun _ _ _ h=>h) (.inl ⟨by rfl,?_⟩) (by assumption) ?_
 · intro w hSw;obtain ⟨hs0,hs1⟩:=hSw;go_simp
   try (intro hq;exfalso;omega)
 try simp only [Act.put,qsA,qsB,qsC]
 refine wpAnyH_ready (rs:=[3]) (by kernel_rfl) (by simp) ?_;refine AllReadyH.cons (o:=_) rfl (fun K2 hK2=> ?_) AllReadyH.nil;go_simp;go_at_call 140;refine (q1M S (ri:Int) _).mono ?_;rintro e wh ⟨rfl,hwh⟩;have HPh:Hid (PS w0 S wh (l++pHd (t (0)) (K (0)) ((le:Int))++(sg))∧Lib.OthersKept 5 (some S) w wh):=by rw [hwh];exact ⟨(HP2.out.1.drew.alloc _).alloc _,(Lib.OthersKept.drew HP2.out.2).alloc _ |>.alloc _⟩
 have HBk:Hid (wh.heap[w2.drew.heap.size+1]? =some (.cells #[.int .i64 ((ri:Int))] 3 (0,0))∧wh.heap[w2.drew.heap.size]? =some (.cells #[.pointer (some ⟨S,0,none⟩)] 74 (0,0))):=by rw [hwh];exact ⟨by have:=heap_alloc_new (w2.drew.alloc (.cells #[.pointer (some ⟨S,0,none⟩)] 74)) (.cells #[.int .i64 ((ri:Int))] 3);simpa using this,(Below.heap_alloc _ _ _ (by simp)).trans (heap_alloc_new _ _)⟩
 clear hwh;have c9h:=(HPh.out.1.low.cell (p:=⟨g,o+9,none⟩) (block_lt_of_cell HC9.out)).trans HC9.out;have x0h:=(row4 (q0l HPh.out.2 HBx.out HxS.out (by decide))).1;have x2h:=(row4 (q0l HPh.out.2 HBx.out HxS.out (by decide))).2.1;have x3h:=(row4 (q0l HPh.out.2 HBx.out HxS.out (by decide))).2.2;go_wp2_with fail;refine hK2.out _ _ (by exact ⟨c9h,x3h⟩) (fun hHeld=> ?_);clear hK2 K2
 try simp only [Act.put,qsA,qsB,qsC]
 refine wpAnyH_ready (rs:=[9]) (by kernel_rfl) (by simp) ?_;refine AllReadyH.cons (o:=_) rfl (fun K2 hK2=> ?_) AllReadyH.nil;go_simp;go_at_call 186;refine (HH.out (1) (by omega) ((ri:Int)) _ _ _ _ HPh.out.1 HBk.out.1 HBk.out.2 (by have:=HL.out;(try simp only [List.length_append,List.length_cons,List.length_nil] at this ⊢);omega)).mono ?_;rintro e w3 ⟨rfl,hp,hk⟩;have HP3:Hid (PS w0 S w3 (l++pHd (t (0)) (K (0)) ((le:Int))++(sg)++pHd (t (1)) (K (1)) ((ri:Int)))∧Lib.OthersKept 5 (some S) w w3):=⟨hp,HPh.out.2.trans hk⟩;clear hp hk;have c9j:=(HP3.out.1.low.cell (p:=⟨g,o+9,none⟩) (block_lt_of_cell HC9.out)).trans HC9.out;have x0j:=(row4 (q0l HP3.out.2 HBx.out HxS.out (by decide))).1;have x2j:=(row4 (q0l HP3.out.2 HBx.out HxS.out (by decide))).2.1;have x3j:=(row4 (q0l HP3.out.2 HBx.out HxS.out (by decide))).2.2;go_wp2_with fail;refine hK2.out _ _ (by exact ⟨c9j,x3j⟩) (fun hHeld=> ?_);clear hK2 K2 hHeld
 try simp only [Act.put,qsA,qsB,qsC]
 refine wpAnyH_done (by kernel_rfl) ?_ _;clear HPh HBk c92 c9h c9j x02 x0h x0j x22 x2h x2j x32 x3h x3j;go_wp2_with fail
 go_end0
 refine ⟨rfl,?_,HW.out.trans HP3.out.2⟩;have hz:=HP3.out.1
 try simp only [List.append_assoc,List.cons_append,List.nil_append] at hz ⊢
 exact hz
theorem w_join (w0:World) (S h g o b off N kc:Nat) (K:Nat→NT) (t:Nat→List UInt8) (c9:w0.cell? ⟨g,o+9,none⟩=some (.slice (some ⟨b,off,none⟩) N kc)) (hcap:N≤kc) (hbig:N≤140737488355328) (hN:1≤N) (hA:∀ i,i<N→NAt w0 (h+1) (K i) b (off+i*10)∧(K i).value.text.size≤1048576) (hT:∀ i,i<N→Say w0 S 26 #[.pointer (some ⟨S,0,none⟩),.pointer (some ⟨b,off+i*10,none⟩)] (t i)):Say w0 S 78 #[.pointer (some ⟨S,0,none⟩),.pointer (some ⟨g,o,none⟩)] (sJoin K t N):=by
 obtain ⟨f,hf⟩:∃ f,f=(fun i=>if i%2=0 then pPc (K i).value.text else [92,40]++(t i++[41])):=⟨_,rfl⟩;have e0:sJoin K t N=[34]++(fl f N++[34]):=by rw [hf];rfl
 rw [e0];have HF:=hQz hf;clear e0 hf;have HS:=hQz hT;have HC9:=hQz c9;have HQ:Hid (∀ i,i<N→∀ u,Calls Tryz.prog 36 #[.string (K i).value.text] u fun e w'=>e= .returned (.string ⟨(34::(pPc (K i).value.text++[34])).toArray⟩)∧Below u.heap.size u w'):=fun i hi u=>w_Quote (K i).value.text u (by have:=(hA i hi).2;omega)
 have HK5:Hid (∀ i,i<N→w0.cell? ⟨b,off+i*10+5,none⟩=some (.string (K i).value.text)):=fun i hi=>by
  obtain ⟨aio,aic,ayo,ayc,ano,anc,ako,akc,HA⟩:=(hA i hi).1.open_;exact HA.c5
 clear hT hA c9;intro w l hP hlen;have HP0:=hQz (And.intro hP (Lib.OthersKept.refl 5 (some S) w));have HL:=hQz hlen;clear hP hlen;go_in;have c90:=(HP0.out.1.low.cell (p:=⟨g,o+9,none⟩) (block_lt_of_cell HC9.out)).trans HC9.out;go_wp2_with fail;refine (q0h HP0.out.1 _ ([34]) rfl (by have:=HL.out;(try simp only [List.length_append,List.length_cons,List.length_nil] at this ⊢);omega)).mono ?_;rintro e w1 ⟨rfl,hp,hk⟩;have HP1:Hid (PS w0 S w1 (l++([34]))∧Lib.OthersKept 5 (some S) w w1):=⟨hp,HP0.out.2.trans hk⟩;clear hp hk;clear c90;have c91:=(HP1.out.1.low.cell (p:=⟨g,o+9,none⟩) (block_lt_of_cell HC9.out)).trans HC9.out;go_wp2_with fail;clear c91
 go_loopw [14] (fun i wr=>∃ k:Nat,k≤N∧i= .int .i64 (k:Int)∧Hid (PS w0 S wr (l++[34]++fl f k)∧Lib.OthersKept 5 (some S) w wr)) (fun i _=>N-(intOf i).toNat)
 case atStart=>exact ⟨0,Nat.zero_le _,rfl,by show PS _ _ _ _∧_;simpa [fl] using HP1.out⟩
 case round=>
  obtain ⟨k,hk,rfl,HP2⟩:=hrel;by_cases hlt:k<N
  · have hl1:(k:Int)<(N:Int):=by omega
    have hl0:(0:Int)≤(k:Int):=by omega
    have HSk:=hQz (HS.out k hlt);have HU:=hQz (fl_succ f k)
    have HLk:Hid ((l++[34]++fl f k).length+(f k).length≤140737488355328):=by
     have h1:=fl_pre f (show k+1≤N by omega);rw [HU.out] at h1;have h2:=HL.out;show _≤_;simp only [List.length_append,List.length_cons,List.length_nil] at h1 h2 ⊢;omega
    have c92:=(HP2.out.1.low.cell (p:=⟨g,o+9,none⟩) (block_lt_of_cell HC9.out)).trans HC9.out;by_cases hz:k%2=0
    · have hz1:((k:Int)%2==0)=true:=by
       have:(k:Int)%2=0:=by omega
       rw [this];rfl
      have HE:Hid (f k=pPc (K k).value.text):=by show _=_;rw [HF.out];simp only [if_pos hz]
      rw [HE.out] at HLk HU;have c5:=(HP2.out.1.low.cell (p:=⟨b,off+k*10+5,none⟩) (block_lt_of_cell (HK5.out k hlt))).trans (HK5.out k hlt);have HQk:=hQz (HQ.out k hlt)
      have HSz:Hid ((⟨(34::(pPc (K k).value.text++[34])).toArray⟩:ByteArray).size=(pPc (K k).value.text).length+2):=by
       show Array.size _=_;simp
      have HY:Hid ((ByteArray.extract ⟨(34::(pPc (K k).value.text++[34])).toArray⟩ 1 ((⟨(34::(pPc (K k).value.text++[34])).toArray⟩:ByteArray).size-1)).data.toList=pPc (K k).value.text):=by
       show _=_;rw [HSz.out,show (pPc (K k).value.text).length+2-1=(pPc (K k).value.text).length+1 by omega,ByteArray.data_extract,Array.toList_extract];simp
      generalize pPc (K k).value.text=Y at *;generalize (K k).value.text=tx at *;generalize (⟨(34::(Y++[34])).toArray⟩:ByteArray)=Z at *;have hyl:Y.length≤140737488355328:=by have:=HLk.out;omega
      go_wp2_with fail;refine (HQk.out _).mono ?_;rintro e w3 ⟨rfl,hb3⟩;have HP3:Hid (PS w0 S w3 (l++[34]++fl f k)∧Lib.OthersKept 5 (some S) w w3):=⟨HP2.out.1.keep hb3,HP2.out.2.trans (ok_low hb3)⟩;clear hb3 c92 c5;have z1:Hid (((Z.size:Int)-1).toNat=Y.length+1):=by show _=_;have hsz:=HSz.out;omega
      have z2:(1:Int)≤(Z.size:Int)-1:=by have hsz:=HSz.out;omega
      have z3:(Z.size:Int)-1≤(Z.size:Int):=by omega
      have z4:IntKind.i64.wrap ((Z.size:Int)-1)=(Z.size:Int)-1:=by have hsz:=HSz.out;rw [IntKind.wrap_i64];omega
      have z5:(0:Int)≤(Z.size:Int)-1:=by omega
      go_wp2_with fail;refine (q0h HP3.out.1 _ Y HY.out (by have:=HLk.out;(try simp only [List.length_append,List.length_cons,List.length_nil] at this ⊢);omega)).mono ?_;rintro e w4 ⟨rfl,hp,hk2⟩;have HP4:Hid (PS w0 S w4 (l++[34]++fl f (k+1))∧Lib.OthersKept 5 (some S) w w4):=⟨by rw [HU.out];simp only [← List.append_assoc];exact hp,HP3.out.2.trans hk2⟩;clear hp hk2;go_wp2_with fail;go_roundw
      case rel=>exact ⟨k+1,by omega,by go_num,HP4⟩
      case measure=>simp [intOf];omega
    · have hz1:((k:Int)%2==0)=false:=by rw [bqZ];omega
      have HE:Hid (f k=[92,40]++(t k++[41])):=by show _=_;rw [HF.out];simp only [if_neg hz]
      rw [HE.out] at HLk HU;go_wp2_with fail;refine (q0h HP2.out.1 _ [92,40] rfl (by have:=HLk.out;(try simp only [List.length_append,List.length_cons,List.length_nil] at this ⊢);omega)).mono ?_;rintro e w3 ⟨rfl,hp,hk2⟩;have HP3:Hid (PS w0 S w3 (l++[34]++fl f k++[92,40])∧Lib.OthersKept 5 (some S) w w3):=⟨hp,HP2.out.2.trans hk2⟩;clear hp hk2 c92;have c93:=(HP3.out.1.low.cell (p:=⟨g,o+9,none⟩) (block_lt_of_cell HC9.out)).trans HC9.out;go_wp2_with fail;refine (HSk.out _ _ HP3.out.1 (by have:=HLk.out;(try simp only [List.length_append,List.length_cons,List.length_nil] at this ⊢);omega)).mono ?_;rintro e w4 ⟨rfl,hp,hk2⟩;have HP4:Hid (PS w0 S w4 (l++[34]++fl f k++[92,40]++t k)∧Lib.OthersKept 5 (some S) w w4):=⟨hp,HP3.out.2.trans hk2⟩;clear hp hk2 c93;go_wp2_with fail;refine (q0h HP4.out.1 _ [41] rfl (by have:=HLk.out;(try simp only [List.length_append,List.length_cons,List.length_nil] at this ⊢);omega)).mono ?_;rintro e w5 ⟨rfl,hp,hk2⟩;have HP5:Hid (PS w0 S w5 (l++[34]++fl f (k+1))∧Lib.OthersKept 5 (some S) w w5):=⟨by rw [HU.out];simp only [← List.append_assoc] at hp ⊢;exact hp,HP4.out.2.trans hk2⟩;clear hp hk2;go_wp2_with fail;go_roundw
      case rel=>exact ⟨k+1,by omega,by go_num,HP5⟩
      case measure=>simp [intOf];omega
  · have hl1:¬ (k:Int)<(N:Int):=by omega
    obtain rfl:k=N:=by omega
    go_wp2_with fail;refine (q0h HP2.out.1 _ [34] rfl (by have:=HL.out;(try simp only [List.length_append,List.length_cons,List.length_nil] at this ⊢);omega)).mono ?_;rintro e w5 ⟨rfl,hp,hk2⟩;have HP5:Hid (PS w0 S w5 (l++([34]++(fl f k++[34])))∧Lib.OthersKept 5 (some S) w w5):=⟨by simp only [← List.append_assoc] at hp ⊢;exact hp,HP2.out.2.trans hk2⟩;clear hp hk2;go_wp2_with fail
    go_end0
    exact ⟨rfl,HP5.out⟩
theorem w_record (w0:World) (S h g o b off N kc:Nat) (K:Nat→NT) (t:Nat→List UInt8) (ko:Option Addr) (hko:0<N→ko=some ⟨b,off,none⟩) (c9:w0.cell? ⟨g,o+9,none⟩=some (.slice ko N kc)) (hcap:N≤kc) (hbig:N≤140737488355328) (M:Nat) (hM:N=2*M) (hT:∀ i,i<N→Say w0 S 26 #[.pointer (some ⟨S,0,none⟩),.pointer (some ⟨b,off+i*10,none⟩)] (t i)) (hA:∀ i,i<N→NAt w0 (h+1) (K i) b (off+i*10)∧0≤(K i).op∧(K i).op<44) (hz:∀ i,i<N→(K i).value.text.size≤1048576):Say w0 S 80 #[.pointer (some ⟨S,0,none⟩),.pointer (some ⟨g,o,none⟩)] (sRecord K t M):=by
 obtain ⟨f,hf⟩:∃ f,f=(fun i=>(if 0<i then [44,32] else [])++(pKe (t (2*i)) (K (2*i))++([58,32]++pHd (t (2*i+1)) (K (2*i+1)) 3))):=⟨_,rfl⟩;have e0:sRecord K t M=[123]++(fl f M++[125]):=by rw [hf];rfl
 rw [e0];have HF:=hQz hf;clear e0 hf;have mixed:Tryz.prog.follows .mixedOrders=true:=by kernel_rfl
 have HH:Hid (∀ i,i<N→∀ (k:Int) (bk bp:Nat) (w:World) (l:List UInt8),PS w0 S w l→w.heap[bk]? =some (.cells #[.int .i64 k] 3 (0,0))→w.heap[bp]? =some (.cells #[.pointer (some ⟨S,0,none⟩)] 74 (0,0))→l.length+(pHd (t i) (K i) k).length≤140737488355328→
  Calls Tryz.prog 186 #[.pointer (some ⟨b,off+i*10,none⟩),.pointer (some ⟨bk,0,none⟩),.pointer (some ⟨bp,0,none⟩)] w fun e w'=>e= .returned (.tuple #[])∧PS w0 S w' (l++pHd (t i) (K i) k)∧Lib.OthersKept 5 (some S) w w'):=fun i hi k bk bp w l hP h1 h2 h3=>q2x w0 S h (K i) b (off+i*10) k bk bp (t i) (hA i hi).1 (hA i hi).2 (hT i hi) w l hP h1 h2 h3
 have HKy:Hid (∀ i,i<N→Say w0 S 139 #[.pointer (some ⟨S,0,none⟩),.pointer (some ⟨b,off+i*10,none⟩)] (pKe (t i) (K i))):=fun i hi=>w_key w0 S h (K i) b (off+i*10) (t i) (hA i hi).1 (hA i hi).2 (by have:=hz i hi;omega) (hT i hi)
 have HC9:=hQz c9;have HKO:=hQz hko;have HM:=hQz hM;clear hT hA c9 hz hko;intro w l hP hlen;have HP0:=hQz (And.intro hP (Lib.OthersKept.refl 5 (some S) w));have HL:=hQz hlen;clear hP hlen;go_in;go_wp2_with fail;refine (q0h HP0.out.1 _ ([123]) rfl (by have:=HL.out;(try simp only [List.length_append,List.length_cons,List.length_nil] at this ⊢);omega)).mono ?_;rintro e w1 ⟨rfl,hp,hk⟩;have HP1:Hid (PS w0 S w1 (l++([123]))∧Lib.OthersKept 5 (some S) w w1):=⟨hp,HP0.out.2.trans hk⟩;clear hp hk;go_wp2_with fail
 go_loopw [4] (fun i wr=>∃ k:Nat,k≤M∧i= .int .i64 (2*(k:Int))∧Hid (PS w0 S wr (l++[123]++fl f k)∧Lib.OthersKept 5 (some S) w wr)) (fun i _=>N-(intOf i).toNat)
 case atStart=>exact ⟨0,Nat.zero_le _,rfl,by show PS _ _ _ _∧_;simpa [fl] using HP1.out⟩
 case round=>
  obtain ⟨k,hk,rfl,HP2⟩:=hrel;have c92:=(HP2.out.1.low.cell (p:=⟨g,o+9,none⟩) (block_lt_of_cell HC9.out)).trans HC9.out;by_cases hlt:k<M
  · have hl1:2*(k:Int)<(N:Int):=by omega
    have hl0:(0:Int)≤2*(k:Int):=by omega
    have hl2:2*(k:Int)+1<(N:Int):=by omega
    have hl3:(0:Int)≤2*(k:Int)+1:=by omega
    have hwr:IntKind.i64.wrap (2*(k:Int)+1)=2*(k:Int)+1:=by rw [IntKind.wrap_i64];omega
    have hwr2:IntKind.i64.wrap (2*(k:Int)+2)=2*(k:Int)+2:=by rw [IntKind.wrap_i64];omega
    have e1:(2*(k:Int)).toNat=2*k:=by omega
    have e2:(2*(k:Int)+1).toNat=2*k+1:=by omega
    obtain rfl:=HKO.out (by omega);have HKk:=hQz (HKy.out (2*k) (by omega));have HHk:=hQz (HH.out (2*k+1) (by omega));have HU:=hQz (fl_succ f k)
    have HLk:Hid ((l++[123]++fl f k).length+(f k).length≤140737488355328):=by
     have h1:=fl_pre f (show k+1≤M by omega);rw [HU.out] at h1;have h2:=HL.out;show _≤_;simp only [List.length_append,List.length_cons,List.length_nil] at h1 h2 ⊢;omega
    by_cases hz:0<k
    · have hz1:(0:Int)<2*(k:Int):=by omega
      have HE:Hid (f k=[44,32]++(pKe (t (2*k)) (K (2*k))++([58,32]++pHd (t (2*k+1)) (K (2*k+1)) 3))):=by show _=_;rw [HF.out];simp only [if_pos hz]
      rw [HE.out] at HLk HU;generalize pKe (t (2*k)) (K (2*k))=KY at *;go_wp2_with fail;refine (q0h HP2.out.1 _ [44,32] rfl (by have:=HLk.out;(try simp only [List.length_append,List.length_cons,List.length_nil] at this ⊢);omega)).mono ?_;rintro e w3 ⟨rfl,hp,hk2⟩;have HP3:Hid (PS w0 S w3 (l++[123]++fl f k++[44,32])∧Lib.OthersKept 5 (some S) w w3):=⟨hp,HP2.out.2.trans hk2⟩;clear hp hk2 c92;have c9a:=(HP3.out.1.low.cell (p:=⟨g,o+9,none⟩) (block_lt_of_cell HC9.out)).trans HC9.out;go_wp2_with fail;refine (HKk.out _ _ HP3.out.1 (by have:=HLk.out;(try simp only [List.length_append,List.length_cons,List.length_nil] at this ⊢);omega)).mono ?_;rintro e w4 ⟨rfl,hp,hk2⟩;have HP4:Hid (PS w0 S w4 (l++[123]++fl f k++[44,32]++KY)∧Lib.OthersKept 5 (some S) w w4):=⟨hp,HP3.out.2.trans hk2⟩;clear hp hk2 c9a;go_wp2_with fail;refine (q0h HP4.out.1 _ [58,32] rfl (by have:=HLk.out;(try simp only [List.length_append,List.length_cons,List.length_nil] at this ⊢);omega)).mono ?_;rintro e w5 ⟨rfl,hp,hk2⟩;have HP5:Hid (PS w0 S w5 (l++[123]++fl f k++[44,32]++KY++[58,32])∧Lib.OthersKept 5 (some S) w w5):=⟨hp,HP4.out.2.trans hk2⟩;clear hp hk2;have c95:=(HP5.out.1.low.cell (p:=⟨g,o+9,none⟩) (block_lt_of_cell HC9.out)).trans HC9.out;go_wp2_with fail;refine wp_region_held_drew (S:=(fun u=>u.cell? ⟨g,o+9,none⟩=some (.slice (some ⟨b,off,none⟩) N kc))) (by kernel_rfl) (by exact c95) (fun hHeld=> ?_);refine wpAnyH_take (i:=0) (oi:=_) (v:= .pointer (some ⟨S,0,none⟩)) rfl (by kernel_rfl) (by kernel_rfl) (by kernel_rfl) (fun _ _ _ h=>h) (.inl ⟨by rfl,?_⟩) (by assumption) ?_
      · intro w hSw;go_simp
        try (intro hq;exfalso;omega)
      try simp only [Act.put,qsA,qsB,qsC]
      refine wpAnyH_take (i:=2) (oi:=_) (v:= .pointer (some ⟨g,o,none⟩)) rfl (by kernel_rfl) (by kernel_rfl) (by kernel_rfl) (fun _ _ _ h=>h) (.inl ⟨by rfl,?_⟩) (by assumption) ?_
      · intro w hSw;go_simp
        try (intro hq;exfalso;omega)
      try simp only [Act.put,qsA,qsB,qsC]
      refine wpAnyH_take (i:=3) (oi:=_) (v:= .pointer (some ⟨g,o,none⟩)) rfl (by kernel_rfl) (by kernel_rfl) (by kernel_rfl) (fun _ _ _ h=>h) (.inl ⟨by rfl,?_⟩) (by assumption) ?_
      · intro w hSw;go_simp
        try (intro hq;exfalso;omega)
      try simp only [Act.put,qsA,qsB,qsC]
      refine wpAnyH_take (i:=4) (oi:=_) (v:= .pointer (some ⟨g,o+9,none⟩)) rfl (by kernel_rfl) (by kernel_rfl) (by kernel_rfl) (fun _ _ _ h=>h) (.inl ⟨by rfl,?_⟩) (by assumption) ?_
      · intro w hSw;go_simp
        try (intro hq;exfalso;omega)
      try simp only [Act.put,qsA,qsB,qsC]
      refine wpAnyH_take (i:=5) (oi:=_) (v:= .slice (some ⟨b,off,none⟩) N kc) rfl (by kernel_rfl) (by kernel_rfl) (by kernel_rfl) (fun _ _ _ h=>h) (.inl ⟨by rfl,?_⟩) (by assumption) ?_
      · intro w hSw;go_simp
        try (intro hq;exfalso;omega)
      try simp only [Act.put,qsA,qsB,qsC]
      refine wpAnyH_take (i:=6) (oi:=_) (v:= .int .i64 (2*(k:Int))) rfl (by kernel_rfl) (by kernel_rfl) (by kernel_rfl) (fun _ _ _ h=>h) (.inl ⟨by rfl,?_⟩) (by assumption) ?_
      · intro w hSw;go_simp
        try (intro hq;exfalso;omega)
      try simp only [Act.put,qsA,qsB,qsC]
      refine wpAnyH_take (i:=7) (oi:=_) (v:= .int .i64 (2*(k:Int)+1)) rfl (by kernel_rfl) (by kernel_rfl) (by kernel_rfl) (fun _ _ _ h=>h) (.inl ⟨by rfl,?_⟩) (by assumption) ?_
      · intro w hSw;go_simp
        try (intro hq;exfalso;omega)
      try simp only [Act.put,qsA,qsB,qsC]
      refine wpAnyH_take (i:=8) (oi:=_) (v:= .pointer (some ⟨b,off+(2*k+1)*10,none⟩)) rfl (by kernel_rfl) (by kernel_rfl) (by kernel_rfl) (fun _ _ _ h=>h) (.inl ⟨by rfl,?_⟩) (by assumption) ?_
      · intro w hSw;go_simp
        try (intro hq;exfalso;omega)
      try simp only [Act.put,qsA,qsB,qsC]
      refine wpAnyH_ready (rs:=[1]) (by kernel_rfl) (by simp) ?_;refine AllReadyH.cons (o:=_) rfl (fun K2 hK2=> ?_) AllReadyH.nil;go_simp;go_at_call 140;refine (q1M S 3 _).mono ?_;rintro e wh ⟨rfl,hwh⟩;have HPh:Hid (PS w0 S wh (l++[123]++fl f k++[44,32]++KY++[58,32])∧Lib.OthersKept 5 (some S) w wh):=by rw [hwh];exact ⟨(HP5.out.1.drew.alloc _).alloc _,(Lib.OthersKept.drew HP5.out.2).alloc _ |>.alloc _⟩
      have HBk:Hid (wh.heap[w5.drew.heap.size+1]? =some (.cells #[.int .i64 (3)] 3 (0,0))∧wh.heap[w5.drew.heap.size]? =some (.cells #[.pointer (some ⟨S,0,none⟩)] 74 (0,0))):=by rw [hwh];exact ⟨by have:=heap_alloc_new (w5.drew.alloc (.cells #[.pointer (some ⟨S,0,none⟩)] 74)) (.cells #[.int .i64 (3)] 3);simpa using this,(Below.heap_alloc _ _ _ (by simp)).trans (heap_alloc_new _ _)⟩
      clear hwh;have c9h:=(HPh.out.1.low.cell (p:=⟨g,o+9,none⟩) (block_lt_of_cell HC9.out)).trans HC9.out;go_wp2_with fail;refine hK2.out _ _ (by exact c9h) (fun hHeld=> ?_);clear hK2 K2
      try simp only [Act.put,qsA,qsB,qsC]
      refine wpAnyH_ready (rs:=[9]) (by kernel_rfl) (by simp) ?_;refine AllReadyH.cons (o:=_) rfl (fun K2 hK2=> ?_) AllReadyH.nil;go_simp;go_at_call 186;refine (HHk.out (3) _ _ _ _ HPh.out.1 HBk.out.1 HBk.out.2 (by have:=HLk.out;(try simp only [List.length_append,List.length_cons,List.length_nil] at this ⊢);omega)).mono ?_;rintro e w6 ⟨rfl,hp,hk⟩;have HP6:Hid (PS w0 S w6 (l++[123]++fl f k++[44,32]++KY++[58,32]++pHd (t (2*k+1)) (K (2*k+1)) (3))∧Lib.OthersKept 5 (some S) w w6):=⟨hp,HPh.out.2.trans hk⟩;clear hp hk;have c9j:=(HP6.out.1.low.cell (p:=⟨g,o+9,none⟩) (block_lt_of_cell HC9.out)).trans HC9.out;go_wp2_with fail;refine hK2.out _ _ (by exact c9j) (fun hHeld=> ?_);clear hK2 K2 hHeld
      try simp only [Act.put,qsA,qsB,qsC]
      refine wpAnyH_done (by kernel_rfl) ?_ _;clear HPh HBk c95 c9h c9j;have HPz:Hid (PS w0 S w6 (l++[123]++fl f (k+1))∧Lib.OthersKept 5 (some S) w w6):=⟨by have hq:=HP6.out.1;rw [HU.out];simp only [← List.append_assoc] at hq ⊢;exact hq,HP6.out.2⟩;go_wp2_with fail;go_roundw
      case rel=>exact ⟨k+1,by omega,by first|rfl|(congr 1;omega)|go_num,HPz⟩
      case measure=>simp [intOf];omega
    · have hz1:¬ (0:Int)<2*(k:Int):=by omega
      have HE:Hid (f k=pKe (t (2*k)) (K (2*k))++([58,32]++pHd (t (2*k+1)) (K (2*k+1)) 3)):=by show _=_;rw [HF.out];simp only [if_neg hz,List.nil_append]
      rw [HE.out] at HLk HU;generalize pKe (t (2*k)) (K (2*k))=KY at *;have c9a:=(HP2.out.1.low.cell (p:=⟨g,o+9,none⟩) (block_lt_of_cell HC9.out)).trans HC9.out;go_wp2_with fail;refine (HKk.out _ _ HP2.out.1 (by have:=HLk.out;(try simp only [List.length_append,List.length_cons,List.length_nil] at this ⊢);omega)).mono ?_;rintro e w3 ⟨rfl,hp,hk2⟩;have HP3:Hid (PS w0 S w3 (l++[123]++fl f k++KY)∧Lib.OthersKept 5 (some S) w w3):=⟨hp,HP2.out.2.trans hk2⟩;clear hp hk2 c9a;go_wp2_with fail;refine (q0h HP3.out.1 _ [58,32] rfl (by have:=HLk.out;(try simp only [List.length_append,List.length_cons,List.length_nil] at this ⊢);omega)).mono ?_;rintro e w4 ⟨rfl,hp,hk2⟩;have HP4:Hid (PS w0 S w4 (l++[123]++fl f k++KY++[58,32])∧Lib.OthersKept 5 (some S) w w4):=⟨hp,HP3.out.2.trans hk2⟩;clear hp hk2;have c94:=(HP4.out.1.low.cell (p:=⟨g,o+9,none⟩) (block_lt_of_cell HC9.out)).trans HC9.out;go_wp2_with fail;refine wp_region_held_drew (S:=(fun u=>u.cell? ⟨g,o+9,none⟩=some (.slice (some ⟨b,off,none⟩) N kc))) (by kernel_rfl) (by exact c94) (fun hHeld=> ?_);refine wpAnyH_take (i:=0) (oi:=_) (v:= .pointer (some ⟨S,0,none⟩)) rfl (by kernel_rfl) (by kernel_rfl) (by kernel_rfl) (fun _ _ _ h=>h) (.inl ⟨by rfl,?_⟩) (by assumption) ?_
      · intro w hSw;go_simp
        try (intro hq;exfalso;omega)
      try simp only [Act.put,qsA,qsB,qsC]
      refine wpAnyH_take (i:=2) (oi:=_) (v:= .pointer (some ⟨g,o,none⟩)) rfl (by kernel_rfl) (by kernel_rfl) (by kernel_rfl) (fun _ _ _ h=>h) (.inl ⟨by rfl,?_⟩) (by assumption) ?_
      · intro w hSw;go_simp
        try (intro hq;exfalso;omega)
      try simp only [Act.put,qsA,qsB,qsC]
      refine wpAnyH_take (i:=3) (oi:=_) (v:= .pointer (some ⟨g,o,none⟩)) rfl (by kernel_rfl) (by kernel_rfl) (by kernel_rfl) (fun _ _ _ h=>h) (.inl ⟨by rfl,?_⟩) (by assumption) ?_
      · intro w hSw;go_simp
        try (intro hq;exfalso;omega)
      try simp only [Act.put,qsA,qsB,qsC]
      refine wpAnyH_take (i:=4) (oi:=_) (v:= .pointer (some ⟨g,o+9,none⟩)) rfl (by kernel_rfl) (by kernel_rfl) (by kernel_rfl) (fun _ _ _ h=>h) (.inl ⟨by rfl,?_⟩) (by assumption) ?_
      · intro w hSw;go_simp
        try (intro hq;exfalso;omega)
      try simp only [Act.put,qsA,qsB,qsC]
      refine wpAnyH_take (i:=5) (oi:=_) (v:= .slice (some ⟨b,off,none⟩) N kc) rfl (by kernel_rfl) (by kernel_rfl) (by kernel_rfl) (fun _ _ _ h=>h) (.inl ⟨by rfl,?_⟩) (by assumption) ?_
      · intro w hSw;go_simp
        try (intro hq;exfalso;omega)
      try simp only [Act.put,qsA,qsB,qsC]
      refine wpAnyH_take (i:=6) (oi:=_) (v:= .int .i64 (2*(k:Int))) rfl (by kernel_rfl) (by kernel_rfl) (by kernel_rfl) (fun _ _ _ h=>h) (.inl ⟨by rfl,?_⟩) (by assumption) ?_
      · intro w hSw;go_simp
        try (intro hq;exfalso;omega)
      try simp only [Act.put,qsA,qsB,qsC]
      refine wpAnyH_take (i:=7) (oi:=_) (v:= .int .i64 (2*(k:Int)+1)) rfl (by kernel_rfl) (by kernel_rfl) (by kernel_rfl) (fun _ _ _ h=>h) (.inl ⟨by rfl,?_⟩) (by assumption) ?_
      · intro w hSw;go_simp
        try (intro hq;exfalso;omega)
      try simp only [Act.put,qsA,qsB,qsC]
      refine wpAnyH_take (i:=8) (oi:=_) (v:= .pointer (some ⟨b,off+(2*k+1)*10,none⟩)) rfl (by kernel_rfl) (by kernel_rfl) (by kernel_rfl) (fun _ _ _ h=>h) (.inl ⟨by rfl,?_⟩) (by assumption) ?_
      · intro w hSw;go_simp
        try (intro hq;exfalso;omega)
      try simp only [Act.put,qsA,qsB,qsC]
      refine wpAnyH_ready (rs:=[1]) (by kernel_rfl) (by simp) ?_;refine AllReadyH.cons (o:=_) rfl (fun K2 hK2=> ?_) AllReadyH.nil;go_simp;go_at_call 140;refine (q1M S 3 _).mono ?_;rintro e wh ⟨rfl,hwh⟩;have HPh:Hid (PS w0 S wh (l++[123]++fl f k++KY++[58,32])∧Lib.OthersKept 5 (some S) w wh):=by rw [hwh];exact ⟨(HP4.out.1.drew.alloc _).alloc _,(Lib.OthersKept.drew HP4.out.2).alloc _ |>.alloc _⟩
      have HBk:Hid (wh.heap[w4.drew.heap.size+1]? =some (.cells #[.int .i64 (3)] 3 (0,0))∧wh.heap[w4.drew.heap.size]? =some (.cells #[.pointer (some ⟨S,0,none⟩)] 74 (0,0))):=by rw [hwh];exact ⟨by have:=heap_alloc_new (w4.drew.alloc (.cells #[.pointer (some ⟨S,0,none⟩)] 74)) (.cells #[.int .i64 (3)] 3);simpa using this,(Below.heap_alloc _ _ _ (by simp)).trans (heap_alloc_new _ _)⟩
      clear hwh;have c9h:=(HPh.out.1.low.cell (p:=⟨g,o+9,none⟩) (block_lt_of_cell HC9.out)).trans HC9.out;go_wp2_with fail;refine hK2.out _ _ (by exact c9h) (fun hHeld=> ?_);clear hK2 K2
      try simp only [Act.put,qsA,qsB,qsC]
      refine wpAnyH_ready (rs:=[9]) (by kernel_rfl) (by simp) ?_;refine AllReadyH.cons (o:=_) rfl (fun K2 hK2=> ?_) AllReadyH.nil;go_simp;go_at_call 186;refine (HHk.out (3) _ _ _ _ HPh.out.1 HBk.out.1 HBk.out.2 (by have:=HLk.out;(try simp only [List.length_append,List.length_cons,List.length_nil] at this ⊢);omega)).mono ?_;rintro e w5 ⟨rfl,hp,hk⟩;have HP5:Hid (PS w0 S w5 (l++[123]++fl f k++KY++[58,32]++pHd (t (2*k+1)) (K (2*k+1)) (3))∧Lib.OthersKept 5 (some S) w w5):=⟨hp,HPh.out.2.trans hk⟩;clear hp hk;have c9j:=(HP5.out.1.low.cell (p:=⟨g,o+9,none⟩) (block_lt_of_cell HC9.out)).trans HC9.out;go_wp2_with fail;refine hK2.out _ _ (by exact c9j) (fun hHeld=> ?_);clear hK2 K2 hHeld
      try simp only [Act.put,qsA,qsB,qsC]
      refine wpAnyH_done (by kernel_rfl) ?_ _;clear HPh HBk c94 c9h c9j;have HPz:Hid (PS w0 S w5 (l++[123]++fl f (k+1))∧Lib.OthersKept 5 (some S) w w5):=⟨by have hq:=HP5.out.1;rw [HU.out];simp only [← List.append_assoc] at hq ⊢;exact hq,HP5.out.2⟩;go_wp2_with fail;go_roundw
      case rel=>exact ⟨k+1,by omega,by first|rfl|(congr 1;omega)|go_num,HPz⟩
      case measure=>simp [intOf];omega
  · have hl1:¬ 2*(k:Int)<(N:Int):=by omega
    obtain rfl:k=M:=by omega
    go_wp2_with fail;refine (q0h HP2.out.1 _ [125] rfl (by have:=HL.out;(try simp only [List.length_append,List.length_cons,List.length_nil] at this ⊢);omega)).mono ?_;rintro e w5 ⟨rfl,hp,hk2⟩;have HP5:Hid (PS w0 S w5 (l++([123]++(fl f k++[125])))∧Lib.OthersKept 5 (some S) w w5):=⟨by simp only [← List.append_assoc] at hp ⊢;exact hp,HP2.out.2.trans hk2⟩;clear hp hk2;go_wp2_with fail
    go_end0
    exact ⟨rfl,HP5.out⟩
theorem w_index (w0:World) (S h g o b off N kc:Nat) (K:Nat→NT) (t:Nat→List UInt8) (c9:w0.cell? ⟨g,o+9,none⟩=some (.slice (some ⟨b,off,none⟩) N kc)) (hcap:N≤kc) (hbig:N≤140737488355328) (hN:2≤N) (hz:(K 1).value.text.size≤1048576) (hT:∀ i,i<N→Say w0 S 26 #[.pointer (some ⟨S,0,none⟩),.pointer (some ⟨b,off+i*10,none⟩)] (t i)) (hA:∀ i,i<N→NAt w0 (h+1) (K i) b (off+i*10)∧0≤(K i).op∧(K i).op<44):Say w0 S 82 #[.pointer (some ⟨S,0,none⟩),.pointer (some ⟨g,o,none⟩)] (sIndex K t):=by
 have q0:((0:Int)<(N:Int)):=by omega
 have q1:((1:Int)<(N:Int)):=by omega
 have HT:Hid (∀ i,i<N→Say w0 S 26 #[.pointer (some ⟨S,0,none⟩),.pointer (some ⟨b,off+i*10,none⟩)] (t i)):=hT;have HBs:Hid (∀ i,i<N→Say w0 S 141 #[.pointer (some ⟨S,0,none⟩),.pointer (some ⟨b,off+i*10,none⟩)] (pBs (t i) (K i))):=fun i hi=>w_base w0 S h (K i) b (off+i*10) (t i) (hA i hi).1 (hA i hi).2 (hT i hi);have HT1:=hQz (HT.out 1 (by omega));have HBs0:=hQz (HBs.out 0 (by omega));have HX:Hid (∀ u,Below w0.heap.size w0 u→Calls Tryz.prog 142 #[.pointer (some ⟨b,off+1*10,none⟩)] u fun e w'=>e= .returned (.bool (pTx (K 1)))∧w'=u):=fun u hu=>w_isTextP h (K 1) b (off+1*10) u ((hA 1 (by omega)).1.keep hu);have HNm:=hQz (fun u=>w_Named (K 1).value.text u (by omega))
 obtain ⟨HC5,HC0⟩:Hid (w0.cell? ⟨b,off+10+5,none⟩=some (.string (K 1).value.text))∧Hid (w0.cell? ⟨b,off,none⟩=some (.int .i64 (K 0).op)):=by
  obtain ⟨aio,aic,ayo,ayc,ano,anc,ako,akc,HA⟩:=(hA 0 (by omega)).1.open_;obtain ⟨bio,bic,byo,byc,bno,bnc,bko,bkc,HB⟩:=(hA 1 (by omega)).1.open_;exact ⟨by show _=_;have:=HB.c5;simpa using this,by show _=_;have:=HA.c0;simpa using this⟩
 have HC9:=hQz c9;have e10:off+1*10=off+10:=by omega
 have e00:off+0*10=off:=by omega
 rw [e10] at HX HT1;rw [e00] at HBs0;clear hT hA c9 HT HBs hz e10 e00;unfold sIndex;generalize (K 1).value.text=tx at *;generalize pTx (K 1)=bt at *;generalize (K 0).op=op0 at *;generalize pBs (t 0) (K 0)=BS at*
 cases bt with
 | false=>
  rw [if_neg (fun h=>by cases h.1)];intro w l hP hlen;have HP0:=hQz (And.intro hP (Lib.OthersKept.refl 5 (some S) w));have HL:=hQz hlen;clear hP hlen;go_in;have c90:=(HP0.out.1.low.cell (p:=⟨g,o+9,none⟩) (block_lt_of_cell HC9.out)).trans HC9.out;have c50:=(HP0.out.1.low.cell (p:=⟨b,off+10+5,none⟩) (block_lt_of_cell HC5.out)).trans HC5.out;have c00:=(HP0.out.1.low.cell (p:=⟨b,off,none⟩) (block_lt_of_cell HC0.out)).trans HC0.out;go_wp2_with fail;have C9r:=fun d os=>cell_regrown c90 d os;refine wp_region_quiet_below (by kernel_rfl) (by kernel_rfl) ?_
  repeat (go_big_quiet_step (fail))
  refine wpQuiet_nil ?_;intro wq hw'
  have HP1:Hid (PS w0 S wq l∧Lib.OthersKept 5 (some S) w wq):=by
   obtain ⟨⟨dq,osq⟩,rfl⟩:=hw';exact ⟨HP0.out.1.keep (below_regrown w dq osq),ok_low (below_regrown w dq osq)⟩
  clear hw' C9r c90 c50 c00;have c91:=(HP1.out.1.low.cell (p:=⟨g,o+9,none⟩) (block_lt_of_cell HC9.out)).trans HC9.out;have c51:=(HP1.out.1.low.cell (p:=⟨b,off+10+5,none⟩) (block_lt_of_cell HC5.out)).trans HC5.out;have c01:=(HP1.out.1.low.cell (p:=⟨b,off,none⟩) (block_lt_of_cell HC0.out)).trans HC0.out;go_wp2_with fail;refine (HBs0.out _ _ HP1.out.1 (by have:=HL.out;(try simp only [List.length_append,List.length_cons,List.length_nil] at this ⊢);omega)).mono ?_;rintro e w2 ⟨rfl,hp,hk⟩;have HP2:Hid (PS w0 S w2 (l++(BS))∧Lib.OthersKept 5 (some S) w w2):=⟨hp,HP1.out.2.trans hk⟩;clear hp hk;clear c91 c51 c01;have c92:=(HP2.out.1.low.cell (p:=⟨g,o+9,none⟩) (block_lt_of_cell HC9.out)).trans HC9.out;have c52:=(HP2.out.1.low.cell (p:=⟨b,off+10+5,none⟩) (block_lt_of_cell HC5.out)).trans HC5.out;have c02:=(HP2.out.1.low.cell (p:=⟨b,off,none⟩) (block_lt_of_cell HC0.out)).trans HC0.out;go_wp2_with fail;refine (HX.out _ HP2.out.1.low).mono ?_;rintro e wx ⟨rfl,hwx⟩;obtain rfl:=hwx.symm;clear c92 c52 c02;have c92:=(HP2.out.1.low.cell (p:=⟨g,o+9,none⟩) (block_lt_of_cell HC9.out)).trans HC9.out;have c52:=(HP2.out.1.low.cell (p:=⟨b,off+10+5,none⟩) (block_lt_of_cell HC5.out)).trans HC5.out;have c02:=(HP2.out.1.low.cell (p:=⟨b,off,none⟩) (block_lt_of_cell HC0.out)).trans HC0.out;go_wp2_with fail;refine (q0h HP2.out.1 _ ([91]) rfl (by have:=HL.out;(try simp only [List.length_append,List.length_cons,List.length_nil] at this ⊢);omega)).mono ?_;rintro e w3 ⟨rfl,hp,hk⟩;have HP3:Hid (PS w0 S w3 (l++(BS)++([91]))∧Lib.OthersKept 5 (some S) w w3):=⟨hp,HP2.out.2.trans hk⟩;clear hp hk;clear c92 c52 c02;have c93:=(HP3.out.1.low.cell (p:=⟨g,o+9,none⟩) (block_lt_of_cell HC9.out)).trans HC9.out;have c53:=(HP3.out.1.low.cell (p:=⟨b,off+10+5,none⟩) (block_lt_of_cell HC5.out)).trans HC5.out;have c03:=(HP3.out.1.low.cell (p:=⟨b,off,none⟩) (block_lt_of_cell HC0.out)).trans HC0.out;go_wp2_with fail;refine (HT1.out _ _ HP3.out.1 (by have:=HL.out;(try simp only [List.length_append,List.length_cons,List.length_nil] at this ⊢);omega)).mono ?_;rintro e w4 ⟨rfl,hp,hk⟩;have HP4:Hid (PS w0 S w4 (l++(BS)++([91])++(t 1))∧Lib.OthersKept 5 (some S) w w4):=⟨hp,HP3.out.2.trans hk⟩;clear hp hk;clear c93 c53 c03;have c94:=(HP4.out.1.low.cell (p:=⟨g,o+9,none⟩) (block_lt_of_cell HC9.out)).trans HC9.out;have c54:=(HP4.out.1.low.cell (p:=⟨b,off+10+5,none⟩) (block_lt_of_cell HC5.out)).trans HC5.out
  have c04:=(HP4.out.1.low.cell (p:=⟨b,off,none⟩) (block_lt_of_cell HC0.out)).trans HC0.out;go_wp2_with fail;refine (q0h HP4.out.1 _ ([93]) rfl (by have:=HL.out;(try simp only [List.length_append,List.length_cons,List.length_nil] at this ⊢);omega)).mono ?_;rintro e w5 ⟨rfl,hp,hk⟩;have HP5:Hid (PS w0 S w5 (l++(BS)++([91])++(t 1)++([93]))∧Lib.OthersKept 5 (some S) w w5):=⟨hp,HP4.out.2.trans hk⟩;clear hp hk;clear c94 c54 c04;have c95:=(HP5.out.1.low.cell (p:=⟨g,o+9,none⟩) (block_lt_of_cell HC9.out)).trans HC9.out;have c55:=(HP5.out.1.low.cell (p:=⟨b,off+10+5,none⟩) (block_lt_of_cell HC5.out)).trans HC5.out;have c05:=(HP5.out.1.low.cell (p:=⟨b,off,none⟩) (block_lt_of_cell HC0.out)).trans HC0.out;go_wp2_with fail;(try simp only [Exit.inBlock,Exit.then])
  refine bodyPost_ret (results_none rfl _ _ _) rfl ?_;refine ⟨rfl,?_,HP5.out.2⟩;have hz:=HP5.out.1
  try simp only [List.append_assoc,List.cons_append,List.nil_append] at hz ⊢
  exact hz
 | true=>
  cases hn:q2k tx.data.toList with
  | false=>
   rw [hn] at HNm;rw [if_neg (fun h=>by cases h.2)];intro w l hP hlen;have HP0:=hQz (And.intro hP (Lib.OthersKept.refl 5 (some S) w));have HL:=hQz hlen;clear hP hlen;go_in;have c90:=(HP0.out.1.low.cell (p:=⟨g,o+9,none⟩) (block_lt_of_cell HC9.out)).trans HC9.out;have c50:=(HP0.out.1.low.cell (p:=⟨b,off+10+5,none⟩) (block_lt_of_cell HC5.out)).trans HC5.out;have c00:=(HP0.out.1.low.cell (p:=⟨b,off,none⟩) (block_lt_of_cell HC0.out)).trans HC0.out;go_wp2_with fail;have C9r:=fun d os=>cell_regrown c90 d os;refine wp_region_quiet_below (by kernel_rfl) (by kernel_rfl) ?_
   repeat (go_big_quiet_step (fail))
   refine wpQuiet_nil ?_;intro wq hw'
   have HP1:Hid (PS w0 S wq l∧Lib.OthersKept 5 (some S) w wq):=by
    obtain ⟨⟨dq,osq⟩,rfl⟩:=hw';exact ⟨HP0.out.1.keep (below_regrown w dq osq),ok_low (below_regrown w dq osq)⟩
   clear hw' C9r c90 c50 c00;have c91:=(HP1.out.1.low.cell (p:=⟨g,o+9,none⟩) (block_lt_of_cell HC9.out)).trans HC9.out;have c51:=(HP1.out.1.low.cell (p:=⟨b,off+10+5,none⟩) (block_lt_of_cell HC5.out)).trans HC5.out;have c01:=(HP1.out.1.low.cell (p:=⟨b,off,none⟩) (block_lt_of_cell HC0.out)).trans HC0.out;go_wp2_with fail;refine (HBs0.out _ _ HP1.out.1 (by have:=HL.out;(try simp only [List.length_append,List.length_cons,List.length_nil] at this ⊢);omega)).mono ?_;rintro e w2 ⟨rfl,hp,hk⟩;have HP2:Hid (PS w0 S w2 (l++(BS))∧Lib.OthersKept 5 (some S) w w2):=⟨hp,HP1.out.2.trans hk⟩;clear hp hk;clear c91 c51 c01;have c92:=(HP2.out.1.low.cell (p:=⟨g,o+9,none⟩) (block_lt_of_cell HC9.out)).trans HC9.out;have c52:=(HP2.out.1.low.cell (p:=⟨b,off+10+5,none⟩) (block_lt_of_cell HC5.out)).trans HC5.out;have c02:=(HP2.out.1.low.cell (p:=⟨b,off,none⟩) (block_lt_of_cell HC0.out)).trans HC0.out;go_wp2_with fail;refine (HX.out _ HP2.out.1.low).mono ?_;rintro e wx ⟨rfl,hwx⟩;obtain rfl:=hwx.symm;go_wp2_with fail;refine (HNm.out _).mono ?_;rintro e wx ⟨rfl,hwx⟩;obtain rfl:=hwx.symm;clear c92 c52 c02;have c92:=(HP2.out.1.low.cell (p:=⟨g,o+9,none⟩) (block_lt_of_cell HC9.out)).trans HC9.out;have c52:=(HP2.out.1.low.cell (p:=⟨b,off+10+5,none⟩) (block_lt_of_cell HC5.out)).trans HC5.out;have c02:=(HP2.out.1.low.cell (p:=⟨b,off,none⟩) (block_lt_of_cell HC0.out)).trans HC0.out;go_wp2_with fail;refine (q0h HP2.out.1 _ ([91]) rfl (by have:=HL.out;(try simp only [List.length_append,List.length_cons,List.length_nil] at this ⊢);omega)).mono ?_;rintro e w3 ⟨rfl,hp,hk⟩;have HP3:Hid (PS w0 S w3 (l++(BS)++([91]))∧Lib.OthersKept 5 (some S) w w3):=⟨hp,HP2.out.2.trans hk⟩;clear hp hk;clear c92 c52 c02;have c93:=(HP3.out.1.low.cell (p:=⟨g,o+9,none⟩) (block_lt_of_cell HC9.out)).trans HC9.out;have c53:=(HP3.out.1.low.cell (p:=⟨b,off+10+5,none⟩) (block_lt_of_cell HC5.out)).trans HC5.out;have c03:=(HP3.out.1.low.cell (p:=⟨b,off,none⟩) (block_lt_of_cell HC0.out)).trans HC0.out;go_wp2_with fail;refine (HT1.out _ _ HP3.out.1 (by have:=HL.out;(try simp only [List.length_append,List.length_cons,List.length_nil] at this ⊢);omega)).mono ?_;rintro e w4 ⟨rfl,hp,hk⟩;have HP4:Hid (PS w0 S w4 (l++(BS)++([91])++(t 1))∧Lib.OthersKept 5 (some S) w w4):=⟨hp,HP3.out.2.trans hk⟩;clear hp hk;clear c93 c53 c03;have c94:=(HP4.out.1.low.cell (p:=⟨g,o+9,none⟩) (block_lt_of_cell HC9.out)).trans HC9.out
   have c54:=(HP4.out.1.low.cell (p:=⟨b,off+10+5,none⟩) (block_lt_of_cell HC5.out)).trans HC5.out;have c04:=(HP4.out.1.low.cell (p:=⟨b,off,none⟩) (block_lt_of_cell HC0.out)).trans HC0.out;go_wp2_with fail;refine (q0h HP4.out.1 _ ([93]) rfl (by have:=HL.out;(try simp only [List.length_append,List.length_cons,List.length_nil] at this ⊢);omega)).mono ?_;rintro e w5 ⟨rfl,hp,hk⟩;have HP5:Hid (PS w0 S w5 (l++(BS)++([91])++(t 1)++([93]))∧Lib.OthersKept 5 (some S) w w5):=⟨hp,HP4.out.2.trans hk⟩;clear hp hk;clear c94 c54 c04;have c95:=(HP5.out.1.low.cell (p:=⟨g,o+9,none⟩) (block_lt_of_cell HC9.out)).trans HC9.out;have c55:=(HP5.out.1.low.cell (p:=⟨b,off+10+5,none⟩) (block_lt_of_cell HC5.out)).trans HC5.out;have c05:=(HP5.out.1.low.cell (p:=⟨b,off,none⟩) (block_lt_of_cell HC0.out)).trans HC0.out;go_wp2_with fail;(try simp only [Exit.inBlock,Exit.then])
   refine bodyPost_ret (results_none rfl _ _ _) rfl ?_;refine ⟨rfl,?_,HP5.out.2⟩;have hz:=HP5.out.1
   try simp only [List.append_assoc,List.cons_append,List.nil_append] at hz ⊢
   exact hz
  | true=>
   rw [hn] at HNm;rw [if_pos ⟨rfl,rfl⟩];by_cases h1:op0=1
   · subst h1;rw [if_pos rfl,List.nil_append];intro w l hP hlen;have HP0:=hQz (And.intro hP (Lib.OthersKept.refl 5 (some S) w));have HL:=hQz hlen;clear hP hlen;go_in;have c90:=(HP0.out.1.low.cell (p:=⟨g,o+9,none⟩) (block_lt_of_cell HC9.out)).trans HC9.out;have c50:=(HP0.out.1.low.cell (p:=⟨b,off+10+5,none⟩) (block_lt_of_cell HC5.out)).trans HC5.out;have c00:=(HP0.out.1.low.cell (p:=⟨b,off,none⟩) (block_lt_of_cell HC0.out)).trans HC0.out;go_wp2_with fail;have C9r:=fun d os=>cell_regrown c90 d os;refine wp_region_quiet_below (by kernel_rfl) (by kernel_rfl) ?_
     repeat (go_big_quiet_step (fail))
     refine wpQuiet_nil ?_;intro wq hw'
     have HP1:Hid (PS w0 S wq l∧Lib.OthersKept 5 (some S) w wq):=by
      obtain ⟨⟨dq,osq⟩,rfl⟩:=hw';exact ⟨HP0.out.1.keep (below_regrown w dq osq),ok_low (below_regrown w dq osq)⟩
     clear hw' C9r c90 c50 c00;have c91:=(HP1.out.1.low.cell (p:=⟨g,o+9,none⟩) (block_lt_of_cell HC9.out)).trans HC9.out;have c51:=(HP1.out.1.low.cell (p:=⟨b,off+10+5,none⟩) (block_lt_of_cell HC5.out)).trans HC5.out;have c01:=(HP1.out.1.low.cell (p:=⟨b,off,none⟩) (block_lt_of_cell HC0.out)).trans HC0.out;go_wp2_with fail;refine (HBs0.out _ _ HP1.out.1 (by have:=HL.out;(try simp only [List.length_append,List.length_cons,List.length_nil] at this ⊢);omega)).mono ?_;rintro e w2 ⟨rfl,hp,hk⟩;have HP2:Hid (PS w0 S w2 (l++(BS))∧Lib.OthersKept 5 (some S) w w2):=⟨hp,HP1.out.2.trans hk⟩;clear hp hk;clear c91 c51 c01;have c92:=(HP2.out.1.low.cell (p:=⟨g,o+9,none⟩) (block_lt_of_cell HC9.out)).trans HC9.out;have c52:=(HP2.out.1.low.cell (p:=⟨b,off+10+5,none⟩) (block_lt_of_cell HC5.out)).trans HC5.out;have c02:=(HP2.out.1.low.cell (p:=⟨b,off,none⟩) (block_lt_of_cell HC0.out)).trans HC0.out;go_wp2_with fail;refine (HX.out _ HP2.out.1.low).mono ?_;rintro e wx ⟨rfl,hwx⟩;obtain rfl:=hwx.symm;go_wp2_with fail;refine (HNm.out _).mono ?_;rintro e wx ⟨rfl,hwx⟩;obtain rfl:=hwx.symm;clear c92 c52 c02;have c92:=(HP2.out.1.low.cell (p:=⟨g,o+9,none⟩) (block_lt_of_cell HC9.out)).trans HC9.out;have c52:=(HP2.out.1.low.cell (p:=⟨b,off+10+5,none⟩) (block_lt_of_cell HC5.out)).trans HC5.out;have c02:=(HP2.out.1.low.cell (p:=⟨b,off,none⟩) (block_lt_of_cell HC0.out)).trans HC0.out;go_wp2_with fail;refine (q0h HP2.out.1 _ (tx.data.toList) rfl (by have:=HL.out;(try simp only [List.length_append,List.length_cons,List.length_nil] at this ⊢);omega)).mono ?_;rintro e w3 ⟨rfl,hp,hk⟩;have HP3:Hid (PS w0 S w3 (l++(BS)++(tx.data.toList))∧Lib.OthersKept 5 (some S) w w3):=⟨hp,HP2.out.2.trans hk⟩;clear hp hk;clear c92 c52 c02;go_wp2_with fail
     go_end0
     refine ⟨rfl,?_,HP3.out.2⟩;have hz:=HP3.out.1
     try simp only [List.append_assoc,List.cons_append,List.nil_append] at hz ⊢
     exact hz
   · have b1:(op0 != 1)=true:=by simpa using h1
     rw [if_neg h1];intro w l hP hlen;have HP0:=hQz (And.intro hP (Lib.OthersKept.refl 5 (some S) w));have HL:=hQz hlen;clear hP hlen;go_in;have c90:=(HP0.out.1.low.cell (p:=⟨g,o+9,none⟩) (block_lt_of_cell HC9.out)).trans HC9.out;have c50:=(HP0.out.1.low.cell (p:=⟨b,off+10+5,none⟩) (block_lt_of_cell HC5.out)).trans HC5.out;have c00:=(HP0.out.1.low.cell (p:=⟨b,off,none⟩) (block_lt_of_cell HC0.out)).trans HC0.out;go_wp2_with fail;have C9r:=fun d os=>cell_regrown c90 d os;refine wp_region_quiet_below (by kernel_rfl) (by kernel_rfl) ?_
     repeat (go_big_quiet_step (fail))
     refine wpQuiet_nil ?_;intro wq hw'
     have HP1:Hid (PS w0 S wq l∧Lib.OthersKept 5 (some S) w wq):=by
      obtain ⟨⟨dq,osq⟩,rfl⟩:=hw';exact ⟨HP0.out.1.keep (below_regrown w dq osq),ok_low (below_regrown w dq osq)⟩
     clear hw' C9r c90 c50 c00;have c91:=(HP1.out.1.low.cell (p:=⟨g,o+9,none⟩) (block_lt_of_cell HC9.out)).trans HC9.out;have c51:=(HP1.out.1.low.cell (p:=⟨b,off+10+5,none⟩) (block_lt_of_cell HC5.out)).trans HC5.out;have c01:=(HP1.out.1.low.cell (p:=⟨b,off,none⟩) (block_lt_of_cell HC0.out)).trans HC0.out;go_wp2_with fail;refine (HBs0.out _ _ HP1.out.1 (by have:=HL.out;(try simp only [List.length_append,List.length_cons,List.length_nil] at this ⊢);omega)).mono ?_;rintro e w2 ⟨rfl,hp,hk⟩;have HP2:Hid (PS w0 S w2 (l++(BS))∧Lib.OthersKept 5 (some S) w w2):=⟨hp,HP1.out.2.trans hk⟩;clear hp hk;clear c91 c51 c01;have c92:=(HP2.out.1.low.cell (p:=⟨g,o+9,none⟩) (block_lt_of_cell HC9.out)).trans HC9.out;have c52:=(HP2.out.1.low.cell (p:=⟨b,off+10+5,none⟩) (block_lt_of_cell HC5.out)).trans HC5.out;have c02:=(HP2.out.1.low.cell (p:=⟨b,off,none⟩) (block_lt_of_cell HC0.out)).trans HC0.out;go_wp2_with fail;refine (HX.out _ HP2.out.1.low).mono ?_;rintro e wx ⟨rfl,hwx⟩;obtain rfl:=hwx.symm;go_wp2_with fail;refine (HNm.out _).mono ?_;rintro e wx ⟨rfl,hwx⟩;obtain rfl:=hwx.symm;clear c92 c52 c02;have c92:=(HP2.out.1.low.cell (p:=⟨g,o+9,none⟩) (block_lt_of_cell HC9.out)).trans HC9.out;have c52:=(HP2.out.1.low.cell (p:=⟨b,off+10+5,none⟩) (block_lt_of_cell HC5.out)).trans HC5.out;have c02:=(HP2.out.1.low.cell (p:=⟨b,off,none⟩) (block_lt_of_cell HC0.out)).trans HC0.out;go_wp2_with fail;refine (q0h HP2.out.1 _ ([46]) rfl (by have:=HL.out;(try simp only [List.length_append,List.length_cons,List.length_nil] at this ⊢);omega)).mono ?_;rintro e w3 ⟨rfl,hp,hk⟩;have HP3:Hid (PS w0 S w3 (l++(BS)++([46]))∧Lib.OthersKept 5 (some S) w w3):=⟨hp,HP2.out.2.trans hk⟩;clear hp hk;clear c92 c52 c02;have c93:=(HP3.out.1.low.cell (p:=⟨g,o+9,none⟩) (block_lt_of_cell HC9.out)).trans HC9.out;have c53:=(HP3.out.1.low.cell (p:=⟨b,off+10+5,none⟩) (block_lt_of_cell HC5.out)).trans HC5.out;have c03:=(HP3.out.1.low.cell (p:=⟨b,off,none⟩) (block_lt_of_cell HC0.out)).trans HC0.out;go_wp2_with fail;refine (q0h HP3.out.1 _ (tx.data.toList) rfl (by have:=HL.out;(try simp only [List.length_append,List.length_cons,List.length_nil] at this ⊢);omega)).mono ?_;rintro e w4 ⟨rfl,hp,hk⟩;have HP4:Hid (PS w0 S w4 (l++(BS)++([46])++(tx.data.toList))∧Lib.OthersKept 5 (some S) w w4):=⟨hp,HP3.out.2.trans hk⟩;clear hp hk;clear c93 c53 c03
     go_wp2_with fail
     go_end0
     refine ⟨rfl,?_,HP4.out.2⟩;have hz:=HP4.out.1
     try simp only [List.append_assoc,List.cons_append,List.nil_append] at hz ⊢
     exact hz
end Go.Proofs.YtdjleoglphgdgaaGreatDoor
