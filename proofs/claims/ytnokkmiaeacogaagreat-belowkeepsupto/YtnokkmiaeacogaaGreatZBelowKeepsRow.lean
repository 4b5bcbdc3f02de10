import Derived.Test.YtnokkmiaeacogaaGreatRows
import Derived.Test.YtnokkmiaeacogaaGreatM20
import Derived.Test.YtnokkmiaeacogaaGreatM46
import Derived.WalkKit
import Derived.ProofKit
import Derived.OpenShut
import Derived.ShutString
import Derived.SizedLaws
import Derived.Stop.LaidErr
import Derived.Deep.DeepHandedRow
import Derived.Lib.LaidTab
import Derived.WideKeyArgs
import Derived.WideKeyElems4
set_option linter.unusedVariables false
namespace Go.Proofs.YtnokkmiaeacogaaGreat.belowKeeps
open Go.ChangeShapes Go.WideShapes Go.ChangeAt Go.RowKit
theorem own:ownKnob Tryz.prog.godebug=none:=by kernel_rfl
theorem laidOut:laidOutB Tryz.prog=true:=by kernel_rfl
noncomputable def bareWorld (os:Os):World:=World.holding Tryz.prog os ⟨#[],#[],[]⟩
set_option maxRecDepth 100000 in
theorem contract (H:Type) (enc:TypeId × Value→H) (W:World) (base:Nat) (args:Array Value) (ds gs:List (DataW H)) (before:List MemPlace)
 (hval:∀ (j:Nat) t v,Tryz.f3.params[j]? =some t→args[j]? =some v→Value.okWide Tryz.prog W .any base t v)
 (hW:DataW.Whole enc Tryz.prog Tryz.f3.params.toList Rows.belowKeepsSpec.vars false W args.toList ds gs before) (hk:Rows.uptoSmall H (ds++gs)=true):
 Calls Tryz.prog 3 args W fun e W'=>∃ v,e= .returned v∧Rows.belowKeepsSpec.post enc Tryz.prog Tryz.f3 false true false false W args v W':=by
 have hW':=hW;obtain ⟨p,q,hA0,hV,rfl,hfz,hnd⟩:=hW;have hA:DataW.TrodAll enc Tryz.prog W 0 (fun _=>true) true Tryz.f3.params.toList args.toList ds p:=hA0;rw [Tryz.params3] at hA hval;obtain ⟨v0,vs0,d0,ds0,p0,q0,hargs0,rfl,rfl,h0,r0⟩:=trodAll_cons hA;obtain ⟨v1,vs1,d1,ds1,p1,q1,hargs1,rfl,rfl,h1,r1⟩:=trodAll_cons r0;obtain ⟨rfl,rfl,rfl⟩:=trodAll_nil r1;obtain rfl:args= #[v0,v1]:=by cases args;simp_all
 obtain ⟨rfl,rfl⟩:=trodVars_none hV;clear hA0;simp only [List.append_nil] at hW' hk;have hlt0:∀ x∈p0,x.block<W.heap.size:=fun x hx=>hW'.lt x (by simp [hx]);have hk0:=h0;have hlt1:∀ x∈p1,x.block<W.heap.size:=fun x hx=>hW'.lt x (by simp [hx]);have hk1:=h1
 have again:∀ (W':World),Below W.heap.size W W'→DataW.TrodAll enc Tryz.prog W' 0 (fun b=>decide (b<W.heap.size)) true [27,27] [v0,v1] [d0,d1] (p0++(p1++[])):=fun W' hb=>
  (trodAll_cons_mk (WideElems.Trod_stays laidOut (by kernel_rfl) (of_decide_eq_true (by kernel_rfl)) hk0 (fun x hx=>hb.same (hlt0 x hx)) (fun x hx=>by simpa using hlt0 x hx)) (trodAll_cons_mk (WideElems.Trod_stays laidOut (by kernel_rfl) (of_decide_eq_true (by kernel_rfl)) hk1 (fun x hx=>hb.same (hlt1 x hx)) (fun x hx=>by simpa using hlt1 x hx)) trodAll_mk0))
 suffices hx:Calls Tryz.prog 3 #[v0,v1] W fun e w'=>e= .returned (.bool true)∧Below W.heap.size W w' by
  refine hx.mono fun e W' ⟨he,hb⟩=> ?_;subst he;exact ⟨_,rfl,_,_,_,[],_,[],hW',trodAll_cons_mk (shut_bool Tryz.underlying4 _) trodAll_mk0,again W' hb,rfl,hb.frame _,fun h=>by cases h⟩
 clear again hW';have hbk:Rows.uptoBulkAll [d0,d1]≤1048576:=of_decide_eq_true hk;simp only [Rows.uptoBulkAll] at hbk;obtain ⟨cs0,rfl,hcs0⟩:=okWide_struct Tryz.underlying27 (hval 0 27 v0 rfl rfl);obtain ⟨fuel0,hf0⟩:=h0;have hf0':DataW.trod enc Tryz.prog W 0 (fun _=>true) true fuel0 27 cs0.toList=some (d0,p0):=hf0;obtain ⟨T0,tq0,c0_0,c0_1,c0_2,c0_3,c0_4,c0_5,c0_6,c0_7,c0_8,hc0,hU0⟩:=tt_open fuel0 cs0.toList (d0,p0) hf0' (by show Rows.uptoBulk d0≤_;omega);obtain rfl:cs0= #[c0_0,c0_1,c0_2,c0_3,c0_4,c0_5,c0_6,c0_7,c0_8]:=by cases cs0;simp_all
 obtain ⟨cs1,rfl,hcs1⟩:=okWide_struct Tryz.underlying27 (hval 1 27 v1 rfl rfl);obtain ⟨fuel1,hf1⟩:=h1;have hf1':DataW.trod enc Tryz.prog W 0 (fun _=>true) true fuel1 27 cs1.toList=some (d1,p1):=hf1;obtain ⟨T1,tq1,c1_0,c1_1,c1_2,c1_3,c1_4,c1_5,c1_6,c1_7,c1_8,hc1,hU1⟩:=tt_open fuel1 cs1.toList (d1,p1) hf1' (by show Rows.uptoBulk d1≤_;omega);obtain rfl:cs1= #[c1_0,c1_1,c1_2,c1_3,c1_4,c1_5,c1_6,c1_7,c1_8]:=by cases cs1;simp_all
 have hT0:=hU0.le (h':=(fuel0+fuel1)) (by omega)
 have tp0:tpN (fuel0+fuel1) T0≤1048576:=by
  have h1:=hU0.tpUp (m:=(fuel0+fuel1)) (by omega);have h2:tpN fuel0 T0≤Rows.uptoBulk d0:=tq0;omega
 have hT1:=hU1.le (h':=(fuel0+fuel1)) (by omega)
 have tp1:tpN (fuel0+fuel1) T1≤1048576:=by
  have h1:=hU1.tpUp (m:=(fuel0+fuel1)) (by omega);have h2:tpN fuel1 T1≤Rows.uptoBulk d1:=tq1;omega
 exact w_BelowKeeps (fuel0+fuel1) T0 T1 _ _ W hT0 hT1 tp0 tp1
theorem reads (os:Os) {H:Type} (enc:TypeId × Value→H):∃ places,DataW.whole enc Tryz.prog ((bareWorld os).forCall (fun _ _=>0) ⟨#[],#[.agg #[.bool false,.bool false,.bool false,.bool false,.slice none 0 0,.bool false,.slice none 0 0,.slice none 0 0,.slice none 0 0],.agg #[.bool false,.bool false,.bool false,.bool false,.slice none 0 0,.bool false,.slice none 0 0,.slice none 0 0,.slice none 0 0]],[]⟩).memory Tryz.f3.params.toList Rows.belowKeepsSpec.vars false (#[.agg #[.bool false,.bool false,.bool false,.bool false,.slice none 0 0,.bool false,.slice none 0 0,.slice none 0 0,.slice none 0 0],.agg #[.bool false,.bool false,.bool false,.bool false,.slice none 0 0,.bool false,.slice none 0 0,.slice none 0 0,.slice none 0 0]]:Array Value).toList 8=some ([.agg [.lit (.bool false),.lit (.bool false),.lit (.bool false),.lit (.bool false),.nil,.lit (.bool false),.nil,.nil,.nil],.agg [.lit (.bool false),.lit (.bool false),.lit (.bool false),.lit (.bool false),.nil,.lit (.bool false),.nil,.nil,.nil]],[],places):=
 ⟨[],by kernel_rfl⟩
set_option maxRecDepth 100000 in
theorem lifted (os:Os) (started:os.Started) (H:Type) (enc:TypeId × Value→H) (F:Stop.Interp):
 ReturnsInHanded {} Tryz.checked os 3 .any ((Rows.OpenSpec.upto Rows.belowKeepsSpec).preRow enc Tryz.prog Tryz.f3 Rows.belowKeepsUptoRow.domain false Rows.belowKeepsUptoRow.laid) (((Rows.OpenSpec.upto Rows.belowKeepsSpec).at F).post enc Tryz.prog Tryz.f3 false true false false):=by
 obtain ⟨places,hx⟩:=reads os enc
 refine returnsInHanded_of_row (C:=Tryz.checked) (s:=Rows.OpenSpec.upto Rows.belowKeepsSpec) own started (by kernel_rfl) Tryz.func3
  (witness_row_at (enc:=enc) (C:=Tryz.checked) false (bareWorld os) #[.agg #[.bool false,.bool false,.bool false,.bool false,.slice none 0 0,.bool false,.slice none 0 0,.slice none 0 0,.slice none 0 0],.agg #[.bool false,.bool false,.bool false,.bool false,.slice none 0 0,.bool false,.slice none 0 0,.slice none 0 0,.slice none 0 0]] rfl (by kernel_rfl) (by kernel_rfl) (by kernel_rfl)
   (OpenSpec.preRow_of_cond 8 hx (by kernel_rfl) (fun k hk=>by cases hk;kernel_rfl) (by kernel_rfl) (laidMet_of_run' 8 (by kernel_rfl) (by kernel_rfl)))) ?_
 intro W base args ds gs before hval hW _ hcond _ _ _ _;exact contract H enc W base args ds gs before hval hW (hcond _ rfl)
theorem said:Rows.BelowKeepsUptoSaid:=
 OpenClaim.holds_of_cond 3 Tryz.f3 rfl rfl rfl rfl rfl rfl rfl ⟨rfl,rfl,rfl,rfl,rfl⟩ rfl rfl rfl rfl rfl (by kernel_rfl) Tryz.func3 (by kernel_rfl)
  (of_decide_eq_true (by kernel_rfl)) (by unfold Func.isWrapper;first|(rw [if_pos (by decide +kernel)];kernel_rfl)|(rw [if_neg (by decide +kernel)];exact ⟨rfl,rfl⟩))
  (fun os started H enc _ F=>by rw [OpenClaim.pre_eq_preRow];exact lifted os started H enc F)
end Go.Proofs.YtnokkmiaeacogaaGreat.belowKeeps
namespace Go.Proofs.YtnokkmiaeacogaaGreat
theorem belowKeeps_said:Rows.BelowKeepsUptoSaid:=belowKeeps.said
end Go.Proofs.YtnokkmiaeacogaaGreat
