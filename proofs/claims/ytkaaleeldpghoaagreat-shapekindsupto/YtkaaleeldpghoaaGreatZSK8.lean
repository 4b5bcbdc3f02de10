import Derived.Test.YtkaaleeldpghoaaGreatZSK5
import Derived.Test.YtkaaleeldpghoaaGreatZSK6
import Derived.Test.YtkaaleeldpghoaaGreatM34
import Derived.Test.YtkaaleeldpghoaaGreatM22
import Derived.Test.YtkaaleeldpghoaaGreatZFT1
import Derived.Deep.RegionHeld3
import Derived.Deep.Cut
namespace Go.Proofs.YtkaaleeldpghoaaGreat
open Go.RowKit Go.Shelf Go.Sort
set_option linter.unusedVariables false
set_option linter.unusedSimpArgs false
attribute [local go_sem] Oper.semAt_some

set_option maxRecDepth 100000 in
theorem kd_widB : ∀ a0 a1 a2 a3 a4 a5 a6 : Bool, kdN (widB a0 a1 a2 a3 a4 a5 a6) = kvL [a0, a1, a2, a3, a4, a5, a6] := by decide +kernel
theorem kd_wid (n : Int) : kdN (widT n) = kvL (kbs n) := kd_widB _ _ _ _ _ _ _
theorem good_ev (h : Nat) : goodT (h + 1) ttEv := ⟨fun p hp => absurd hp (List.not_mem_nil), fun a ha => absurd ha (List.not_mem_nil), fun o ho => absurd ho (List.not_mem_nil)⟩
theorem good_wid (n : Int) : goodT 2 (widT n) := by
  unfold widT widB
  split
  · exact good_ev 1
  · refine ⟨fun p hp => ?_, fun a ha => ?_, fun o ho => ?_⟩
    · have hp' : p ∈ (if kb n 3 then [((⟨#[]⟩ : ByteArray), (⟨#[]⟩ : ByteArray))] else []) := hp
      split at hp'
      · obtain rfl := List.mem_singleton.1 hp'
        exact ⟨.inl rfl, .inl rfl⟩
      · exact absurd hp' (List.not_mem_nil)
    · have ha' : a ∈ (if kb n 5 then [AR.mk ttEv 0 (-1)] else []) := ha
      split at ha'
      · obtain rfl := List.mem_singleton.1 ha'
        exact ⟨⟨by decide, by decide⟩, good_ev 0⟩
      · exact absurd ha' (List.not_mem_nil)
    · have ho' : o ∈ (if kb n 6 then [OB.mk [] [] [] ttEv] else []) := ho
      split at ho'
      · obtain rfl := List.mem_singleton.1 ho'
        exact ⟨⟨rfl, rfl⟩, fun f hf => absurd hf (List.not_mem_nil), good_ev 0⟩
      · exact absurd ho' (List.not_mem_nil)
theorem in_ev (h : Nat) (V : VT) : inN (h + 1) V ttEv = true := by unfold inN; rfl
theorem all7_true {a0 a1 a2 a3 a4 a5 a6 : Bool} (h : all7 a0 a1 a2 a3 a4 a5 a6 = true) : a0 = true ∧ a1 = true ∧ a2 = true ∧ a3 = true ∧ a4 = true ∧ a5 = true ∧ a6 = true := by
  unfold all7 at h
  simpa only [Bool.and_eq_true] using h
theorem emp0 : ((⟨#[]⟩ : ByteArray).toList.isEmpty) = true := by rw [emp_size]; rfl
/-- a value is of the widest type of some kinds just if its kind is among them -/
theorem in_wid (n : Int) (V : VT) : (V.kind = 0 → inN 2 V (widT n) = kb n 0) ∧ (V.kind = 1 → inN 2 V (widT n) = kb n 1) ∧ (V.kind = 2 → inN 2 V (widT n) = kb n 2) ∧ (V.kind = 3 → inN 2 V (widT n) = kb n 3) ∧ (V.kind = 4 → inN 2 V (widT n) = kb n 4) ∧ (V.kind = 5 → inN 2 V (widT n) = kb n 5) ∧ (V.kind = 6 → inN 2 V (widT n) = kb n 6) := by
  unfold widT widB
  split
  · next h =>
    obtain ⟨h0, h1, h2, h3, h4, h5, h6⟩ := all7_true h
    rw [in_ev, h0, h1, h2, h3, h4, h5, h6]
    simp
  · have e : ∀ a0 a1 a2 a3 a4 a5 a6 : Bool, inN 2 V (widL a0 a1 a2 a3 a4 a5 a6) = (if V.kind = 0 then a0 else if V.kind = 1 then a1 else if V.kind = 2 then a2 else if V.kind = 3 then inNum V.num (if a3 then [(⟨#[]⟩, ⟨#[]⟩)] else []) else if V.kind = 4 then (a4 || hasK [] V.text) else if V.kind = 5 then inArs (inN 1) V.items (if a5 then [.mk ttEv 0 (-1)] else []) else (if a6 then [OB.mk [] [] [] ttEv] else []).any (inOb (inN 1) V)) := fun _ _ _ _ _ _ _ => rfl
    rw [e]
    refine ⟨fun hk => ?_, fun hk => ?_, fun hk => ?_, fun hk => ?_, fun hk => ?_, fun hk => ?_, fun hk => ?_⟩ <;> rw [hk]
    · rfl
    · rfl
    · rfl
    · show inNum V.num (if kb n 3 then [(⟨#[]⟩, ⟨#[]⟩)] else []) = kb n 3
      cases kb n 3 with
      | false => rfl
      | true => show hasP V.num (⟨#[]⟩, ⟨#[]⟩) = true; unfold hasP; rw [emp0]; rfl
    · show (kb n 4 || hasK [] V.text) = kb n 4
      cases kb n 4 <;> rfl
    · show inArs (inN 1) V.items (if kb n 5 then [.mk ttEv 0 (-1)] else []) = kb n 5
      cases kb n 5 with
      | false => rfl
      | true =>
        show inAr (inN 1) V.items (.mk ttEv 0 (-1)) = true
        unfold inAr
        have h1 : ¬ ((V.items.length : Int) < (AR.mk ttEv 0 (-1)).min) := by show ¬ (_ < (0 : Int)); omega
        have h2 : ¬ (0 ≤ (AR.mk ttEv 0 (-1)).max) := by show ¬ ((0 : Int) ≤ -1); omega
        rw [decide_eq_false h1, decide_eq_false h2]
        simp only [Bool.false_and, Bool.or_self, Bool.not_false, Bool.true_and]
        rw [List.all_eq_true]
        intro x _
        exact in_ev 0 x
    · show (if kb n 6 then [OB.mk [] [] [] ttEv] else []).any (inOb (inN 1) V) = kb n 6
      cases kb n 6 with
      | false => rfl
      | true =>
        show ([OB.mk [] [] [] ttEv].any (inOb (inN 1) V)) = true
        rw [List.any_cons, List.any_nil, Bool.or_false]
        unfold inOb
        show (true && _) = true
        rw [Bool.true_and, List.all_eq_true]
        intro p _
        show (hasK [] p.1 || inN 1 p.2 ttEv) = true
        rw [in_ev]
        rfl
end Go.Proofs.YtkaaleeldpghoaaGreat
namespace Go.Proofs.YtkaaleeldpghoaaGreat
open Go.RowKit Go.Shelf Go.Sort
set_option linter.unusedVariables false
set_option linter.unusedSimpArgs false
attribute [local go_sem] Oper.semAt_some

set_option maxRecDepth 100000 in
theorem shr_kF0 : ∀ n : Fin 256, (bits .and .u8 ((n.1 : Int) / 2 ^ min (IntKind.u64.wrap (bits .and .i64 0 7)).toNat 8) 1 == 1) = kb (n.1 : Int) 0 := by decide +kernel
theorem shr_k0 {n : Int} (h : 0 ≤ n ∧ n < 256) : (bits .and .u8 (n / 2 ^ min (IntKind.u64.wrap (bits .and .i64 0 7)).toNat 8) 1 == 1) = kb n 0 := by
  have h1 := shr_kF0 ⟨n.toNat, by omega⟩
  have h2 : ((n.toNat : Nat) : Int) = n := by omega
  dsimp only at h1
  rwa [h2] at h1
set_option maxRecDepth 100000 in
theorem shr_kF1 : ∀ n : Fin 256, (bits .and .u8 ((n.1 : Int) / 2 ^ min (IntKind.u64.wrap (bits .and .i64 1 7)).toNat 8) 1 == 1) = kb (n.1 : Int) 1 := by decide +kernel
theorem shr_k1 {n : Int} (h : 0 ≤ n ∧ n < 256) : (bits .and .u8 (n / 2 ^ min (IntKind.u64.wrap (bits .and .i64 1 7)).toNat 8) 1 == 1) = kb n 1 := by
  have h1 := shr_kF1 ⟨n.toNat, by omega⟩
  have h2 : ((n.toNat : Nat) : Int) = n := by omega
  dsimp only at h1
  rwa [h2] at h1
set_option maxRecDepth 100000 in
theorem shr_kF2 : ∀ n : Fin 256, (bits .and .u8 ((n.1 : Int) / 2 ^ min (IntKind.u64.wrap (bits .and .i64 2 7)).toNat 8) 1 == 1) = kb (n.1 : Int) 2 := by decide +kernel
theorem shr_k2 {n : Int} (h : 0 ≤ n ∧ n < 256) : (bits .and .u8 (n / 2 ^ min (IntKind.u64.wrap (bits .and .i64 2 7)).toNat 8) 1 == 1) = kb n 2 := by
  have h1 := shr_kF2 ⟨n.toNat, by omega⟩
  have h2 : ((n.toNat : Nat) : Int) = n := by omega
  dsimp only at h1
  rwa [h2] at h1
set_option maxRecDepth 100000 in
theorem shr_kF3 : ∀ n : Fin 256, (bits .and .u8 ((n.1 : Int) / 2 ^ min (IntKind.u64.wrap (bits .and .i64 3 7)).toNat 8) 1 == 1) = kb (n.1 : Int) 3 := by decide +kernel
theorem shr_k3 {n : Int} (h : 0 ≤ n ∧ n < 256) : (bits .and .u8 (n / 2 ^ min (IntKind.u64.wrap (bits .and .i64 3 7)).toNat 8) 1 == 1) = kb n 3 := by
  have h1 := shr_kF3 ⟨n.toNat, by omega⟩
  have h2 : ((n.toNat : Nat) : Int) = n := by omega
  dsimp only at h1
  rwa [h2] at h1
set_option maxRecDepth 100000 in
theorem shr_kF4 : ∀ n : Fin 256, (bits .and .u8 ((n.1 : Int) / 2 ^ min (IntKind.u64.wrap (bits .and .i64 4 7)).toNat 8) 1 == 1) = kb (n.1 : Int) 4 := by decide +kernel
theorem shr_k4 {n : Int} (h : 0 ≤ n ∧ n < 256) : (bits .and .u8 (n / 2 ^ min (IntKind.u64.wrap (bits .and .i64 4 7)).toNat 8) 1 == 1) = kb n 4 := by
  have h1 := shr_kF4 ⟨n.toNat, by omega⟩
  have h2 : ((n.toNat : Nat) : Int) = n := by omega
  dsimp only at h1
  rwa [h2] at h1
set_option maxRecDepth 100000 in
theorem shr_kF5 : ∀ n : Fin 256, (bits .and .u8 ((n.1 : Int) / 2 ^ min (IntKind.u64.wrap (bits .and .i64 5 7)).toNat 8) 1 == 1) = kb (n.1 : Int) 5 := by decide +kernel
theorem shr_k5 {n : Int} (h : 0 ≤ n ∧ n < 256) : (bits .and .u8 (n / 2 ^ min (IntKind.u64.wrap (bits .and .i64 5 7)).toNat 8) 1 == 1) = kb n 5 := by
  have h1 := shr_kF5 ⟨n.toNat, by omega⟩
  have h2 : ((n.toNat : Nat) : Int) = n := by omega
  dsimp only at h1
  rwa [h2] at h1
set_option maxRecDepth 100000 in
theorem shr_kF6 : ∀ n : Fin 256, (bits .and .u8 ((n.1 : Int) / 2 ^ min (IntKind.u64.wrap (bits .and .i64 6 7)).toNat 8) 1 == 1) = kb (n.1 : Int) 6 := by decide +kernel
theorem shr_k6 {n : Int} (h : 0 ≤ n ∧ n < 256) : (bits .and .u8 (n / 2 ^ min (IntKind.u64.wrap (bits .and .i64 6 7)).toNat 8) 1 == 1) = kb n 6 := by
  have h1 := shr_kF6 ⟨n.toNat, by omega⟩
  have h2 : ((n.toNat : Nat) : Int) = n := by omega
  dsimp only at h1
  rwa [h2] at h1
set_option maxRecDepth 100000 in
set_option maxHeartbeats 12800000 in
theorem kinds_step (n : Int) (hn : 0 ≤ n ∧ n < 256) (sa sb sc sd : Bool) (seo : Option Addr) (sen sec : Nat) (sf : Bool) (sgo : Option Addr) (sgn sgc : Nat) (sio : Option Addr) (sinn sic : Nat) (sjo : Option Addr) (sjn sjc : Nat) (kd : Int) (nm tx : ByteArray) (io : Option Addr) (NI icap : Nat) (vo : Option Addr) (NK vcap : Nat) (w : World) (sm fv ft fm r : Bool) (kt : Int)
    (HLv : Hid (∀ u, Below w.heap.size w u → Calls Tryz.prog 4 #[] u fun e w' => e = .returned (.bool true) ∧ Below u.heap.size u w'))
    (HOK : Hid (∀ u, Calls Tryz.prog 5 #[.int .u8 n] u fun e w' => (∃ v, e = .returned v ∧ Hid (InT w' 2 (widT n) v)) ∧ Below u.heap.size u w'))
    (HRK : Hid (∀ u, Calls Tryz.prog 7 #[.int .i64 n] u fun e w' => (∃ v, e = .returned v ∧ Hid (InT w' 2 (widT n) v)) ∧ Below u.heap.size u w'))
    (HKd : Hid (∀ u v, InT u 2 (widT n) v → Calls Tryz.prog 8 #[v] u fun e w' => e = .returned (.int .u8 (bits .and .u8 n 127)) ∧ Below u.heap.size u w'))
    (HSm : Hid (∀ u va vb, InT u 2 (widT n) va → InT u 2 (widT n) vb → Calls Tryz.prog 6 #[va, vb] u fun e w' => e = .returned (.bool true) ∧ Below u.heap.size u w'))
    (HSv : Hid (∀ u, Below w.heap.size w u → Calls Tryz.prog 9 #[.agg #[.int .i64 kd, .string nm, .string tx, .slice io NI icap, .slice vo NK vcap]] u fun e w' => e = .returned (.bool sm) ∧ Below u.heap.size u w'))
    (HFv : Hid (∀ u, Below w.heap.size w u → Calls Tryz.prog 10 #[.agg #[.int .i64 kd, .string nm, .string tx, .slice io NI icap, .slice vo NK vcap]] u fun e w' => e = .returned (.bool fv) ∧ Below u.heap.size u w'))
    (HIn : Hid (fv = true → ∀ u vw, Below w.heap.size w u → InT u 2 (widT n) vw → Calls Tryz.prog 11 #[.agg #[.int .i64 kd, .string nm, .string tx, .slice io NI icap, .slice vo NK vcap], vw] u fun e w' => e = .returned (.bool r) ∧ Below u.heap.size u w'))
    (HFt : Hid (∀ u, Below w.heap.size w u → Calls Tryz.prog 12 #[.agg #[.bool sa, .bool sb, .bool sc, .bool sd, .slice seo sen sec, .bool sf, .slice sgo sgn sgc, .slice sio sinn sic, .slice sjo sjn sjc]] u fun e w' => e = .returned (.bool ft) ∧ Below u.heap.size u w'))
    (HMt : Hid (∀ u, Below w.heap.size w u → Calls Tryz.prog 13 #[.agg #[.bool sa, .bool sb, .bool sc, .bool sd, .slice seo sen sec, .bool sf, .slice sgo sgn sgc, .slice sio sinn sic, .slice sjo sjn sjc]] u fun e w' => e = .returned (.bool fm) ∧ Below u.heap.size u w'))
    (HKt : Hid (∀ u, Below w.heap.size w u → Calls Tryz.prog 8 #[.agg #[.bool sa, .bool sb, .bool sc, .bool sd, .slice seo sen sec, .bool sf, .slice sgo sgn sgc, .slice sio sinn sic, .slice sjo sjn sjc]] u fun e w' => e = .returned (.int .u8 kt) ∧ Below u.heap.size u w'))
    (HRt : Hid (∀ u, Below w.heap.size w u → Calls Tryz.prog 14 #[.agg #[.bool sa, .bool sb, .bool sc, .bool sd, .slice seo sen sec, .bool sf, .slice sgo sgn sgc, .slice sio sinn sic, .slice sjo sjn sjc]] u fun e w' => e = .returned (.int .i64 kt) ∧ Below u.heap.size u w'))
    (hkt : 0 ≤ kt ∧ kt ≤ 127) (HKR : Hid (fv = true → (kd = 0 ∧ r = kb n 0) ∨ (kd = 1 ∧ r = kb n 1) ∨ (kd = 2 ∧ r = kb n 2) ∨ (kd = 3 ∧ r = kb n 3) ∨ (kd = 4 ∧ r = kb n 4) ∨ (kd = 5 ∧ r = kb n 5) ∨ (kd = 6 ∧ r = kb n 6))) :
    Calls Tryz.prog 3 #[.int .u8 n, .agg #[.bool sa, .bool sb, .bool sc, .bool sd, .slice seo sen sec, .bool sf, .slice sgo sgn sgc, .slice sio sinn sic, .slice sjo sjn sjc], .agg #[.int .i64 kd, .string nm, .string tx, .slice io NI icap, .slice vo NK vcap]] w fun e w' => e = .returned (.bool true) ∧ Below w.heap.size w w' := by
  have HX := Hid.mk (bx2_two w #[.bool sa, .bool sb, .bool sc, .bool sd, .slice seo sen sec, .bool sf, .slice sgo sgn sgc, .slice sio sinn sic, .slice sjo sjn sjc] #[.int .i64 kd, .string nm, .string tx, .slice io NI icap, .slice vo NK vcap] 27 30)
  obtain ⟨W0, hW0⟩ : ∃ W0, (w.alloc (.cells #[.bool sa, .bool sb, .bool sc, .bool sd, .slice seo sen sec, .bool sf, .slice sgo sgn sgc, .slice sio sinn sic, .slice sjo sjn sjc] 27)).alloc (.cells #[.int .i64 kd, .string nm, .string tx, .slice io NI icap, .slice vo NK vcap] 30) = W0 := ⟨_, rfl⟩
  rw [hW0] at HX
  have hwn : IntKind.wrap .i64 n = n := by have := hn; show IntKind.wrap .i64 n = n; unfold IntKind.wrap; simp [IntKind.min, IntKind.max, IntKind.signed, IntKind.bits]; omega
  go_enter Tryz.func3, Tryz.ntmps3
  go_wp2_with fail
  refine (HLv.out _ HX.out.below).mono ?_
  rintro e w1 ⟨rfl, hq⟩
  have HX1 := Hid.mk (HX.out.keep hq)
  clear hq hW0 HX
  go_wp2_with fail
  refine (HOK.out _).mono ?_
  rintro e w2 ⟨⟨vw, rfl, hI⟩, hq⟩
  have HX2 := Hid.mk (HX1.out.keep hq)
  clear hq HX1
  have hI2 := hI.out
  obtain ⟨ta, tb, tc, td, ⟨teo, ten, tec⟩, tf, ⟨tgo, tgn, tgc⟩, ⟨tio, tinn, tic⟩, ⟨tjo, tjn, tjc⟩, esht⟩ := inT_shape hI2
  simp only [Value.agg.injEq, Array.mk.injEq, List.cons.injEq, and_true] at esht
  obtain ⟨rfl, rfl, rfl, rfl, rfl, rfl, rfl, rfl, rfl⟩ := esht
  have HR3 : Hid ((w2.alloc (.cells #[.bool ta, .bool tb, .bool tc, .bool td, .slice teo ten tec, .bool tf, .slice tgo tgn tgc, .slice tio tinn tic, .slice tjo tjn tjc] 27)).heap[w2.heap.size]? = some (.cells #[.bool ta, .bool tb, .bool tc, .bool td, .slice teo ten tec, .bool tf, .slice tgo tgn tgc, .slice tio tinn tic, .slice tjo tjn tjc] 27 (0, 0))) := World.alloc_heap_new w2 _
  have HI3 := Hid.mk (hI2.keep (below1 w2 (.cells #[.bool ta, .bool tb, .bool tc, .bool td, .slice teo ten tec, .bool tf, .slice tgo tgn tgc, .slice tio tinn tic, .slice tjo tjn tjc] 27)))
  have HX3 := Hid.mk (HX2.out.keep (below1 w2 (.cells #[.bool ta, .bool tb, .bool tc, .bool td, .slice teo ten tec, .bool tf, .slice tgo tgn tgc, .slice tio tinn tic, .slice tjo tjn tjc] 27)))
  clear hI hI2 HX2
  go_wp2_with fail
  generalize w2.alloc (.cells #[.bool ta, .bool tb, .bool tc, .bool td, .slice teo ten tec, .bool tf, .slice tgo tgn tgc, .slice tio tinn tic, .slice tjo tjn tjc] 27) = W3 at HR3 HI3 HX3 ⊢
  generalize w2.heap.size = Bw at HR3 ⊢
  have HSS : Hid (∀ u, Below W3.heap.size W3 u → u.cell? ⟨Bw, 0, none⟩ = some (.bool ta) ∧ u.cell? ⟨Bw, 1, none⟩ = some (.bool tb) ∧ u.cell? ⟨Bw, 2, none⟩ = some (.bool tc) ∧ u.cell? ⟨Bw, 3, none⟩ = some (.bool td) ∧ u.cell? ⟨Bw, 4, none⟩ = some (.slice teo ten tec) ∧ u.cell? ⟨Bw, 5, none⟩ = some (.bool tf) ∧ u.cell? ⟨Bw, 6, none⟩ = some (.slice tgo tgn tgc) ∧ u.cell? ⟨Bw, 7, none⟩ = some (.slice tio tinn tic) ∧ u.cell? ⟨Bw, 8, none⟩ = some (.slice tjo tjn tjc)) := fun u hu => ⟨(hu.cell (p := ⟨_, _, _⟩) (lt_of_row HR3.out)).trans (cell_of_row _ _ 0 _ _ _ HR3.out), (hu.cell (p := ⟨_, _, _⟩) (lt_of_row HR3.out)).trans (cell_of_row _ _ 1 _ _ _ HR3.out), (hu.cell (p := ⟨_, _, _⟩) (lt_of_row HR3.out)).trans (cell_of_row _ _ 2 _ _ _ HR3.out), (hu.cell (p := ⟨_, _, _⟩) (lt_of_row HR3.out)).trans (cell_of_row _ _ 3 _ _ _ HR3.out), (hu.cell (p := ⟨_, _, _⟩) (lt_of_row HR3.out)).trans (cell_of_row _ _ 4 _ _ _ HR3.out), (hu.cell (p := ⟨_, _, _⟩) (lt_of_row HR3.out)).trans (cell_of_row _ _ 5 _ _ _ HR3.out), (hu.cell (p := ⟨_, _, _⟩) (lt_of_row HR3.out)).trans (cell_of_row _ _ 6 _ _ _ HR3.out), (hu.cell (p := ⟨_, _, _⟩) (lt_of_row HR3.out)).trans (cell_of_row _ _ 7 _ _ _ HR3.out), (hu.cell (p := ⟨_, _, _⟩) (lt_of_row HR3.out)).trans (cell_of_row _ _ 8 _ _ _ HR3.out)⟩
  have HD := Hid.mk ((Below.refl W3.heap.size W3).drew)
  refine wp_region_held_drew (S := fun u => u.cell? ⟨Bw, 0, none⟩ = some (.bool ta) ∧ u.cell? ⟨Bw, 1, none⟩ = some (.bool tb) ∧ u.cell? ⟨Bw, 2, none⟩ = some (.bool tc) ∧ u.cell? ⟨Bw, 3, none⟩ = some (.bool td) ∧ u.cell? ⟨Bw, 4, none⟩ = some (.slice teo ten tec) ∧ u.cell? ⟨Bw, 5, none⟩ = some (.bool tf) ∧ u.cell? ⟨Bw, 6, none⟩ = some (.slice tgo tgn tgc) ∧ u.cell? ⟨Bw, 7, none⟩ = some (.slice tio tinn tic) ∧ u.cell? ⟨Bw, 8, none⟩ = some (.slice tjo tjn tjc)) (by kernel_rfl) (HSS.out _ HD.out) (fun hHeld => ?_)
  refine wpAnyH_take (i := 0) (oi := _) (v := .agg #[.bool ta, .bool tb, .bool tc, .bool td, .slice teo ten tec, .bool tf, .slice tgo tgn tgc, .slice tio tinn tic, .slice tjo tjn tjc]) rfl (by kernel_rfl) (by kernel_rfl) (by kernel_rfl) (fun _ _ _ h => h) (Or.inl ⟨by rfl, ?_⟩) (by assumption) ?_
  · intro w hSw
    go_simp
  try simp only [Act.put, List.getElem_toArray, List.getElem_cons_succ, List.getElem_cons_zero, List.setIfInBounds_toArray, List.set_cons_zero, List.set_cons_succ]
  refine wpAnyH_take (i := 1) (oi := _) (v := .int .u8 n) rfl (by kernel_rfl) (by kernel_rfl) (by kernel_rfl) (fun _ _ _ h => h) (Or.inl ⟨by rfl, ?_⟩) (by assumption) ?_
  · intro w hSw
    go_simp
  try simp only [Act.put, List.getElem_toArray, List.getElem_cons_succ, List.getElem_cons_zero, List.setIfInBounds_toArray, List.set_cons_zero, List.set_cons_succ]
  refine wpAnyH_take (i := 2) (oi := _) (v := .int .i64 n) rfl (by kernel_rfl) (by kernel_rfl) (by kernel_rfl) (fun _ _ _ h => h) (Or.inl ⟨by rfl, ?_⟩) (by assumption) ?_
  · intro w hSw
    go_simp
  try simp only [Act.put, List.getElem_toArray, List.getElem_cons_succ, List.getElem_cons_zero, List.setIfInBounds_toArray, List.set_cons_zero, List.set_cons_succ]
  refine wpAnyH_ready (rs := [3]) (by kernel_rfl) (by simp) ?_
  refine AllReadyH.cons (o := _) rfl (fun K hK => ?_) AllReadyH.nil
  go_simp
  go_at_call 7
  refine (HRK.out _).mono ?_
  rintro e w4 ⟨⟨v2, rfl, hI2⟩, hq⟩
  have HB4 := Hid.mk (HD.out.trans (hq.mono HD.out.size))
  clear hq
  go_wp2_with fail
  refine hK.out _ _ (HSS.out _ HB4.out) (fun hHeld => ?_)
  clear hK K
  try simp only [Act.put, List.getElem_toArray, List.getElem_cons_succ, List.getElem_cons_zero, List.setIfInBounds_toArray, List.set_cons_zero, List.set_cons_succ]
  refine wpAnyH_ready (rs := [4]) (by kernel_rfl) (by simp) ?_
  refine AllReadyH.cons (o := _) rfl (fun K hK => ?_) AllReadyH.nil
  go_simp
  go_at_call 6
  refine (HSm.out _ _ _ (HI3.out.keep HB4.out) hI2.out).mono ?_
  rintro e w5 ⟨rfl, hq⟩
  have HB5 := Hid.mk (HB4.out.trans (hq.mono HB4.out.size))
  clear hq hI2
  go_wp2_with fail
  refine hK.out _ _ (HSS.out _ HB5.out) (fun hHeld => ?_)
  clear hK K
  try simp only [Act.put, List.getElem_toArray, List.getElem_cons_succ, List.getElem_cons_zero, List.setIfInBounds_toArray, List.set_cons_zero, List.set_cons_succ]
  refine wpAnyH_take (i := 5) (oi := _) (v := .bool false) rfl (by kernel_rfl) (by kernel_rfl) (by kernel_rfl) (fun _ _ _ h => h) (Or.inl ⟨by rfl, ?_⟩) (by assumption) ?_
  · intro w hSw
    go_simp
  try simp only [Act.put, List.getElem_toArray, List.getElem_cons_succ, List.getElem_cons_zero, List.setIfInBounds_toArray, List.set_cons_zero, List.set_cons_succ]
  refine wpAnyH_take (i := 6) (oi := _) (v := .bool false) rfl (by kernel_rfl) (by kernel_rfl) (by kernel_rfl) (fun _ _ _ h => h) (Or.inl ⟨by rfl, ?_⟩) (by assumption) ?_
  · intro w hSw
    go_simp
  try simp only [Act.put, List.getElem_toArray, List.getElem_cons_succ, List.getElem_cons_zero, List.setIfInBounds_toArray, List.set_cons_zero, List.set_cons_succ]
  refine wpAnyH_take (i := 7) (oi := _) (v := .agg #[.bool ta, .bool tb, .bool tc, .bool td, .slice teo ten tec, .bool tf, .slice tgo tgn tgc, .slice tio tinn tic, .slice tjo tjn tjc]) rfl (by kernel_rfl) (by kernel_rfl) (by kernel_rfl) (fun _ _ _ h => h) (Or.inl ⟨by rfl, ?_⟩) (by assumption) ?_
  · intro w hSw
    go_simp
  try simp only [Act.put, List.getElem_toArray, List.getElem_cons_succ, List.getElem_cons_zero, List.setIfInBounds_toArray, List.set_cons_zero, List.set_cons_succ]
  refine wpAnyH_take (i := 9) (oi := _) (v := .int .u8 n) rfl (by kernel_rfl) (by kernel_rfl) (by kernel_rfl) (fun _ _ _ h => h) (Or.inl ⟨by rfl, ?_⟩) (by assumption) ?_
  · intro w hSw
    go_simp
  try simp only [Act.put, List.getElem_toArray, List.getElem_cons_succ, List.getElem_cons_zero, List.setIfInBounds_toArray, List.set_cons_zero, List.set_cons_succ]
  refine wpAnyH_take (i := 10) (oi := _) (v := .int .u8 (bits .and .u8 n 127)) rfl (by kernel_rfl) (by kernel_rfl) (by kernel_rfl) (fun _ _ _ h => h) (Or.inl ⟨by rfl, ?_⟩) (by assumption) ?_
  · intro w hSw
    go_simp
  try simp only [Act.put, List.getElem_toArray, List.getElem_cons_succ, List.getElem_cons_zero, List.setIfInBounds_toArray, List.set_cons_zero, List.set_cons_succ]
  refine wpAnyH_ready (rs := [8]) (by kernel_rfl) (by simp) ?_
  refine AllReadyH.cons (o := _) rfl (fun K hK => ?_) AllReadyH.nil
  go_simp
  go_at_call 8
  refine (HKd.out _ _ (HI3.out.keep HB5.out)).mono ?_
  rintro e w6 ⟨rfl, hq⟩
  have HB6 := Hid.mk (HB5.out.trans (hq.mono HB5.out.size))
  clear hq
  go_wp2_with fail
  refine hK.out _ _ (HSS.out _ HB6.out) (fun hHeld => ?_)
  clear hK K
  try simp only [Act.put, List.getElem_toArray, List.getElem_cons_succ, List.getElem_cons_zero, List.setIfInBounds_toArray, List.set_cons_zero, List.set_cons_succ]
  refine wpAnyH_take (i := 11) (oi := _) (v := .bool false) rfl (by kernel_rfl) (by kernel_rfl) (by kernel_rfl) (fun _ _ _ h => h) (Or.inl ⟨by rfl, ?_⟩) (by assumption) ?_
  · intro w hSw
    go_simp
  try simp only [Act.put, List.getElem_toArray, List.getElem_cons_succ, List.getElem_cons_zero, List.setIfInBounds_toArray, List.set_cons_zero, List.set_cons_succ]
  refine wpAnyH_take (i := 12) (oi := _) (v := .bool false) rfl (by kernel_rfl) (by kernel_rfl) (by kernel_rfl) (fun _ _ _ h => h) (Or.inl ⟨by rfl, ?_⟩) (by assumption) ?_
  · intro w hSw
    go_simp
  try simp only [Act.put, List.getElem_toArray, List.getElem_cons_succ, List.getElem_cons_zero, List.setIfInBounds_toArray, List.set_cons_zero, List.set_cons_succ]
  refine wpAnyH_done (by kernel_rfl) ?_ _
  try simp only [Act.put, List.getElem_toArray, List.getElem_cons_succ, List.getElem_cons_zero, List.setIfInBounds_toArray, List.set_cons_zero, List.set_cons_succ]
  have HX6 := Hid.mk (HX3.out.keep HB6.out)
  have HI6 := Hid.mk (HI3.out.keep HB6.out)
  have HS6 := Hid.mk (HSS.out _ HB6.out)
  clear HSS HR3 HI3 HX3 HD HB4 HB5 HB6 hHeld HOK HRK HKd HSm HLv
  go_upto_region 6 with fail
  go_cut [44] from 25 (fun s44 wx => s44 = .bool false ∧ Hid (Bx2 w wx #[.bool sa, .bool sb, .bool sc, .bool sd, .slice seo sen sec, .bool sf, .slice sgo sgn sgc, .slice sio sinn sic, .slice sjo sjn sjc] #[.int .i64 kd, .string nm, .string tx, .slice io NI icap, .slice vo NK vcap]))
  case first =>
    go_wp2_with fail
    have p0 : w6.cell? ⟨w.heap.size + 1, 0, none⟩ = some (.int .i64 kd) := HX6.out.two 0
    have p1 : w6.cell? ⟨w.heap.size + 1, 1, none⟩ = some (.string nm) := HX6.out.two 1
    have p2 : w6.cell? ⟨w.heap.size + 1, 2, none⟩ = some (.string tx) := HX6.out.two 2
    have p3 : w6.cell? ⟨w.heap.size + 1, 3, none⟩ = some (.slice io NI icap) := HX6.out.two 3
    have p4 : w6.cell? ⟨w.heap.size + 1, 4, none⟩ = some (.slice vo NK vcap) := HX6.out.two 4
    obtain ⟨z0, z1, z2, z3, z4, z5, z6, z7, z8⟩ := HS6.out
    have Ap0 := fun d os => cell_regrown p0 d os
    have Ap1 := fun d os => cell_regrown p1 d os
    have Ap2 := fun d os => cell_regrown p2 d os
    have Ap3 := fun d os => cell_regrown p3 d os
    have Ap4 := fun d os => cell_regrown p4 d os
    have Az0 := fun d os => cell_regrown z0 d os
    have Az1 := fun d os => cell_regrown z1 d os
    have Az2 := fun d os => cell_regrown z2 d os
    have Az3 := fun d os => cell_regrown z3 d os
    have Az4 := fun d os => cell_regrown z4 d os
    have Az5 := fun d os => cell_regrown z5 d os
    have Az6 := fun d os => cell_regrown z6 d os
    have Az7 := fun d os => cell_regrown z7 d os
    have Az8 := fun d os => cell_regrown z8 d os
    have D1 := Hid.mk (fun (d : Nat) (os : Array Obj) => HSv.out (grow (redrawn w6 d) os) (HX6.out.below.trans ((below_regrown w6 d os).mono HX6.out.below.size)))
    have D2 := Hid.mk (fun (d : Nat) (os : Array Obj) => HFv.out (grow (redrawn w6 d) os) (HX6.out.below.trans ((below_regrown w6 d os).mono HX6.out.below.size)))
    cases sm with
    | false =>
      refine wp_region_quiet_below (by kernel_rfl) (by kernel_rfl) ?_
      iterate 2 (go_big_quiet_step (exact Calls.regrown_of (D1.out _ _)))
      repeat (go_big_quiet_step (fail))
      refine wpQuiet_nil ?_
      intro w9 hw'
      have hbw9 : Below w6.heap.size w6 w9 := by
        obtain ⟨⟨dq, osq⟩, rfl⟩ := hw'
        exact below_regrown w6 dq osq
      clear hw'
      have HX9 := Hid.mk (HX6.out.keep hbw9)
      clear hbw9 Ap0 p0 Ap1 p1 Ap2 p2 Ap3 p3 Ap4 p4 Az0 z0 Az1 z1 Az2 z2 Az3 z3 Az4 z4 Az5 z5 Az6 z6 Az7 z7 Az8 z8
      go_wp2_with fail
      go_meet
      exact ⟨by first | rfl | simp, HX9⟩
    | true =>
      cases fv with
      | false =>
        refine wp_region_quiet_below (by kernel_rfl) (by kernel_rfl) ?_
        iterate 2 (go_big_quiet_step (exact Calls.regrown_of (D1.out _ _)))
        iterate 3 (go_big_quiet_step (exact Calls.regrown_of (D2.out _ _)))
        repeat (go_big_quiet_step (fail))
        refine wpQuiet_nil ?_
        intro w9 hw'
        have hbw9 : Below w6.heap.size w6 w9 := by
          obtain ⟨⟨dq, osq⟩, rfl⟩ := hw'
          exact below_regrown w6 dq osq
        clear hw'
        have HX9 := Hid.mk (HX6.out.keep hbw9)
        clear hbw9 Ap0 p0 Ap1 p1 Ap2 p2 Ap3 p3 Ap4 p4 Az0 z0 Az1 z1 Az2 z2 Az3 z3 Az4 z4 Az5 z5 Az6 z6 Az7 z7 Az8 z8
        go_wp2_with fail
        go_meet
        exact ⟨by first | rfl | simp, HX9⟩
      | true =>
        have D3 := Hid.mk (fun (d : Nat) (os : Array Obj) => HIn.out (by first | trivial | rfl) (grow (redrawn w6 d) os) _ (HX6.out.below.trans ((below_regrown w6 d os).mono HX6.out.below.size)) (HI6.out.keep (below_regrown w6 d os)))
        rcases HKR.out (by first | trivial | rfl) with ⟨rfl, rfl⟩ | ⟨rfl, rfl⟩ | ⟨rfl, rfl⟩ | ⟨rfl, rfl⟩ | ⟨rfl, rfl⟩ | ⟨rfl, rfl⟩ | ⟨rfl, rfl⟩
        · have hs := shr_k0 hn
          generalize kb n 0 = bk at *
          refine wp_region_quiet_below (by kernel_rfl) (by kernel_rfl) ?_
          iterate 2 (go_big_quiet_step (exact Calls.regrown_of (D1.out _ _)))
          iterate 3 (go_big_quiet_step (exact Calls.regrown_of (D2.out _ _)))
          repeat (go_big_quiet_step (exact Calls.regrown_of (D3.out _ _)))
          refine wpQuiet_nil ?_
          intro w9 hw'
          have hbw9 : Below w6.heap.size w6 w9 := by
            obtain ⟨⟨dq, osq⟩, rfl⟩ := hw'
            exact below_regrown w6 dq osq
          clear hw'
          have HX9 := Hid.mk (HX6.out.keep hbw9)
          clear hbw9 Ap0 p0 Ap1 p1 Ap2 p2 Ap3 p3 Ap4 p4 Az0 z0 Az1 z1 Az2 z2 Az3 z3 Az4 z4 Az5 z5 Az6 z6 Az7 z7 Az8 z8
          go_wp2_with fail
          go_meet
          exact ⟨by first | rfl | simp, HX9⟩
        · have hs := shr_k1 hn
          generalize kb n 1 = bk at *
          refine wp_region_quiet_below (by kernel_rfl) (by kernel_rfl) ?_
          iterate 2 (go_big_quiet_step (exact Calls.regrown_of (D1.out _ _)))
          iterate 3 (go_big_quiet_step (exact Calls.regrown_of (D2.out _ _)))
          repeat (go_big_quiet_step (exact Calls.regrown_of (D3.out _ _)))
          refine wpQuiet_nil ?_
          intro w9 hw'
          have hbw9 : Below w6.heap.size w6 w9 := by
            obtain ⟨⟨dq, osq⟩, rfl⟩ := hw'
            exact below_regrown w6 dq osq
          clear hw'
          have HX9 := Hid.mk (HX6.out.keep hbw9)
          clear hbw9 Ap0 p0 Ap1 p1 Ap2 p2 Ap3 p3 Ap4 p4 Az0 z0 Az1 z1 Az2 z2 Az3 z3 Az4 z4 Az5 z5 Az6 z6 Az7 z7 Az8 z8
          go_wp2_with fail
          go_meet
          exact ⟨by first | rfl | simp, HX9⟩
        · have hs := shr_k2 hn
          generalize kb n 2 = bk at *
          refine wp_region_quiet_below (by kernel_rfl) (by kernel_rfl) ?_
          iterate 2 (go_big_quiet_step (exact Calls.regrown_of (D1.out _ _)))
          iterate 3 (go_big_quiet_step (exact Calls.regrown_of (D2.out _ _)))
          repeat (go_big_quiet_step (exact Calls.regrown_of (D3.out _ _)))
          refine wpQuiet_nil ?_
          intro w9 hw'
          have hbw9 : Below w6.heap.size w6 w9 := by
            obtain ⟨⟨dq, osq⟩, rfl⟩ := hw'
            exact below_regrown w6 dq osq
          clear hw'
          have HX9 := Hid.mk (HX6.out.keep hbw9)
          clear hbw9 Ap0 p0 Ap1 p1 Ap2 p2 Ap3 p3 Ap4 p4 Az0 z0 Az1 z1 Az2 z2 Az3 z3 Az4 z4 Az5 z5 Az6 z6 Az7 z7 Az8 z8
          go_wp2_with fail
          go_meet
          exact ⟨by first | rfl | simp, HX9⟩
        · have hs := shr_k3 hn
          generalize kb n 3 = bk at *
          refine wp_region_quiet_below (by kernel_rfl) (by kernel_rfl) ?_
          iterate 2 (go_big_quiet_step (exact Calls.regrown_of (D1.out _ _)))
          iterate 3 (go_big_quiet_step (exact Calls.regrown_of (D2.out _ _)))
          repeat (go_big_quiet_step (exact Calls.regrown_of (D3.out _ _)))
          refine wpQuiet_nil ?_
          intro w9 hw'
          have hbw9 : Below w6.heap.size w6 w9 := by
            obtain ⟨⟨dq, osq⟩, rfl⟩ := hw'
            exact below_regrown w6 dq osq
          clear hw'
          have HX9 := Hid.mk (HX6.out.keep hbw9)
          clear hbw9 Ap0 p0 Ap1 p1 Ap2 p2 Ap3 p3 Ap4 p4 Az0 z0 Az1 z1 Az2 z2 Az3 z3 Az4 z4 Az5 z5 Az6 z6 Az7 z7 Az8 z8
          go_wp2_with fail
          go_meet
          exact ⟨by first | rfl | simp, HX9⟩
        · have hs := shr_k4 hn
          generalize kb n 4 = bk at *
          refine wp_region_quiet_below (by kernel_rfl) (by kernel_rfl) ?_
          iterate 2 (go_big_quiet_step (exact Calls.regrown_of (D1.out _ _)))
          iterate 3 (go_big_quiet_step (exact Calls.regrown_of (D2.out _ _)))
          repeat (go_big_quiet_step (exact Calls.regrown_of (D3.out _ _)))
          refine wpQuiet_nil ?_
          intro w9 hw'
          have hbw9 : Below w6.heap.size w6 w9 := by
            obtain ⟨⟨dq, osq⟩, rfl⟩ := hw'
            exact below_regrown w6 dq osq
          clear hw'
          have HX9 := Hid.mk (HX6.out.keep hbw9)
          clear hbw9 Ap0 p0 Ap1 p1 Ap2 p2 Ap3 p3 Ap4 p4 Az0 z0 Az1 z1 Az2 z2 Az3 z3 Az4 z4 Az5 z5 Az6 z6 Az7 z7 Az8 z8
          go_wp2_with fail
          go_meet
          exact ⟨by first | rfl | simp, HX9⟩
        · have hs := shr_k5 hn
          generalize kb n 5 = bk at *
          refine wp_region_quiet_below (by kernel_rfl) (by kernel_rfl) ?_
          iterate 2 (go_big_quiet_step (exact Calls.regrown_of (D1.out _ _)))
          iterate 3 (go_big_quiet_step (exact Calls.regrown_of (D2.out _ _)))
          repeat (go_big_quiet_step (exact Calls.regrown_of (D3.out _ _)))
          refine wpQuiet_nil ?_
          intro w9 hw'
          have hbw9 : Below w6.heap.size w6 w9 := by
            obtain ⟨⟨dq, osq⟩, rfl⟩ := hw'
            exact below_regrown w6 dq osq
          clear hw'
          have HX9 := Hid.mk (HX6.out.keep hbw9)
          clear hbw9 Ap0 p0 Ap1 p1 Ap2 p2 Ap3 p3 Ap4 p4 Az0 z0 Az1 z1 Az2 z2 Az3 z3 Az4 z4 Az5 z5 Az6 z6 Az7 z7 Az8 z8
          go_wp2_with fail
          go_meet
          exact ⟨by first | rfl | simp, HX9⟩
        · have hs := shr_k6 hn
          generalize kb n 6 = bk at *
          refine wp_region_quiet_below (by kernel_rfl) (by kernel_rfl) ?_
          iterate 2 (go_big_quiet_step (exact Calls.regrown_of (D1.out _ _)))
          iterate 3 (go_big_quiet_step (exact Calls.regrown_of (D2.out _ _)))
          repeat (go_big_quiet_step (exact Calls.regrown_of (D3.out _ _)))
          refine wpQuiet_nil ?_
          intro w9 hw'
          have hbw9 : Below w6.heap.size w6 w9 := by
            obtain ⟨⟨dq, osq⟩, rfl⟩ := hw'
            exact below_regrown w6 dq osq
          clear hw'
          have HX9 := Hid.mk (HX6.out.keep hbw9)
          clear hbw9 Ap0 p0 Ap1 p1 Ap2 p2 Ap3 p3 Ap4 p4 Az0 z0 Az1 z1 Az2 z2 Az3 z3 Az4 z4 Az5 z5 Az6 z6 Az7 z7 Az8 z8
          go_wp2_with fail
          go_meet
          exact ⟨by first | rfl | simp, HX9⟩
  case rest =>
    obtain ⟨rfl, HX9⟩ := hcut
    clear HX6 HI6 HS6 HSv HFv HIn HKR
    go_wp2_with fail
    have q0 : wc.cell? ⟨w.heap.size, 0, none⟩ = some (.bool sa) := HX9.out.one 0
    have q1 : wc.cell? ⟨w.heap.size, 1, none⟩ = some (.bool sb) := HX9.out.one 1
    have q2 : wc.cell? ⟨w.heap.size, 2, none⟩ = some (.bool sc) := HX9.out.one 2
    have q3 : wc.cell? ⟨w.heap.size, 3, none⟩ = some (.bool sd) := HX9.out.one 3
    have q4 : wc.cell? ⟨w.heap.size, 4, none⟩ = some (.slice seo sen sec) := HX9.out.one 4
    have q5 : wc.cell? ⟨w.heap.size, 5, none⟩ = some (.bool sf) := HX9.out.one 5
    have q6 : wc.cell? ⟨w.heap.size, 6, none⟩ = some (.slice sgo sgn sgc) := HX9.out.one 6
    have q7 : wc.cell? ⟨w.heap.size, 7, none⟩ = some (.slice sio sinn sic) := HX9.out.one 7
    have q8 : wc.cell? ⟨w.heap.size, 8, none⟩ = some (.slice sjo sjn sjc) := HX9.out.one 8
    have Aq0 := fun d os => cell_regrown q0 d os
    have Aq1 := fun d os => cell_regrown q1 d os
    have Aq2 := fun d os => cell_regrown q2 d os
    have Aq3 := fun d os => cell_regrown q3 d os
    have Aq4 := fun d os => cell_regrown q4 d os
    have Aq5 := fun d os => cell_regrown q5 d os
    have Aq6 := fun d os => cell_regrown q6 d os
    have Aq7 := fun d os => cell_regrown q7 d os
    have Aq8 := fun d os => cell_regrown q8 d os
    have E1 := Hid.mk (fun (d : Nat) (os : Array Obj) => HFt.out (grow (redrawn wc d) os) (HX9.out.below.trans ((below_regrown wc d os).mono HX9.out.below.size)))
    have E2 := Hid.mk (fun (d : Nat) (os : Array Obj) => HMt.out (grow (redrawn wc d) os) (HX9.out.below.trans ((below_regrown wc d os).mono HX9.out.below.size)))
    have E3 := Hid.mk (fun (d : Nat) (os : Array Obj) => HKt.out (grow (redrawn wc d) os) (HX9.out.below.trans ((below_regrown wc d os).mono HX9.out.below.size)))
    have E4 := Hid.mk (fun (d : Nat) (os : Array Obj) => HRt.out (grow (redrawn wc d) os) (HX9.out.below.trans ((below_regrown wc d os).mono HX9.out.below.size)))
    cases ft with
    | false =>
      refine wp_region_quiet_below (by kernel_rfl) (by kernel_rfl) ?_
      iterate 2 (go_big_quiet_step (exact Calls.regrown_of (E1.out _ _)))
      repeat (go_big_quiet_step (fail))
      refine wpQuiet_nil ?_
      intro w10 hw'
      have hbw10 : Below wc.heap.size wc w10 := by
        obtain ⟨⟨dq, osq⟩, rfl⟩ := hw'
        exact below_regrown wc dq osq
      clear hw'
      have HX10 := Hid.mk (HX9.out.keep hbw10)
      clear hbw10 Aq0 q0 Aq1 q1 Aq2 q2 Aq3 q3 Aq4 q4 Aq5 q5 Aq6 q6 Aq7 q7 Aq8 q8
      go_wp2_with fail
      go_ret
      exact ⟨by first | rfl | simp, HX10.out.below⟩
    | true =>
      cases fm with
      | false =>
        refine wp_region_quiet_below (by kernel_rfl) (by kernel_rfl) ?_
        iterate 2 (go_big_quiet_step (exact Calls.regrown_of (E1.out _ _)))
        iterate 4 (go_big_quiet_step (exact Calls.regrown_of (E2.out _ _)))
        repeat (go_big_quiet_step (fail))
        refine wpQuiet_nil ?_
        intro w10 hw'
        have hbw10 : Below wc.heap.size wc w10 := by
          obtain ⟨⟨dq, osq⟩, rfl⟩ := hw'
          exact below_regrown wc dq osq
        clear hw'
        have HX10 := Hid.mk (HX9.out.keep hbw10)
        clear hbw10 Aq0 q0 Aq1 q1 Aq2 q2 Aq3 q3 Aq4 q4 Aq5 q5 Aq6 q6 Aq7 q7 Aq8 q8
        go_wp2_with fail
        go_ret
        exact ⟨by first | rfl | simp, HX10.out.below⟩
      | true =>
        refine wp_region_quiet_below (by kernel_rfl) (by kernel_rfl) ?_
        iterate 2 (go_big_quiet_step (exact Calls.regrown_of (E1.out _ _)))
        iterate 4 (go_big_quiet_step (exact Calls.regrown_of (E2.out _ _)))
        iterate 5 (go_big_quiet_step (exact Calls.regrown_of (E3.out _ _)))
        repeat (go_big_quiet_step (exact Calls.regrown_of (E4.out _ _)))
        refine wpQuiet_nil ?_
        intro w10 hw'
        have hbw10 : Below wc.heap.size wc w10 := by
          obtain ⟨⟨dq, osq⟩, rfl⟩ := hw'
          exact below_regrown wc dq osq
        clear hw'
        have HX10 := Hid.mk (HX9.out.keep hbw10)
        clear hbw10 Aq0 q0 Aq1 q1 Aq2 q2 Aq3 q3 Aq4 q4 Aq5 q5 Aq6 q6 Aq7 q7 Aq8 q8
        go_wp2_with fail
        go_ret
        exact ⟨by first | rfl | simp, HX10.out.below⟩
end Go.Proofs.YtkaaleeldpghoaaGreat
