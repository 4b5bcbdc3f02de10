import Derived.Test.YtapjfocjeligiaaGreatDoorM45
namespace Go.Proofs.YtapjfocjeligiaaGreatDoor
open Go.RowKit Go.Shelf Go.Sort
set_option linter.unusedVariables false
set_option linter.unusedSimpArgs false
attribute [local go_sem] Oper.semAt_some

theorem ag_kd {h : Nat} {V : VT} {T : TT} (ha : T.all = false) (hk : kdB T V.kind = false) : agN (h + 1) V T = some ([], 1) := by
  unfold agN agK
  rw [ha, if_neg (by simp), if_pos hk]
theorem ag_go {h : Nat} {V : VT} {T : TT} (ha : T.all = false) (hk : kdB T V.kind = true) : agN (h + 1) V T = if V.kind = 3 then agNm V.num T.nums else if V.kind = 4 then agTx V.text T else if V.kind = 5 then agArs (agN h) V.items T.arrs else if V.kind = 6 then agObs (agN h) V T.objs else none := by
  conv => lhs; unfold agN agK
  rw [ha, if_neg (by simp), if_neg (by rw [hk]; simp)]
theorem fm_open {h : Nat} {T : TT} (hf : fmN (h + 1) T = true) : rK T.texts T.texts.length = true ∧ arB (fmN h) T.arrs = true ∧ ∀ o ∈ T.objs, obOk (fmN h) o = true := by
  unfold fmN at hf
  simp only [Bool.and_eq_true] at hf
  obtain ⟨_, ⟨h1, _⟩, _, _, h2, h3⟩ := hf
  exact ⟨h1, h2, fun o ho => List.all_eq_true.1 h3 o ho⟩
theorem ar_open {h : Nat} {rs : List AR} (hf : arB (fmN h) rs = true) : ∀ a ∈ rs, fmN h a.item = true := by
  match rs, hf with
  | [], _ => intro a ha; cases ha
  | [a], hf =>
    intro x hx
    rw [List.mem_singleton] at hx
    subst hx
    unfold arB arOk at hf
    simp only [Bool.and_eq_true] at hf
    exact hf.2.1

set_option maxHeartbeats 1600000 in
/-- THE PROGRAM'S against, of every well shaped value and type -/
theorem w_against : ∀ h, AgOk h
  | 0 => fun hv V T vv vt w _ _ _ hT _ => hT.elim
  | h + 1 => by
    intro hv V T vv vt w hI hf hfm hT ht
    have ih := w_against h
    obtain ⟨hv, rfl⟩ : ∃ k, hv = k + 1 := by
      cases hv with
      | zero => exact hI.elim
      | succ k => exact ⟨k, rfl⟩
    obtain ⟨hrk, har, hob⟩ := fm_open hfm
    have hTT := hT
    obtain ⟨no, nc, xo, xc, ao, ac, oo, oc, rfl, ⟨a1, a2, a3, a4⟩, ⟨a5, a6, a7, a8⟩, z1, z2, hs, hk, ha, ho⟩ := hT
    have hII := hI
    obtain ⟨io, icap, vo, vcap, rfl, b1, b2, b3, b4, b5, b6, b7, hkv, hiv⟩ := hI
    have HK := Hid.mk (fun u (hu : Below w.heap.size w u) => w_sKinds (h + 1) T _ u (hTT.keep hu))
    cases hall : T.all with
    | true =>
      have e : agN (h + 1) V T = none := by unfold agN agK; rw [hall]; rfl
      rw [e]
      exact ag_all _ _ _ _ _ _ _ _ _ _ _ _ _ _ _ _ _ _ _ _ _ _ _ _ _ w
    | false =>
      rw [hall] at HK
      have hkd : kdN T = kvL [T.nul, T.fls, T.tru, decide (0 < T.nums.length), (T.any || decide (0 < T.texts.length)), decide (0 < T.arrs.length), decide (0 < T.objs.length)] := by unfold kdN kdV; rw [hall]; rfl
      rcases form_open hf with (rfl | rfl | rfl) | ⟨n, rfl, _⟩ | ⟨n, rfl, _⟩ | ⟨i, rfl, hi⟩ | ⟨i, ks, rfl, hl, hr, _, hi⟩
      · exact ag_k0 (kdN T) _ _ _ _ _ _ _ _ _ _ _ _ _ _ _ _ _ _ _ _ _ _ _ _ w _ T.nul HK (by show _ = _; rw [hkd]; exact kbit0 _ _ _ _ _ _ _) (fun hh => ag_kd hall hh) (fun hh => (ag_go (h := h) (V := .mk 0 .empty .empty [] []) hall hh).trans rfl)
      · exact ag_k1 (kdN T) _ _ _ _ _ _ _ _ _ _ _ _ _ _ _ _ _ _ _ _ _ _ _ _ w _ T.fls HK (by show _ = _; rw [hkd]; exact kbit1 _ _ _ _ _ _ _) (fun hh => ag_kd hall hh) (fun hh => (ag_go (h := h) (V := .mk 1 .empty .empty [] []) hall hh).trans rfl)
      · exact ag_k2 (kdN T) _ _ _ _ _ _ _ _ _ _ _ _ _ _ _ _ _ _ _ _ _ _ _ _ w _ T.tru HK (by show _ = _; rw [hkd]; exact kbit2 _ _ _ _ _ _ _) (fun hh => ag_kd hall hh) (fun hh => (ag_go (h := h) (V := .mk 2 .empty .empty [] []) hall hh).trans rfl)
      · obtain ⟨nb, noff, l, hh, hse, hrr⟩ : ∃ (nb noff : Nat) (l hh : ByteArray), (decide (0 < T.nums.length) = true → no = some ⟨nb, noff, none⟩ ∧ 0 < T.nums.length ∧ w.cell? ⟨nb, noff, none⟩ = some (.string l) ∧ w.cell? ⟨nb, noff + 1, none⟩ = some (.string hh)) ∧ (decide (0 < T.nums.length) = true → (l.size ≤ 140737488355328 ∧ hh.size ≤ 140737488355328) ∧ agNm n T.nums = agSp n (l, hh)) := by
          cases hnn : T.nums with
          | nil => exact ⟨0, 0, n, n, fun h0 => by simp at h0, fun h0 => by simp at h0⟩
          | cons p ps =>
            have h0 : 0 < T.nums.length := by rw [hnn]; simp
            obtain ⟨b, off, e, hl, hc⟩ := hs.row h0
            have c0 := hc 0 h0
            have zz := z1 p (by rw [hnn]; exact List.mem_cons_self ..)
            simp only [hnn, List.getElem_cons_zero, Nat.zero_mul, Nat.add_zero] at c0
            exact ⟨b, off, p.1, p.2, fun _ => ⟨e, by simp, c0.1, c0.2⟩, fun _ => ⟨zz, rfl⟩⟩
        exact ag_k3 (kdN T) _ _ _ _ _ _ _ _ _ _ _ _ _ _ _ _ _ _ _ _ _ _ _ _ w _ (decide (0 < T.nums.length)) HK (by show _ = _; rw [hkd]; exact kbit3 _ _ _ _ _ _ _) (fun hh => ag_kd hall hh) nb noff l hh hse (fun h1 u hu => by
          rw [show agN (h + 1) (.mk 3 n .empty [] []) T = agSp n (l, hh) from (ag_go (h := h) (V := .mk 3 n .empty [] []) hall h1).trans (hrr h1).2]
          exact w_agSpan n l hh u b1 (hrr h1).1.1 (hrr h1).1.2)
      · exact ag_k4 (kdN T) _ _ _ _ _ _ _ _ _ _ _ _ _ _ _ _ _ _ _ _ _ _ _ _ w _ (T.any || decide (0 < T.texts.length)) HK (by show _ = _; rw [hkd]; exact kbit4 _ _ _ _ _ _ _) (fun hh => ag_kd hall hh) (fun h1 u hu => by
          rw [show agN (h + 1) (.mk 4 .empty n [] []) T = agTx n T from ag_go (h := h) (V := .mk 4 .empty n [] []) hall h1]
          have hh := w_agTexts n h T _ u (hTT.keep hu) hrk
          rw [hall] at hh
          exact hh)
      · cases hnn : T.arrs with
        | nil =>
          have h0 : decide (0 < T.arrs.length) = false := by rw [hnn]; rfl
          have h1 : kdB T (VT.kind (.mk 5 .empty .empty i [])) = false := h0
          rw [ag_kd hall h1]
          rw [hnn] at HK
          have hb := kbit5 T.nul T.fls T.tru (decide (0 < T.nums.length)) (T.any || decide (0 < T.texts.length)) (decide (0 < T.arrs.length)) (decide (0 < T.objs.length))
          rw [← hkd, h0] at hb
          exact ag_k5 (kdN T) _ _ _ _ _ _ _ _ _ _ _ _ _ _ _ _ _ _ _ _ _ _ _ _ w _ false HK hb (fun _ => rfl) 0 0 false false false false none 0 0 false none 0 0 none 0 0 none 0 0 0 0 (fun h => by cases h) (fun h => by cases h)
        | cons a rs =>
          have h0 : 0 < T.arrs.length := by rw [hnn]; simp
          have h1 : decide (0 < T.arrs.length) = true := decide_eq_true h0
          have hga : fmN h a.item = true := ar_open har a (by rw [hnn]; exact List.mem_cons_self ..)
          obtain ⟨b, off, e, hl, hc⟩ := ha h0
          obtain ⟨c0, c1, c2, c3, c4, c5, c6, c7, c8, h9, hm, hx, hTi⟩ := hc 0 h0
          simp only [hnn, List.getElem_cons_zero, Nat.zero_mul, Nat.add_zero] at h9 hm hx hTi
          obtain ⟨za, zb, zc, zd, ⟨zeo, zen, zec⟩, zf, ⟨zgo, zgn, zgc⟩, ⟨zio, zinn, zic⟩, ⟨zjo, zjn, zjc⟩, eshz⟩ := inT_shape hTi
          simp only [Value.agg.injEq, Array.mk.injEq, List.cons.injEq, and_true] at eshz
          obtain ⟨rfl, rfl, rfl, rfl, rfl, rfl, rfl, rfl, rfl⟩ := eshz
          obtain ⟨r0, r1, r2, r3, r4, r5, r6, r7, r8⟩ := h9
          have hb := kbit5 T.nul T.fls T.tru (decide (0 < T.nums.length)) (T.any || decide (0 < T.texts.length)) (decide (0 < T.arrs.length)) (decide (0 < T.objs.length))
          rw [← hkd, h1] at hb
          rw [hnn] at HK
          have hgo := ag_go (h := h) (V := .mk 5 .empty .empty i []) hall h1
          rw [hnn] at hgo
          rw [show agN (h + 1) (.mk 5 .empty .empty i []) T = agAr (agN h) i a from hgo]
          subst e
          exact ag_k5 (kdN T) _ _ _ _ _ _ _ _ _ _ _ _ _ _ _ _ _ _ _ _ _ _ _ _ w _ true HK hb (fun h => by cases h) b off za zb zc zd zeo zen zec zf zgo zgn zgc zio zinn zic zjo zjn zjc a.min a.max (fun _ => ⟨rfl, by simp, r0, r1, r2, r3, r4, r5, r6, r7, r8, hm, hx⟩) (fun _ u hu => w_agArr h ih hv io _ icap i a _ _ _ _ _ _ _ _ _ u ((⟨hiv⟩ : IIn w hv io i).keep hu) rfl b5 b3 hi hga (hTi.keep hu) (ht.keep hu))
      · exact ag_k6 (kdN T) _ _ _ _ _ _ _ _ _ _ _ _ _ _ _ _ _ _ _ _ _ _ _ _ w _ (decide (0 < T.objs.length)) HK (by show _ = _; rw [hkd]; exact kbit6 _ _ _ _ _ _ _) (fun hh => ag_kd hall hh) (fun h1 u hu => by
          rw [show agN (h + 1) (.mk 6 .empty .empty i ks) T = agObs (agN h) (.mk 6 .empty .empty i ks) T.objs from ag_go (h := h) (V := .mk 6 .empty .empty i ks) hall h1]
          have hO : ObIn w h oo T.objs := ⟨fun h0 => by
            obtain ⟨b, off, e, hl, hc⟩ := ho h0
            refine ⟨b, off, e, hl, fun i hi => ?_⟩
            obtain ⟨ko, kc, fo, fc, mo, mc, c0, c1, c2, c3, c4, c5, c6, c7, c8, g, h1, h2, h3, h4, h5, h6, h7⟩ := hc i hi
            exact ⟨ko, kc, fo, fc, mo, mc, c0, c1, c2, c3, c4, c5, c6, c7, c8, g, h1, ⟨h2, h3, h4, h5, h6, h7⟩⟩⟩
          exact w_agObjs h ih hv (.mk 6 .empty .empty i ks) T.objs 6 .empty .empty io i.length icap vo ks.length vcap oo T.objs.length oc u (hII.keep hu) hf rfl (hO.keep hu) rfl a4 a8 hob (ht.keep hu))
end Go.Proofs.YtapjfocjeligiaaGreatDoor
namespace Go.Proofs.YtapjfocjeligiaaGreatDoor
open Go.RowKit Go.Shelf Go.Sort
set_option linter.unusedVariables false
set_option linter.unusedSimpArgs false
attribute [local go_sem] Oper.semAt_some

set_option maxRecDepth 100000 in
set_option maxHeartbeats 6400000 in
theorem mformed_v (kd : Int) (nm tx : ByteArray) (io : Option Addr) (NI icap : Nat) (vo : Option Addr) (NK vcap : Nat) (sa sb sc sd : Bool) (seo : Option Addr) (sen sec : Nat) (sf : Bool) (sgo : Option Addr) (sgn sgc : Nat) (sio : Option Addr) (sinn sic : Nat) (sjo : Option Addr) (sjn sjc : Nat) (w : World) (a b : Bool)
    (H1 : Hid (∀ u, Below w.heap.size w u → Calls Tryz.prog 33 #[.agg #[.int .i64 kd, .string nm, .string tx, .slice io NI icap, .slice vo NK vcap]] u fun e w' => e = .returned (.bool a) ∧ Below u.heap.size u w'))
    (H2 : Hid (∀ u, Below w.heap.size w u → Calls Tryz.prog 34 #[.agg #[.bool sa, .bool sb, .bool sc, .bool sd, .slice seo sen sec, .bool sf, .slice sgo sgn sgc, .slice sio sinn sic, .slice sjo sjn sjc]] u fun e w' => e = .returned (.bool b) ∧ Below u.heap.size u w')) :
    Calls Tryz.prog 19 #[.agg #[.int .i64 kd, .string nm, .string tx, .slice io NI icap, .slice vo NK vcap], .agg #[.bool sa, .bool sb, .bool sc, .bool sd, .slice seo sen sec, .bool sf, .slice sgo sgn sgc, .slice sio sinn sic, .slice sjo sjn sjc]] w fun e w' => e = .returned (.bool (a && b)) ∧ Below w.heap.size w w' := by
  have HX := Hid.mk (bx2_two w #[.int .i64 kd, .string nm, .string tx, .slice io NI icap, .slice vo NK vcap] #[.bool sa, .bool sb, .bool sc, .bool sd, .slice seo sen sec, .bool sf, .slice sgo sgn sgc, .slice sio sinn sic, .slice sjo sjn sjc] 37 29)
  obtain ⟨W0, hW0⟩ : ∃ W0, (w.alloc (.cells #[.int .i64 kd, .string nm, .string tx, .slice io NI icap, .slice vo NK vcap] 37)).alloc (.cells #[.bool sa, .bool sb, .bool sc, .bool sd, .slice seo sen sec, .bool sf, .slice sgo sgn sgc, .slice sio sinn sic, .slice sjo sjn sjc] 29) = W0 := ⟨_, rfl⟩
  rw [hW0] at HX
  have p0 : W0.cell? ⟨w.heap.size, 0, none⟩ = some (.int .i64 kd) := HX.out.one 0
  have p1 : W0.cell? ⟨w.heap.size, 1, none⟩ = some (.string nm) := HX.out.one 1
  have p2 : W0.cell? ⟨w.heap.size, 2, none⟩ = some (.string tx) := HX.out.one 2
  have p3 : W0.cell? ⟨w.heap.size, 3, none⟩ = some (.slice io NI icap) := HX.out.one 3
  have p4 : W0.cell? ⟨w.heap.size, 4, none⟩ = some (.slice vo NK vcap) := HX.out.one 4
  have q0 : W0.cell? ⟨w.heap.size + 1, 0, none⟩ = some (.bool sa) := HX.out.two 0
  have q1 : W0.cell? ⟨w.heap.size + 1, 1, none⟩ = some (.bool sb) := HX.out.two 1
  have q2 : W0.cell? ⟨w.heap.size + 1, 2, none⟩ = some (.bool sc) := HX.out.two 2
  have q3 : W0.cell? ⟨w.heap.size + 1, 3, none⟩ = some (.bool sd) := HX.out.two 3
  have q4 : W0.cell? ⟨w.heap.size + 1, 4, none⟩ = some (.slice seo sen sec) := HX.out.two 4
  have q5 : W0.cell? ⟨w.heap.size + 1, 5, none⟩ = some (.bool sf) := HX.out.two 5
  have q6 : W0.cell? ⟨w.heap.size + 1, 6, none⟩ = some (.slice sgo sgn sgc) := HX.out.two 6
  have q7 : W0.cell? ⟨w.heap.size + 1, 7, none⟩ = some (.slice sio sinn sic) := HX.out.two 7
  have q8 : W0.cell? ⟨w.heap.size + 1, 8, none⟩ = some (.slice sjo sjn sjc) := HX.out.two 8
  go_enter Tryz.func19, Tryz.ntmps19
  go_wp2_with fail
  refine (H1.out _ HX.out.below).mono ?_
  rintro e w1 ⟨rfl, hb1⟩
  have HX1 := Hid.mk (HX.out.keep hb1)
  clear hb1 hW0 p0 p1 p2 p3 p4 q0 q1 q2 q3 q4 q5 q6 q7 q8
  cases a with
  | false =>
    go_wp2_with fail
    go_ret
    exact ⟨rfl, HX1.out.below⟩
  | true =>
    have p0 : w1.cell? ⟨w.heap.size, 0, none⟩ = some (.int .i64 kd) := HX1.out.one 0
    have p1 : w1.cell? ⟨w.heap.size, 1, none⟩ = some (.string nm) := HX1.out.one 1
    have p2 : w1.cell? ⟨w.heap.size, 2, none⟩ = some (.string tx) := HX1.out.one 2
    have p3 : w1.cell? ⟨w.heap.size, 3, none⟩ = some (.slice io NI icap) := HX1.out.one 3
    have p4 : w1.cell? ⟨w.heap.size, 4, none⟩ = some (.slice vo NK vcap) := HX1.out.one 4
    have q0 : w1.cell? ⟨w.heap.size + 1, 0, none⟩ = some (.bool sa) := HX1.out.two 0
    have q1 : w1.cell? ⟨w.heap.size + 1, 1, none⟩ = some (.bool sb) := HX1.out.two 1
    have q2 : w1.cell? ⟨w.heap.size + 1, 2, none⟩ = some (.bool sc) := HX1.out.two 2
    have q3 : w1.cell? ⟨w.heap.size + 1, 3, none⟩ = some (.bool sd) := HX1.out.two 3
    have q4 : w1.cell? ⟨w.heap.size + 1, 4, none⟩ = some (.slice seo sen sec) := HX1.out.two 4
    have q5 : w1.cell? ⟨w.heap.size + 1, 5, none⟩ = some (.bool sf) := HX1.out.two 5
    have q6 : w1.cell? ⟨w.heap.size + 1, 6, none⟩ = some (.slice sgo sgn sgc) := HX1.out.two 6
    have q7 : w1.cell? ⟨w.heap.size + 1, 7, none⟩ = some (.slice sio sinn sic) := HX1.out.two 7
    have q8 : w1.cell? ⟨w.heap.size + 1, 8, none⟩ = some (.slice sjo sjn sjc) := HX1.out.two 8
    go_wp2_with fail
    refine (H2.out _ HX1.out.below).mono ?_
    rintro e w2 ⟨rfl, hb2⟩
    have HX2 := Hid.mk (HX1.out.keep hb2)
    clear hb2 p0 p1 p2 p3 p4 q0 q1 q2 q3 q4 q5 q6 q7 q8
    go_wp2_with fail
    go_ret
    exact ⟨by cases b <;> rfl, HX2.out.below⟩
theorem inH_shape {w : World} {h : Nat} {V : VT} {v : Value} (hI : InH w h V v) : ∃ io icap vo vcap, v = .agg #[.int .i64 V.kind, .string V.num, .string V.text, .slice io V.items.length icap, .slice vo V.keys.length vcap] := by
  cases h with
  | zero => exact hI.elim
  | succ h => obtain ⟨io, icap, vo, vcap, e, _⟩ := hI; exact ⟨io, icap, vo, vcap, e⟩
theorem w_mformed (hv h : Nat) (V : VT) (T : TT) (vv vt : Value) (w : World) (hI : InH w hv V vv) (hT : InT w h T vt) : Calls Tryz.prog 19 #[vv, vt] w fun e w' => e = .returned (.bool (formN hv V && fmN h T)) ∧ Below w.heap.size w w' := by
  obtain ⟨io, icap, vo, vcap, rfl⟩ := inH_shape hI
  have hTs := hT
  obtain ⟨sa, sb, sc, sd, ⟨seo, sen, sec⟩, sf, ⟨sgo, sgn, sgc⟩, ⟨sio, sinn, sic⟩, ⟨sjo, sjn, sjc⟩, rfl⟩ := inT_shape hT
  exact mformed_v _ _ _ _ _ _ _ _ _ _ _ _ _ _ _ _ _ _ _ _ _ _ _ _ _ _ w _ _ (Hid.mk fun u hu => w_vFormed hv V _ u (hI.keep hu)) (Hid.mk fun u hu => w_pFormed h T _ u (hT.keep hu))
/-- what In answers -/
def inR (hv h : Nat) (V : VT) (T : TT) : Bool × Int := if formN hv V && fmN h T then ((agN h V T).isNone, 0) else (false, 1)

set_option maxRecDepth 100000 in
set_option maxHeartbeats 6400000 in
theorem in_v (kd : Int) (nm tx : ByteArray) (io : Option Addr) (NI icap : Nat) (vo : Option Addr) (NK vcap : Nat) (sa sb sc sd : Bool) (seo : Option Addr) (sen sec : Nat) (sf : Bool) (sgo : Option Addr) (sgn sgc : Nat) (sio : Option Addr) (sinn sic : Nat) (sjo : Option Addr) (sjn sjc : Nat) (w : World) (R : Er) (f : Bool) (A : Bool) (er : Int)
    (H1 : Hid (∀ u, Below w.heap.size w u → Calls Tryz.prog 19 #[.agg #[.int .i64 kd, .string nm, .string tx, .slice io NI icap, .slice vo NK vcap], .agg #[.bool sa, .bool sb, .bool sc, .bool sd, .slice seo sen sec, .bool sf, .slice sgo sgn sgc, .slice sio sinn sic, .slice sjo sjn sjc]] u fun e w' => e = .returned (.bool f) ∧ Below u.heap.size u w'))
    (H2 : Hid (f = true → ∀ u, Below w.heap.size w u → Calls Tryz.prog 20 #[.agg #[.int .i64 kd, .string nm, .string tx, .slice io NI icap, .slice vo NK vcap], .agg #[.bool sa, .bool sb, .bool sc, .bool sd, .slice seo sen sec, .bool sf, .slice sgo sgn sgc, .slice sio sinn sic, .slice sjo sjn sjc]] u fun e w' => (∃ v, e = .returned v ∧ ErV w' R v) ∧ Below u.heap.size u w')) (HA : Hid (f = true → A = R.isNone ∧ er = 0)) (HN : Hid (f = false → A = false ∧ er = 1)) :
    Calls Tryz.prog 7 #[.agg #[.int .i64 kd, .string nm, .string tx, .slice io NI icap, .slice vo NK vcap], .agg #[.bool sa, .bool sb, .bool sc, .bool sd, .slice seo sen sec, .bool sf, .slice sgo sgn sgc, .slice sio sinn sic, .slice sjo sjn sjc]] w fun e w' => e = .returned (.tuple #[.bool A, .int .i64 er]) ∧ Below w.heap.size w w' := by
  have HX := Hid.mk (bx2_two w #[.int .i64 kd, .string nm, .string tx, .slice io NI icap, .slice vo NK vcap] #[.bool sa, .bool sb, .bool sc, .bool sd, .slice seo sen sec, .bool sf, .slice sgo sgn sgc, .slice sio sinn sic, .slice sjo sjn sjc] 37 29)
  obtain ⟨W0, hW0⟩ : ∃ W0, (w.alloc (.cells #[.int .i64 kd, .string nm, .string tx, .slice io NI icap, .slice vo NK vcap] 37)).alloc (.cells #[.bool sa, .bool sb, .bool sc, .bool sd, .slice seo sen sec, .bool sf, .slice sgo sgn sgc, .slice sio sinn sic, .slice sjo sjn sjc] 29) = W0 := ⟨_, rfl⟩
  rw [hW0] at HX
  have p0 : W0.cell? ⟨w.heap.size, 0, none⟩ = some (.int .i64 kd) := HX.out.one 0
  have p1 : W0.cell? ⟨w.heap.size, 1, none⟩ = some (.string nm) := HX.out.one 1
  have p2 : W0.cell? ⟨w.heap.size, 2, none⟩ = some (.string tx) := HX.out.one 2
  have p3 : W0.cell? ⟨w.heap.size, 3, none⟩ = some (.slice io NI icap) := HX.out.one 3
  have p4 : W0.cell? ⟨w.heap.size, 4, none⟩ = some (.slice vo NK vcap) := HX.out.one 4
  have q0 : W0.cell? ⟨w.heap.size + 1, 0, none⟩ = some (.bool sa) := HX.out.two 0
  have q1 : W0.cell? ⟨w.heap.size + 1, 1, none⟩ = some (.bool sb) := HX.out.two 1
  have q2 : W0.cell? ⟨w.heap.size + 1, 2, none⟩ = some (.bool sc) := HX.out.two 2
  have q3 : W0.cell? ⟨w.heap.size + 1, 3, none⟩ = some (.bool sd) := HX.out.two 3
  have q4 : W0.cell? ⟨w.heap.size + 1, 4, none⟩ = some (.slice seo sen sec) := HX.out.two 4
  have q5 : W0.cell? ⟨w.heap.size + 1, 5, none⟩ = some (.bool sf) := HX.out.two 5
  have q6 : W0.cell? ⟨w.heap.size + 1, 6, none⟩ = some (.slice sgo sgn sgc) := HX.out.two 6
  have q7 : W0.cell? ⟨w.heap.size + 1, 7, none⟩ = some (.slice sio sinn sic) := HX.out.two 7
  have q8 : W0.cell? ⟨w.heap.size + 1, 8, none⟩ = some (.slice sjo sjn sjc) := HX.out.two 8
  go_enter Tryz.func7, Tryz.ntmps7
  go_wp2_with fail
  refine (H1.out _ HX.out.below).mono ?_
  rintro e w1 ⟨rfl, hb1⟩
  have HX1 := Hid.mk (HX.out.keep hb1)
  clear hb1 hW0 p0 p1 p2 p3 p4 q0 q1 q2 q3 q4 q5 q6 q7 q8
  cases f with
  | false =>
    obtain ⟨rfl, rfl⟩ := HN.out rfl
    go_wp2_with fail
    go_ret2
    exact ⟨rfl, HX1.out.below⟩
  | true =>
    obtain ⟨eA, rfl⟩ := HA.out rfl
    have HEA := Hid.mk eA
    have HC2 := Hid.mk (H2.out rfl)
    clear eA HA HN H2
    have p0 : w1.cell? ⟨w.heap.size, 0, none⟩ = some (.int .i64 kd) := HX1.out.one 0
    have p1 : w1.cell? ⟨w.heap.size, 1, none⟩ = some (.string nm) := HX1.out.one 1
    have p2 : w1.cell? ⟨w.heap.size, 2, none⟩ = some (.string tx) := HX1.out.one 2
    have p3 : w1.cell? ⟨w.heap.size, 3, none⟩ = some (.slice io NI icap) := HX1.out.one 3
    have p4 : w1.cell? ⟨w.heap.size, 4, none⟩ = some (.slice vo NK vcap) := HX1.out.one 4
    have q0 : w1.cell? ⟨w.heap.size + 1, 0, none⟩ = some (.bool sa) := HX1.out.two 0
    have q1 : w1.cell? ⟨w.heap.size + 1, 1, none⟩ = some (.bool sb) := HX1.out.two 1
    have q2 : w1.cell? ⟨w.heap.size + 1, 2, none⟩ = some (.bool sc) := HX1.out.two 2
    have q3 : w1.cell? ⟨w.heap.size + 1, 3, none⟩ = some (.bool sd) := HX1.out.two 3
    have q4 : w1.cell? ⟨w.heap.size + 1, 4, none⟩ = some (.slice seo sen sec) := HX1.out.two 4
    have q5 : w1.cell? ⟨w.heap.size + 1, 5, none⟩ = some (.bool sf) := HX1.out.two 5
    have q6 : w1.cell? ⟨w.heap.size + 1, 6, none⟩ = some (.slice sgo sgn sgc) := HX1.out.two 6
    have q7 : w1.cell? ⟨w.heap.size + 1, 7, none⟩ = some (.slice sio sinn sic) := HX1.out.two 7
    have q8 : w1.cell? ⟨w.heap.size + 1, 8, none⟩ = some (.slice sjo sjn sjc) := HX1.out.two 8
    go_wp2_with fail
    refine (HC2.out _ HX1.out.below).mono ?_
    rintro e w2 ⟨⟨x, rfl, hx⟩, hb2⟩
    have HX2 := Hid.mk (HX1.out.keep hb2)
    clear hb2 p0 p1 p2 p3 p4 q0 q1 q2 q3 q4 q5 q6 q7 q8
    cases R with
    | none =>
      obtain rfl : x = .nilIface := hx
      go_wp2_with fail
      go_ret2
      exact ⟨by rw [HEA.out]; rfl, HX2.out.below⟩
    | some q =>
      obtain ⟨t, b2, rfl, hx⟩ := hx
      clear hx
      go_wp2_with fail
      go_ret2
      exact ⟨by rw [HEA.out]; rfl, HX2.out.below⟩
/-- THE PROGRAM'S In, of every value and type -/
theorem w_mIn (hv h : Nat) (V : VT) (T : TT) (vv vt : Value) (w : World) (hI : InH w hv V vv) (hT : InT w h T vt) (ht : Tab2 w) : Calls Tryz.prog 7 #[vv, vt] w fun e w' => e = .returned (.tuple #[.bool (inR hv h V T).1, .int .i64 (inR hv h V T).2]) ∧ Below w.heap.size w w' := by
  have HI := hI
  obtain ⟨io, icap, vo, vcap, rfl⟩ := inH_shape hI
  have hTs := hT
  obtain ⟨sa, sb, sc, sd, ⟨seo, sen, sec⟩, sf, ⟨sgo, sgn, sgc⟩, ⟨sio, sinn, sic⟩, ⟨sjo, sjn, sjc⟩, rfl⟩ := inT_shape hT
  refine in_v _ _ _ _ _ _ _ _ _ _ _ _ _ _ _ _ _ _ _ _ _ _ _ _ _ _ w (agN h V T) (formN hv V && fmN h T) _ _ (Hid.mk fun u hu => w_mformed hv h V T _ _ u (hI.keep hu) (hT.keep hu)) (fun hf u hu => ?_) (fun hf => ?_) (fun hf => ?_)
  · have h2 := Bool.and_eq_true _ _ ▸ hf
    exact w_against h hv V T _ _ u (hI.keep hu) h2.1 h2.2 (hT.keep hu) (ht.keep hu)
  · unfold inR; rw [hf]; exact ⟨rfl, rfl⟩
  · unfold inR; rw [hf]; exact ⟨rfl, rfl⟩
end Go.Proofs.YtapjfocjeligiaaGreatDoor
