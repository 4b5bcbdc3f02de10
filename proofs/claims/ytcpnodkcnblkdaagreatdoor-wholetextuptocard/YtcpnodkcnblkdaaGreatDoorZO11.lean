import Derived.Test.YtcpnodkcnblkdaaGreatDoorZO9
import Derived.Test.YtcpnodkcnblkdaaGreatDoorZO7
namespace Go.Proofs.YtcpnodkcnblkdaaGreatDoor
open Go.RowKit
set_option linter.unusedVariables false
set_option linter.unusedSimpArgs false

structure RB2 (w u : World) (a b c d e a' b' c' d' e' : Value) : Prop where
  one : VBx w u a b c d e
  two : VBx (w.alloc (.cells #[a, b, c, d, e] 25)) u a' b' c' d' e'
theorem RB2.keep {w u u' : World} {a b c d e a' b' c' d' e' : Value} (h : RB2 w u a b c d e a' b' c' d' e') (hb : Below u.heap.size u u') : RB2 w u' a b c d e a' b' c' d' e' := ⟨h.one.keep hb, h.two.keep hb⟩
theorem rb2_new (w : World) (a b c d e a' b' c' d' e' : Value) : RB2 w ((w.alloc (.cells #[a, b, c, d, e] 25)).alloc (.cells #[a', b', c', d', e'] 25)) a b c d e a' b' c' d' e' :=
  ⟨(vbx_new w a b c d e).keep (below1 _ _), vbx_new _ a' b' c' d' e'⟩
theorem RB2.d0 {w u : World} {a b c d e a' b' c' d' e' : Value} (h : RB2 w u a b c d e a' b' c' d' e') : u.cell? ⟨w.heap.size + 1, 0, none⟩ = some a' := by have := h.two.c0; rwa [World.size_alloc] at this
theorem RB2.d1 {w u : World} {a b c d e a' b' c' d' e' : Value} (h : RB2 w u a b c d e a' b' c' d' e') : u.cell? ⟨w.heap.size + 1, 1, none⟩ = some b' := by have := h.two.c1; rwa [World.size_alloc] at this
theorem RB2.d2 {w u : World} {a b c d e a' b' c' d' e' : Value} (h : RB2 w u a b c d e a' b' c' d' e') : u.cell? ⟨w.heap.size + 1, 2, none⟩ = some c' := by have := h.two.c2; rwa [World.size_alloc] at this
theorem RB2.d3 {w u : World} {a b c d e a' b' c' d' e' : Value} (h : RB2 w u a b c d e a' b' c' d' e') : u.cell? ⟨w.heap.size + 1, 3, none⟩ = some d' := by have := h.two.c3; rwa [World.size_alloc] at this
theorem RB2.d4 {w u : World} {a b c d e a' b' c' d' e' : Value} (h : RB2 w u a b c d e a' b' c' d' e') : u.cell? ⟨w.heap.size + 1, 4, none⟩ = some e' := by have := h.two.c4; rwa [World.size_alloc] at this

set_option maxRecDepth 100000 in
set_option maxHeartbeats 3200000 in
theorem rcmp_step (w : World) (ka kb : Int) (an at_ : ByteArray) (aio : Option Addr) (aN aic : Nat) (ako : Option Addr) (aK akc : Nat) (bn bt : ByteArray) (bio : Option Addr) (bN bic : Nat) (bko : Option Addr) (bK bkc : Nat) (nc tc kc ic : Int)
    (HN : Hid (ka = 3 → kb = 3 → ∀ u, Calls Tryz.prog 44 #[.string an, .string bn] u fun e w' => e = .returned (.int .i64 nc) ∧ Below u.heap.size u w'))
    (HT : Hid (∀ u, Calls Tryz.prog 45 #[.string at_, .string bt] u fun e w' => e = .returned (.int .i64 tc) ∧ w' = u))
    (HK : Hid (∀ u, Below w.heap.size w u → Calls Tryz.prog 46 #[.slice ako aK akc, .slice bko bK bkc] u fun e w' => e = .returned (.int .i64 kc) ∧ Below u.heap.size u w'))
    (HI : Hid (∀ u, Below w.heap.size w u → Calls Tryz.prog 47 #[.slice aio aN aic, .slice bio bN bic] u fun e w' => e = .returned (.int .i64 ic) ∧ Below u.heap.size u w'))
    (hic : ka ≠ 5 → ka ≠ 6 → ka = kb → ic = 0) :
    Calls Tryz.prog 28 #[.agg #[.int .i64 ka, .string an, .string at_, .slice aio aN aic, .slice ako aK akc], .agg #[.int .i64 kb, .string bn, .string bt, .slice bio bN bic, .slice bko bK bkc]] w fun e w' => e = .returned (.int .i64 (cmpV ka kb nc tc kc ic)) ∧ Below w.heap.size w w' := by
  have HX := Hid.mk (rb2_new w (.int .i64 ka) (.string an) (.string at_) (.slice aio aN aic) (.slice ako aK akc) (.int .i64 kb) (.string bn) (.string bt) (.slice bio bN bic) (.slice bko bK bkc))
  by_cases h1 : ka < kb
  · have HF : Hid (cmpV ka kb nc tc kc ic = -1) := by show _ = _; unfold cmpV; rw [if_pos h1]
    clear hic
    go_enter Tryz.func28, Tryz.ntmps28
    go_wp2_with fail
    go_ret
    exact ⟨by rw [HF.out]; rfl, HX.out.one.below⟩
  · by_cases h2 : kb < ka
    · have HF : Hid (cmpV ka kb nc tc kc ic = 1) := by show _ = _; unfold cmpV; rw [if_neg h1, if_pos h2]
      clear hic
      go_enter Tryz.func28, Tryz.ntmps28
      go_wp2_with fail
      go_ret
      exact ⟨by rw [HF.out]; rfl, HX.out.one.below⟩
    · obtain rfl : ka = kb := by omega
      have HV : Hid (cmpV ka ka nc tc kc ic = if ka = 3 then nc else if ka = 4 then tc else if ka = 5 then ic else if ka = 6 then (if kc = 0 then ic else kc) else 0) := cmpV_eq _ _ _ _ _
      clear h1 h2
      by_cases k3 : ka = 3
      · subst k3
        have HF : Hid (cmpV 3 3 nc tc kc ic = nc) := by show _ = _; rw [HV.out]; rfl
        have HN' := Hid.mk (HN.out rfl rfl)
        clear hic HV
        go_enter Tryz.func28, Tryz.ntmps28
        go_wp2_with fail
        refine (HN'.out _).mono ?_
        rintro e w1 ⟨rfl, hb1⟩
        have HX1 := Hid.mk (HX.out.keep hb1)
        clear hb1
        go_wp2_with fail
        go_ret
        exact ⟨by rw [HF.out]; rfl, HX1.out.one.below⟩
      · by_cases k4 : ka = 4
        · subst k4
          have HF : Hid (cmpV 4 4 nc tc kc ic = tc) := by show _ = _; rw [HV.out]; rfl
          clear hic HV k3
          go_enter Tryz.func28, Tryz.ntmps28
          go_wp2_with fail
          refine (HT.out _).mono ?_
          rintro e w1 ⟨rfl, hw⟩
          obtain rfl := hw.symm
          go_wp2_with fail
          go_ret
          exact ⟨by rw [HF.out]; rfl, HX.out.one.below⟩
        · by_cases k6 : ka = 6
          · subst k6
            have HV6 : Hid (cmpV 6 6 nc tc kc ic = if kc = 0 then ic else kc) := by show _ = _; rw [HV.out]; rfl
            clear hic HV k3 k4
            by_cases h0 : kc = 0
            · have HF : Hid (cmpV 6 6 nc tc kc ic = ic) := by show _ = _; rw [HV6.out, if_pos h0]
              subst h0
              go_enter Tryz.func28, Tryz.ntmps28
              go_wp2_with fail
              refine (HK.out _ HX.out.one.below).mono ?_
              rintro e w1 ⟨rfl, hb1⟩
              have HX1 := Hid.mk (HX.out.keep hb1)
              have p3 := HX1.out.one.c3
              have q3 := HX1.out.d3
              clear hb1 HX
              go_wp2_with fail
              refine (HI.out _ HX1.out.one.below).mono ?_
              rintro e w2 ⟨rfl, hb2⟩
              have HX2 := Hid.mk (HX1.out.keep hb2)
              clear hb2 p3 q3
              go_wp2_with fail
              go_ret
              exact ⟨by rw [HF.out]; rfl, HX2.out.one.below⟩
            · have HF : Hid (cmpV 6 6 nc tc kc ic = kc) := by show _ = _; rw [HV6.out, if_neg h0]
              have h0' : (kc != 0) = true := by simpa using h0
              clear h0
              go_enter Tryz.func28, Tryz.ntmps28
              go_wp2_with fail
              refine (HK.out _ HX.out.one.below).mono ?_
              rintro e w1 ⟨rfl, hb1⟩
              have HX1 := Hid.mk (HX.out.keep hb1)
              clear hb1 HX
              go_wp2_with fail
              go_ret
              exact ⟨by rw [HF.out]; rfl, HX1.out.one.below⟩
          · have HF : Hid (cmpV ka ka nc tc kc ic = ic) := by
              show _ = _
              rw [HV.out, if_neg k3, if_neg k4]
              by_cases k5 : ka = 5
              · rw [if_pos k5]
              · rw [if_neg k5, if_neg k6]; exact (hic k5 k6 rfl).symm
            have b3 : (ka == 3) = false := by rw [beq_eq_false_iff_ne]; exact k3
            have b4 : (ka == 4) = false := by rw [beq_eq_false_iff_ne]; exact k4
            have b6 : (ka == 6) = false := by rw [beq_eq_false_iff_ne]; exact k6
            clear hic HV k3 k4 k6
            go_enter Tryz.func28, Tryz.ntmps28
            go_wp2_with fail
            refine (HI.out _ HX.out.one.below).mono ?_
            rintro e w2 ⟨rfl, hb2⟩
            have HX2 := Hid.mk (HX.out.keep hb2)
            clear hb2
            go_wp2_with fail
            go_ret
            exact ⟨by rw [HF.out]; rfl, HX2.out.one.below⟩

theorem form_all {h : Nat} {T : VT} (hf : formN (h + 1) T = true) : ∀ x ∈ T.items, formN h x = true := by
  rcases form_open hf with (rfl | rfl | rfl) | ⟨n, rfl, _⟩ | ⟨n, rfl, _⟩ | ⟨i, rfl, hi⟩ | ⟨i, ks, rfl, _, _, _, hi⟩
  · intro x hx; cases hx
  · intro x hx; cases hx
  · intro x hx; cases hx
  · intro x hx; cases hx
  · intro x hx; cases hx
  · exact hi
  · exact hi
theorem w_rCmp : ∀ h, RcOk h
  | 0 => fun A B va vb w hA _ _ _ => hA.elim
  | h + 1 => fun A B va vb w hA hB fA fB => by
    obtain ⟨io, icap, ko, kcap, rfl, a1, a2, a3, a4, a5, a6, a7, hk, hi⟩ := hA.open
    obtain ⟨jo, jcap, lo, lcap, rfl, b1, b2, b3, b4, b5, b6, b7, hl, hj⟩ := hB.open
    show Calls Tryz.prog 28 _ w fun e w' => e = .returned (.int .i64 (cmpV A.kind B.kind (numC A.num B.num) (keyC A.text B.text) (listC keyC A.keys B.keys) (listC (cmpH h) A.items B.items))) ∧ Below w.heap.size w w'
    have fn : ∀ {T : VT}, formN (h + 1) T = true → T.kind = 3 → Pl.formed T.num.data.toList = true := fun {T} hf h3 => by
      rcases form_open hf with (rfl | rfl | rfl) | ⟨n, rfl, hn⟩ | ⟨n, rfl, _⟩ | ⟨i, rfl, hi⟩ | ⟨i, ks, rfl, _, _, _, hi⟩
      · simp [VT.kind] at h3
      · simp [VT.kind] at h3
      · simp [VT.kind] at h3
      · exact hn
      · simp [VT.kind] at h3
      · simp [VT.kind] at h3
      · simp [VT.kind] at h3
    have fl : ∀ {T : VT}, formN (h + 1) T = true → T.kind ≠ 5 → T.kind ≠ 6 → T.items = [] := fun {T} hf h5 h6 => by
      rcases form_open hf with (rfl | rfl | rfl) | ⟨n, rfl, hn⟩ | ⟨n, rfl, _⟩ | ⟨i, rfl, hi⟩ | ⟨i, ks, rfl, _, _, _, hi⟩
      · rfl
      · rfl
      · rfl
      · rfl
      · rfl
      · simp [VT.kind] at h5
      · simp [VT.kind] at h6
    exact rcmp_step w A.kind B.kind _ _ _ _ _ _ _ _ _ _ _ _ _ _ _ _ _ _ _ _
      (fun h3 h3' u => w_Numbers A.num B.num u (fn fA h3) (fn fB h3') a1 b1) (fun u => w_rTexts A.text B.text u)
      (fun u hu => w_rkeys ko _ kcap A.keys lo _ lcap B.keys u (hk.keep hu) (hl.keep hu) rfl rfl a6 b6 a4 b4)
      (fun u hu => w_rlists h (w_rCmp h) io _ icap A.items jo _ jcap B.items u (hi.keep hu) (hj.keep hu) rfl rfl a5 b5 a3 b3 (form_all fA) (form_all fB))
      (fun h5 h6 he => by rw [fl fA h5 h6, fl fB (by omega) (by omega)]; rfl)
end Go.Proofs.YtcpnodkcnblkdaaGreatDoor
