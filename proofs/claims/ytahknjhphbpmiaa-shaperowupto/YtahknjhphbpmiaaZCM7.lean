import Derived.Test.YtahknjhphbpmiaaZCM6
import Derived.Test.YtahknjhphbpmiaaM19
import Derived.Test.YtahknjhphbpmiaaZCM0
namespace Go.Proofs.Ytahknjhphbpmiaa
open Go.RowKit Go.Shelf Go.Sort
set_option linter.unusedVariables false
set_option linter.unusedSimpArgs false
attribute [local go_sem] Oper.semAt_some


/-- three boxes -/
structure TB3 (w u : World) (sa sb sc sd : Bool) (seo : Option Addr) (sen sec : Nat) (sf : Bool) (sgo : Option Addr) (sgn sgc : Nat) (sio : Option Addr) (sinn sic : Nat) (sjo : Option Addr) (sjn sjc : Nat) (ta tb tc td : Bool) (teo : Option Addr) (ten tec : Nat) (tf : Bool) (tgo : Option Addr) (tgn tgc : Nat) (tio : Option Addr) (tinn tic : Nat) (tjo : Option Addr) (tjn tjc : Nat) (va vb vc vd : Bool) (veo : Option Addr) (ven vec : Nat) (vf : Bool) (vgo : Option Addr) (vgn vgc : Nat) (vio : Option Addr) (vinn vic : Nat) (vjo : Option Addr) (vjn vjc : Nat) : Prop where
  below : Below w.heap.size w u
  one : C9 u w.heap.size 0 (.bool sa) (.bool sb) (.bool sc) (.bool sd) (.slice seo sen sec) (.bool sf) (.slice sgo sgn sgc) (.slice sio sinn sic) (.slice sjo sjn sjc)
  two : C9 u (w.heap.size + 1) 0 (.bool ta) (.bool tb) (.bool tc) (.bool td) (.slice teo ten tec) (.bool tf) (.slice tgo tgn tgc) (.slice tio tinn tic) (.slice tjo tjn tjc)
  three : C9 u (w.heap.size + 1 + 1) 0 (.bool va) (.bool vb) (.bool vc) (.bool vd) (.slice veo ven vec) (.bool vf) (.slice vgo vgn vgc) (.slice vio vinn vic) (.slice vjo vjn vjc)
  lt : w.heap.size + 1 + 1 < u.heap.size
theorem TB3.keep {w u u' : World} {sa sb sc sd : Bool} {seo : Option Addr} {sen sec : Nat} {sf : Bool} {sgo : Option Addr} {sgn sgc : Nat} {sio : Option Addr} {sinn sic : Nat} {sjo : Option Addr} {sjn sjc : Nat} {ta tb tc td : Bool} {teo : Option Addr} {ten tec : Nat} {tf : Bool} {tgo : Option Addr} {tgn tgc : Nat} {tio : Option Addr} {tinn tic : Nat} {tjo : Option Addr} {tjn tjc : Nat} {va vb vc vd : Bool} {veo : Option Addr} {ven vec : Nat} {vf : Bool} {vgo : Option Addr} {vgn vgc : Nat} {vio : Option Addr} {vinn vic : Nat} {vjo : Option Addr} {vjn vjc : Nat} (x : TB3 w u sa sb sc sd seo sen sec sf sgo sgn sgc sio sinn sic sjo sjn sjc ta tb tc td teo ten tec tf tgo tgn tgc tio tinn tic tjo tjn tjc va vb vc vd veo ven vec vf vgo vgn vgc vio vinn vic vjo vjn vjc) (hb : Below u.heap.size u u') : TB3 w u' sa sb sc sd seo sen sec sf sgo sgn sgc sio sinn sic sjo sjn sjc ta tb tc td teo ten tec tf tgo tgn tgc tio tinn tic tjo tjn tjc va vb vc vd veo ven vec vf vgo vgn vgc vio vinn vic vjo vjn vjc :=
  ⟨x.below.trans (hb.mono x.below.size), x.one.keep hb (by have := x.lt; omega), x.two.keep hb (by have := x.lt; omega), x.three.keep hb x.lt, Nat.lt_of_lt_of_le x.lt hb.size⟩

set_option maxRecDepth 100000 in
set_option maxHeartbeats 8000000 in
theorem row_step (sa sb sc sd : Bool) (seo : Option Addr) (sen sec : Nat) (sf : Bool) (sgo : Option Addr) (sgn sgc : Nat) (sio : Option Addr) (sinn sic : Nat) (sjo : Option Addr) (sjn sjc : Nat) (ta tb tc td : Bool) (teo : Option Addr) (ten tec : Nat) (tf : Bool) (tgo : Option Addr) (tgn tgc : Nat) (tio : Option Addr) (tinn tic : Nat) (tjo : Option Addr) (tjn tjc : Nat) (va vb vc vd : Bool) (veo : Option Addr) (ven vec : Nat) (vf : Bool) (vgo : Option Addr) (vgn vgc : Nat) (vio : Option Addr) (vinn vic : Nat) (vjo : Option Addr) (vjn vjc : Nat) (w : World) (fa fb fc ma mb mc same : Bool) (x y z t : Int)
    (HFa : Hid (∀ u, Below w.heap.size w u → Calls Try.prog 6 #[.agg #[.bool sa, .bool sb, .bool sc, .bool sd, .slice seo sen sec, .bool sf, .slice sgo sgn sgc, .slice sio sinn sic, .slice sjo sjn sjc]] u fun e w' => e = .returned (.bool fa) ∧ Below u.heap.size u w'))
    (HFb : Hid (∀ u, Below w.heap.size w u → Calls Try.prog 6 #[.agg #[.bool ta, .bool tb, .bool tc, .bool td, .slice teo ten tec, .bool tf, .slice tgo tgn tgc, .slice tio tinn tic, .slice tjo tjn tjc]] u fun e w' => e = .returned (.bool fb) ∧ Below u.heap.size u w'))
    (HFc : Hid (∀ u, Below w.heap.size w u → Calls Try.prog 6 #[.agg #[.bool va, .bool vb, .bool vc, .bool vd, .slice veo ven vec, .bool vf, .slice vgo vgn vgc, .slice vio vinn vic, .slice vjo vjn vjc]] u fun e w' => e = .returned (.bool fc) ∧ Below u.heap.size u w'))
    (HMa : Hid (∀ u, Below w.heap.size w u → Calls Try.prog 7 #[.agg #[.bool sa, .bool sb, .bool sc, .bool sd, .slice seo sen sec, .bool sf, .slice sgo sgn sgc, .slice sio sinn sic, .slice sjo sjn sjc]] u fun e w' => e = .returned (.bool ma) ∧ Below u.heap.size u w'))
    (HMb : Hid (∀ u, Below w.heap.size w u → Calls Try.prog 7 #[.agg #[.bool ta, .bool tb, .bool tc, .bool td, .slice teo ten tec, .bool tf, .slice tgo tgn tgc, .slice tio tinn tic, .slice tjo tjn tjc]] u fun e w' => e = .returned (.bool mb) ∧ Below u.heap.size u w'))
    (HMc : Hid (∀ u, Below w.heap.size w u → Calls Try.prog 7 #[.agg #[.bool va, .bool vb, .bool vc, .bool vd, .slice veo ven vec, .bool vf, .slice vgo vgn vgc, .slice vio vinn vic, .slice vjo vjn vjc]] u fun e w' => e = .returned (.bool mc) ∧ Below u.heap.size u w'))
    (Hab : Hid (∀ u, Below w.heap.size w u → Calls Try.prog 9 #[.agg #[.bool sa, .bool sb, .bool sc, .bool sd, .slice seo sen sec, .bool sf, .slice sgo sgn sgc, .slice sio sinn sic, .slice sjo sjn sjc], .agg #[.bool ta, .bool tb, .bool tc, .bool td, .slice teo ten tec, .bool tf, .slice tgo tgn tgc, .slice tio tinn tic, .slice tjo tjn tjc]] u fun e w' => e = .returned (.int .i64 x) ∧ Below u.heap.size u w'))
    (Hba : Hid (∀ u, Below w.heap.size w u → Calls Try.prog 9 #[.agg #[.bool ta, .bool tb, .bool tc, .bool td, .slice teo ten tec, .bool tf, .slice tgo tgn tgc, .slice tio tinn tic, .slice tjo tjn tjc], .agg #[.bool sa, .bool sb, .bool sc, .bool sd, .slice seo sen sec, .bool sf, .slice sgo sgn sgc, .slice sio sinn sic, .slice sjo sjn sjc]] u fun e w' => e = .returned (.int .i64 y) ∧ Below u.heap.size u w'))
    (Hbc : Hid (∀ u, Below w.heap.size w u → Calls Try.prog 9 #[.agg #[.bool ta, .bool tb, .bool tc, .bool td, .slice teo ten tec, .bool tf, .slice tgo tgn tgc, .slice tio tinn tic, .slice tjo tjn tjc], .agg #[.bool va, .bool vb, .bool vc, .bool vd, .slice veo ven vec, .bool vf, .slice vgo vgn vgc, .slice vio vinn vic, .slice vjo vjn vjc]] u fun e w' => e = .returned (.int .i64 z) ∧ Below u.heap.size u w'))
    (Hac : Hid (∀ u, Below w.heap.size w u → Calls Try.prog 9 #[.agg #[.bool sa, .bool sb, .bool sc, .bool sd, .slice seo sen sec, .bool sf, .slice sgo sgn sgc, .slice sio sinn sic, .slice sjo sjn sjc], .agg #[.bool va, .bool vb, .bool vc, .bool vd, .slice veo ven vec, .bool vf, .slice vgo vgn vgc, .slice vio vinn vic, .slice vjo vjn vjc]] u fun e w' => e = .returned (.int .i64 t) ∧ Below u.heap.size u w'))
    (HS : Hid (∀ u, Below w.heap.size w u → Calls Try.prog 11 #[.agg #[.bool sa, .bool sb, .bool sc, .bool sd, .slice seo sen sec, .bool sf, .slice sgo sgn sgc, .slice sio sinn sic, .slice sjo sjn sjc], .agg #[.bool ta, .bool tb, .bool tc, .bool td, .slice teo ten tec, .bool tf, .slice tgo tgn tgc, .slice tio tinn tic, .slice tjo tjn tjc]] u fun e w' => e = .returned (.bool same) ∧ Below u.heap.size u w'))
    (HK : Hid (∀ u, Below w.heap.size w u → Calls Try.prog 9 #[.agg #[.bool false, .bool false, .bool false, .bool false, .slice none 0 0, .bool false, .slice none 0 0, .slice none 0 0, .slice none 0 0], .agg #[.bool true, .bool false, .bool false, .bool false, .slice none 0 0, .bool false, .slice none 0 0, .slice none 0 0, .slice none 0 0]] u fun e w' => e = .returned (.int .i64 (-1)) ∧ Below u.heap.size u w'))
    (HO : Hid (ma = true → mb = true → mc = true → (x = -1 ∨ x = 0 ∨ x = 1) ∧ y = -x ∧ (z = -1 ∨ z = 0 ∨ z = 1) ∧ (t = -1 ∨ t = 0 ∨ t = 1) ∧ (x ≤ 0 → z ≤ 0 → t ≤ 0) ∧ (x = 0 → same = true))) :
    Calls Try.prog 4 #[.agg #[.bool sa, .bool sb, .bool sc, .bool sd, .slice seo sen sec, .bool sf, .slice sgo sgn sgc, .slice sio sinn sic, .slice sjo sjn sjc], .agg #[.bool ta, .bool tb, .bool tc, .bool td, .slice teo ten tec, .bool tf, .slice tgo tgn tgc, .slice tio tinn tic, .slice tjo tjn tjc], .agg #[.bool va, .bool vb, .bool vc, .bool vd, .slice veo ven vec, .bool vf, .slice vgo vgn vgc, .slice vio vinn vic, .slice vjo vjn vjc]] w fun e w' => e = .returned (.bool true) ∧ Below w.heap.size w w' := by
  obtain ⟨W0, hW0⟩ : ∃ W0, (((w.alloc (.cells #[.bool sa, .bool sb, .bool sc, .bool sd, .slice seo sen sec, .bool sf, .slice sgo sgn sgc, .slice sio sinn sic, .slice sjo sjn sjc] 27)).alloc (.cells #[.bool ta, .bool tb, .bool tc, .bool td, .slice teo ten tec, .bool tf, .slice tgo tgn tgc, .slice tio tinn tic, .slice tjo tjn tjc] 27)).alloc (.cells #[.bool va, .bool vb, .bool vc, .bool vd, .slice veo ven vec, .bool vf, .slice vgo vgn vgc, .slice vio vinn vic, .slice vjo vjn vjc] 27)) = W0 := ⟨_, rfl⟩
  have HX : Hid (TB3 w W0 sa sb sc sd seo sen sec sf sgo sgn sgc sio sinn sic sjo sjn sjc ta tb tc td teo ten tec tf tgo tgn tgc tio tinn tic tjo tjn tjc va vb vc vd veo ven vec vf vgo vgn vgc vio vinn vic vjo vjn vjc) := by
    rw [← hW0]
    refine ⟨(((Below.refl _ w).alloc (Nat.le_refl _) _).alloc (by simp) _).alloc (by simp; omega) _, ⟨by simp [go_sem], by simp [go_sem], by simp [go_sem], by simp [go_sem], by simp [go_sem], by simp [go_sem], by simp [go_sem], by simp [go_sem], by simp [go_sem]⟩, ⟨by simp [go_sem], by simp [go_sem], by simp [go_sem], by simp [go_sem], by simp [go_sem], by simp [go_sem], by simp [go_sem], by simp [go_sem], by simp [go_sem]⟩, ⟨by simp [go_sem], by simp [go_sem], by simp [go_sem], by simp [go_sem], by simp [go_sem], by simp [go_sem], by simp [go_sem], by simp [go_sem], by simp [go_sem]⟩, by simp⟩
  go_enter Try.func4, Try.ntmps4
  go_wp2_with fail
  refine (HK.out _ HX.out.below).mono ?_
  rintro e w1 ⟨rfl, hq⟩
  have HY := Hid.mk (HX.out.keep hq)
  clear hq hW0 HX HK
  obtain ⟨p0, p1, p2, p3, p4, p5, p6, p7, p8⟩ := HY.out.one
  simp only [Nat.zero_add] at p1 p2 p3 p4 p5 p6 p7 p8
  go_wp2_with fail
  refine (HFa.out _ HY.out.below).mono ?_
  rintro e w2 ⟨rfl, hq⟩
  have HZ := Hid.mk (HY.out.keep hq)
  clear hq HY p0 p1 p2 p3 p4 p5 p6 p7 p8
  have HY := HZ
  clear HZ
  cases fa with
  | false =>
    go_wp2_with fail
    go_ret
    exact ⟨by first | rfl | simp, HY.out.below⟩
  | true =>
    obtain ⟨q0, q1, q2, q3, q4, q5, q6, q7, q8⟩ := HY.out.two
    simp only [Nat.zero_add] at q1 q2 q3 q4 q5 q6 q7 q8
    go_wp2_with fail
    refine (HFb.out _ HY.out.below).mono ?_
    rintro e w3 ⟨rfl, hq⟩
    have HZ := Hid.mk (HY.out.keep hq)
    clear hq HY q0 q1 q2 q3 q4 q5 q6 q7 q8
    have HY := HZ
    clear HZ
    cases fb with
    | false =>
      go_wp2_with fail
      go_ret
      exact ⟨by first | rfl | simp, HY.out.below⟩
    | true =>
      obtain ⟨r0, r1, r2, r3, r4, r5, r6, r7, r8⟩ := HY.out.three
      simp only [Nat.zero_add] at r1 r2 r3 r4 r5 r6 r7 r8
      go_wp2_with fail
      refine (HFc.out _ HY.out.below).mono ?_
      rintro e w4 ⟨rfl, hq⟩
      have HZ := Hid.mk (HY.out.keep hq)
      clear hq HY r0 r1 r2 r3 r4 r5 r6 r7 r8
      have HY := HZ
      clear HZ
      cases fc with
      | false =>
        go_wp2_with fail
        go_ret
        exact ⟨by first | rfl | simp, HY.out.below⟩
      | true =>
        obtain ⟨p0, p1, p2, p3, p4, p5, p6, p7, p8⟩ := HY.out.one
        simp only [Nat.zero_add] at p1 p2 p3 p4 p5 p6 p7 p8
        go_wp2_with fail
        refine (HMa.out _ HY.out.below).mono ?_
        rintro e w5 ⟨rfl, hq⟩
        have HZ := Hid.mk (HY.out.keep hq)
        clear hq HY p0 p1 p2 p3 p4 p5 p6 p7 p8
        have HY := HZ
        clear HZ
        cases ma with
        | false =>
          go_wp2_with fail
          go_ret
          exact ⟨by first | rfl | simp, HY.out.below⟩
        | true =>
          obtain ⟨q0, q1, q2, q3, q4, q5, q6, q7, q8⟩ := HY.out.two
          simp only [Nat.zero_add] at q1 q2 q3 q4 q5 q6 q7 q8
          go_wp2_with fail
          refine (HMb.out _ HY.out.below).mono ?_
          rintro e w6 ⟨rfl, hq⟩
          have HZ := Hid.mk (HY.out.keep hq)
          clear hq HY q0 q1 q2 q3 q4 q5 q6 q7 q8
          have HY := HZ
          clear HZ
          cases mb with
          | false =>
            go_wp2_with fail
            go_ret
            exact ⟨by first | rfl | simp, HY.out.below⟩
          | true =>
            obtain ⟨r0, r1, r2, r3, r4, r5, r6, r7, r8⟩ := HY.out.three
            simp only [Nat.zero_add] at r1 r2 r3 r4 r5 r6 r7 r8
            go_wp2_with fail
            refine (HMc.out _ HY.out.below).mono ?_
            rintro e w7 ⟨rfl, hq⟩
            have HZ := Hid.mk (HY.out.keep hq)
            clear hq HY r0 r1 r2 r3 r4 r5 r6 r7 r8
            have HY := HZ
            clear HZ
            cases mc with
            | false =>
              go_wp2_with fail
              go_ret
              exact ⟨by first | rfl | simp, HY.out.below⟩
            | true =>
              obtain ⟨hx, rfl, hz, ht, htr, hs⟩ := HO.out (by first | trivial | rfl) (by first | trivial | rfl) (by first | trivial | rfl)
              have HTR := Hid.mk htr
              have HSS := Hid.mk hs
              have HXX := Hid.mk hx
              have HZZ := Hid.mk hz
              have HTT := Hid.mk ht
              clear hx hz ht htr hs HO
              obtain ⟨p0, p1, p2, p3, p4, p5, p6, p7, p8⟩ := HY.out.one
              simp only [Nat.zero_add] at p1 p2 p3 p4 p5 p6 p7 p8
              obtain ⟨q0, q1, q2, q3, q4, q5, q6, q7, q8⟩ := HY.out.two
              simp only [Nat.zero_add] at q1 q2 q3 q4 q5 q6 q7 q8
              go_wp2_with fail
              refine (Hab.out _ HY.out.below).mono ?_
              rintro e w8 ⟨rfl, hq⟩
              have HZ := Hid.mk (HY.out.keep hq)
              clear hq HY p0 p1 p2 p3 p4 p5 p6 p7 p8 q0 q1 q2 q3 q4 q5 q6 q7 q8
              have HY := HZ
              clear HZ
              obtain ⟨q0, q1, q2, q3, q4, q5, q6, q7, q8⟩ := HY.out.two
              simp only [Nat.zero_add] at q1 q2 q3 q4 q5 q6 q7 q8
              obtain ⟨p0, p1, p2, p3, p4, p5, p6, p7, p8⟩ := HY.out.one
              simp only [Nat.zero_add] at p1 p2 p3 p4 p5 p6 p7 p8
              go_wp2_with fail
              refine (Hba.out _ HY.out.below).mono ?_
              rintro e w9 ⟨rfl, hq⟩
              have HZ := Hid.mk (HY.out.keep hq)
              clear hq HY q0 q1 q2 q3 q4 q5 q6 q7 q8 p0 p1 p2 p3 p4 p5 p6 p7 p8
              have HY := HZ
              clear HZ
              obtain ⟨q0, q1, q2, q3, q4, q5, q6, q7, q8⟩ := HY.out.two
              simp only [Nat.zero_add] at q1 q2 q3 q4 q5 q6 q7 q8
              obtain ⟨r0, r1, r2, r3, r4, r5, r6, r7, r8⟩ := HY.out.three
              simp only [Nat.zero_add] at r1 r2 r3 r4 r5 r6 r7 r8
              go_wp2_with fail
              refine (Hbc.out _ HY.out.below).mono ?_
              rintro e w10 ⟨rfl, hq⟩
              have HZ := Hid.mk (HY.out.keep hq)
              clear hq HY q0 q1 q2 q3 q4 q5 q6 q7 q8 r0 r1 r2 r3 r4 r5 r6 r7 r8
              have HY := HZ
              clear HZ
              obtain ⟨p0, p1, p2, p3, p4, p5, p6, p7, p8⟩ := HY.out.one
              simp only [Nat.zero_add] at p1 p2 p3 p4 p5 p6 p7 p8
              obtain ⟨r0, r1, r2, r3, r4, r5, r6, r7, r8⟩ := HY.out.three
              simp only [Nat.zero_add] at r1 r2 r3 r4 r5 r6 r7 r8
              go_wp2_with fail
              refine (Hac.out _ HY.out.below).mono ?_
              rintro e w11 ⟨rfl, hq⟩
              have HZ := Hid.mk (HY.out.keep hq)
              clear hq HY p0 p1 p2 p3 p4 p5 p6 p7 p8 r0 r1 r2 r3 r4 r5 r6 r7 r8
              have HY := HZ
              clear HZ
              rcases HXX.out with rfl | rfl | rfl
              · rcases HZZ.out with rfl | rfl | rfl <;> rcases HTT.out with rfl | rfl | rfl
                all_goals
                  first
                    | exact absurd (HTR.out (by omega) (by omega)) (by omega)
                    | (go_wp2_with fail
                       go_ret
                       exact ⟨by first | rfl | simp, HY.out.below⟩)
              · have hs := HSS.out rfl
                subst hs
                obtain ⟨p0, p1, p2, p3, p4, p5, p6, p7, p8⟩ := HY.out.one
                simp only [Nat.zero_add] at p1 p2 p3 p4 p5 p6 p7 p8
                obtain ⟨q0, q1, q2, q3, q4, q5, q6, q7, q8⟩ := HY.out.two
                simp only [Nat.zero_add] at q1 q2 q3 q4 q5 q6 q7 q8
                rcases HZZ.out with rfl | rfl | rfl <;> rcases HTT.out with rfl | rfl | rfl
                all_goals
                  first
                    | exact absurd (HTR.out (by omega) (by omega)) (by omega)
                    | (go_wp2_with fail
                       refine (HS.out _ HY.out.below).mono ?_
                       rintro e wz ⟨rfl, hq⟩
                       have HZ := Hid.mk (HY.out.keep hq)
                       clear hq
                       go_wp2_with fail
                       go_ret
                       exact ⟨by first | rfl | simp, HZ.out.below⟩)
              · rcases HZZ.out with rfl | rfl | rfl <;> rcases HTT.out with rfl | rfl | rfl
                all_goals
                  go_wp2_with fail
                  go_ret
                  exact ⟨by first | rfl | simp, HY.out.below⟩

set_option maxRecDepth 100000 in
theorem w_ShapeRow (h : Nat) (A B C : TT) (va vb vc : Value) (w : World) (hA : InT w h A va) (hB : InT w h B vb) (hC : InT w h C vc) (tA : tpN h A ≤ 1048576) (tB : tpN h B ≤ 1048576) (tC : tpN h C ≤ 1048576) (rA : rgT h A) (rB : rgT h B) (rC : rgT h C) :
    Calls Try.prog 4 #[va, vb, vc] w fun e w' => e = .returned (.bool true) ∧ Below w.heap.size w w' := by
  have H1 := Hid.mk (fun u (hu : Below w.heap.size w u) => w_FitType h A va u (hA.keep hu) tA)
  have H2 := Hid.mk (fun u (hu : Below w.heap.size w u) => w_FitType h B vb u (hB.keep hu) tB)
  have H3 := Hid.mk (fun u (hu : Below w.heap.size w u) => w_FitType h C vc u (hC.keep hu) tC)
  have H4 := Hid.mk (fun u (hu : Below w.heap.size w u) => w_rFormed h A va u (hA.keep hu))
  have H5 := Hid.mk (fun u (hu : Below w.heap.size w u) => w_rFormed h B vb u (hB.keep hu))
  have H6 := Hid.mk (fun u (hu : Below w.heap.size w u) => w_rFormed h C vc u (hC.keep hu))
  have H7 := Hid.mk (fun u (hu : Below w.heap.size w u) => w_sCmp h A B va vb u (hA.keep hu) (hB.keep hu))
  have H8 := Hid.mk (fun u (hu : Below w.heap.size w u) => w_sCmp h B A vb va u (hB.keep hu) (hA.keep hu))
  have H9 := Hid.mk (fun u (hu : Below w.heap.size w u) => w_sCmp h B C vb vc u (hB.keep hu) (hC.keep hu))
  have H10 := Hid.mk (fun u (hu : Below w.heap.size w u) => w_sCmp h A C va vc u (hA.keep hu) (hC.keep hu))
  have H11 := Hid.mk (fun u (hu : Below w.heap.size w u) => w_kSameType h A B va vb u (hA.keep hu) (hB.keep hu))
  have H12 := Hid.mk (fun u (hu : Below w.heap.size w u) => w_sCmp 1 ttNe ttEv _ _ u (inT_nev u 0) (inT_evr u 0))
  have e12 : cmpTy 1 ttNe ttEv = -1 := by decide
  rw [e12] at H12
  obtain ⟨sa, sb, sc, sd, ⟨seo, sen, sec⟩, sf, ⟨sgo, sgn, sgc⟩, ⟨sio, sinn, sic⟩, ⟨sjo, sjn, sjc⟩, eshs⟩ := inT_shape hA
  simp only [Value.agg.injEq, Array.mk.injEq, List.cons.injEq, and_true] at eshs
  obtain ⟨rfl, rfl, rfl, rfl, rfl, rfl, rfl, rfl, rfl⟩ := eshs
  obtain ⟨ta, tb, tc, td, ⟨teo, ten, tec⟩, tf, ⟨tgo, tgn, tgc⟩, ⟨tio, tinn, tic⟩, ⟨tjo, tjn, tjc⟩, esht⟩ := inT_shape hB
  simp only [Value.agg.injEq, Array.mk.injEq, List.cons.injEq, and_true] at esht
  obtain ⟨rfl, rfl, rfl, rfl, rfl, rfl, rfl, rfl, rfl⟩ := esht
  obtain ⟨va, vb, vc, vd, ⟨veo, ven, vec⟩, vf, ⟨vgo, vgn, vgc⟩, ⟨vio, vinn, vic⟩, ⟨vjo, vjn, vjc⟩, eshv⟩ := inT_shape hC
  simp only [Value.agg.injEq, Array.mk.injEq, List.cons.injEq, and_true] at eshv
  obtain ⟨rfl, rfl, rfl, rfl, rfl, rfl, rfl, rfl, rfl⟩ := eshv
  refine row_step _ _ _ _ _ _ _ _ _ _ _ _ _ _ _ _ _ _ _ _ _ _ _ _ _ _ _ _ _ _ _ _ _ _ _ _ _ _ _ _ _ _ _ _ _ _ _ _ _ _ _ w _ _ _ _ _ _ _ _ _ _ _ H1 H2 H3 H4 H5 H6 H7 H8 H9 H10 H11 H12 (Hid.mk fun m1 m2 m3 => ?_)
  have gA := good_of m1 rA
  have gB := good_of m2 rB
  have gC := good_of m3 rC
  have O := cmpTy_ord h
  have k1 := O.bd A B gA gB
  have k2 := O.sw A B gA gB
  have k3 := O.bd B C gB gC
  have k4 := O.bd A C gA gC
  refine ⟨by omega, k2, by omega, by omega, fun p q => O.tr A B C gA gB gC p q, fun p => ?_⟩
  rw [sameT_cmp gA gB, decide_eq_true p]
end Go.Proofs.Ytahknjhphbpmiaa
