import Derived.Test.YtlnpopibdpbkgaaBS3
namespace Go.Proofs.Ytlnpopibdpbkgaa
open Go.RowKit Go.Sort
set_option linter.unusedVariables false
set_option linter.unusedSimpArgs false
attribute [local go_sem] Oper.semAt_some

theorem w_bSpan (al ah bl bh : ByteArray) (w : World) (h1 : al.size ≤ 140737488355328) (h2 : ah.size ≤ 140737488355328) (h3 : bl.size ≤ 140737488355328) (h4 : bh.size ≤ 140737488355328) :
    Calls Try.prog 4 #[.agg #[.string al, .string ah], .agg #[.string bl, .string bh]] w fun e w' =>
      e = .returned (.bool (abv al ah || ((bl.toList.isEmpty || (!al.toList.isEmpty && !abv bl al)) && (bh.toList.isEmpty || (!ah.toList.isEmpty && !abv ah bh))))) ∧ Below w.heap.size w w' :=
  bspan_v al ah bl bh w _ _ _ (Hid.mk fun u => w_above al ah u h1 h2) (Hid.mk fun u => w_above bl al u h3 h1) (Hid.mk fun u => w_above ah bh u h2 h4)
theorem w_rSpan (al ah bl bh : ByteArray) (w : World) (h1 : al.size ≤ 140737488355328) (h2 : ah.size ≤ 140737488355328) (h3 : bl.size ≤ 140737488355328) (h4 : bh.size ≤ 140737488355328) (b1 : bdB al = true) (b2 : bdB ah = true) (b3 : bdB bl = true) (b4 : bdB bh = true) :
    Calls Try.prog 6 #[.agg #[.string al, .string ah], .agg #[.string bl, .string bh]] w fun e w' => e = .returned (.bool (inS al ah bl bh)) ∧ Below w.heap.size w w' :=
  rspan_v al ah bl bh w _ _ _ (Hid.mk fun u => hollow_v al ah u _ (Hid.mk fun e1 e2 u => w_Numbers al ah u (bd_formed b1 e1) (bd_formed b2 e2) h1 h2)) (Hid.mk fun e1 e2 u => w_Numbers al bl u (bd_formed b1 e2) (bd_formed b3 e1) h1 h3) (Hid.mk fun e1 e2 u => w_Numbers ah bh u (bd_formed b2 e2) (bd_formed b4 e1) h2 h4)
theorem w_InSpan (n bl bh : ByteArray) (w : World) (h0 : n.size ≤ 140737488355328) (h3 : bl.size ≤ 140737488355328) (h4 : bh.size ≤ 140737488355328) (hn : Pl.formed n.data.toList = true) (b3 : bdB bl = true) (b4 : bdB bh = true) :
    Calls Try.prog 8 #[.string n, .agg #[.string bl, .string bh]] w fun e w' => e = .returned (.bool (hasS n bl bh)) ∧ Below w.heap.size w w' :=
  inspan_v n bl bh w _ _ (Hid.mk fun e1 u => w_Numbers n bl u hn (bd_formed b3 e1) h0 h3) (Hid.mk fun e1 u => w_Numbers n bh u hn (bd_formed b4 e1) h0 h4)
theorem w_bounds (al ah : ByteArray) (w : World) (h1 : al.size ≤ 140737488355328) (h2 : ah.size ≤ 140737488355328) :
    Calls Try.prog 5 #[.agg #[.string al, .string ah]] w fun e w' => e = .returned (.bool (bdB al && bdB ah)) ∧ Below w.heap.size w w' :=
  bounds_v al ah w _ _ (Hid.mk fun u => (w_Number al u (by omega)).mono fun e w' ⟨he, hw⟩ => ⟨he, by rw [hw]; exact Below.refl _ _⟩) (Hid.mk fun u => (w_Number ah u (by omega)).mono fun e w' ⟨he, hw⟩ => ⟨he, by rw [hw]; exact Below.refl _ _⟩)

theorem w_k1 (w : World) : Calls Try.prog 4 #[.agg #[.string ⟨#[51]⟩, .string ⟨#[53]⟩], .agg #[.string ⟨#[]⟩, .string ⟨#[53]⟩]] w fun e w' => e = .returned (.bool true) ∧ Below w.heap.size w w' :=
  (w_bSpan ⟨#[51]⟩ ⟨#[53]⟩ ⟨#[]⟩ ⟨#[53]⟩ w (by decide) (by decide) (by decide) (by decide)).mono fun e w' ⟨he, hb⟩ => ⟨he.trans (congrArg (fun b => Ending.returned (Value.bool b)) (by decide +kernel)), hb⟩
theorem w_k2 (w : World) : Calls Try.prog 4 #[.agg #[.string ⟨#[]⟩, .string ⟨#[]⟩], .agg #[.string ⟨#[]⟩, .string ⟨#[53]⟩]] w fun e w' => e = .returned (.bool false) ∧ Below w.heap.size w w' :=
  (w_bSpan ⟨#[]⟩ ⟨#[]⟩ ⟨#[]⟩ ⟨#[53]⟩ w (by decide) (by decide) (by decide) (by decide)).mono fun e w' ⟨he, hb⟩ => ⟨he.trans (congrArg (fun b => Ending.returned (Value.bool b)) (by decide +kernel)), hb⟩

set_option maxRecDepth 100000 in
set_option maxHeartbeats 3200000 in
theorem w_BelowSpans (al ah bl bh n : ByteArray) (w : World) (h1 : al.size ≤ 140737488355328) (h2 : ah.size ≤ 140737488355328) (h3 : bl.size ≤ 140737488355328) (h4 : bh.size ≤ 140737488355328) (h5 : n.size ≤ 140737488355328) :
    Calls Try.prog 3 #[.agg #[.string al, .string ah], .agg #[.string bl, .string bh], .string n] w fun e w' => e = .returned (.bool true) ∧ Below w.heap.size w w' := by
  have HA := Hid.mk (fun u => w_bounds al ah u h1 h2)
  have HB := Hid.mk (fun u => w_bounds bl bh u h3 h4)
  have HS := Hid.mk (fun u => w_bSpan al ah bl bh u h1 h2 h3 h4)
  have HN := Hid.mk (fun u => w_Number n u (by omega))
  have HR := Hid.mk (fun b1 b2 b3 b4 u => w_rSpan al ah bl bh u h1 h2 h3 h4 b1 b2 b3 b4)
  have HP := Hid.mk (fun b1 b2 b3 b4 => inS_prog (al := al) (ah := ah) (bl := bl) (bh := bh) b1 b2 b3 b4)
  have HI := Hid.mk (fun hn b1 b2 u => w_InSpan n al ah u h5 h1 h2 hn b1 b2)
  have HJ := Hid.mk (fun hn b3 b4 u => w_InSpan n bl bh u h5 h3 h4 hn b3 b4)
  have HL := Hid.mk (fun b1 b2 b3 b4 hn hi ha => inS_has (al := al) (ah := ah) (bl := bl) (bh := bh) (n := n) b1 b2 b3 b4 hn hi ha)
  have HX0 := Hid.mk (sbx_new w (.string al) (.string ah) (.string bl) (.string bh))
  obtain ⟨W0, hW0⟩ : ∃ W0, (w.alloc (.cells #[.string al, .string ah] 23)).alloc (.cells #[.string bl, .string bh] 23) = W0 := ⟨_, rfl⟩
  rw [hW0] at HX0
  obtain ⟨_, c0, c1, c2, c3, _⟩ := HX0.out
  clear h1 h2 h3 h4 h5
  obtain ⟨pa, hpa⟩ : ∃ p, (bdB al && bdB ah) = p := ⟨_, rfl⟩
  obtain ⟨pb, hpb⟩ : ∃ p, (bdB bl && bdB bh) = p := ⟨_, rfl⟩
  rw [hpa] at HA
  rw [hpb] at HB
  go_enter Try.func3, Try.ntmps3
  go_wp2_with fail
  refine (w_k1 _).mono ?_
  rintro e v1 ⟨rfl, hq⟩
  have HX1 := Hid.mk (HX0.out.keep hq)
  clear hq c0 c1 c2 c3 hW0 HX0
  go_wp2_with fail
  refine (w_k2 _).mono ?_
  rintro e v2 ⟨rfl, hq⟩
  have HX2 := Hid.mk (HX1.out.keep hq)
  obtain ⟨_, c0, c1, c2, c3, _⟩ := HX2.out
  clear hq HX1
  cases pa with
  | false =>
    go_wp2_with fail
    refine (HA.out _).mono ?_
    rintro e v3 ⟨rfl, hq⟩
    have HX3 := Hid.mk (HX2.out.keep hq)
    clear hq c0 c1 c2 c3 HX2
    go_wp2_with fail
    go_ret
    exact ⟨rfl, HX3.out.below⟩
  | true =>
    go_wp2_with fail
    refine (HA.out _).mono ?_
    rintro e v3 ⟨rfl, hq⟩
    have HX3 := Hid.mk (HX2.out.keep hq)
    clear hq c0 c1 c2 c3 HX2
    obtain ⟨_, c0, c1, c2, c3, _⟩ := HX3.out
    cases pb with
    | false =>
      go_wp2_with fail
      refine (HB.out _).mono ?_
      rintro e v4 ⟨rfl, hq⟩
      have HX4 := Hid.mk (HX3.out.keep hq)
      clear hq c0 c1 c2 c3 HX3
      go_wp2_with fail
      go_ret
      exact ⟨rfl, HX4.out.below⟩
    | true =>
      have HQ := Hid.mk (And.intro (Bool.and_eq_true_iff.1 hpa) (Bool.and_eq_true_iff.1 hpb))
      clear hpa hpb
      have HR2 := Hid.mk (HR.out HQ.out.1.1 HQ.out.1.2 HQ.out.2.1 HQ.out.2.2)
      have HS2 := HS.out
      rw [HP.out HQ.out.1.1 HQ.out.1.2 HQ.out.2.1 HQ.out.2.2] at HS2
      have HS3 := Hid.mk HS2
      clear HS HS2 HP HR
      have HL2 := Hid.mk (HL.out HQ.out.1.1 HQ.out.1.2 HQ.out.2.1 HQ.out.2.2)
      have HI2 := Hid.mk (fun hn => HI.out hn HQ.out.1.1 HQ.out.1.2)
      have HJ2 := Hid.mk (fun hn => HJ.out hn HQ.out.2.1 HQ.out.2.2)
      clear HL HI HJ HQ
      obtain ⟨p, hp⟩ : ∃ p, inS al ah bl bh = p := ⟨_, rfl⟩
      rw [hp] at HS3 HR2 HL2
      obtain ⟨q, hq⟩ : ∃ p, Pl.formed n.data.toList = p := ⟨_, rfl⟩
      rw [hq] at HN HL2 HI2 HJ2
      obtain ⟨r, hr⟩ : ∃ p, hasS n al ah = p := ⟨_, rfl⟩
      rw [hr] at HI2 HL2
      obtain ⟨t, ht⟩ : ∃ p, hasS n bl bh = p := ⟨_, rfl⟩
      rw [ht] at HJ2 HL2
      clear hp hq hr ht
      go_wp2_with fail
      refine (HB.out _).mono ?_
      rintro e v4 ⟨rfl, hq⟩
      have HX4 := Hid.mk (HX3.out.keep hq)
      clear hq c0 c1 c2 c3 HX3
      obtain ⟨_, c0, c1, c2, c3, _⟩ := HX4.out
      go_wp2_with fail
      refine (HS3.out _).mono ?_
      rintro e v5 ⟨rfl, hq⟩
      have HX5 := Hid.mk (HX4.out.keep hq)
      clear hq c0 c1 c2 c3 HX4
      obtain ⟨_, c0, c1, c2, c3, _⟩ := HX5.out
      cases p <;> cases q <;> cases r
      all_goals
        go_wp2_with fail
        refine (HR2.out _).mono ?_
        rintro e v6 ⟨rfl, hq⟩
        have HX6 := Hid.mk (HX5.out.keep hq)
        clear hq c0 c1 c2 c3 HX5
        obtain ⟨_, c0, c1, c2, c3, _⟩ := HX6.out
        go_wp2_with fail
        refine (HN.out _).mono ?_
        rintro e v7 ⟨rfl, rfl⟩
        go_wp2_with fail
        first
          | (go_ret
             exact ⟨rfl, HX6.out.below⟩)
          | (refine (HI2.out (by first | rfl | trivial) _).mono ?_
             rintro e v8 ⟨rfl, hq⟩
             have HX8 := Hid.mk (HX6.out.keep hq)
             clear hq c0 c1 c2 c3 HX6
             obtain ⟨_, c0, c1, c2, c3, _⟩ := HX8.out
             go_wp2_with fail
             first
               | (go_ret
                  exact ⟨rfl, HX8.out.below⟩)
               | (have hT : t = true := HL2.out (by first | rfl | trivial) (by first | rfl | trivial) (by first | rfl | trivial)
                  subst hT
                  refine (HJ2.out (by first | rfl | trivial) _).mono ?_
                  rintro e v9 ⟨rfl, hq⟩
                  have HX9 := Hid.mk (HX8.out.keep hq)
                  clear hq c0 c1 c2 c3 HX8
                  go_wp2_with fail
                  go_ret
                  exact ⟨rfl, HX9.out.below⟩))
end Go.Proofs.Ytlnpopibdpbkgaa
