import Derived.Test.YtfcbeohkhljboaaDoorZSt1
namespace Go.Proofs.YtfcbeohkhljboaaDoor
open Go.RowKit Go.Shelf
set_option linter.unusedVariables false
set_option linter.unusedSimpArgs false
attribute [local go_sem] Oper.semAt_some

def stTxt : Value → Int
  | .string s => Pl.ival s.data.toList
  | _ => 0

/-- what the walk of the steps holds between two of them -/
structure StAt (J : List ByteArray → World → Prop) (w : World) (f t b : ByteArray) (M : Nat) (s : ByteArray) (wr : World) (pre : List ByteArray) : Prop where
  good : StGood (Pl.ival f.data.toList) (Pl.ival b.data.toList) pre
  fs : Pl.formed s.data.toList = true
  val : Pl.ival s.data.toList = Pl.ival f.data.toList + (pre.length : Int) * Pl.ival b.data.toList
  size : s.size ≤ 1048580
  few : pre.length + stLeft (Pl.ival t.data.toList) (Pl.ival b.data.toList) (Pl.ival s.data.toList) ≤ M
  inv : J pre wr
  below : Below w.heap.size w wr

set_option maxRecDepth 100000 in
set_option maxHeartbeats 4000000 in
theorem steps1_in (n : Nat) (hn : 1 ≤ n) (l Bb Bf Bt : Nat) (f t b : ByteArray) (sf : f.size ≤ 1048576) (st : t.size ≤ 1048576) (sb : b.size ≤ 1048576)
    (ff : Pl.formed f.data.toList = true) (ft : Pl.formed t.data.toList = true) (fb : Pl.formed b.data.toList = true) (hb0 : Pl.ival b.data.toList ≠ 0) (M : Nat) (hM : stLeft (Pl.ival t.data.toList) (Pl.ival b.data.toList) (Pl.ival f.data.toList) ≤ M)
    (w : World) (htab : Tab w) (cb : w.cell? ⟨Bb, 0, none⟩ = some (.string b)) (cf : w.cell? ⟨Bf, 0, none⟩ = some (.string f)) (ct : w.cell? ⟨Bt, 0, none⟩ = some (.string t)) (lb : Bb < w.heap.size) (lf : Bf < w.heap.size) (lt : Bt < w.heap.size)
    (J Jx : List ByteArray → World → Prop) (W : World) (hW : Below w.heap.size w W) (hJ : AbidesFrom W.heap.size J) (hJx : AbidesFrom W.heap.size Jx)
    (hY : ∀ pre x W1, J pre W1 → pre.length < M + 1 → YieldAt Fence.wide (n - 1) Tryd.prog l #[.string x] W1 fun e W' =>
      (e = .returned (.bool true) ∧ J (pre ++ [x]) W' ∧ Below w.heap.size W1 W') ∨ (e = .returned (.bool false) ∧ Jx (pre ++ [x]) W')) (h0 : J [] W) :
    CallsIn Fence.wide n Tryd.prog 65 #[.func (.yield l) #[] #[], .pointer (some ⟨Bb, 0, none⟩), .pointer (some ⟨Bf, 0, none⟩), .pointer (some ⟨Bt, 0, none⟩)] W fun e W' => (∃ v, e = .returned v) ∧
      ((∃ xs, (StGood (Pl.ival f.data.toList) (Pl.ival b.data.toList) xs ∧ ¬ StOn (Pl.ival t.data.toList) (Pl.ival b.data.toList) (Pl.ival f.data.toList + (xs.length : Int) * Pl.ival b.data.toList)) ∧ J xs W') ∨ (∃ pre, (StGood (Pl.ival f.data.toList) (Pl.ival b.data.toList) pre ∧ ∀ i, i < pre.length → StOn (Pl.ival t.data.toList) (Pl.ival b.data.toList) (Pl.ival f.data.toList + (i : Int) * Pl.ival b.data.toList)) ∧ Jx pre W')) := by
  have HJ := Hid.mk hJ
  have HJx := Hid.mk hJx
  have HY := Hid.mk hY
  have H0 := Hid.mk h0
  have HW := Hid.mk hW
  have HT := Hid.mk htab
  have HM := Hid.mk hM
  have HB := Hid.mk hb0
  have HF := Hid.mk (And.intro ff (And.intro ft fb))
  have CB := fun (u : World) (hu : Below w.heap.size w u) => (hu.cell (p := ⟨Bb, 0, none⟩) lb).trans cb
  have CF := fun (u : World) (hu : Below w.heap.size w u) => (hu.cell (p := ⟨Bf, 0, none⟩) lf).trans cf
  have CT := fun (u : World) (hu : Below w.heap.size w u) => (hu.cell (p := ⟨Bt, 0, none⟩) lt).trans ct
  clear hJ hJx hY h0 htab hM hb0 ff ft fb cb cf ct
  refine callsIn_of_wp Tryd.func65 rfl trivial ?_ rfl
  simp only [Tryd.ntmps65, List.size_toArray, List.length_cons, List.length_nil, Nat.reduceAdd, Nat.reduceSub, Array.replicate_succ, Array.replicate_zero, List.push_toArray, List.append_toArray, List.nil_append, List.cons_append]
  have c1 := CB W hW
  clear hW
  gi_wp2_with fail
  have hz48 : Pl.formed (⟨#[48]⟩ : ByteArray).data.toList = true := by decide
  refine ⟨trivial, (callsIn_wide.2 (st_CmpF b ⟨#[48]⟩ _ (by omega) (by decide) HF.out.2.2 hz48)).mono ?_⟩
  rintro e w1 ⟨rfl, hb1⟩
  have h48 : Pl.ival (⟨#[48]⟩ : ByteArray).data.toList = 0 := by decide
  rw [h48]
  have HWAY : Hid (∃ way, Pl.cmpI (Pl.ival b.data.toList) 0 = way ∧ (way = 1 ∨ way = -1)) := ⟨_, rfl, by have := HB.out; unfold Pl.cmpI; split <;> (try split) <;> omega⟩
  obtain ⟨way, hway, hw2⟩ := HWAY.out
  rw [hway]
  have HWY := Hid.mk hway
  have HB1 := Hid.mk (below_more HW.out hb1)
  have HJ1 := Hid.mk (abides_below HJ.out H0.out hb1)
  have c2 := CF w1 HB1.out
  clear hb1 hway HWAY h48 hz48 c1
  rcases hw2 with rfl | rfl
  all_goals
    gi_wp2_with fail
    gi_loopw [7] (fun p wr => ∃ s pre, p = .string s ∧ Hid (StAt J w f t b M s wr pre)) (fun p wr => stLeft (Pl.ival t.data.toList) (Pl.ival b.data.toList) (stTxt p))
    case atStart => exact ⟨f, [], rfl, ⟨StGood.nil, HF.out.1, by simp, by omega, by have := HM.out; simpa using this, HJ1.out, HB1.out⟩⟩
    case round =>
      obtain ⟨s, pre, rfl, HS⟩ := hrel
      have hs := HS.out.size
      have c3 := CT wr HS.out.below
      gi_wp2_with fail
      refine ⟨trivial, (callsIn_wide.2 (st_CmpF s t _ (by omega) (by omega) HS.out.fs HF.out.2.1)).mono ?_⟩
      rintro e w3 ⟨rfl, hb3⟩
      have HB3 := Hid.mk (below_more HS.out.below hb3)
      have HJ3 := Hid.mk (abides_below HJ.out HS.out.inv hb3)
      clear hb3 c3
      by_cases hon : StOn (Pl.ival t.data.toList) (Pl.ival b.data.toList) (Pl.ival s.data.toList)
      · have HON := Hid.mk hon
        have hc := (StOn.cmp HB.out).2 hon
        rw [HWY.out] at hc
        rw [hc]
        clear hon hc
        have hlt : pre.length < M + 1 := by have := HS.out.few; omega
        obtain ⟨fn, tmps, assign, body, hy, hR⟩ := HY.out pre s w3 HJ3.out hlt
        have HR := Hid.mk hR
        clear hR hlt
        gi_wp2_with fail
        refine HR.out.mono ?_
        rintro e W4 (⟨rfl, hJ4, hk4⟩ | ⟨rfl, hJx4⟩)
        · have HB4 := Hid.mk (HB3.out.trans hk4)
          have HJ4 := Hid.mk hJ4
          have c4 := CB W4 HB4.out
          clear hJ4 hk4 hy
          gi_wp2_with fail
          refine ⟨trivial, (callsIn_wide.2 (w_Add s b _ (by omega) (by omega) HS.out.fs HF.out.2.2 (HT.out.keep HB4.out))).mono ?_⟩
          rintro e w5 ⟨r, rfl, hf5, hv5, hb5⟩
          have HN : Hid (StAt J w f t b M r w5 (pre ++ [s]) ∧ stLeft (Pl.ival t.data.toList) (Pl.ival b.data.toList) (Pl.ival r.data.toList) < stLeft (Pl.ival t.data.toList) (Pl.ival b.data.toList) (Pl.ival s.data.toList)) := by
            have hl := HON.out.left
            rw [← hv5] at hl
            refine ⟨⟨HS.out.good.snoc HS.out.fs HS.out.val, hf5, ?_, ?_, ?_, abides_below HJ.out HJ4.out hb5, below_more HB4.out hb5⟩, hl⟩
            · rw [hv5, HS.out.val, List.length_append, List.length_singleton, Int.natCast_add, Int.add_mul]; omega
            · have hbd := HON.out.bound HS.out.val
              rw [← hv5] at hbd
              have := st_size sf st sb HF.out.1 HF.out.2.1 HF.out.2.2 hf5 hbd
              omega
            · have := HS.out.few
              simp only [List.length_append, List.length_singleton]
              omega
          clear hf5 hv5 hb5 c4
          gi_wp2_with fail
          go_roundw
          case rel => exact ⟨r, _, rfl, HN.out.1⟩
          case measure => exact HN.out.2
        · have HX := Hid.mk hJx4
          clear hJx4 hy
          gi_wp2_with fail
          refine bodyPost_ret (results_none rfl _ _ _) rfl ?_
          exact ⟨⟨_, rfl⟩, .inr ⟨_, ⟨HS.out.good.snoc HS.out.fs HS.out.val, fun i hi => by
            have h1 := HON.out
            rw [HS.out.val] at h1
            exact h1.mono (by simp at hi; omega)⟩, HX.out⟩⟩
      · have HE : Hid (J pre w3 ∧ StGood (Pl.ival f.data.toList) (Pl.ival b.data.toList) pre ∧ ¬ StOn (Pl.ival t.data.toList) (Pl.ival b.data.toList) (Pl.ival f.data.toList + (pre.length : Int) * Pl.ival b.data.toList)) := ⟨HJ3.out, HS.out.good, by rw [← HS.out.val]; exact hon⟩
        have hc := fun h => hon ((StOn.cmp HB.out).1 h)
        have hbd := Pl.cmpI_bd (Pl.ival s.data.toList) (Pl.ival t.data.toList)
        rw [HWY.out] at hc
        generalize Pl.cmpI (Pl.ival s.data.toList) (Pl.ival t.data.toList) = c at hc hbd ⊢
        have h3 : c = -1 ∨ c = 0 ∨ c = 1 := by omega
        clear hon hbd
        rcases h3 with rfl | rfl | rfl
        all_goals first | exact absurd rfl hc | exact absurd (by decide) hc | skip
        all_goals clear hc
        all_goals gi_wp2_with fail
        all_goals (refine ⟨fun _ h => (by cases h), ?_⟩; gi_wp2_with fail)
        all_goals refine bodyPost_ret (results_none rfl _ _ _) rfl ?_
        all_goals exact ⟨⟨_, rfl⟩, .inl ⟨pre, ⟨HE.out.2.1, HE.out.2.2⟩, HE.out.1⟩⟩

set_option maxRecDepth 100000 in
set_option maxHeartbeats 4000000 in
/-- where they are no numbers, or the step is none: nothing -/
theorem steps1_none (n : Nat) (hn : 1 ≤ n) (l Bb Bf Bt : Nat) (f t b : ByteArray) (sf : f.size ≤ 1048576) (st : t.size ≤ 1048576) (sb : b.size ≤ 1048576)
    (hbad : ¬ (Pl.formed f.data.toList = true ∧ Pl.formed t.data.toList = true ∧ Pl.formed b.data.toList = true ∧ Pl.ival b.data.toList ≠ 0))
    (w : World) (cb : w.cell? ⟨Bb, 0, none⟩ = some (.string b)) (cf : w.cell? ⟨Bf, 0, none⟩ = some (.string f)) (ct : w.cell? ⟨Bt, 0, none⟩ = some (.string t)) (lb : Bb < w.heap.size) (lf : Bf < w.heap.size) (lt : Bt < w.heap.size)
    (J : List ByteArray → World → Prop) (W : World) (hW : Below w.heap.size w W) (hJ : AbidesFrom W.heap.size J) (h0 : J [] W) :
    CallsIn Fence.wide n Tryd.prog 65 #[.func (.yield l) #[] #[], .pointer (some ⟨Bb, 0, none⟩), .pointer (some ⟨Bf, 0, none⟩), .pointer (some ⟨Bt, 0, none⟩)] W fun e W' => (∃ v, e = .returned v) ∧ J [] W' := by
  have HJ := Hid.mk hJ
  have H0 := Hid.mk h0
  have HW := Hid.mk hW
  have HBad := Hid.mk hbad
  have CB := fun (u : World) (hu : Below w.heap.size w u) => (hu.cell (p := ⟨Bb, 0, none⟩) lb).trans cb
  have CF := fun (u : World) (hu : Below w.heap.size w u) => (hu.cell (p := ⟨Bf, 0, none⟩) lf).trans cf
  have CT := fun (u : World) (hu : Below w.heap.size w u) => (hu.cell (p := ⟨Bt, 0, none⟩) lt).trans ct
  clear hJ h0 cb cf ct
  refine callsIn_of_wp Tryd.func65 rfl trivial ?_ rfl
  simp only [Tryd.ntmps65, List.size_toArray, List.length_cons, List.length_nil, Nat.reduceAdd, Nat.reduceSub, Array.replicate_succ, Array.replicate_zero, List.push_toArray, List.append_toArray, List.nil_append, List.cons_append]
  have c1 := CB W hW
  clear hW hbad
  gi_wp2_with fail
  refine ⟨trivial, (callsIn_wide.2 (w_Cmp b ⟨#[48]⟩ _ (by unfold maxLen; omega) (by decide))).mono ?_⟩
  rintro e w1 ⟨rfl, hb1⟩
  have HB1 := Hid.mk (below_more HW.out hb1)
  have HJ1 := Hid.mk (abides_below HJ.out H0.out hb1)
  have c2 := CF w1 HB1.out
  have c3 := CT w1 HB1.out
  clear hb1 c1
  by_cases hok : Pl.formed b.data.toList = true ∧ Pl.ival b.data.toList ≠ 0
  · have hz48 : Pl.formed (⟨#[48]⟩ : ByteArray).data.toList = true := by decide
    have h48 : Pl.ival (⟨#[48]⟩ : ByteArray).data.toList = 0 := by decide
    have HBad2 : Hid ((Pl.formed f.data.toList && Pl.formed t.data.toList) = false) := by
      have := HBad.out
      cases h1 : Pl.formed f.data.toList <;> cases h2 : Pl.formed t.data.toList <;> simp_all
    have e1 : Pl.errN b.data.toList (⟨#[48]⟩ : ByteArray).data.toList = 0 := by unfold Pl.errN; rw [hok.1, hz48]; rfl
    have e2 : ∃ way, Pl.cmpN b.data.toList (⟨#[48]⟩ : ByteArray).data.toList = way ∧ (way = 1 ∨ way = -1) := ⟨_, rfl, by rw [Pl.cmpN_val hok.1 hz48, h48]; have := hok.2; unfold Pl.cmpI; split <;> (try split) <;> omega⟩
    obtain ⟨way, e2, hw2⟩ := e2
    rw [e1, e2]
    clear e1 e2 h48 hz48 hok
    rcases hw2 with rfl | rfl
    all_goals
      gi_wp2_with fail
      refine wpIn_loop_once ?_
      gi_wp2_with fail
      refine ⟨trivial, (callsIn_wide.2 (w_Cmp f t _ (by unfold maxLen; omega) (by unfold maxLen; omega))).mono ?_⟩
      rintro e w3 ⟨rfl, hb3⟩
      have e3 : Pl.errN f.data.toList t.data.toList = 1 := by unfold Pl.errN; rw [HBad2.out]; rfl
      rw [e3]
      have HJ3 := Hid.mk (abides_below HJ.out HJ1.out hb3)
      clear hb3 e3 c2 c3
      gi_wp2_with fail
      refine ⟨fun _ h => (by cases h), ?_⟩
      gi_wp2_with fail
      refine bodyPost_ret (results_none rfl _ _ _) rfl ?_
      exact ⟨⟨_, rfl⟩, HJ3.out⟩
  · have hz48 : Pl.formed (⟨#[48]⟩ : ByteArray).data.toList = true := by decide
    have h48 : Pl.ival (⟨#[48]⟩ : ByteArray).data.toList = 0 := by decide
    cases hf : Pl.formed b.data.toList with
    | false =>
      have e1 : Pl.errN b.data.toList (⟨#[48]⟩ : ByteArray).data.toList = 1 := by unfold Pl.errN; rw [hf]; rfl
      rw [e1]
      clear e1 hf hok hz48 h48 c2 c3
      gi_wp2_with fail
      refine bodyPost_ret (results_none rfl _ _ _) rfl ?_
      exact ⟨⟨_, rfl⟩, HJ1.out⟩
    | true =>
      have e1 : Pl.errN b.data.toList (⟨#[48]⟩ : ByteArray).data.toList = 0 := by unfold Pl.errN; rw [hf, hz48]; rfl
      have e2 : Pl.cmpN b.data.toList (⟨#[48]⟩ : ByteArray).data.toList = 0 := by
        rw [Pl.cmpN_val hf hz48, h48]
        have hv : Pl.ival b.data.toList = 0 := Decidable.byContradiction fun h => hok ⟨hf, h⟩
        rw [hv]; decide
      rw [e1, e2]
      clear e1 e2 hf hok hz48 h48 c2 c3
      gi_wp2_with fail
      refine bodyPost_ret (results_none rfl _ _ _) rfl ?_
      exact ⟨⟨_, rfl⟩, HJ1.out⟩
end Go.Proofs.YtfcbeohkhljboaaDoor
