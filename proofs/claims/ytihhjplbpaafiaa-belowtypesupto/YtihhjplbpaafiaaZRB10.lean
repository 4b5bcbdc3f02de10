import Derived.Test.YtihhjplbpaafiaaZRB8
import Derived.Test.YtihhjplbpaafiaaM48
namespace Go.Proofs.Ytihhjplbpaafiaa
open Go.RowKit Go.Shelf Go.Sort
set_option linter.unusedVariables false
set_option linter.unusedSimpArgs false

theorem sp_cases {l : List (ByteArray × ByteArray)} (h : spB l = true) : (l = [] ∧ l.length = 0) ∨ ∃ p, l = [p] ∧ l.length = 1 := by
  rcases sp_one h with e | ⟨p, e, _⟩
  · exact .inl ⟨e, by rw [e]; rfl⟩
  · exact .inr ⟨p, e, by rw [e]; rfl⟩
theorem sp_okS {l : List (ByteArray × ByteArray)} (h : spB l = true) (hz : ∀ p ∈ l, p.1.size ≤ 140737488355328 ∧ p.2.size ≤ 140737488355328) : ∀ p ∈ l, okS p := fun p hp => by
  rcases sp_one h with e | ⟨q, e, b1, b2⟩
  · rw [e] at hp; cases hp
  · have hp' := hp
    rw [e] at hp'
    obtain rfl : p = q := List.mem_singleton.1 hp'
    exact ⟨⟨b1, b2⟩, hz p hp⟩
set_option maxRecDepth 100000 in
theorem rb_k (H : Nat) (X B : TT) (va vb : Value) (w : World) (hB : InT w (H + 1) B vb) (hsh : ∃ (sa sb sc sd : Bool) (seo : Option Addr) (sen sec : Nat) (sf : Bool) (sgo : Option Addr) (sgn sgc : Nat) (sio : Option Addr) (sinn sic : Nat) (sjo : Option Addr) (sjn sjc : Nat), va = .agg #[.bool sa, .bool sb, .bool sc, .bool sd, .slice seo sen sec, .bool sf, .slice sgo sgn sgc, .slice sio sinn sic, .slice sjo sjn sjc]) (nb : B.all = false)
    (ih : 0 < B.arrs.length ∨ 0 < B.objs.length → RbOk H) (fX : fmN (H + 1) X = true) (fB : fmN (H + 1) B = true) (tX : tpN (H + 1) X ≤ 1048576) (tB : tpN (H + 1) B ≤ 1048576) (zX : ∀ p ∈ X.nums, p.1.size ≤ 140737488355328 ∧ p.2.size ≤ 140737488355328)
    (HN : ∀ u, Below w.heap.size w u → Calls Try.prog 14 #[va] u fun e w' => e = .returned (.bool false) ∧ Below u.heap.size u w')
    (HL : ∀ u, Below w.heap.size w u → Calls Try.prog 19 #[va] u fun e w' => (∃ v, e = .returned v ∧ InT w' (H + 1) X v) ∧ Below u.heap.size u w') :
    Calls Try.prog 9 #[va, vb] w fun e w' => e = .returned (.bool (bwK (bwN H) X B)) ∧ Below w.heap.size w w' := by
  obtain ⟨sa, sb, sc, sd, seo, sen, sec, sf, sgo, sgn, sgc, sio, sinn, sic, sjo, sjn, sjc, rfl⟩ := hsh
  have hB0 := hB
  obtain ⟨no2, nc2, xo2, xc2, ao2, ac2, oo2, oc2, rfl, _, _, _, _, _, _, sB, cB, zB⟩ := obIn_of hB0
  rw [nb] at hB ⊢
  obtain ⟨_, x2, x3, x4, _, _⟩ := fm_open fX
  obtain ⟨_, b2, b3, b4, _, _⟩ := fm_open fB
  exact rb_main _ _ _ _ _ _ _ _ _ _ _ _ _ _ _ _ _ B.nul B.fls B.tru no2 B.nums.length nc2 B.any xo2 B.texts.length xc2 ao2 B.arrs.length ac2 oo2 B.objs.length oc2 w (fun u v => InT u (H + 1) X v) X.nul X.fls X.tru (txL X B) (arL (bwN H) X.arrs B.arrs) (obL (bwN H) X.objs B.objs) X.nums.length X.nums B.nums
    (Hid.mk HN)
    (Hid.mk fun u hu => (HL u hu).mono fun e w' ⟨⟨v, he, hx⟩, hb⟩ => by
      obtain ⟨no, nc, xo, xc, ao, ac, oo, oc, rfl, _, _, _, _, _, _, sX, cX, _⟩ := obIn_of hx
      exact ⟨⟨X.all, no, nc, X.any, xo, X.texts.length, xc, ao, X.arrs.length, ac, oo, X.objs.length, oc, he, hx, sX, cX⟩, hb⟩)
    (Hid.mk fun u u' v hx hb => hx.keep hb)
    (Hid.mk fun u v hx hu => w_rtexts H H X B _ _ u hx (hB.keep hu))
    (Hid.mk fun u v hx hu => w_rarrs12 H X B _ _ u hx (hB.keep hu) (fun h0 => ih (.inl h0)) x3 b3 (tp_arr tX) (tp_arr tB))
    (Hid.mk fun u v hx hu => w_robs12 H X B _ _ u hx (hB.keep hu) (fun h0 => ih (.inr h0)) x4 b4 (tp_obj tX) (tp_obj tB))
    (Hid.mk (sp_cases x2)) (Hid.mk (sp_cases b2)) sB cB (Hid.mk (sp_okS x2 zX)) (Hid.mk (sp_okS b2 zB))
    (Hid.mk fun p q hp hq u => w_rSpan _ _ _ _ u hp.2.1 hp.2.2 hq.2.1 hq.2.2 hp.1.1 hp.1.2 hq.1.1 hq.1.2)
theorem bw_never {h : Nat} {A B : TT} (hn : A.never = true) : bwN (h + 1) A B = true := by
  unfold TT.never at hn
  rw [Bool.and_eq_true, Bool.not_eq_true'] at hn
  obtain ⟨h1, h2, h3, h4, h5, h6, h7, h8⟩ := bare_iff.1 hn.2
  rw [bwN, laid_none hn.1]
  unfold bwK flL
  rw [h1, h2, h3, h5, h7, h8]
  have e : txL A B = true := txL_iff.2 (.inr ⟨h4, fun s hs => by rw [h6] at hs; cases hs⟩)
  rw [e]
  simp [spL, arL, obL]
theorem tp_laid (m : Nat) : tpN (m + 2) laidT ≤ 1048576 := by
  have e : ∀ m, tpN (m + 1) ttEv = 1 := fun m => by simp [tpN, ttEv, TT.texts, TT.nums, TT.arrs, TT.objs, sumL]
  have : tpN (m + 2) laidT ≤ 10 := by
    show 1 + 0 + 1 + sumL [tpN (m + 1) ttEv] + sumL [0 + 0 + tpN (m + 1) ttEv + sumL []] ≤ 10
    rw [e]
    simp [sumL]
  omega
theorem zn_laid : ∀ p ∈ laidT.nums, p.1.size ≤ 140737488355328 ∧ p.2.size ≤ 140737488355328 := fun p hp => by
  obtain rfl : p = (.empty, .empty) := List.mem_singleton.1 hp
  exact ⟨by decide, by decide⟩
/-- THE REFERENCE'S Below -/
theorem w_rBelow : ∀ h, RbOk h
  | 0 => fun A B va vb u hA hB fa fb ta tb => by cases fa
  | h + 1 => fun A B va vb u hA hB fa fb ta tb => by
    have ih := w_rBelow h
    have HNv := fun w2 (hu : Below u.heap.size u w2) => w_rNever (h + 1) A va w2 (hA.keep hu)
    obtain ⟨sa, sb, sc, sd, ⟨seo, sen, sec⟩, sf, ⟨sgo, sgn, sgc⟩, ⟨sio, sinn, sic⟩, ⟨sjo, sjn, sjc⟩, rfl⟩ := inT_shape hA
    cases hb : B.all with
    | true =>
      have e : bwN (h + 1) A B = true := by rw [bwN, hb]; rfl
      rw [e]
      obtain ⟨no2, nc2, xo2, xc2, ao2, ac2, oo2, oc2, rfl, _⟩ := obIn_of hB
      rw [hb]
      exact rb_every _ _ _ _ _ _ _ _ _ _ _ _ _ _ _ _ _ true _ _ _ _ _ _ _ _ _ _ _ _ _ _ _ _ u A.never (Hid.mk HNv)
    | false =>
      cases hn : A.never with
      | true =>
        rw [bw_never hn]
        rw [hn] at HNv
        obtain ⟨no2, nc2, xo2, xc2, ao2, ac2, oo2, oc2, rfl, _⟩ := obIn_of hB
        exact rb_never _ _ _ _ _ _ _ _ _ _ _ _ _ _ _ _ _ _ _ _ _ _ _ _ _ _ _ _ _ _ _ _ _ _ u (Hid.mk HNv)
      | false =>
        rw [hn] at HNv
        rw [bwN, hb, Bool.false_or]
        have hall : sa = A.all := by
          obtain ⟨_, _, _, _, _, _, _, _, ev, _⟩ := obIn_of hA
          simp only [Value.agg.injEq, Array.mk.injEq, List.cons.injEq, Value.bool.injEq, and_true] at ev
          exact ev.1
        cases ha : A.all with
        | false =>
          rw [ha] at hall
          subst hall
          rw [laid_none ha]
          exact rb_k h A B _ _ u hB ⟨_, _, _, _, _, _, _, _, _, _, _, _, _, _, _, _, _, rfl⟩ hb (fun _ => ih) fa fb ta tb (by obtain ⟨_, _, _, _, _, _, _, _, _, _, _, _, _, _, _, _, _, z⟩ := obIn_of hA; exact z) HNv (fun w2 hu => (laid_plain _ _ _ _ _ _ _ _ _ _ _ _ _ _ _ _ w2).mono fun e w' ⟨he, hq⟩ => ⟨⟨_, he, (hA.keep hu).keep hq⟩, hq⟩)
        | true =>
          rw [ha] at hall
          subst hall
          rw [laid_all ha]
          cases h with
          | zero =>
            obtain ⟨no2, nc2, xo2, xc2, ao2, ac2, oo2, oc2, ev, oB, _, _, aB, _⟩ := obIn_of hB
            have e1 : B.arrs = [] := by
              cases e : B.arrs with
              | nil => rfl
              | cons y l =>
                obtain ⟨_, _, _, _, hc⟩ := aB.row (by rw [e]; simp)
                obtain ⟨_, _, _, _, _, _, _, _, _, _, _, _, hf⟩ := hc 0 (by rw [e]; simp)
                exact hf.elim
            have e2 : B.objs = [] := by
              cases e : B.objs with
              | nil => rfl
              | cons y l =>
                obtain ⟨_, _, _, _, hc⟩ := oB.row (by rw [e]; simp)
                obtain ⟨_, _, _, _, _, _, _, _, _, _, _, _, _, _, _, _, _, hf⟩ := hc 0 (by rw [e]; simp)
                exact hf.rest.elim
            have key := rb_k 1 laidT B _ _ u (hB.le (by omega)) ⟨_, _, _, _, _, _, _, _, _, _, _, _, _, _, _, _, _, rfl⟩ hb (fun hh => by rw [e1, e2] at hh; simp at hh) (fm_laid 0) (fm_le' fb (by omega)) (tp_laid 0) (by rw [hB.tpUp (by omega)]; exact tb) zn_laid HNv (fun w2 hu => (laid_every sb sc sd seo sen sec sf sgo sgn sgc sio sinn sic sjo sjn sjc 0 w2).mono fun e w' ⟨⟨b1, b2, b3, he, hx⟩, hq⟩ => ⟨⟨_, he, hx⟩, hq⟩)
            rw [bwK_none e1] at key ⊢
            exact key
          | succ m =>
            exact rb_k (m + 1) laidT B _ _ u hB ⟨_, _, _, _, _, _, _, _, _, _, _, _, _, _, _, _, _, rfl⟩ hb (fun _ => ih) (fm_laid m) fb (tp_laid m) tb zn_laid HNv (fun w2 hu => (laid_every sb sc sd seo sen sec sf sgo sgn sgc sio sinn sic sjo sjn sjc m w2).mono fun e w' ⟨⟨b1, b2, b3, he, hx⟩, hq⟩ => ⟨⟨_, he, hx⟩, hq⟩)
end Go.Proofs.Ytihhjplbpaafiaa
