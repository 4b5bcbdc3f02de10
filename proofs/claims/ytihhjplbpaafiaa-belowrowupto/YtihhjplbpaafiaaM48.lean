import Derived.Test.YtihhjplbpaafiaaM47
namespace Go.Proofs.Ytihhjplbpaafiaa
open Go.RowKit Go.Shelf Go.Sort
set_option linter.unusedVariables false
set_option linter.unusedSimpArgs false
attribute [local go_sem] Oper.semAt_some


theorem kind_of {h : Nat} {V : VT} (hf : formN (h + 1) V = true) : V.kind = 0 ∨ V.kind = 1 ∨ V.kind = 2 ∨ (V.kind = 3 ∧ Pl.formed V.num.data.toList = true) ∨ V.kind = 4 ∨ V.kind = 5 ∨ V.kind = 6 := by
  rcases form_open hf with (rfl | rfl | rfl) | ⟨n, rfl, hn⟩ | ⟨n, rfl, _⟩ | ⟨i, rfl, hi⟩ | ⟨i, ks, rfl, _, _, _, hi⟩
  · exact .inl rfl
  · exact .inr (.inl rfl)
  · exact .inr (.inr (.inl rfl))
  · exact .inr (.inr (.inr (.inl ⟨rfl, hn⟩)))
  · exact .inr (.inr (.inr (.inr (.inl rfl))))
  · exact .inr (.inr (.inr (.inr (.inr (.inl rfl)))))
  · exact .inr (.inr (.inr (.inr (.inr (.inr rfl)))))
theorem inNum_first {n : ByteArray} : ∀ {l : List (ByteArray × ByteArray)} (h : 0 < l.length), inNum n l = hasP n l[0]
  | _ :: _, _ => rfl
theorem inArs_first {f : VT → TT → Bool} {its : List VT} : ∀ {l : List AR} (h : 0 < l.length), inArs f its l = inAr f its l[0]
  | _ :: _, _ => rfl
/-- THE REFERENCE'S IN -/
theorem w_rIn : ∀ h, IvOk h
  | 0 => fun hv V A vv vt u _ _ g _ => g.elim
  | h + 1 => fun hv V A vv vt u hI hf g hA => by
    have ih := w_rIn h
    cases hv with
    | zero => exact hI.elim
    | succ hv =>
    have hI2 := hI
    obtain ⟨io, icap, vo, vcap, rfl, a1, a2, a3, a4, a5, a6, a7, hk, hi⟩ := hI
    obtain ⟨no, nc, xo, xc, ao, ac, oo, oc, rfl, ⟨b1, b2, b3, b4⟩, ⟨b5, b6, b7, b8⟩, z1, z2, hs, hkx, ha, ho⟩ := hA
    cases hall : A.all with
    | true =>
      have e : inN (h + 1) V A = true := by unfold inN; rw [hall]; rfl
      rw [e]
      exact in_all _ _ _ _ _ _ _ _ _ _ _ _ _ _ _ _ _ _ _ _ _ _ _ _ _ u
    | false =>
      have e : inN (h + 1) V A = (if V.kind = 0 then A.nul else if V.kind = 1 then A.fls else if V.kind = 2 then A.tru else if V.kind = 3 then inNum V.num A.nums else if V.kind = 4 then (A.any || hasK A.texts V.text) else if V.kind = 5 then inArs (inN h) V.items A.arrs else A.objs.any (inOb (inN h) V)) := by unfold inN; rw [hall]; rfl
      rw [e]
      clear e
      rcases kind_of hf with hk0 | hk0 | hk0 | ⟨hk0, hn⟩ | hk0 | hk0 | hk0
      · rw [if_pos hk0, hk0]; exact in_k0 _ _ _ _ _ _ _ _ _ _ _ _ _ _ _ _ _ _ _ _ _ _ _ _ u
      · rw [hk0, if_neg (by decide), if_pos rfl]; exact in_k1 _ _ _ _ _ _ _ _ _ _ _ _ _ _ _ _ _ _ _ _ _ _ _ _ u
      · rw [hk0, if_neg (by decide), if_neg (by decide), if_pos rfl]; exact in_k2 _ _ _ _ _ _ _ _ _ _ _ _ _ _ _ _ _ _ _ _ _ _ _ _ u
      · rw [hk0, if_neg (by decide), if_neg (by decide), if_neg (by decide), if_pos rfl]
        refine in_k3 _ _ _ _ _ _ _ _ _ _ _ _ _ _ _ _ _ _ _ _ _ _ _ _ u (inNum V.num A.nums) b1 (Hid.mk fun h0 => ?_) (Hid.mk fun h0 => ?_)
        · rw [List.eq_nil_of_length_eq_zero h0]; rfl
        · obtain ⟨b, off, hso, hbl, hrow⟩ := hs.row h0
          obtain ⟨k0, k1⟩ := hrow 0 h0
          have hm := List.getElem_mem h0
          have en : inNum V.num A.nums = hasP V.num A.nums[0] := inNum_first h0
          refine ⟨A.nums[0].1, A.nums[0].2, b, off, hso, hbl, by simpa using k0, by simpa using k1, fun u' hu => ?_⟩
          rw [en]
          exact w_rInSpan V.num A.nums[0] u' a1 (z1 _ hm).1 (z1 _ hm).2 hn (g.1 _ hm).1 (g.1 _ hm).2
      · rw [hk0, if_neg (by decide), if_neg (by decide), if_neg (by decide), if_neg (by decide), if_pos rfl]
        exact in_k4 _ _ _ _ _ _ _ _ _ _ _ _ _ _ _ _ _ _ _ _ _ _ _ _ u A.texts hkx rfl b2 b6
      · rw [hk0, if_neg (by decide), if_neg (by decide), if_neg (by decide), if_neg (by decide), if_neg (by decide), if_pos rfl]
        refine in_k5 _ _ _ _ _ _ _ _ _ _ _ _ _ _ _ _ _ _ _ _ _ _ _ _ u (inArs (inN h) V.items A.arrs) b3 (Hid.mk fun h0 => ?_) (Hid.mk fun h0 => ?_)
        · rw [List.eq_nil_of_length_eq_zero h0]; rfl
        · obtain ⟨b, off, hso, hbl, hrow⟩ := ha h0
          obtain ⟨c0, c1, c2, c3, c4, c5, c6, c7, c8, ⟨k0, k1, k2, k3, k4, k5, k6, k7, k8⟩, k9, k10, hT⟩ := hrow 0 h0
          have hm := List.getElem_mem h0
          have en : inArs (inN h) V.items A.arrs = inAr (inN h) V.items A.arrs[0] := inArs_first h0
          have hT2 := hT
          obtain ⟨ta, tb, tc, td, ⟨teo, ten, tec⟩, tf, ⟨tgo, tgn, tgc⟩, ⟨tio, tinn, tic⟩, ⟨tjo, tjn, tjc⟩, esht⟩ := inT_shape hT
          simp only [Value.agg.injEq, Array.mk.injEq, List.cons.injEq, and_true] at esht
          obtain ⟨rfl, rfl, rfl, rfl, rfl, rfl, rfl, rfl, rfl⟩ := esht
          simp only [Nat.zero_mul, Nat.add_zero] at k0 k1 k2 k3 k4 k5 k6 k7 k8 k9 k10
          refine ⟨b, off, ta, tb, tc, td, teo, ten, tec, tf, tgo, tgn, tgc, tio, tinn, tic, tjo, tjn, tjc, A.arrs[0].min, A.arrs[0].max, hso, hbl, k0, k1, k2, k3, k4, k5, k6, k7, k8, k9, k10, fun u' hu => ?_⟩
          rw [en]
          exact w_rInArr h ih hv io _ icap V.items A.arrs[0] _ _ _ _ _ _ _ _ _ u' ((⟨hi⟩ : IIn u hv io V.items).keep hu) rfl a5 a3 (formN_item hf) (g.2.1 _ hm).2 (hT2.keep hu)
      · have h6 := hk0
        rw [hk0, if_neg (by decide), if_neg (by decide), if_neg (by decide), if_neg (by decide), if_neg (by decide), if_neg (by decide)]
        have hob : ObIn u h oo A.objs := ⟨fun h0 => by
          obtain ⟨b, off, e, hl, hc⟩ := ho h0
          refine ⟨b, off, e, hl, fun i hi => ?_⟩
          obtain ⟨ko, kc, fo, fc, mo, mc, c0, c1, c2, c3, c4, c5, c6, c7, c8, g, h1, h2, h3, h4, h5, h6, h7⟩ := hc i hi
          exact ⟨ko, kc, fo, fc, mo, mc, c0, c1, c2, c3, c4, c5, c6, c7, c8, g, h1, ⟨h2, h3, h4, h5, h6, h7⟩⟩⟩
        rw [hk0] at hI2
        exact in_k6 _ _ _ _ _ _ _ _ _ _ _ _ _ _ _ _ _ _ _ _ _ _ _ _ u h A.objs (inOb (inN h) V) hob rfl b4 b8 (Hid.mk fun i hi ko kc fo fc mo mc c0 c1 c2 c3 c4 c5 c6 c7 c8 u' hu hO => w_rInObj h ih hv V A.objs[i] 6 V.num V.text io _ icap vo _ vcap ko kc fo fc mo mc c0 c1 c2 c3 c4 c5 c6 c7 c8 u' (hI2.keep hu) hf h6 hO (g.2.2 _ (List.getElem_mem hi)))
end Go.Proofs.Ytihhjplbpaafiaa
