import Derived.Test.YtihhjplbpaafiaaM45
namespace Go.Proofs.Ytihhjplbpaafiaa
open Go.RowKit Go.Shelf Go.Sort
set_option linter.unusedVariables false
set_option linter.unusedSimpArgs false

/-- a bound's number, if there is one -/
def bdV (s : ByteArray) : Option Int := if s.toList.isEmpty then none else some (Pl.ival s.data.toList)
def abO : Option Int → Option Int → Bool
  | some x, some y => decide (y < x)
  | _, _ => false
def inO (al ah bl bh : Option Int) : Bool := abO al ah || ((bl.isNone || (!al.isNone && !abO bl al)) && (bh.isNone || (!ah.isNone && !abO ah bh)))
theorem emp_O (s : ByteArray) : s.toList.isEmpty = (bdV s).isNone := by
  unfold bdV; cases h : s.toList.isEmpty <;> rfl
theorem abv_O {a b : ByteArray} (ha : bdB a = true) (hb : bdB b = true) : abv a b = abO (bdV a) (bdV b) := by
  cases ea : a.toList.isEmpty with
  | true => rw [abv_l ea]; unfold bdV; rw [ea]; rfl
  | false =>
    cases eb : b.toList.isEmpty with
    | true =>
      rw [abv_r eb]
      have : bdV b = none := by unfold bdV; rw [eb]; rfl
      rw [this]
      unfold abO
      cases bdV a <;> rfl
    | false =>
      have e1 : bdV a = some (Pl.ival a.data.toList) := by unfold bdV; rw [ea]; rfl
      have e2 : bdV b = some (Pl.ival b.data.toList) := by unfold bdV; rw [eb]; rfl
      rw [e1, e2]
      have fa := bd_formed ha (fun h => by rw [h] at ea; cases ea)
      have fb := bd_formed hb (fun h => by rw [h] at eb; cases eb)
      unfold abv
      rw [Pl.cmpN_val fa fb]
      show decide _ = decide _
      unfold Pl.cmpI
      rw [decide_eq_decide]
      split
      · omega
      · split <;> omega
theorem inS_O {al ah bl bh : ByteArray} (h1 : bdB al = true) (h2 : bdB ah = true) (h3 : bdB bl = true) (h4 : bdB bh = true) : inS al ah bl bh = inO (bdV al) (bdV ah) (bdV bl) (bdV bh) := by
  rw [← inS_prog h1 h2 h3 h4, abv_O h1 h2, abv_O h3 h1, abv_O h2 h4, emp_O, emp_O, emp_O, emp_O]
  rfl
theorem inO_refl (a b : Option Int) : inO a b a b = true := by
  cases a <;> cases b <;> simp [inO, abO]
theorem inO_top (a b : Option Int) : inO a b none none = true := by
  cases a <;> cases b <;> simp [inO, abO]
theorem inO_tr {al ah bl bh cl ch : Option Int} (ha : abO al ah = false) (hb : abO bl bh = false) (h1 : inO al ah bl bh = true) (h2 : inO bl bh cl ch = true) : inO al ah cl ch = true := by
  cases al <;> cases ah <;> cases bl <;> cases bh <;> cases cl <;> cases ch <;> simp [inO, abO] at * <;> omega
theorem inO_mt {al ah bl bh cl ch : Option Int} (ha : abO al ah = false) (h1 : inO al ah bl bh = true) (h2 : (!abO al ch && !abO cl ah) = true) : (!abO bl ch && !abO cl bh) = true := by
  cases al <;> cases ah <;> cases bl <;> cases bh <;> cases cl <;> cases ch <;> simp [inO, abO] at * <;> omega
/-- a well shaped span has a number -/
theorem sp_full {p : ByteArray × ByteArray} (h : spB [p] = true) : bdB p.1 = true ∧ bdB p.2 = true ∧ abO (bdV p.1) (bdV p.2) = false := by
  rcases sp_one h with h0 | ⟨q, hq, b1, b2⟩
  · cases h0
  · obtain rfl : p = q := by simpa using hq
    refine ⟨b1, b2, ?_⟩
    rw [← abv_O b1 b2]
    have h' : spOk p = true := h
    unfold spOk at h'
    rw [Bool.and_eq_true, Bool.and_eq_true] at h'
    have h3 := h'.2.2
    rw [Bool.or_eq_true, Bool.or_eq_true, beq_iff_eq, beq_iff_eq, decide_eq_true_eq] at h3
    rcases h3 with h3 | h3 | h3
    · exact abv_l (by rw [list_none h3]; rfl)
    · exact abv_r (by rw [list_none h3]; rfl)
    · show decide (0 < numC p.1 p.2) = false
      exact decide_eq_false (by omega)
theorem spL_refl {ps : List (ByteArray × ByteArray)} (h : spB ps = true) : spL ps ps = true := by
  rcases sp_one h with rfl | ⟨p, rfl, a1, a2⟩
  · rfl
  · show inS p.1 p.2 p.1 p.2 = true
    rw [inS_O a1 a2 a1 a2]; exact inO_refl _ _
theorem spL_top {ps : List (ByteArray × ByteArray)} (h : spB ps = true) : spL ps [(.empty, .empty)] = true := by
  rcases sp_one h with rfl | ⟨p, rfl, a1, a2⟩
  · rfl
  · show inS p.1 p.2 .empty .empty = true
    have b : bdB ByteArray.empty = true := by decide +kernel
    have e : bdV ByteArray.empty = none := by unfold bdV; rw [Lib.toList_data]; rfl
    rw [inS_O a1 a2 b b, e]; exact inO_top _ _
theorem spL_tr {ps qs rs : List (ByteArray × ByteArray)} (ha : spB ps = true) (hb : spB qs = true) (hc : spB rs = true) (h1 : spL ps qs = true) (h2 : spL qs rs = true) : spL ps rs = true := by
  rcases sp_one ha with rfl | ⟨p, rfl, a1, a2⟩
  · rfl
  · rcases sp_one hb with rfl | ⟨q, rfl, b1, b2⟩
    · cases h1
    · rcases sp_one hc with rfl | ⟨r, rfl, c1, c2⟩
      · cases h2
      · have h1' : inS p.1 p.2 q.1 q.2 = true := h1
        have h2' : inS q.1 q.2 r.1 r.2 = true := h2
        show inS p.1 p.2 r.1 r.2 = true
        rw [inS_O a1 a2 b1 b2] at h1'
        rw [inS_O b1 b2 c1 c2] at h2'
        rw [inS_O a1 a2 c1 c2]
        exact inO_tr (sp_full ha).2.2 (sp_full hb).2.2 h1' h2'
theorem spM_mono {ps qs rs : List (ByteArray × ByteArray)} (ha : spB ps = true) (hb : spB qs = true) (hc : spB rs = true) (h1 : spL ps qs = true) (h2 : spM ps rs = true) : spM qs rs = true := by
  rcases sp_one ha with rfl | ⟨p, rfl, a1, a2⟩
  · cases h2
  · rcases sp_one hb with rfl | ⟨q, rfl, b1, b2⟩
    · cases h1
    · rcases sp_one hc with rfl | ⟨r, rfl, c1, c2⟩
      · cases h2
      · have h1' : inS p.1 p.2 q.1 q.2 = true := h1
        have h2' : (!abv p.1 r.2 && !abv r.1 p.2) = true := h2
        show (!abv q.1 r.2 && !abv r.1 q.2) = true
        rw [inS_O a1 a2 b1 b2] at h1'
        rw [abv_O a1 c2, abv_O c1 a2] at h2'
        rw [abv_O b1 c2, abv_O c1 b2]
        exact inO_mt (sp_full ha).2.2 h1' h2'
theorem spM_self {ps : List (ByteArray × ByteArray)} (ha : spB ps = true) (h : spM ps ps = false) : ps = [] := by
  rcases sp_one ha with rfl | ⟨p, rfl, a1, a2⟩
  · rfl
  · have h' : (!abv p.1 p.2 && !abv p.1 p.2) = false := h
    rw [abv_O a1 a2, (sp_full ha).2.2] at h'
    cases h'
theorem spM_sym (ps qs : List (ByteArray × ByteArray)) : spM ps qs = spM qs ps := by
  cases ps with
  | nil => cases qs <;> rfl
  | cons p ps =>
    cases qs with
    | nil => rfl
    | cons q qs => show (!abv p.1 q.2 && !abv q.1 p.2) = (!abv q.1 p.2 && !abv p.1 q.2); exact Bool.and_comm _ _
theorem hasK_iff {l : List ByteArray} {s : ByteArray} : hasK l s = true ↔ s ∈ l := by
  constructor
  · intro h
    obtain ⟨k, hk, e⟩ := List.any_eq_true.1 h
    exact (eqS_iff _ _).1 e ▸ hk
  · intro h
    exact List.any_eq_true.2 ⟨s, h, (eqS_iff _ _).2 rfl⟩
theorem txL_iff {A B : TT} : txL A B = true ↔ (B.any = true ∨ (A.any = false ∧ ∀ s ∈ A.texts, s ∈ B.texts)) := by
  unfold txL
  rw [Bool.or_eq_true, Bool.and_eq_true, List.all_eq_true, Bool.not_eq_true']
  simp only [hasK_iff]
theorem txM_iff {A B : TT} : txM A B = true ↔ ((A.any = true ∧ (B.any = true ∨ ∃ s, s ∈ B.texts)) ∨ (B.any = true ∧ ∃ s, s ∈ A.texts) ∨ (A.any = false ∧ B.any = false ∧ ∃ s ∈ A.texts, s ∈ B.texts)) := by
  have pos : ∀ l : List ByteArray, 0 < l.length ↔ ∃ s, s ∈ l := fun l => by
    cases l with
    | nil => simp
    | cons a l => simp
  unfold txM
  cases A.any <;> cases B.any <;> simp [pos, hasK_iff, List.any_eq_true]
theorem txM_sym {A B : TT} : txM A B = txM B A := by
  rw [Bool.eq_iff_iff, txM_iff, txM_iff]
  cases A.any <;> cases B.any <;> simp [and_comm]
theorem txM_mono {A B C : TT} (h1 : txL A B = true) (h2 : txM A C = true) : txM B C = true := by
  rw [txL_iff] at h1
  rw [txM_iff] at h2 ⊢
  rcases h1 with h1 | ⟨h0, h1⟩
  · rcases h2 with ⟨_, h3⟩ | ⟨h3, s, hs⟩ | ⟨_, _, s, hs, hc⟩
    · exact .inl ⟨h1, h3⟩
    · exact .inl ⟨h1, .inl h3⟩
    · exact .inl ⟨h1, .inr ⟨s, hc⟩⟩
  · rcases h2 with ⟨h3, _⟩ | ⟨h3, s, hs⟩ | ⟨_, h3, s, hs, hc⟩
    · rw [h0] at h3; cases h3
    · exact .inr (.inl ⟨h3, s, h1 s hs⟩)
    · cases hb : B.any with
      | true => exact .inl ⟨rfl, .inr ⟨s, hc⟩⟩
      | false => exact .inr (.inr ⟨rfl, h3, s, h1 s hs, hc⟩)
theorem arX_iff {f : TT → TT → Bool} {x y : AR} : arX f x y = true ↔ (y.min ≤ x.min ∧ (y.max < 0 ∨ (0 ≤ x.max ∧ x.max ≤ y.max)) ∧ (x.max = 0 ∨ f x.item y.item = true)) := by
  unfold arX
  rw [Bool.and_eq_true, Bool.or_eq_true, decide_eq_true_eq]
  simp only [Bool.not_eq_true', Bool.or_eq_false_iff, Bool.and_eq_false_iff, decide_eq_false_iff_not]
  constructor
  · rintro ⟨h1, h2⟩; exact ⟨by omega, by omega, h2⟩
  · rintro ⟨h1, h2, h3⟩; exact ⟨by omega, h3⟩
theorem arY_iff {f : TT → TT → Bool} {x y : AR} : arY f x y = true ↔ ((x.max < 0 ∨ max x.min y.min ≤ x.max) ∧ (y.max < 0 ∨ max x.min y.min ≤ y.max) ∧ (max x.min y.min = 0 ∨ f x.item y.item = true)) := by
  unfold arY longI
  rw [Bool.and_eq_true, Bool.or_eq_true, decide_eq_true_eq]
  simp only [Bool.not_eq_true', Bool.or_eq_false_iff, Bool.and_eq_false_iff, decide_eq_false_iff_not]
  constructor
  · rintro ⟨h1, h2⟩; exact ⟨by omega, by omega, h2⟩
  · rintro ⟨h1, h2, h3⟩; exact ⟨by omega, h3⟩
theorem ar_num {f : TT → Bool} {a : AR} (h : arB f [a] = true) : 0 ≤ a.min ∧ (a.max < 0 ∨ a.min ≤ a.max) ∧ f a.item = true ∧ a.item.never = decide (a.max = 0) := by
  have h' : arOk f a = true := h
  unfold arOk at h'
  rw [Bool.and_eq_true, Bool.and_eq_true, beq_iff_eq] at h'
  have h1 := h'.1
  simp only [Bool.not_eq_true', Bool.or_eq_false_iff, Bool.and_eq_false_iff, decide_eq_false_iff_not] at h1
  exact ⟨by omega, by omega, h'.2⟩
theorem ob_fit {g : TT → TT → Bool} {a b : OB} (oa : OkO a) (ob : OkO b) (hi : obX g a b = true) (s : ByteArray) : fitF g (fldO a s) (fldO b s) = true := by
  unfold obX at hi
  rw [Bool.and_eq_true, List.all_eq_true] at hi
  by_cases hs : s ∈ a.names ∨ s ∈ b.names
  · exact hi.1 s (List.mem_append.2 hs)
  · rw [fld_none oa (fun h => hs (.inl h)), fld_none ob (fun h => hs (.inr h))]
    show (_ && g a.rest b.rest) = true
    rw [hi.2]; rfl
theorem ob_rest {g : TT → TT → Bool} {a b : OB} (hi : obX g a b = true) : g a.rest b.rest = true := by
  unfold obX at hi
  rw [Bool.and_eq_true] at hi
  exact hi.2
theorem ob_mk {g : TT → TT → Bool} {a b : OB} (h1 : ∀ s, fitF g (fldO a s) (fldO b s) = true) (h2 : g a.rest b.rest = true) : obX g a b = true := by
  unfold obX
  rw [h2, Bool.and_true, List.all_eq_true]
  exact fun s _ => h1 s
theorem fitF_iff {g : TT → TT → Bool} {x y : TT × Bool} : fitF g x y = true ↔ ((y.2 = true → x.2 = true) ∧ g x.1 y.1 = true) := by
  unfold fitF
  cases x.2 <;> cases y.2 <;> simp
theorem metF_iff {g : TT → TT → Bool} {x y : TT × Bool} : metF g x y = true ↔ ((x.2 = true ∨ y.2 = true) → g x.1 y.1 = true) := by
  unfold metF
  cases x.2 <;> cases y.2 <;> simp
theorem fld_fm {h : Nat} {o : OB} (hf : obOk (fmN h) o = true) (s : ByteArray) : fmN h (fldO o s).1 = true := by
  obtain ⟨ok, r, g⟩ := ob_open hf
  rcases fld_mem ok s with e | e
  · rw [e]; exact r
  · exact g _ e
theorem fld_must {h : Nat} {o : OB} (hf : obOk (fmN h) o = true) {s : ByteArray} (hm : (fldO o s).2 = true) : (fldO o s).1.never = false := by
  obtain ⟨ok, r, g⟩ := ob_open hf
  have hs : s ∈ o.names := by
    by_cases hs : s ∈ o.names
    · exact hs
    · rw [fld_none ok hs] at hm; cases hm
  rw [← zip_names ok] at hs
  obtain ⟨z, hz, rfl⟩ := List.mem_map.1 hs
  have e : fldO o z.1 = z.2 := (lk_fld _ _ _ _ _).trans (lk_mem (zip_ris ok) hz)
  rw [e] at hm ⊢
  have hz' : z ∈ o.names.zip (o.fields.zip o.must) := hz
  have h2 := (List.of_mem_zip hz').2
  unfold obOk at hf
  simp only [Bool.and_eq_true] at hf
  have h3 := List.all_eq_true.1 hf.2.2.2.2 _ h2
  unfold fdOk at h3
  rw [Bool.and_eq_true, hm, Bool.true_and] at h3
  simpa using h3.2
theorem bare_iff {T : TT} : T.bare = true ↔ (T.nul = false ∧ T.fls = false ∧ T.tru = false ∧ T.any = false ∧ T.nums = [] ∧ T.texts = [] ∧ T.arrs = [] ∧ T.objs = []) := by
  unfold TT.bare bareT
  cases T.nul <;> cases T.fls <;> cases T.tru <;> cases T.any <;> simp
theorem never_not {T : TT} (h : T.all = true) : T.never = false := by unfold TT.never; rw [h]; rfl
theorem never_bare {T : TT} (h : T.all = false) : T.never = T.bare := by unfold TT.never; rw [h]; rfl

/-- a type lies in itself -/
theorem bw_refl : ∀ (h : Nat) (A : TT), fmN h A = true → bwN h A A = true
  | 0, _, hf => by cases hf
  | h + 1, A, hf => by
    rw [bwN]
    cases ha : A.all with
    | true => rfl
    | false =>
      rw [laid_none ha, Bool.false_or]
      obtain ⟨_, a2, a3, a4, _, _⟩ := fm_open hf
      unfold bwK
      rw [Bool.and_eq_true, Bool.and_eq_true, Bool.and_eq_true, Bool.and_eq_true]
      refine ⟨by unfold flL; simp, spL_refl a2, ?_, ?_, ?_⟩
      · rw [txL_iff]
        cases A.any with
        | true => exact .inl rfl
        | false => exact .inr ⟨rfl, fun s hs => hs⟩
      · rcases ar_one a3 with e | ⟨x, e, a1⟩
        · rw [e]; rfl
        · rw [e]
          show arX (bwN h) x x = true
          rw [arX_iff]
          exact ⟨by omega, by omega, .inr (bw_refl h _ a1)⟩
      · unfold obL
        refine List.all_eq_true.2 fun a ha => List.any_eq_true.2 ⟨a, ha, ?_⟩
        exact ob_mk (fun s => fitF_iff.2 ⟨id, bw_refl h _ (fld_fm (a4 a ha) s)⟩) (bw_refl h _ (ob_open (a4 a ha)).2.1)
theorem bwK_tr {h : Nat} {A B C : TT} (fA : fmN (h + 1) A = true) (fB : fmN (h + 1) B = true) (fC : fmN (h + 1) C = true)
    (ih : ∀ A B C, fmN h A = true → fmN h B = true → fmN h C = true → bwN h A B = true → bwN h B C = true → bwN h A C = true)
    (h1 : bwK (bwN h) A B = true) (h2 : bwK (bwN h) B C = true) : bwK (bwN h) A C = true := by
  obtain ⟨_, a2, a3, a4, _, _⟩ := fm_open fA
  obtain ⟨_, b2, b3, b4, _, _⟩ := fm_open fB
  obtain ⟨_, c2, c3, c4, _, _⟩ := fm_open fC
  unfold bwK at h1 h2 ⊢
  rw [Bool.and_eq_true, Bool.and_eq_true, Bool.and_eq_true, Bool.and_eq_true] at h1 h2 ⊢
  obtain ⟨l1, l2, l3, l4, l5⟩ := h1
  obtain ⟨m1, m2, m3, m4, m5⟩ := h2
  refine ⟨?_, spL_tr a2 b2 c2 l2 m2, ?_, ?_, ?_⟩
  · unfold flL at l1 m1 ⊢
    revert l1 m1
    cases A.nul <;> cases A.fls <;> cases A.tru <;> cases B.nul <;> cases B.fls <;> cases B.tru <;> cases C.nul <;> cases C.fls <;> cases C.tru <;> simp
  · rw [txL_iff] at l3 m3 ⊢
    rcases m3 with m3 | ⟨m0, m3⟩
    · exact .inl m3
    · rcases l3 with l3 | ⟨l0, l3⟩
      · rw [m0] at l3; cases l3
      · exact .inr ⟨l0, fun s hs => m3 s (l3 s hs)⟩
  · rcases ar_one a3 with e | ⟨x, e, x1⟩
    · rw [e]; rfl
    · rcases ar_one b3 with e' | ⟨y, e', y1⟩
      · rw [e, e'] at l4; cases l4
      · rcases ar_one c3 with e'' | ⟨z, e'', z1⟩
        · rw [e', e''] at m4; cases m4
        · rw [e, e'] at l4
          rw [e', e''] at m4
          rw [e, e'']
          have l4' : arX (bwN h) x y = true := l4
          have m4' : arX (bwN h) y z = true := m4
          show arX (bwN h) x z = true
          rw [arX_iff] at l4' m4' ⊢
          obtain ⟨p1, p2, p3⟩ := l4'
          obtain ⟨q1, q2, q3⟩ := m4'
          refine ⟨by omega, by omega, ?_⟩
          by_cases hx : x.max = 0
          · exact .inl hx
          · exact .inr (ih _ _ _ x1 y1 z1 (p3.resolve_left hx) (q3.resolve_left (by omega)))
  · unfold obL at l5 m5 ⊢
    refine List.all_eq_true.2 fun a ha => ?_
    obtain ⟨b, hb, hab⟩ := List.any_eq_true.1 (List.all_eq_true.1 l5 a ha)
    obtain ⟨c, hc, hbc⟩ := List.any_eq_true.1 (List.all_eq_true.1 m5 b hb)
    refine List.any_eq_true.2 ⟨c, hc, ?_⟩
    obtain ⟨oa, ra, _⟩ := ob_open (a4 a ha)
    obtain ⟨ob, rb, _⟩ := ob_open (b4 b hb)
    obtain ⟨oc, rc, _⟩ := ob_open (c4 c hc)
    refine ob_mk (fun s => ?_) (ih _ _ _ ra rb rc (ob_rest hab) (ob_rest hbc))
    obtain ⟨u1, u2⟩ := fitF_iff.1 (ob_fit oa ob hab s)
    obtain ⟨v1, v2⟩ := fitF_iff.1 (ob_fit ob oc hbc s)
    exact fitF_iff.2 ⟨fun e => u1 (v1 e), ih _ _ _ (fld_fm (a4 a ha) s) (fld_fm (b4 b hb) s) (fld_fm (c4 c hc) s) u2 v2⟩
theorem bw_top (m : Nat) (A : TT) : bwN (m + 1) A ttEv = true := by rw [bwN]; rfl
/-- all lies in what is laid out -/
theorem bwK_top {m : Nat} {A : TT} (hf : fmN (m + 2) A = true) : bwK (bwN (m + 1)) A laidT = true := by
  obtain ⟨_, a2, a3, a4, _, _⟩ := fm_open hf
  unfold bwK
  rw [Bool.and_eq_true, Bool.and_eq_true, Bool.and_eq_true, Bool.and_eq_true]
  refine ⟨?_, spL_top a2, txL_iff.2 (.inl rfl), ?_, ?_⟩
  · show ((!A.nul || true) && ((!A.fls || true) && (!A.tru || true))) = true
    simp
  · rcases ar_one a3 with e | ⟨x, e, a1⟩
    · rw [e]; rfl
    · rw [e] at a3 ⊢
      show arX (bwN (m + 1)) x (.mk ttEv 0 (-1)) = true
      rw [arX_iff]
      obtain ⟨n1, _⟩ := ar_num a3
      exact ⟨n1, .inl (by show (-1 : Int) < 0; omega), .inr (bw_top m _)⟩
  · unfold obL
    refine List.all_eq_true.2 fun a ha => List.any_eq_true.2 ⟨.mk [] [] [] ttEv, List.mem_singleton.2 rfl, ?_⟩
    exact ob_mk (fun s => fitF_iff.2 ⟨fun e => (by cases e), bw_top m _⟩) (bw_top m _)
theorem laid_fm {h : Nat} {A B : TT} (hf : fmN (h + 1) A = true) (hb : bwK (bwN h) (laid A) B = true) : fmN (h + 1) (laid A) = true := by
  cases ha : A.all with
  | false => rw [laid_none ha]; exact hf
  | true =>
    rw [laid_all ha] at hb ⊢
    cases h with
    | zero => rw [bwK_zero] at hb; cases hb
    | succ m => exact fm_laid m
/-- FROM TYPE TO TYPE -/
theorem bw_tr : ∀ (h : Nat) (A B C : TT), fmN h A = true → fmN h B = true → fmN h C = true → bwN h A B = true → bwN h B C = true → bwN h A C = true
  | 0, _, _, _, hf, _, _, _, _ => by cases hf
  | h + 1, A, B, C, fA, fB, fC, h1, h2 => by
    have ih := bw_tr h
    rw [bwN] at h1 h2 ⊢
    cases hc : C.all with
    | true => rfl
    | false =>
      rw [hc, Bool.false_or] at h2
      rw [Bool.false_or]
      have fLB := laid_fm fB h2
      cases hb : B.all with
      | false =>
        rw [hb, Bool.false_or] at h1
        rw [laid_none hb] at h2
        exact bwK_tr (laid_fm fA h1) fB fC ih h1 h2
      | true =>
        rw [laid_all hb] at h2 fLB
        cases h with
        | zero => rw [bwK_zero] at h2; cases h2
        | succ m =>
          have fLA : fmN (m + 2) (laid A) = true := by
            cases ha : A.all with
            | false => rw [laid_none ha]; exact fA
            | true => rw [laid_all ha]; exact fm_laid m
          exact bwK_tr fLA fLB fC ih (bwK_top fLA) h2
theorem obY_sym {f : TT → TT → Bool} (hs : ∀ A B, f A B = f B A) (a b : OB) : obY f a b = obY f b a := by
  have e : ∀ x y, metF f x y = metF f y x := fun x y => by
    unfold metF; rw [hs, Bool.and_comm]
  unfold obY
  rw [List.all_append, List.all_append, Bool.and_comm]
  congr 1 <;> exact congrArg (fun p => List.all _ p) (funext fun s => e _ _)
/-- what two types have in common the two have -/
theorem mt_sym : ∀ (h : Nat) (A B : TT), mtN h A B = mtN h B A
  | 0, _, _ => rfl
  | h + 1, A, B => by
    have ih := mt_sym h
    unfold mtN
    cases ha : A.all with
    | true =>
      cases hb : B.all with
      | true => simp only [if_pos]; rw [never_not ha, never_not hb]
      | false => simp
    | false =>
      cases hb : B.all with
      | true => simp
      | false =>
        simp only [Bool.false_eq_true, if_false]
        unfold mtK
        have e1 : flM A B = flM B A := by unfold flM; simp [Bool.and_comm]
        have e2 : arM (mtN h) A.arrs B.arrs = arM (mtN h) B.arrs A.arrs := by
          cases A.arrs with
          | nil => cases B.arrs <;> rfl
          | cons x xs =>
            cases B.arrs with
            | nil => rfl
            | cons y ys =>
              show arY _ x y = arY _ y x
              rw [Bool.eq_iff_iff, arY_iff, arY_iff, ih x.item y.item]
              constructor
              · rintro ⟨h1, h2, h3⟩; exact ⟨by omega, by omega, h3.imp (fun h => by omega) id⟩
              · rintro ⟨h1, h2, h3⟩; exact ⟨by omega, by omega, h3.imp (fun h => by omega) id⟩
        have e3 : obM (mtN h) A.objs B.objs = obM (mtN h) B.objs A.objs := by
          unfold obM
          rw [Bool.eq_iff_iff, List.any_eq_true, List.any_eq_true]
          constructor
          · rintro ⟨a, ha, hx⟩
            obtain ⟨b, hb, hx⟩ := List.any_eq_true.1 hx
            exact ⟨b, hb, List.any_eq_true.2 ⟨a, ha, by rw [obY_sym ih]; exact hx⟩⟩
          · rintro ⟨a, ha, hx⟩
            obtain ⟨b, hb, hx⟩ := List.any_eq_true.1 hx
            exact ⟨b, hb, List.any_eq_true.2 ⟨a, ha, by rw [obY_sym ih]; exact hx⟩⟩
        rw [e1, spM_sym A.nums, txM_sym (A := A), e2, e3]
theorem mtK_bare {f : TT → TT → Bool} {A B : TT} (h : A.bare = true) : mtK f A B = false := by
  obtain ⟨h1, h2, h3, h4, h5, h6, h7, h8⟩ := bare_iff.1 h
  unfold mtK flM txM
  rw [h1, h2, h3, h4, h5, h6, h7, h8]
  simp [spM, arM, obM]
theorem mtK_bare_r {h : Nat} {A B : TT} (ha : A.all = false) (hb : B.bare = true) (hn : B.all = false) : mtK (mtN h) A B = false := by
  have e := mt_sym (h + 1) A B
  unfold mtN at e
  rw [ha, hn] at e
  simp only [Bool.false_eq_true, if_false] at e
  rw [e]; exact mtK_bare hb
theorem mtK_self {h : Nat} {A : TT} (hf : fmN (h + 1) A = true) (ih : ∀ A, fmN h A = true → mtN h A A = !A.never) (hb : A.bare = false) : mtK (mtN h) A A = true := by
  obtain ⟨_, a2, a3, a4, _, _⟩ := fm_open hf
  cases e : mtK (mtN h) A A with
  | true => rfl
  | false =>
    exfalso
    unfold mtK at e
    rw [Bool.or_eq_false_iff, Bool.or_eq_false_iff, Bool.or_eq_false_iff, Bool.or_eq_false_iff] at e
    obtain ⟨e1, e2, e3, e4, e5⟩ := e
    have hx : A.bare = true := by
      rw [bare_iff]
      unfold flM at e1
      rw [Bool.or_eq_false_iff, Bool.or_eq_false_iff, Bool.and_self, Bool.and_self, Bool.and_self] at e1
      have t1 : A.any = false := by
        cases ea : A.any with
        | false => rfl
        | true => rw [txM_iff.2 (.inl ⟨ea, .inl ea⟩)] at e3; cases e3
      refine ⟨e1.1, e1.2.1, e1.2.2, t1, spM_self a2 e2, ?_, ?_, ?_⟩
      · cases et : A.texts with
        | nil => rfl
        | cons s l => rw [txM_iff.2 (.inr (.inr ⟨t1, t1, s, by rw [et]; exact List.mem_cons_self .., by rw [et]; exact List.mem_cons_self ..⟩))] at e3; cases e3
      · rcases ar_one a3 with er | ⟨x, er, x1⟩
        · exact er
        · rw [er] at a3 e4
          have e4' : arY (mtN h) x x = false := e4
          obtain ⟨n1, n2, n3, n4⟩ := ar_num a3
          have : arY (mtN h) x x = true := by
            rw [arY_iff]
            refine ⟨by omega, by omega, ?_⟩
            by_cases hz : x.max = 0
            · exact .inl (by omega)
            · right
              rw [ih _ n3, n4, decide_eq_false hz]; rfl
          rw [e4'] at this; cases this
      · cases eo : A.objs with
        | nil => rfl
        | cons o l =>
          have hm : o ∈ A.objs := by rw [eo]; exact List.mem_cons_self ..
          have hy : obY (mtN h) o o = true := by
            unfold obY
            refine List.all_eq_true.2 fun s _ => metF_iff.2 fun hm2 => ?_
            have hm3 : (fldO o s).2 = true := hm2.elim id id
            rw [ih _ (fld_fm (a4 o hm) s), fld_must (a4 o hm) hm3]; rfl
          have : obM (mtN h) A.objs A.objs = true := List.any_eq_true.2 ⟨o, hm, List.any_eq_true.2 ⟨o, hm, hy⟩⟩
          rw [e5] at this; cases this
    rw [hb] at hx; cases hx
/-- a type has a value in common with itself, but never -/
theorem mt_self : ∀ (h : Nat) (A : TT), fmN h A = true → mtN h A A = !A.never
  | 0, _, hf => by cases hf
  | h + 1, A, hf => by
    have ih := mt_self h
    unfold mtN
    cases ha : A.all with
    | true => simp
    | false =>
      simp only [Bool.false_eq_true, if_false]
      rw [never_bare ha]
      cases hb : A.bare with
      | true => rw [mtK_bare hb]; rfl
      | false => rw [mtK_self hf ih hb]; rfl
theorem mtK_mono {h : Nat} {A B C : TT} (fA : fmN (h + 1) A = true) (fB : fmN (h + 1) B = true) (fC : fmN (h + 1) C = true)
    (ih : ∀ A B C, fmN h A = true → fmN h B = true → fmN h C = true → bwN h A B = true → mtN h A C = true → mtN h B C = true)
    (h1 : bwK (bwN h) A B = true) (h2 : mtK (mtN h) A C = true) : mtK (mtN h) B C = true := by
  obtain ⟨_, a2, a3, a4, _, _⟩ := fm_open fA
  obtain ⟨_, b2, b3, b4, _, _⟩ := fm_open fB
  obtain ⟨_, c2, c3, c4, _, _⟩ := fm_open fC
  unfold bwK at h1
  rw [Bool.and_eq_true, Bool.and_eq_true, Bool.and_eq_true, Bool.and_eq_true] at h1
  obtain ⟨l1, l2, l3, l4, l5⟩ := h1
  unfold mtK at h2 ⊢
  rw [Bool.or_eq_true, Bool.or_eq_true, Bool.or_eq_true, Bool.or_eq_true] at h2 ⊢
  rcases h2 with m | m | m | m | m
  · left
    unfold flL at l1
    unfold flM at m ⊢
    revert l1 m
    cases A.nul <;> cases A.fls <;> cases A.tru <;> cases B.nul <;> cases B.fls <;> cases B.tru <;> cases C.nul <;> cases C.fls <;> cases C.tru <;> simp
  · exact .inr (.inl (spM_mono a2 b2 c2 l2 m))
  · exact .inr (.inr (.inl (txM_mono l3 m)))
  · refine .inr (.inr (.inr (.inl ?_)))
    rcases ar_one a3 with e | ⟨x, e, x1⟩
    · rw [e] at m; cases m
    · rcases ar_one b3 with e' | ⟨y, e', y1⟩
      · rw [e, e'] at l4; cases l4
      · rcases ar_one c3 with e'' | ⟨z, e'', z1⟩
        · rw [e, e''] at m; cases m
        · rw [e, e'] at l4
          rw [e, e''] at m
          rw [e', e'']
          rw [e] at a3; rw [e'] at b3; rw [e''] at c3
          have l4' : arX (bwN h) x y = true := l4
          have m' : arY (mtN h) x z = true := m
          show arY (mtN h) y z = true
          obtain ⟨s1, s2, _⟩ := ar_num a3
          obtain ⟨t1, t2, _⟩ := ar_num b3
          obtain ⟨u1, u2, _⟩ := ar_num c3
          rw [arX_iff] at l4'
          rw [arY_iff] at m' ⊢
          obtain ⟨p1, p2, p3⟩ := l4'
          obtain ⟨q1, q2, q3⟩ := m'
          refine ⟨by omega, by omega, ?_⟩
          by_cases hz : max y.min z.min = 0
          · exact .inl hz
          · exact .inr (ih _ _ _ x1 y1 z1 (p3.resolve_left (by omega)) (q3.resolve_left (by omega)))
  · refine .inr (.inr (.inr (.inr ?_)))
    obtain ⟨a, ha, hx⟩ := List.any_eq_true.1 m
    obtain ⟨c, hc, hac⟩ := List.any_eq_true.1 hx
    unfold obL at l5
    obtain ⟨b, hb, hab⟩ := List.any_eq_true.1 (List.all_eq_true.1 l5 a ha)
    refine List.any_eq_true.2 ⟨b, hb, List.any_eq_true.2 ⟨c, hc, ?_⟩⟩
    obtain ⟨oa, ra, _⟩ := ob_open (a4 a ha)
    obtain ⟨ob, rb, _⟩ := ob_open (b4 b hb)
    obtain ⟨oc, rc, _⟩ := ob_open (c4 c hc)
    unfold obY at hac ⊢
    rw [List.all_eq_true] at hac ⊢
    intro s hs
    rw [metF_iff]
    intro hm
    obtain ⟨u1, u2⟩ := fitF_iff.1 (ob_fit oa ob hab s)
    have hm' : (fldO a s).2 = true ∨ (fldO c s).2 = true := hm.imp u1 id
    have hsn : s ∈ a.names ++ c.names := by
      rw [List.mem_append]
      rcases hm' with hm' | hm'
      · left
        by_cases hs : s ∈ a.names
        · exact hs
        · rw [fld_none oa hs] at hm'; cases hm'
      · right
        by_cases hs : s ∈ c.names
        · exact hs
        · rw [fld_none oc hs] at hm'; cases hm'
    exact ih _ _ _ (fld_fm (a4 a ha) s) (fld_fm (b4 b hb) s) (fld_fm (c4 c hc) s) u2 (metF_iff.1 (hac s hsn) hm')
theorem bwK_bare {f : TT → TT → Bool} {A B : TT} (h : bwK f A B = true) (hb : B.bare = true) (ht : A.any = true → A.texts = []) : A.bare = true := by
  obtain ⟨h1, h2, h3, h4, h5, h6, h7, h8⟩ := bare_iff.1 hb
  unfold bwK at h
  rw [Bool.and_eq_true, Bool.and_eq_true, Bool.and_eq_true, Bool.and_eq_true] at h
  obtain ⟨l1, l2, l3, l4, l5⟩ := h
  unfold flL at l1
  rw [h1, h2, h3] at l1
  simp only [Bool.or_false, Bool.and_eq_true, Bool.not_eq_true'] at l1
  rw [txL_iff, h4, h6] at l3
  rcases l3 with l3 | ⟨l3, l3'⟩
  · cases l3
  rw [bare_iff]
  refine ⟨l1.1, l1.2.1, l1.2.2, l3, ?_, ?_, ?_, ?_⟩
  · rw [h5] at l2
    cases e : A.nums with
    | nil => rfl
    | cons p l => rw [e] at l2; cases l2
  · cases e : A.texts with
    | nil => rfl
    | cons p l => rw [e] at l3'; exact absurd (l3' p (List.mem_cons_self ..)) (List.not_mem_nil)
  · rw [h7] at l4
    cases e : A.arrs with
    | nil => rfl
    | cons p l => rw [e] at l4; cases l4
  · rw [h8] at l5
    cases e : A.objs with
    | nil => rfl
    | cons p l => rw [e] at l5; simp [obL] at l5
/-- WHAT A PART HAS IN COMMON WITH ANOTHER THE WHOLE HAS -/
theorem mt_mono : ∀ (h : Nat) (A B C : TT), fmN h A = true → fmN h B = true → fmN h C = true → bwN h A B = true → mtN h A C = true → mtN h B C = true
  | 0, _, _, _, hf, _, _, _, _ => by cases hf
  | h + 1, A, B, C, fA, fB, fC, h1, h2 => by
    have ih := mt_mono h
    have hcn : C.never = false := by
      cases hc : C.all with
      | true => exact never_not hc
      | false =>
        unfold mtN at h2
        cases ha : A.all with
        | true => rw [ha, if_pos rfl] at h2; simpa using h2
        | false =>
          rw [ha, hc] at h2
          simp only [Bool.false_eq_true, if_false] at h2
          rw [never_bare hc]
          cases hb : C.bare with
          | false => rfl
          | true => rw [mtK_bare_r ha hb hc] at h2; cases h2
    rw [bwN] at h1
    unfold mtN at h2 ⊢
    cases hb : B.all with
    | true => rw [if_pos rfl, hcn]; rfl
    | false =>
      rw [hb, Bool.false_or] at h1
      have fX := laid_fm fA h1
      simp only [Bool.false_eq_true, if_false]
      cases hc : C.all with
      | true =>
        rw [if_pos rfl, never_bare hb]
        cases hbb : B.bare with
        | false => rfl
        | true =>
          exfalso
          have hx := bwK_bare h1 hbb (fm_open fX).2.2.2.2.2
          cases ha : A.all with
          | true => rw [laid_all ha] at hx; cases hx
          | false =>
            rw [laid_none ha] at hx
            rw [ha, hc] at h2
            simp only [Bool.false_eq_true, if_false, if_true] at h2
            rw [never_bare ha, hx] at h2
            cases h2
      | false =>
        simp only [Bool.false_eq_true, if_false]
        rw [hc] at h2
        cases ha : A.all with
        | false =>
          rw [ha] at h2
          simp only [Bool.false_eq_true, if_false] at h2
          rw [laid_none ha] at h1
          exact mtK_mono fA fB fC ih h1 h2
        | true =>
          rw [laid_all ha] at h1 fX
          cases h with
          | zero => rw [bwK_zero] at h1; cases h1
          | succ m =>
            have hs : mtK (mtN (m + 1)) C C = true := mtK_self fC (mt_self (m + 1)) (by rw [← never_bare hc]; exact hcn)
            exact mtK_mono fX fB fC ih h1 (mtK_mono fC fX fC ih (bwK_top fC) hs)
end Go.Proofs.Ytihhjplbpaafiaa
