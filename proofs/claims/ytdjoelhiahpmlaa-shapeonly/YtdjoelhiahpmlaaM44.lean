import Derived.Test.YtdjoelhiahpmlaaM42
import Derived.Test.YtdjoelhiahpmlaaM43
import Derived.Test.YtdjoelhiahpmlaaM16
import Derived.Test.YtdjoelhiahpmlaaM34
import Derived.Test.YtdjoelhiahpmlaaM31
namespace Go.Proofs.Ytdjoelhiahpmlaa
open Go.RowKit Go.Shelf Go.Sort
set_option linter.unusedVariables false
set_option linter.unusedSimpArgs false

/-- plain: not too many keys, and each array's items all the same -/
noncomputable def plN : Nat → VT → Bool
  | 0, _ => false
  | h + 1, V => !decide (12 < V.keys.length) && V.items.all fun x => plN h x && (!decide (V.kind = 5) || likeD x (V.items.headD x))
/-- two rows that rise and have the same texts are one -/
theorem pw_eq : ∀ (a b : List ByteArray), a.Pairwise (fun x y => x.toList < y.toList) → b.Pairwise (fun x y => x.toList < y.toList) → (∀ x ∈ a, x ∈ b) → (∀ x ∈ b, x ∈ a) → a = b
  | [], [], _, _, _, _ => rfl
  | [], d :: t, _, _, _, h2 => absurd (h2 d (List.mem_cons_self ..)) (List.not_mem_nil)
  | c :: r, [], _, _, h1, _ => absurd (h1 c (List.mem_cons_self ..)) (List.not_mem_nil)
  | c :: r, d :: t, pa, pb, h1, h2 => by
    rw [List.pairwise_cons] at pa pb
    have e : c = d := by
      rcases List.mem_cons.1 (h1 c (List.mem_cons_self ..)) with e | e
      · exact e
      · rcases List.mem_cons.1 (h2 d (List.mem_cons_self ..)) with e' | e'
        · exact e'.symm
        · exact absurd (List.lt_trans (pb.1 c e) (pa.1 d e')) (List.lt_irrefl _)
    subst e
    rw [pw_eq r t pa.2 pb.2 (fun x hx => ?_) (fun x hx => ?_)]
    · rcases List.mem_cons.1 (h1 x (List.mem_cons_of_mem _ hx)) with e | e
      · subst e; exact absurd (pa.1 _ hx) (List.lt_irrefl _)
      · exact e
    · rcases List.mem_cons.1 (h2 x (List.mem_cons_of_mem _ hx)) with e | e
      · subst e; exact absurd (pb.1 _ hx) (List.lt_irrefl _)
      · exact e
theorem pw_of {ks : List ByteArray} (hr : rK ks ks.length = true) : ks.Pairwise (fun x y => x.toList < y.toList) := by
  rw [List.pairwise_iff_getElem]
  exact fun i j hi hj hij => rise_lt hr j hj i hij
theorem mxL_mem {b x : Nat} : ∀ {l : List Nat}, mxL l ≤ b → x ∈ l → x ≤ b
  | y :: r, h, hx => by
    simp only [mxL] at h
    rcases List.mem_cons.1 hx with e | e
    · omega
    · exact mxL_mem (l := r) (by omega) e
theorem dp_items {h n : Nat} {V : VT} (hk : V.kind = 5 ∨ V.kind = 6) (hd : dpN (h + 1) V ≤ n + 1) : ∀ x ∈ V.items, dpN h x ≤ n := by
  intro x hx
  unfold dpN at hd
  rw [if_pos hk] at hd
  exact mxL_mem (by omega) (List.mem_map.2 ⟨x, hx, rfl⟩)
theorem dp_pos {h : Nat} {V : VT} (hk : V.kind = 5 ∨ V.kind = 6) : ¬ dpN (h + 1) V ≤ 0 := by
  unfold dpN
  rw [if_pos hk]
  omega
theorem num_zero {n m : ByteArray} (hn : Pl.formed n.data.toList = true) (hm : Pl.formed m.data.toList = true) (h : hasP m (n, n) = true) : m = n := by
  have hne : n.toList.isEmpty = false := by
    rw [Lib.toList_data]
    cases e : n.data.toList with
    | nil => rw [e] at hn; cases hn
    | cons => rfl
  have h' : (!(!n.toList.isEmpty && decide (numC m n < 0)) && (n.toList.isEmpty || decide (numC m n ≤ 0))) = true := h
  rw [hne] at h'
  simp only [Bool.not_false, Bool.true_and, Bool.false_or, Bool.and_eq_true, Bool.not_eq_true', decide_eq_false_iff_not, decide_eq_true_eq] at h'
  exact numC_ord.zr _ _ hm hn (by omega)
/-- of the near type of a leaf it is the only value -/
theorem only_leaf {hv hw m : Nat} {V W : VT} (hf : formN (hv + 1) V = true) (h5 : V.kind ≠ 5) (h6 : V.kind ≠ 6) (hw : formN (hw + 1) W = true) (hi : inN (m + 1) W (nrLeaf V) = true) : W = V := by
  rcases form_open hf with (rfl | rfl | rfl) | ⟨n, rfl, hn⟩ | ⟨t, rfl, ht⟩ | ⟨i, rfl, _⟩ | ⟨i, ks, rfl, _, _, _, _⟩
  · rcases form_open hw with (rfl | rfl | rfl) | ⟨n', rfl, hn'⟩ | ⟨t', rfl, ht'⟩ | ⟨i', rfl, _⟩ | ⟨i', ks', rfl, _, _, _, _⟩ <;> first | rfl | cases hi
  · rcases form_open hw with (rfl | rfl | rfl) | ⟨n', rfl, hn'⟩ | ⟨t', rfl, ht'⟩ | ⟨i', rfl, _⟩ | ⟨i', ks', rfl, _, _, _, _⟩ <;> first | rfl | cases hi
  · rcases form_open hw with (rfl | rfl | rfl) | ⟨n', rfl, hn'⟩ | ⟨t', rfl, ht'⟩ | ⟨i', rfl, _⟩ | ⟨i', ks', rfl, _, _, _, _⟩ <;> first | rfl | cases hi
  · rw [leaf3] at hi
    rcases form_open hw with (rfl | rfl | rfl) | ⟨n', rfl, hn'⟩ | ⟨t', rfl, ht'⟩ | ⟨i', rfl, _⟩ | ⟨i', ks', rfl, _, _, _, _⟩ <;> first | (cases hi; done) | skip
    have h' : (false || hasP n' (n, n)) = true := hi
    rw [Bool.false_or] at h'
    rw [num_zero hn hn' h']
  · rw [leaf4] at hi
    rcases form_open hw with (rfl | rfl | rfl) | ⟨n', rfl, hn'⟩ | ⟨t', rfl, ht'⟩ | ⟨i', rfl, _⟩ | ⟨i', ks', rfl, _, _, _, _⟩ <;> first | (cases hi; done) | skip
    have h' : (false || (false || (eqS t t' || false))) = true := hi
    simp only [Bool.false_or, Bool.or_false] at h'
    rw [(eqS_iff _ _).1 h']
  · exact absurd rfl h5
  · exact absurd rfl h6
/-- of the near type of a plain value no other value is -/
theorem only_nr : ∀ (h hv hw m : Nat) (V W : VT), formN hv V = true → bdV hv V → formN hw W = true → dpN hv V ≤ h → plN hv V = true → inN m W (nrN h V) = true → W = V
  | h, hv, hw, 0, V, W, _, _, _, _, _, hi => by cases hi
  | 0, hv, hw, m + 1, V, W, hf, _, hg, hd, _, hi => by
    obtain ⟨a, rfl⟩ := form_pos hf
    obtain ⟨b, rfl⟩ := form_pos hg
    have hk : ¬ (V.kind = 5 ∨ V.kind = 6) := fun k => dp_pos k hd
    unfold nrN at hi
    rw [if_neg hk] at hi
    exact only_leaf hf (fun k => hk (.inl k)) (fun k => hk (.inr k)) hg hi
  | h + 1, hv, hw, m + 1, V, W, hf, hb, hg, hd, hp, hi => by
    obtain ⟨a, rfl⟩ := form_pos hf
    obtain ⟨b, rfl⟩ := form_pos hg
    have ih := only_nr h
    by_cases h5 : V.kind = 5
    · have hd' := dp_items (.inl h5) hd
      unfold nrN at hi
      rw [if_pos h5] at hi
      rcases form_open hf with (rfl | rfl | rfl) | ⟨n, rfl, hn⟩ | ⟨t, rfl, ht⟩ | ⟨i, rfl, hfi⟩ | ⟨i, ks, rfl, _, _, _, _⟩ <;> (try simp [VT.kind] at h5)
      rcases form_open hg with (rfl | rfl | rfl) | ⟨n', rfl, hn'⟩ | ⟨t', rfl, ht'⟩ | ⟨j, rfl, hgj⟩ | ⟨j, ks', rfl, _, _, _, _⟩ <;> first | (cases hi; done) | skip
      have hi' : (false || inAr (inN m) j (.mk (itN h (nrN h) i) (i.length : Int) (i.length : Int))) = true := (in_arr m j (.mk false false false false false [] [] [.mk (itN h (nrN h) i) (i.length : Int) (i.length : Int)] []) _ rfl).symm.trans hi
      rw [Bool.false_or] at hi'
      unfold inAr at hi'
      rw [Bool.and_eq_true, List.all_eq_true] at hi'
      obtain ⟨hl, hall⟩ := hi'
      have hl' : (!(decide ((j.length : Int) < (i.length : Int)) || (decide (0 ≤ (i.length : Int)) && decide ((i.length : Int) < (j.length : Int))))) = true := hl
      have hlen : j.length = i.length := by
        simp only [Bool.not_eq_true', Bool.or_eq_false_iff, Bool.and_eq_false_iff, decide_eq_false_iff_not] at hl'
        omega
      have hall' : ∀ x ∈ j, inN m x (itN h (nrN h) i) = true := hall
      unfold plN at hp
      rw [Bool.and_eq_true, List.all_eq_true] at hp
      have hp2 : ∀ x ∈ i, (plN a x && (!decide ((5 : Int) = 5) || likeD x (i.headD x))) = true := hp.2
      have hbi : ∀ x ∈ i, bdV a x := hb.2
      have hfi' := hfi
      cases i with
      | nil =>
        obtain rfl : j = [] := List.eq_nil_of_length_eq_zero hlen
        rfl
      | cons x r =>
        have hx : ∀ y ∈ x :: r, y = x := fun y hy => by
          have := hp2 y hy
          simp only [decide_true, Bool.not_true, Bool.false_or, Bool.and_eq_true, List.headD_cons] at this
          exact likeD_iff.1 this.2
        have hmx : x ∈ x :: r := List.mem_cons_self ..
        have hpx : plN a x = true := by
          have := hp2 x hmx
          rw [Bool.and_eq_true] at this
          exact this.1
        have hall2 : r.all (fun y => sameT (h + 2) (nrN h x) (nrN h y)) = true := by
          rw [List.all_eq_true]
          intro y hy
          rw [hx y (List.mem_cons_of_mem _ hy)]
          exact sameT_refl _ _ (good_nr h a x (hfi x hmx) (hbi x hmx))
        have hit : itN h (nrN h) (x :: r) = nrN h x := by rw [it_eq, if_pos hall2]
        rw [hit] at hall'
        have hj : ∀ y ∈ j, y = x := fun y hy => ih a b m x y (hfi x hmx) (hbi x hmx) (hgj y hy) (hd' x hmx) hpx (hall' y hy)
        have e : j = x :: r := by
          rw [List.eq_replicate_of_mem hj, List.eq_replicate_of_mem hx, hlen]
        rw [e]
    · by_cases h6 : V.kind = 6
      · have hd' := dp_items (.inr h6) hd
        unfold nrN at hi
        rw [if_neg h5, if_pos h6] at hi
        rcases form_open hf with (rfl | rfl | rfl) | ⟨n, rfl, hn⟩ | ⟨t, rfl, ht⟩ | ⟨i, rfl, hfi⟩ | ⟨i, ks, rfl, hl, hr, ho, hfi⟩ <;> (try simp [VT.kind] at h6)
        rcases form_open hg with (rfl | rfl | rfl) | ⟨n', rfl, hn'⟩ | ⟨t', rfl, ht'⟩ | ⟨j, rfl, hgj⟩ | ⟨j, ks', rfl, hl', hr', ho', hgj⟩ <;> first | (cases hi; done) | skip
        have hi' : (false || (inOb (inN m) (.mk 6 .empty .empty j ks') (fdN h (nrN h) (.mk 6 .empty .empty i ks)) || false)) = true := (in_obj m j ks' (.mk false false false false false [] [] [] [fdN h (nrN h) (.mk 6 .empty .empty i ks)]) _ rfl).symm.trans hi
        rw [Bool.false_or, Bool.or_false, fd_eq] at hi'
        unfold plN at hp
        rw [Bool.and_eq_true, List.all_eq_true] at hp
        have h12 : ¬ 12 < ks.length := by
          have : (!decide (12 < ks.length)) = true := hp.1
          simpa using this
        rw [if_neg h12] at hi'
        unfold inOb at hi'
        rw [Bool.and_eq_true, List.all_eq_true, List.all_eq_true] at hi'
        have hbi : ∀ x ∈ i, bdV a x := hb.2
        have hpl : ∀ x ∈ i, plN a x = true := fun x hx => by
          have := hp.2 x hx
          rw [Bool.and_eq_true] at this
          exact this.1
        obtain ⟨hn, hrest⟩ := hi'
        have hn' : ∀ x ∈ ks.zip ((i.map (nrN h)).zip (ks.map fun _ => true)), inF (inN m) (.mk 6 .empty .empty j ks') x = true := hn
        have hrest' : ∀ p ∈ ks'.zip j, (hasK ks p.1 || inN m p.2 ttNe) = true := hrest
        have hat : ∀ k, (hk : k < ks.length) → ∃ y, getL ks' j ks[k] = some y ∧ inN m y (nrN h (i[k]'(by omega))) = true := fun k hk => by
          have hmem : (ks[k], nrN h (i[k]'(by omega)), true) ∈ ks.zip ((i.map (nrN h)).zip (ks.map fun _ => true)) := by
            have hkz : k < (ks.zip ((i.map (nrN h)).zip (ks.map fun _ => true))).length := by
              simp only [List.length_zip, List.length_map]
              omega
            have e : (ks.zip ((i.map (nrN h)).zip (ks.map fun _ => true)))[k] = (ks[k], nrN h (i[k]'(by omega)), true) := by simp
            rw [← e]
            exact List.getElem_mem hkz
          have h2 := hn' _ hmem
          unfold inF at h2
          have e3 : getV (.mk 6 .empty .empty j ks') ks[k] = getL ks' j ks[k] := rfl
          simp only [e3] at h2
          cases e : getL ks' j ks[k] with
          | none => rw [e] at h2; cases h2
          | some y => rw [e] at h2; exact ⟨y, rfl, h2⟩
        have s1 : ∀ x ∈ ks, x ∈ ks' := fun x hx => by
          obtain ⟨k, hk, rfl⟩ := List.getElem_of_mem hx
          obtain ⟨y, e, _⟩ := hat k hk
          by_cases hin : ks[k] ∈ ks'
          · exact hin
          · rw [getL_none (fun q hq => by
              cases e2 : eqS ks'[q] ks[k] with
              | false => rfl
              | true =>
                have := (eqS_iff _ _).1 e2
                exact absurd (this ▸ List.getElem_mem hq) hin)] at e
            cases e
        have s2 : ∀ x ∈ ks', x ∈ ks := fun x hx => by
          obtain ⟨k, hk, rfl⟩ := List.getElem_of_mem hx
          have hkz : k < (ks'.zip j).length := by simp only [List.length_zip]; omega
          have h2 := hrest' _ (List.getElem_mem hkz)
          have e : (ks'.zip j)[k] = (ks'[k], j[k]'(by omega)) := by simp
          rw [e, Bool.or_eq_true] at h2
          rcases h2 with h2 | h2
          · obtain ⟨y, hy, e2⟩ := List.any_eq_true.1 h2
            have e3 : y = ks'[k] := (eqS_iff _ _).1 e2
            rw [← e3]; exact hy
          · exfalso
            have hgk := hgj (j[k]'(by omega)) (List.getElem_mem _)
            obtain ⟨c, rfl⟩ := form_pos hgk
            cases m with
            | zero => cases h2
            | succ m =>
              have h3 : inN (m + 1) (j[k]'(by omega)) ttNe = true := h2
              rcases form_open hgk with (e | e | e) | ⟨n', e, hn'⟩ | ⟨t', e, ht'⟩ | ⟨i', e, _⟩ | ⟨i', ks', e, _, _, _, _⟩ <;> (rw [e] at h3; cases h3)
        have eks : ks' = ks := pw_eq ks' ks (pw_of hr') (pw_of hr) s2 s1
        subst eks
        have eij : j = i := by
          apply List.ext_getElem (by omega)
          intro k hk1 hk2
          obtain ⟨y, e1, e2⟩ := hat k (by omega)
          rw [getL_at (by omega) (eqS_self _) (fun q hq hqk => rise_ne hr' _ hqk), List.getElem?_eq_getElem hk1, Option.some_inj] at e1
          subst e1
          exact ih a b m _ _ (hfi _ (List.getElem_mem _)) (hbi _ (List.getElem_mem _)) (hgj _ (List.getElem_mem _)) (hd' _ (List.getElem_mem _)) (hpl _ (List.getElem_mem _)) e2
        rw [eij]
      · unfold nrN at hi
        rw [if_neg h5, if_neg h6] at hi
        exact only_leaf hf h5 h6 hg hi
end Go.Proofs.Ytdjoelhiahpmlaa
namespace Go.Proofs.Ytdjoelhiahpmlaa
open Go.RowKit Go.Shelf Go.Sort
set_option linter.unusedVariables false
set_option linter.unusedSimpArgs false
attribute [local go_sem] Oper.semAt_some

/-- the law's plain, at a height -/
def PlOk (h : Nat) : Prop := ∀ (V : VT) (v : Value) (w : World), InH w h V v → Calls Try.prog 8 #[v] w fun e w' => e = .returned (.bool (plN h V)) ∧ Below w.heap.size w w'
set_option maxRecDepth 100000 in
set_option maxHeartbeats 6400000 in
theorem plain_many (kd : Int) (nm tx : ByteArray) (io : Option Addr) (N icap : Nat) (ko : Option Addr) (K kcap : Nat) (w : World) (hK : 12 < K) : Calls Try.prog 8 #[.agg #[.int .i64 kd, .string nm, .string tx, .slice io N icap, .slice ko K kcap]] w fun e w' => e = .returned (.bool false) ∧ Below w.heap.size w w' := by
  have HX := Hid.mk (bx1_new w #[.int .i64 kd, .string nm, .string tx, .slice io N icap, .slice ko K kcap] 25)
  have hK1 : (12 : Int) < (K : Int) := by omega
  go_enter Try.func8, Try.ntmps8
  go_wp2_with fail
  go_ret
  exact ⟨rfl, HX.out.below⟩
set_option maxRecDepth 100000 in
set_option maxHeartbeats 6400000 in
theorem plain_few (h : Nat) (ih : PlOk h) (kd : Int) (nm tx : ByteArray) (io : Option Addr) (N icap : Nat) (ko : Option Addr) (K kcap : Nat) (ts : List VT) (w : World) (hi : IIn w h io ts) (hN : ts.length = N) (hcN : N ≤ icap) (hN2 : N ≤ 140737488355328) (hK : ¬ 12 < K) :
    Calls Try.prog 8 #[.agg #[.int .i64 kd, .string nm, .string tx, .slice io N icap, .slice ko K kcap]] w fun e w' => e = .returned (.bool (ts.all fun x => plN h x && (!decide (kd = 5) || likeD x (ts.headD x)))) ∧ Below w.heap.size w w' := by
  have HX := Hid.mk (bx1_new w #[.int .i64 kd, .string nm, .string tx, .slice io N icap, .slice ko K kcap] 25)
  have HI := Hid.mk hi
  have HIh := Hid.mk ih
  have HNN := Hid.mk hN
  have hK1 : ¬ (12 : Int) < (K : Int) := by omega
  obtain ⟨R, hR⟩ : ∃ R, (ts.all fun x => plN h x && (!decide (kd = 5) || likeD x (ts.headD x))) = R := ⟨_, rfl⟩
  have HR := Hid.mk hR
  rw [hR]
  clear hi ih hN hR
  obtain ⟨W0, hW0⟩ : ∃ W0, w.alloc (.cells #[.int .i64 kd, .string nm, .string tx, .slice io N icap, .slice ko K kcap] 25) = W0 := ⟨_, rfl⟩
  rw [hW0] at HX
  have p3 : W0.cell? ⟨w.heap.size, 3, none⟩ = some (.slice io N icap) := HX.out.one 3
  have p4 : W0.cell? ⟨w.heap.size, 4, none⟩ = some (.slice ko K kcap) := HX.out.one 4
  go_enter Try.func8, Try.ntmps8
  go_wp2_with fail
  go_loopw [3] (fun i wr => ∃ k : Nat, k ≤ N ∧ i = .int .i64 (k : Int) ∧ Hid (Bx1 w wr #[.int .i64 kd, .string nm, .string tx, .slice io N icap, .slice ko K kcap]) ∧ Hid ((ts.take k).all (fun x => plN h x && (!decide (kd = 5) || likeD x (ts.headD x))) = true)) (fun i _ => N - (intOf i).toNat)
  case atStart => exact ⟨0, Nat.zero_le _, rfl, HX, rfl⟩
  case round =>
    clear p3 p4 HX hW0
    obtain ⟨k, hk, rfl, HX, HQ⟩ := hrel
    have p0 : wr.cell? ⟨w.heap.size, 0, none⟩ = some (.int .i64 kd) := HX.out.one 0
    have p3 : wr.cell? ⟨w.heap.size, 3, none⟩ = some (.slice io N icap) := HX.out.one 3
    by_cases hlt : k < N
    · have hl1 : (k : Int) < (N : Int) := by omega
      have hl0 : (0 : Int) < (N : Int) := by omega
      have hkt : k < ts.length := by rw [HNN.out]; exact hlt
      have h0t : 0 < ts.length := by omega
      obtain ⟨b, off, hio, hbl, hrow⟩ := (HI.out.keep HX.out.below).row (by omega)
      subst hio
      obtain ⟨v0, v1, v2, v3, v4, ⟨c0, c1, c2, c3, c4⟩, ht⟩ := hrow k hkt
      obtain ⟨u0, u1, u2, u3, u4, ⟨d0, d1, d2, d3, d4⟩, hu⟩ := hrow 0 h0t
      rw [Nat.zero_mul, Nat.add_zero] at d0 d1 d2 d3 d4
      obtain ⟨ik, inm, itx, iio, iN, iicap, iko, iK, ikcap, rfl, rfl, rfl, rfl, rfl⟩ := ht.shape
      obtain ⟨jk, jnm, jtx, jio, jN, jicap, jko, jK, jkcap, rfl, rfl, rfl, rfl, rfl⟩ := hu.shape
      have hhd : ts.headD ts[k] = ts[0] := by
        cases ts with
        | nil => exact absurd h0t (Nat.lt_irrefl 0)
        | cons => rfl
      have HC := Hid.mk (HIh.out _ _ wr ht)
      have HLk := Hid.mk (fun u (hu2 : Below wr.heap.size wr u) => w_Like h ts[k] ts[0] _ _ u (ht.keep hu2) (hu.keep hu2))
      have HU := Hid.mk (zall_up (f := fun x => plN h x && (!decide (kd = 5) || likeD x (ts.headD x))) hkt)
      have HNo : Hid ((plN h ts[k] && (!decide (kd = 5) || likeD ts[k] ts[0])) = false → R = false) := fun hh => by rw [← HR.out]; exact zall_no (f := fun x => plN h x && (!decide (kd = 5) || likeD x (ts.headD x))) hkt (by rw [hhd]; exact hh)
      have HUp : Hid ((plN h ts[k] && (!decide (kd = 5) || likeD ts[k] ts[0])) = true → (ts.take (k + 1)).all (fun x => plN h x && (!decide (kd = 5) || likeD x (ts.headD x))) = true) := fun hh => by rw [HU.out, HQ.out, Bool.true_and, hhd]; exact hh
      generalize plN h ts[k] = P1 at HC HNo HUp
      generalize likeD ts[k] ts[0] = L1 at HLk HNo HUp
      clear hrow ht hu hkt h0t hhd HU
      have HBl := Hid.mk hbl
      clear hbl
      go_wp2_with fail
      refine HC.out.mono ?_
      rintro e w2 ⟨rfl, hb2⟩
      have HX2 := Hid.mk (HX.out.keep hb2)
      have HB2 := Hid.mk hb2
      cases P1 with
      | false =>
        have HF := Hid.mk (HNo.out rfl)
        clear hb2
        go_wp2_with fail
        go_ret
        exact ⟨by rw [HF.out]; rfl, HX2.out.below⟩
      | true =>
        have q0 : w2.cell? ⟨w.heap.size, 0, none⟩ = some (.int .i64 kd) := HX2.out.one 0
        have q3 : w2.cell? ⟨w.heap.size, 3, none⟩ = some (.slice (some ⟨b, off, none⟩) N icap) := HX2.out.one 3
        have e0 := (hb2.cell (p := ⟨b, off + k * 5, none⟩) HBl.out).trans c0
        have e1 := (hb2.cell (p := ⟨b, off + k * 5 + 1, none⟩) HBl.out).trans c1
        have e2 := (hb2.cell (p := ⟨b, off + k * 5 + 2, none⟩) HBl.out).trans c2
        have e3 := (hb2.cell (p := ⟨b, off + k * 5 + 3, none⟩) HBl.out).trans c3
        have e4 := (hb2.cell (p := ⟨b, off + k * 5 + 4, none⟩) HBl.out).trans c4
        have f0 := (hb2.cell (p := ⟨b, off, none⟩) HBl.out).trans d0
        have f1 := (hb2.cell (p := ⟨b, off + 1, none⟩) HBl.out).trans d1
        have f2 := (hb2.cell (p := ⟨b, off + 2, none⟩) HBl.out).trans d2
        have f3 := (hb2.cell (p := ⟨b, off + 3, none⟩) HBl.out).trans d3
        have f4 := (hb2.cell (p := ⟨b, off + 4, none⟩) HBl.out).trans d4
        have HL2 := Hid.mk (fun (d : Nat) (os : Array Obj) => HLk.out (grow (redrawn w2 d) os) (HB2.out.trans ((below_regrown w2 d os).mono HB2.out.size)))
        clear hb2 c0 c1 c2 c3 c4 d0 d1 d2 d3 d4 p0 p3 HC HLk
        have Aq0 := fun d os => cell_regrown q0 d os
        have Aq3 := fun d os => cell_regrown q3 d os
        have Ae0 := fun d os => cell_regrown e0 d os
        have Ae1 := fun d os => cell_regrown e1 d os
        have Ae2 := fun d os => cell_regrown e2 d os
        have Ae3 := fun d os => cell_regrown e3 d os
        have Ae4 := fun d os => cell_regrown e4 d os
        have Af0 := fun d os => cell_regrown f0 d os
        have Af1 := fun d os => cell_regrown f1 d os
        have Af2 := fun d os => cell_regrown f2 d os
        have Af3 := fun d os => cell_regrown f3 d os
        have Af4 := fun d os => cell_regrown f4 d os
        by_cases hk5 : kd = 5
        · have hk5b : (kd == 5) = true := by rw [hk5]; rfl
          cases L1 with
          | false =>
            have HF := Hid.mk (HNo.out (by rw [hk5]; rfl))
            clear hk5
            go_wp2_with fail
            refine wp_region_quiet_below (by kernel_rfl) (by kernel_rfl) ?_
            repeat (go_big_quiet_step (exact Calls.regrown_of (HL2.out _ _)))
            refine wpQuiet_nil ?_
            intro w9 hw'
            have hbw9 : Below w2.heap.size w2 w9 := by
              obtain ⟨⟨dq, osq⟩, rfl⟩ := hw'
              exact below_regrown w2 dq osq
            clear hw'
            have HX3 := Hid.mk (HX2.out.keep hbw9)
            clear hbw9 Aq0 q0 Aq3 q3 Ae0 e0 Ae1 e1 Ae2 e2 Ae3 e3 Ae4 e4 Af0 f0 Af1 f1 Af2 f2 Af3 f3 Af4 f4
            go_wp2_with fail
            go_ret
            exact ⟨by rw [HF.out]; rfl, HX3.out.below⟩
          | true =>
            have HN := Hid.mk (HUp.out (by simp))
            clear hk5
            go_wp2_with fail
            refine wp_region_quiet_below (by kernel_rfl) (by kernel_rfl) ?_
            repeat (go_big_quiet_step (exact Calls.regrown_of (HL2.out _ _)))
            refine wpQuiet_nil ?_
            intro w9 hw'
            have hbw9 : Below w2.heap.size w2 w9 := by
              obtain ⟨⟨dq, osq⟩, rfl⟩ := hw'
              exact below_regrown w2 dq osq
            clear hw'
            have HX3 := Hid.mk (HX2.out.keep hbw9)
            clear hbw9 Aq0 q0 Aq3 q3 Ae0 e0 Ae1 e1 Ae2 e2 Ae3 e3 Ae4 e4 Af0 f0 Af1 f1 Af2 f2 Af3 f3 Af4 f4
            go_wp2_with fail
            go_roundw
            case rel => exact ⟨k + 1, hlt, by go_num, HX3, HN⟩
            case measure => simp [intOf]; omega
        · have hk5b : (kd == 5) = false := by simpa using hk5
          have HN := Hid.mk (HUp.out (by simp [hk5]))
          clear hk5
          go_wp2_with fail
          refine wp_region_quiet_below (by kernel_rfl) (by kernel_rfl) ?_
          repeat (go_big_quiet_step (exact Calls.regrown_of (HL2.out _ _)))
          refine wpQuiet_nil ?_
          intro w9 hw'
          have hbw9 : Below w2.heap.size w2 w9 := by
            obtain ⟨⟨dq, osq⟩, rfl⟩ := hw'
            exact below_regrown w2 dq osq
          clear hw'
          have HX3 := Hid.mk (HX2.out.keep hbw9)
          clear hbw9 Aq0 q0 Aq3 q3 Ae0 e0 Ae1 e1 Ae2 e2 Ae3 e3 Ae4 e4 Af0 f0 Af1 f1 Af2 f2 Af3 f3 Af4 f4
          go_wp2_with fail
          go_roundw
          case rel => exact ⟨k + 1, hlt, by go_num, HX3, HN⟩
          case measure => simp [intOf]; omega
    · have hl1 : ¬ (k : Int) < (N : Int) := by omega
      have HT : Hid (R = true) := by
        have h1 := HQ.out
        rw [List.take_of_length_le (by rw [HNN.out]; omega)] at h1
        exact HR.out.symm.trans h1
      go_wp2_with fail
      go_ret
      exact ⟨by rw [HT.out]; rfl, HX.out.below⟩
theorem w_plain : ∀ h, PlOk h
  | 0 => fun V v w hI => hI.elim
  | h + 1 => fun V v w hI => by
    obtain ⟨io, icap, ko, kcap, rfl, a1, a2, a3, a4, a5, a6, a7, hk, hi⟩ := hI.open
    unfold plN
    by_cases hK : 12 < V.keys.length
    · rw [decide_eq_true hK]
      exact plain_many _ _ _ _ _ _ _ _ _ w hK
    · rw [decide_eq_false hK, Bool.not_false, Bool.true_and]
      exact plain_few h (w_plain h) _ _ _ _ _ _ _ _ _ V.items w hi rfl a5 a3 hK
end Go.Proofs.Ytdjoelhiahpmlaa
namespace Go.Proofs.Ytdjoelhiahpmlaa
open Go.RowKit Go.Shelf Go.Sort
set_option linter.unusedVariables false
set_option linter.unusedSimpArgs false
attribute [local go_sem] Oper.semAt_some

/-- the bit of a kind -/
def bv (k : Int) : Int := if k = 0 then 1 else if k = 1 then 2 else if k = 2 then 4 else if k = 3 then 8 else if k = 4 then 16 else if k = 5 then 32 else 64
def isK (k : Int) : Prop := k = 0 ∨ k = 1 ∨ k = 2 ∨ k = 3 ∨ k = 4 ∨ k = 5 ∨ k = 6
theorem isK_of {hv : Nat} {V : VT} (hf : formN hv V = true) : isK V.kind := by
  obtain ⟨m, rfl⟩ := form_pos hf
  unfold isK
  rcases kind_of hf with k | k | k | ⟨k, _⟩ | k | k | k <;> simp [k]
theorem w_bitK (k : Int) (hk : isK k) (w : World) : Calls Try.prog 39 #[.int .i64 k] w fun e w' => e = .returned (.int .u8 (bv k)) ∧ w' = w := by
  rcases hk with rfl | rfl | rfl | rfl | rfl | rfl | rfl
  · exact w_bitn0 w
  · exact w_bitn1 w
  · exact w_bitn2 w
  · exact w_bitn3 w
  · exact w_bitn4 w
  · exact w_bitn5 w
  · exact w_bitn6 w
set_option maxRecDepth 100000 in
theorem or_row0 : ∀ a0 a1 a2 a3 a4 a5 a6 : Bool, bits .or .u8 (kvL [a0, a1, a2, a3, a4, a5, a6]) 1 = kvL [true, a1, a2, a3, a4, a5, a6] := by decide +kernel
set_option maxRecDepth 100000 in
theorem or_row1 : ∀ a0 a1 a2 a3 a4 a5 a6 : Bool, bits .or .u8 (kvL [a0, a1, a2, a3, a4, a5, a6]) 2 = kvL [a0, true, a2, a3, a4, a5, a6] := by decide +kernel
set_option maxRecDepth 100000 in
theorem or_row2 : ∀ a0 a1 a2 a3 a4 a5 a6 : Bool, bits .or .u8 (kvL [a0, a1, a2, a3, a4, a5, a6]) 4 = kvL [a0, a1, true, a3, a4, a5, a6] := by decide +kernel
set_option maxRecDepth 100000 in
theorem or_row3 : ∀ a0 a1 a2 a3 a4 a5 a6 : Bool, bits .or .u8 (kvL [a0, a1, a2, a3, a4, a5, a6]) 8 = kvL [a0, a1, a2, true, a4, a5, a6] := by decide +kernel
set_option maxRecDepth 100000 in
theorem or_row4 : ∀ a0 a1 a2 a3 a4 a5 a6 : Bool, bits .or .u8 (kvL [a0, a1, a2, a3, a4, a5, a6]) 16 = kvL [a0, a1, a2, a3, true, a5, a6] := by decide +kernel
set_option maxRecDepth 100000 in
theorem or_row5 : ∀ a0 a1 a2 a3 a4 a5 a6 : Bool, bits .or .u8 (kvL [a0, a1, a2, a3, a4, a5, a6]) 32 = kvL [a0, a1, a2, a3, a4, true, a6] := by decide +kernel
set_option maxRecDepth 100000 in
theorem or_row6 : ∀ a0 a1 a2 a3 a4 a5 a6 : Bool, bits .or .u8 (kvL [a0, a1, a2, a3, a4, a5, a6]) 64 = kvL [a0, a1, a2, a3, a4, a5, true] := by decide +kernel
theorem anyK_up {its : List VT} {k : Nat} (hk : k < its.length) (j : Int) : anyK (its.take (k + 1)) j = (anyK (its.take k) j || decide (its[k].kind = j)) := any_up hk
theorem row_up {its : List VT} {k : Nat} (hk : k < its.length) (hK : isK its[k].kind) : bits .or .u8 (rowK (its.take k)) (bv its[k].kind) = rowK (its.take (k + 1)) := by
  unfold rowK
  simp only [anyK_up hk]
  rcases hK with e | e | e | e | e | e | e <;> rw [e]
  · exact (or_row0 _ _ _ _ _ _ _).trans (by simp)
  · exact (or_row1 _ _ _ _ _ _ _).trans (by simp)
  · exact (or_row2 _ _ _ _ _ _ _).trans (by simp)
  · exact (or_row3 _ _ _ _ _ _ _).trans (by simp)
  · exact (or_row4 _ _ _ _ _ _ _).trans (by simp)
  · exact (or_row5 _ _ _ _ _ _ _).trans (by simp)
  · exact (or_row6 _ _ _ _ _ _ _).trans (by simp)
theorem row_rg (its : List VT) : 0 ≤ rowK its ∧ rowK its < 256 := by
  have := kv_rg (anyK its 0) (anyK its 1) (anyK its 2) (anyK its 3) (anyK its 4) (anyK its 5) (anyK its 6)
  unfold rowK
  omega
theorem row_nil : rowK [] = 0 := by decide +kernel

set_option maxRecDepth 100000 in
set_option maxHeartbeats 6400000 in
/-- the type of the kinds of some values -/
theorem w_common (h : Nat) (hh : Nat) (io : Option Addr) (N icap : Nat) (ts : List VT) (w : World) (hi : IIn w h io ts) (hN : ts.length = N) (hcap : N ≤ icap) (hN2 : N ≤ 140737488355328) (hK : ∀ x ∈ ts, isK x.kind) (hh9 : hh ≤ 9) :
    Calls Try.prog 56 #[.slice io N icap, .int .i64 (hh : Int)] w fun e w' => (∃ v, e = .returned v ∧ Hid (FrT w.heap.size w' 2 (comN hh ts) v)) ∧ Below w.heap.size w w' := by
  have HI := Hid.mk hi
  have HNN := Hid.mk hN
  have HKK := Hid.mk hK
  have HCO := Hid.mk (com_row hh ts)
  generalize comN hh ts = CT at HCO ⊢
  have HOK := Hid.mk (w_sOfKindsF (rowK ts) (row_rg ts))
  clear hi hN hK
  obtain ⟨W0, hW0⟩ : ∃ W0, w.alloc (.cells #[.bool false, .bool false, .bool false, .bool false, .slice none 0 0, .bool false, .slice none 0 0, .slice none 0 0, .slice none 0 0] 33) = W0 := ⟨_, rfl⟩
  have HB0 : Hid (Below w.heap.size w W0) := by rw [← hW0]; exact (Below.refl _ w).alloc (Nat.le_refl _) _
  have HR0 : Hid (W0.heap[w.heap.size]? = some (.cells #[.bool false, .bool false, .bool false, .bool false, .slice none 0 0, .bool false, .slice none 0 0, .slice none 0 0, .slice none 0 0] 33 (0, 0))) := by show _ = _; rw [← hW0]; exact World.alloc_heap_new w _
  by_cases h1 : hh ≤ 1
  · have hx : (hh : Int) ≤ 1 := by omega
    have HT : Hid (CT = ttEv) := by show _ = _; rw [HCO.out, if_pos h1]
    go_enter Try.func56, Try.ntmps56
    go_wp2_with fail
    refine (w_sfEvery _).mono ?_
    rintro e w1 ⟨rfl, hq⟩
    have HB1 := Hid.mk (HB0.out.trans (hq.mono HB0.out.size))
    have HR1 : Hid (w1.heap[w.heap.size]? = _) := (hq.block _ (lt_of_row HR0.out)).trans HR0.out
    clear hq hW0
    have g0 := cell_of_row _ _ 0 _ _ _ HR1.out
    have f0 := frozen_row9 (j := 0) HR1.out
    have g1 := cell_of_row _ _ 1 _ _ _ HR1.out
    have f1 := frozen_row9 (j := 1) HR1.out
    have g2 := cell_of_row _ _ 2 _ _ _ HR1.out
    have f2 := frozen_row9 (j := 2) HR1.out
    have g3 := cell_of_row _ _ 3 _ _ _ HR1.out
    have f3 := frozen_row9 (j := 3) HR1.out
    have g4 := cell_of_row _ _ 4 _ _ _ HR1.out
    have f4 := frozen_row9 (j := 4) HR1.out
    have g5 := cell_of_row _ _ 5 _ _ _ HR1.out
    have f5 := frozen_row9 (j := 5) HR1.out
    have g6 := cell_of_row _ _ 6 _ _ _ HR1.out
    have f6 := frozen_row9 (j := 6) HR1.out
    have g7 := cell_of_row _ _ 7 _ _ _ HR1.out
    have f7 := frozen_row9 (j := 7) HR1.out
    have g8 := cell_of_row _ _ 8 _ _ _ HR1.out
    have f8 := frozen_row9 (j := 8) HR1.out
    go_wp2_with fail
    (try simp only [Exit.inBlock, Exit.then])
    generalize hz9 : ((((((((w1.setCell ⟨w.heap.size, 0, none⟩ (.bool true)).setCell ⟨w.heap.size, 1, none⟩ (.bool false)).setCell ⟨w.heap.size, 2, none⟩ (.bool false)).setCell ⟨w.heap.size, 3, none⟩ (.bool false)).setCell ⟨w.heap.size, 4, none⟩ (.slice none 0 0)).setCell ⟨w.heap.size, 5, none⟩ (.bool false)).setCell ⟨w.heap.size, 6, none⟩ (.slice none 0 0)).setCell ⟨w.heap.size, 7, none⟩ (.slice none 0 0)).setCell ⟨w.heap.size, 8, none⟩ (.slice none 0 0) = wz
    obtain ⟨e7, k7, s7⟩ := rbox_set9 w1 _ _ _ _ _ _ _ _ _ _ _ _ _ _ _ _ _ _ _ _ (HR1.out) wz hz9.symm
    have d0 := cell_of_row _ _ 0 _ _ _ e7
    have d1 := cell_of_row _ _ 1 _ _ _ e7
    have d2 := cell_of_row _ _ 2 _ _ _ e7
    have d3 := cell_of_row _ _ 3 _ _ _ e7
    have d4 := cell_of_row _ _ 4 _ _ _ e7
    have d5 := cell_of_row _ _ 5 _ _ _ e7
    have d6 := cell_of_row _ _ 6 _ _ _ e7
    have d7 := cell_of_row _ _ 7 _ _ _ e7
    have d8 := cell_of_row _ _ 8 _ _ _ e7
    have hbz : Below w.heap.size w wz := by rw [← hz9]; exact (((((((((HB1.out.setCell (p := ⟨w.heap.size, 0, none⟩) (by show w.heap.size ≤ w.heap.size; omega) _).setCell (p := ⟨w.heap.size, 1, none⟩) (by show w.heap.size ≤ w.heap.size; omega) _).setCell (p := ⟨w.heap.size, 2, none⟩) (by show w.heap.size ≤ w.heap.size; omega) _).setCell (p := ⟨w.heap.size, 3, none⟩) (by show w.heap.size ≤ w.heap.size; omega) _).setCell (p := ⟨w.heap.size, 4, none⟩) (by show w.heap.size ≤ w.heap.size; omega) _).setCell (p := ⟨w.heap.size, 5, none⟩) (by show w.heap.size ≤ w.heap.size; omega) _).setCell (p := ⟨w.heap.size, 6, none⟩) (by show w.heap.size ≤ w.heap.size; omega) _).setCell (p := ⟨w.heap.size, 7, none⟩) (by show w.heap.size ≤ w.heap.size; omega) _).setCell (p := ⟨w.heap.size, 8, none⟩) (by show w.heap.size ≤ w.heap.size; omega) _)
    refine bodyPost_ret (v := .agg #[.bool true, .bool false, .bool false, .bool false, .slice none 0 0, .bool false, .slice none 0 0, .slice none 0 0, .slice none 0 0]) (by simp [results, Try.results56, go_sem, d0, d1, d2, d3, d4, d5, d6, d7, d8]) rfl ?_
    exact ⟨⟨_, rfl, by rw [HT.out]; exact Hid.mk (fun x _ _ => inT_evr x 1)⟩, hbz⟩
  · have hx : ¬ (hh : Int) ≤ 1 := by omega
    have HT : Hid (CT = widT (rowK ts)) := by show _ = _; rw [HCO.out, if_neg h1]
    go_enter Try.func56, Try.ntmps56
    go_wp2_with fail
    go_loopw [5, 13] (fun r i wr => ∃ k : Nat, k ≤ N ∧ i = .int .i64 (k : Int) ∧ (∃ rv, r = .int .u8 rv ∧ Hid (rv = rowK (ts.take k))) ∧ Hid (Below w.heap.size w wr) ∧ Hid (wr.heap[w.heap.size]? = some (.cells #[.bool false, .bool false, .bool false, .bool false, .slice none 0 0, .bool false, .slice none 0 0, .slice none 0 0, .slice none 0 0] 33 (0, 0)))) (fun _ i _ => N - (intOf i).toNat)
    case atStart => exact ⟨0, Nat.zero_le _, rfl, ⟨0, rfl, by show _ = _; rw [List.take_zero, row_nil]⟩, HB0, HR0⟩
    case round =>
      obtain ⟨k, hk, rfl, ⟨rv, rfl, HRV⟩, HB, HR⟩ := hrel
      by_cases hlt : k < N
      · have hl1 : (k : Int) < (N : Int) := by omega
        have hkl : k < ts.length := by rw [HNN.out]; exact hlt
        obtain ⟨b, off, hio, hbl, hrow⟩ := (HI.out.keep HB.out).row (by omega)
        subst hio
        obtain ⟨v0, v1, v2, v3, v4, ⟨c0, c1, c2, c3, c4⟩, ht⟩ := hrow k hkl
        obtain ⟨ik, inm, itx, iio, iN, iicap, iko, iK, ikcap, rfl, rfl, rfl, rfl, rfl⟩ := ht.shape
        have hkd : ik = ts[k].kind := by
          cases h with
          | zero => exact ht.elim
          | succ h =>
            obtain ⟨_, _, _, _, e, _⟩ := ht
            simp only [Value.agg.injEq, Array.mk.injEq, List.cons.injEq, Value.int.injEq] at e
            exact e.1.2
        have HBx := Hid.mk (below1 wr (.cells #[.int .i64 ik, .string inm, .string itx, .slice iio iN iicap, .slice iko iK ikcap] 25))
        have HU : Hid (bits .or .u8 rv (bv ik) = rowK (ts.take (k + 1))) := by show _ = _; rw [HRV.out, hkd]; exact row_up hkl (HKK.out _ (List.getElem_mem _))
        have HC := Hid.mk (w_bitK ik (by rw [hkd]; exact HKK.out _ (List.getElem_mem _)))
        have HR2 : Hid ((wr.alloc (.cells #[.int .i64 ik, .string inm, .string itx, .slice iio iN iicap, .slice iko iK ikcap] 25)).heap[w.heap.size]? = _) := (HBx.out.block _ (lt_of_row HR.out)).trans HR.out
        have HB2 := Hid.mk (HB.out.trans (HBx.out.mono HB.out.size))
        clear hrow hbl ht hkl hkd
        go_wp2_with fail
        refine (HC.out _).mono ?_
        rintro e w2 ⟨rfl, rfl⟩
        go_wp2_with fail
        go_roundw
        case rel => exact ⟨k + 1, hlt, by go_num, ⟨_, rfl, HU⟩, HB2, HR2⟩
        case measure => simp [intOf]; omega
      · have hl1 : ¬ (k : Int) < (N : Int) := by omega
        have hrv : rv = rowK ts := by
          have e := HRV.out
          rw [List.take_of_length_le (by rw [HNN.out]; omega)] at e
          exact e
        subst hrv
        go_wp2_with fail
        refine (HOK.out _).mono ?_
        rintro e w3 ⟨⟨vw, rfl, hF⟩, hq⟩
        have HB3 := Hid.mk (HB.out.trans (hq.mono HB.out.size))
        have HR3 : Hid (w3.heap[w.heap.size]? = _) := (hq.block _ (lt_of_row HR.out)).trans HR.out
        have HL := Hid.mk (lt_of_row HR.out)
        clear hq
        have hF2 := hF.out.here
        obtain ⟨ta, tb, tc, td, ⟨teo, ten, tec⟩, tf, ⟨tgo, tgn, tgc⟩, ⟨tio, tinn, tic⟩, ⟨tjo, tjn, tjc⟩, esht⟩ := inT_shape hF2
        simp only [Value.agg.injEq, Array.mk.injEq, List.cons.injEq, and_true] at esht
        obtain ⟨rfl, rfl, rfl, rfl, rfl, rfl, rfl, rfl, rfl⟩ := esht
        clear hF2
        have g0 := cell_of_row _ _ 0 _ _ _ HR3.out
        have f0 := frozen_row9 (j := 0) HR3.out
        have g1 := cell_of_row _ _ 1 _ _ _ HR3.out
        have f1 := frozen_row9 (j := 1) HR3.out
        have g2 := cell_of_row _ _ 2 _ _ _ HR3.out
        have f2 := frozen_row9 (j := 2) HR3.out
        have g3 := cell_of_row _ _ 3 _ _ _ HR3.out
        have f3 := frozen_row9 (j := 3) HR3.out
        have g4 := cell_of_row _ _ 4 _ _ _ HR3.out
        have f4 := frozen_row9 (j := 4) HR3.out
        have g5 := cell_of_row _ _ 5 _ _ _ HR3.out
        have f5 := frozen_row9 (j := 5) HR3.out
        have g6 := cell_of_row _ _ 6 _ _ _ HR3.out
        have f6 := frozen_row9 (j := 6) HR3.out
        have g7 := cell_of_row _ _ 7 _ _ _ HR3.out
        have f7 := frozen_row9 (j := 7) HR3.out
        have g8 := cell_of_row _ _ 8 _ _ _ HR3.out
        have f8 := frozen_row9 (j := 8) HR3.out
        go_wp2_with fail
        (try simp only [Exit.inBlock, Exit.then])
        generalize hz9 : ((((((((w3.setCell ⟨w.heap.size, 0, none⟩ (.bool ta)).setCell ⟨w.heap.size, 1, none⟩ (.bool tb)).setCell ⟨w.heap.size, 2, none⟩ (.bool tc)).setCell ⟨w.heap.size, 3, none⟩ (.bool td)).setCell ⟨w.heap.size, 4, none⟩ (.slice teo ten tec)).setCell ⟨w.heap.size, 5, none⟩ (.bool tf)).setCell ⟨w.heap.size, 6, none⟩ (.slice tgo tgn tgc)).setCell ⟨w.heap.size, 7, none⟩ (.slice tio tinn tic)).setCell ⟨w.heap.size, 8, none⟩ (.slice tjo tjn tjc) = wz
        obtain ⟨e7, k7, s7⟩ := rbox_set9 w3 _ _ _ _ _ _ _ _ _ _ _ _ _ _ _ _ _ _ _ _ (HR3.out) wz hz9.symm
        have d0 := cell_of_row _ _ 0 _ _ _ e7
        have d1 := cell_of_row _ _ 1 _ _ _ e7
        have d2 := cell_of_row _ _ 2 _ _ _ e7
        have d3 := cell_of_row _ _ 3 _ _ _ e7
        have d4 := cell_of_row _ _ 4 _ _ _ e7
        have d5 := cell_of_row _ _ 5 _ _ _ e7
        have d6 := cell_of_row _ _ 6 _ _ _ e7
        have d7 := cell_of_row _ _ 7 _ _ _ e7
        have d8 := cell_of_row _ _ 8 _ _ _ e7
        have hbz : Below w.heap.size w wz := by rw [← hz9]; exact (((((((((HB3.out.setCell (p := ⟨w.heap.size, 0, none⟩) (by show w.heap.size ≤ w.heap.size; omega) _).setCell (p := ⟨w.heap.size, 1, none⟩) (by show w.heap.size ≤ w.heap.size; omega) _).setCell (p := ⟨w.heap.size, 2, none⟩) (by show w.heap.size ≤ w.heap.size; omega) _).setCell (p := ⟨w.heap.size, 3, none⟩) (by show w.heap.size ≤ w.heap.size; omega) _).setCell (p := ⟨w.heap.size, 4, none⟩) (by show w.heap.size ≤ w.heap.size; omega) _).setCell (p := ⟨w.heap.size, 5, none⟩) (by show w.heap.size ≤ w.heap.size; omega) _).setCell (p := ⟨w.heap.size, 6, none⟩) (by show w.heap.size ≤ w.heap.size; omega) _).setCell (p := ⟨w.heap.size, 7, none⟩) (by show w.heap.size ≤ w.heap.size; omega) _).setCell (p := ⟨w.heap.size, 8, none⟩) (by show w.heap.size ≤ w.heap.size; omega) _)
        refine bodyPost_ret (v := .agg #[.bool ta, .bool tb, .bool tc, .bool td, .slice teo ten tec, .bool tf, .slice tgo tgn tgc, .slice tio tinn tic, .slice tjo tjn tjc]) (by simp [results, Try.results56, go_sem, d0, d1, d2, d3, d4, d5, d6, d7, d8]) rfl ?_
        exact ⟨⟨_, rfl, by rw [HT.out]; exact Hid.mk (((hF.out.set s7 (fun b hb => k7 b (by have := HL.out; omega))).mono (by have := HL.out; omega)))⟩, hbz⟩
end Go.Proofs.Ytdjoelhiahpmlaa
namespace Go.Proofs.Ytdjoelhiahpmlaa
open Go.RowKit Go.Shelf Go.Sort
set_option linter.unusedVariables false
set_option linter.unusedSimpArgs false
attribute [local go_sem] Oper.semAt_some

theorem cell_same {x W : World} {b : Nat} (h : x.heap[b]? = W.heap[b]?) (j : Nat) : x.cell? ⟨b, j, none⟩ = W.cell? ⟨b, j, none⟩ := by unfold World.cell?; rw [h]
set_option maxRecDepth 100000 in
set_option maxHeartbeats 1600000 in
theorem near_num (nm tx : ByteArray) (io : Option Addr) (NI icap : Nat) (ko : Option Addr) (NK kcap : Nat) (h : Int) (w : World) : Calls Try.prog 21 #[.agg #[.int .i64 3, .string nm, .string tx, .slice io NI icap, .slice ko NK kcap], .int .i64 h] w fun e w' => ∃ b, e = .returned (.agg #[.bool false, .bool false, .bool false, .bool false, .slice (some ⟨b, 0, none⟩) 1 1, .bool false, .slice none 0 0, .slice none 0 0, .slice none 0 0]) ∧ (w.heap.size ≤ b ∧ b < w'.heap.size ∧ w'.cell? ⟨b, 0, none⟩ = some (.string nm) ∧ w'.cell? ⟨b, 1, none⟩ = some (.string nm)) ∧ Below w.heap.size w w' := by
  go_enter Try.func21, Try.ntmps21
  go_wp2_with fail
  (try simp only [Exit.inBlock, Exit.then])
  refine bodyPost_ret (v := .agg #[.bool false, .bool false, .bool false, .bool false, .slice (some ⟨w.heap.size + 1 + 1, 0, none⟩) 1 1, .bool false, .slice none 0 0, .slice none 0 0, .slice none 0 0]) (by simp [results, Try.results21, go_sem]) rfl ?_
  exact ⟨_, rfl, ⟨by omega, by first | (simp; done) | (simp; omega), by simp [go_sem], by simp [go_sem]⟩, (((Below.refl _ w).alloc (Nat.le_refl _) _).alloc (by simp) _).alloc (by simp; omega) _⟩
set_option maxRecDepth 100000 in
set_option maxHeartbeats 1600000 in
theorem near_text (nm tx : ByteArray) (io : Option Addr) (NI icap : Nat) (ko : Option Addr) (NK kcap : Nat) (h : Int) (w : World) : Calls Try.prog 21 #[.agg #[.int .i64 4, .string nm, .string tx, .slice io NI icap, .slice ko NK kcap], .int .i64 h] w fun e w' => ∃ b, e = .returned (.agg #[.bool false, .bool false, .bool false, .bool false, .slice none 0 0, .bool false, .slice (some ⟨b, 0, none⟩) 1 1, .slice none 0 0, .slice none 0 0]) ∧ (w.heap.size ≤ b ∧ b < w'.heap.size ∧ w'.cell? ⟨b, 0, none⟩ = some (.string tx)) ∧ Below w.heap.size w w' := by
  go_enter Try.func21, Try.ntmps21
  go_wp2_with fail
  (try simp only [Exit.inBlock, Exit.then])
  refine bodyPost_ret (v := .agg #[.bool false, .bool false, .bool false, .bool false, .slice none 0 0, .bool false, .slice (some ⟨w.heap.size + 1 + 1, 0, none⟩) 1 1, .slice none 0 0, .slice none 0 0]) (by simp [results, Try.results21, go_sem]) rfl ?_
  exact ⟨_, rfl, ⟨by omega, by first | (simp; done) | (simp; omega), by simp [go_sem]⟩, (((Below.refl _ w).alloc (Nat.le_refl _) _).alloc (by simp) _).alloc (by simp; omega) _⟩
theorem fr_num {w W : World} {b : Nat} {n : ByteArray} (m : Nat) (hn : n.size ≤ 140737488355328) (h : w.heap.size ≤ b ∧ b < W.heap.size ∧ W.cell? ⟨b, 0, none⟩ = some (.string n) ∧ W.cell? ⟨b, 1, none⟩ = some (.string n)) : FrT w.heap.size W (m + 1) (.mk false false false false false [(n, n)] [] [] []) (.agg #[.bool false, .bool false, .bool false, .bool false, .slice (some ⟨b, 0, none⟩) 1 1, .bool false, .slice none 0 0, .slice none 0 0, .slice none 0 0]) := by
  obtain ⟨h1, h2, h3, h4⟩ := h
  intro x hs hx
  have hc := cell_same (hx b h1 h2)
  refine ⟨some ⟨b, 0, none⟩, 1, none, 0, none, 0, none, 0, rfl, ⟨Nat.le_refl _, Nat.le_refl _, Nat.le_refl _, Nat.le_refl _⟩, ⟨by show 1 ≤ _; decide, Nat.zero_le _, Nat.zero_le _, Nat.zero_le _⟩, fun p hp => ?_, fun p hp => absurd hp (List.not_mem_nil), ⟨fun _ => ⟨b, 0, rfl, by omega, fun i hi => ?_⟩⟩, ⟨fun h => absurd h (Nat.lt_irrefl 0)⟩, fun h => absurd h (Nat.lt_irrefl 0), fun h => absurd h (Nat.lt_irrefl 0)⟩
  · obtain rfl : p = (n, n) := List.mem_singleton.1 hp
    exact ⟨hn, hn⟩
  · have hi0 : i = 0 := by
      have : i < 1 := hi
      omega
    subst hi0
    exact ⟨(hc 0).trans h3, (hc 1).trans h4⟩
theorem fr_text {w W : World} {b : Nat} {n : ByteArray} (m : Nat) (hn : n.size ≤ 140737488355328) (h : w.heap.size ≤ b ∧ b < W.heap.size ∧ W.cell? ⟨b, 0, none⟩ = some (.string n)) : FrT w.heap.size W (m + 1) (.mk false false false false false [] [n] [] []) (.agg #[.bool false, .bool false, .bool false, .bool false, .slice none 0 0, .bool false, .slice (some ⟨b, 0, none⟩) 1 1, .slice none 0 0, .slice none 0 0]) := by
  obtain ⟨h1, h2, h3⟩ := h
  intro x hs hx
  have hc := cell_same (hx b h1 h2)
  refine ⟨none, 0, some ⟨b, 0, none⟩, 1, none, 0, none, 0, rfl, ⟨Nat.le_refl _, Nat.le_refl _, Nat.le_refl _, Nat.le_refl _⟩, ⟨Nat.zero_le _, by show 1 ≤ _; decide, Nat.zero_le _, Nat.zero_le _⟩, fun p hp => absurd hp (List.not_mem_nil), fun p hp => ?_, ⟨fun h => absurd h (Nat.lt_irrefl 0)⟩, ⟨fun _ => ⟨b, 0, rfl, by omega, fun i hi => ?_⟩⟩, fun h => absurd h (Nat.lt_irrefl 0), fun h => absurd h (Nat.lt_irrefl 0)⟩
  · obtain rfl : p = n := List.mem_singleton.1 hp
    exact hn
  · have hi0 : i = 0 := by
      have : i < 1 := hi
      omega
    subst hi0
    exact (hc 0).trans h3
set_option maxRecDepth 100000 in
theorem wid_bv : widT (bv 0) = .mk false true false false false [] [] [] [] ∧ widT (bv 1) = .mk false false true false false [] [] [] [] ∧ widT (bv 2) = .mk false false false true false [] [] [] [] := ⟨rfl, rfl, rfl⟩
/-- near answers so at a height -/
def NrC (h : Nat) : Prop := ∀ (hv : Nat) (V : VT) (vv : Value) (u : World), InH u hv V vv → formN hv V = true → Calls Try.prog 21 #[vv, .int .i64 (h : Int)] u fun e w' => (∃ v, e = .returned v ∧ Hid (FrT u.heap.size w' (h + 2) (nrN h V) v)) ∧ Below u.heap.size u w'

set_option maxRecDepth 100000 in
set_option maxHeartbeats 3200000 in
/-- near of what holds no others, and is no number and no text: its kind's type -/
theorem near_kind (kd : Int) (nm tx : ByteArray) (io : Option Addr) (NI icap : Nat) (ko : Option Addr) (NK kcap : Nat) (h : Int) (w : World) (hk : kd = 0 ∨ kd = 1 ∨ kd = 2) : Calls Try.prog 21 #[.agg #[.int .i64 kd, .string nm, .string tx, .slice io NI icap, .slice ko NK kcap], .int .i64 h] w fun e w' => (∃ v, e = .returned v ∧ Hid (FrT w.heap.size w' 2 (widT (bv kd)) v)) ∧ Below w.heap.size w w' := by
  have HC := Hid.mk (w_bitK kd (by unfold isK; omega))
  have HOK := Hid.mk (w_sOfKindsF (bv kd) (by rcases hk with rfl | rfl | rfl <;> decide))
  have k3 : (kd == 3) = false := by rcases hk with rfl | rfl | rfl <;> rfl
  have k4 : (kd == 4) = false := by rcases hk with rfl | rfl | rfl <;> rfl
  have k5 : (kd == 5) = false := by rcases hk with rfl | rfl | rfl <;> rfl
  have k6 : (kd == 6) = false := by rcases hk with rfl | rfl | rfl <;> rfl
  clear hk
  generalize widT (bv kd) = WT at HOK ⊢
  obtain ⟨W0, hW0⟩ : ∃ W0, (w.alloc (.cells #[.int .i64 kd, .string nm, .string tx, .slice io NI icap, .slice ko NK kcap] 25)).alloc (.cells #[.bool false, .bool false, .bool false, .bool false, .slice none 0 0, .bool false, .slice none 0 0, .slice none 0 0, .slice none 0 0] 33) = W0 := ⟨_, rfl⟩
  have HB0 : Hid (Below w.heap.size w W0) := by rw [← hW0]; exact ((Below.refl _ w).alloc (Nat.le_refl _) _).alloc (by simp) _
  have HR0 : Hid (W0.heap[w.heap.size + 1]? = some (.cells #[.bool false, .bool false, .bool false, .bool false, .slice none 0 0, .bool false, .slice none 0 0, .slice none 0 0, .slice none 0 0] 33 (0, 0))) := by
    show _ = _
    rw [← hW0]
    have h := World.alloc_heap_new (w.alloc (.cells #[.int .i64 kd, .string nm, .string tx, .slice io NI icap, .slice ko NK kcap] 25)) (.cells #[.bool false, .bool false, .bool false, .bool false, .slice none 0 0, .bool false, .slice none 0 0, .slice none 0 0, .slice none 0 0] 33)
    rw [World.size_alloc] at h
    exact h
  have HV0 : Hid (W0.heap[w.heap.size]? = some (.cells #[.int .i64 kd, .string nm, .string tx, .slice io NI icap, .slice ko NK kcap] 25 (0, 0))) := by
    show _ = _
    rw [← hW0]
    exact (Below.heap_alloc _ _ _ (by simp)).trans (World.alloc_heap_new w _)
  have c0 := cell_of_row _ _ 0 _ _ _ HV0.out
  have c1 := cell_of_row _ _ 1 _ _ _ HV0.out
  have c2 := cell_of_row _ _ 2 _ _ _ HV0.out
  have c3 := cell_of_row _ _ 3 _ _ _ HV0.out
  have c4 := cell_of_row _ _ 4 _ _ _ HV0.out
  go_enter Try.func21, Try.ntmps21
  go_wp2_with fail
  refine (HC.out _).mono ?_
  rintro e w2 ⟨rfl, rfl⟩
  go_wp2_with fail
  refine (HOK.out _).mono ?_
  rintro e w3 ⟨⟨vw, rfl, hF⟩, hq⟩
  have HB3 := Hid.mk (HB0.out.trans (hq.mono HB0.out.size))
  have HR3 : Hid (w3.heap[w.heap.size + 1]? = _) := (hq.block _ (lt_of_row HR0.out)).trans HR0.out
  have HL := Hid.mk (lt_of_row HR0.out)
  clear hq
  have hF2 := hF.out.here
  obtain ⟨ta, tb, tc, td, ⟨teo, ten, tec⟩, tf, ⟨tgo, tgn, tgc⟩, ⟨tio, tinn, tic⟩, ⟨tjo, tjn, tjc⟩, esht⟩ := inT_shape hF2
  simp only [Value.agg.injEq, Array.mk.injEq, List.cons.injEq, and_true] at esht
  obtain ⟨rfl, rfl, rfl, rfl, rfl, rfl, rfl, rfl, rfl⟩ := esht
  clear hF2
  have g0 := cell_of_row _ _ 0 _ _ _ HR3.out
  have f0 := frozen_row9 (j := 0) HR3.out
  have g1 := cell_of_row _ _ 1 _ _ _ HR3.out
  have f1 := frozen_row9 (j := 1) HR3.out
  have g2 := cell_of_row _ _ 2 _ _ _ HR3.out
  have f2 := frozen_row9 (j := 2) HR3.out
  have g3 := cell_of_row _ _ 3 _ _ _ HR3.out
  have f3 := frozen_row9 (j := 3) HR3.out
  have g4 := cell_of_row _ _ 4 _ _ _ HR3.out
  have f4 := frozen_row9 (j := 4) HR3.out
  have g5 := cell_of_row _ _ 5 _ _ _ HR3.out
  have f5 := frozen_row9 (j := 5) HR3.out
  have g6 := cell_of_row _ _ 6 _ _ _ HR3.out
  have f6 := frozen_row9 (j := 6) HR3.out
  have g7 := cell_of_row _ _ 7 _ _ _ HR3.out
  have f7 := frozen_row9 (j := 7) HR3.out
  have g8 := cell_of_row _ _ 8 _ _ _ HR3.out
  have f8 := frozen_row9 (j := 8) HR3.out
  go_wp2_with fail
  (try simp only [Exit.inBlock, Exit.then])
  generalize hz9 : ((((((((w3.setCell ⟨w.heap.size + 1, 0, none⟩ (.bool ta)).setCell ⟨w.heap.size + 1, 1, none⟩ (.bool tb)).setCell ⟨w.heap.size + 1, 2, none⟩ (.bool tc)).setCell ⟨w.heap.size + 1, 3, none⟩ (.bool td)).setCell ⟨w.heap.size + 1, 4, none⟩ (.slice teo ten tec)).setCell ⟨w.heap.size + 1, 5, none⟩ (.bool tf)).setCell ⟨w.heap.size + 1, 6, none⟩ (.slice tgo tgn tgc)).setCell ⟨w.heap.size + 1, 7, none⟩ (.slice tio tinn tic)).setCell ⟨w.heap.size + 1, 8, none⟩ (.slice tjo tjn tjc) = wz
  obtain ⟨e7, k7, s7⟩ := rbox_set9 w3 _ _ _ _ _ _ _ _ _ _ _ _ _ _ _ _ _ _ _ _ (HR3.out) wz hz9.symm
  have d0 := cell_of_row _ _ 0 _ _ _ e7
  have d1 := cell_of_row _ _ 1 _ _ _ e7
  have d2 := cell_of_row _ _ 2 _ _ _ e7
  have d3 := cell_of_row _ _ 3 _ _ _ e7
  have d4 := cell_of_row _ _ 4 _ _ _ e7
  have d5 := cell_of_row _ _ 5 _ _ _ e7
  have d6 := cell_of_row _ _ 6 _ _ _ e7
  have d7 := cell_of_row _ _ 7 _ _ _ e7
  have d8 := cell_of_row _ _ 8 _ _ _ e7
  have hbz : Below w.heap.size w wz := by rw [← hz9]; exact (((((((((HB3.out.setCell (p := ⟨w.heap.size + 1, 0, none⟩) (by show w.heap.size ≤ w.heap.size + 1; omega) _).setCell (p := ⟨w.heap.size + 1, 1, none⟩) (by show w.heap.size ≤ w.heap.size + 1; omega) _).setCell (p := ⟨w.heap.size + 1, 2, none⟩) (by show w.heap.size ≤ w.heap.size + 1; omega) _).setCell (p := ⟨w.heap.size + 1, 3, none⟩) (by show w.heap.size ≤ w.heap.size + 1; omega) _).setCell (p := ⟨w.heap.size + 1, 4, none⟩) (by show w.heap.size ≤ w.heap.size + 1; omega) _).setCell (p := ⟨w.heap.size + 1, 5, none⟩) (by show w.heap.size ≤ w.heap.size + 1; omega) _).setCell (p := ⟨w.heap.size + 1, 6, none⟩) (by show w.heap.size ≤ w.heap.size + 1; omega) _).setCell (p := ⟨w.heap.size + 1, 7, none⟩) (by show w.heap.size ≤ w.heap.size + 1; omega) _).setCell (p := ⟨w.heap.size + 1, 8, none⟩) (by show w.heap.size ≤ w.heap.size + 1; omega) _)
  refine bodyPost_ret (v := .agg #[.bool ta, .bool tb, .bool tc, .bool td, .slice teo ten tec, .bool tf, .slice tgo tgn tgc, .slice tio tinn tic, .slice tjo tjn tjc]) (by simp [results, Try.results21, go_sem, d0, d1, d2, d3, d4, d5, d6, d7, d8]) rfl ?_
  exact ⟨⟨_, rfl, Hid.mk ((hF.out.set s7 (fun b hb => k7 b (by have := HL.out; omega))).mono (by have := HL.out; omega))⟩, hbz⟩

set_option maxRecDepth 100000 in
set_option maxHeartbeats 3200000 in
/-- near of an array or object is nearAround's -/
theorem near_around (kd : Int) (nm tx : ByteArray) (io : Option Addr) (NI icap : Nat) (ko : Option Addr) (NK kcap : Nat) (h : Int) (w : World) (m : Nat) (CT : TT) (hk : kd = 5 ∨ kd = 6)
    (HA : Hid (∀ u, Below w.heap.size w u → Calls Try.prog 37 #[.agg #[.int .i64 kd, .string nm, .string tx, .slice io NI icap, .slice ko NK kcap], .int .i64 h] u fun e w' => (∃ v, e = .returned v ∧ Hid (FrT u.heap.size w' m CT v)) ∧ Below u.heap.size u w')) :
    Calls Try.prog 21 #[.agg #[.int .i64 kd, .string nm, .string tx, .slice io NI icap, .slice ko NK kcap], .int .i64 h] w fun e w' => (∃ v, e = .returned v ∧ Hid (FrT w.heap.size w' m CT v)) ∧ Below w.heap.size w w' := by
  have k3 : (kd == 3) = false := by rcases hk with rfl | rfl <;> rfl
  have k4 : (kd == 4) = false := by rcases hk with rfl | rfl <;> rfl
  rcases hk with rfl | rfl
  · obtain ⟨W0, hW0⟩ : ∃ W0, (w.alloc (.cells #[.int .i64 5, .string nm, .string tx, .slice io NI icap, .slice ko NK kcap] 25)).alloc (.cells #[.bool false, .bool false, .bool false, .bool false, .slice none 0 0, .bool false, .slice none 0 0, .slice none 0 0, .slice none 0 0] 33) = W0 := ⟨_, rfl⟩
    have HB0 : Hid (Below w.heap.size w W0) := by rw [← hW0]; exact ((Below.refl _ w).alloc (Nat.le_refl _) _).alloc (by simp) _
    have HR0 : Hid (W0.heap[w.heap.size + 1]? = some (.cells #[.bool false, .bool false, .bool false, .bool false, .slice none 0 0, .bool false, .slice none 0 0, .slice none 0 0, .slice none 0 0] 33 (0, 0))) := by
      show _ = _
      rw [← hW0]
      have h := World.alloc_heap_new (w.alloc (.cells #[.int .i64 5, .string nm, .string tx, .slice io NI icap, .slice ko NK kcap] 25)) (.cells #[.bool false, .bool false, .bool false, .bool false, .slice none 0 0, .bool false, .slice none 0 0, .slice none 0 0, .slice none 0 0] 33)
      rw [World.size_alloc] at h
      exact h
    have HV0 : Hid (W0.heap[w.heap.size]? = some (.cells #[.int .i64 5, .string nm, .string tx, .slice io NI icap, .slice ko NK kcap] 25 (0, 0))) := by
      show _ = _
      rw [← hW0]
      exact (Below.heap_alloc _ _ _ (by simp)).trans (World.alloc_heap_new w _)
    have c0 := cell_of_row _ _ 0 _ _ _ HV0.out
    have c1 := cell_of_row _ _ 1 _ _ _ HV0.out
    have c2 := cell_of_row _ _ 2 _ _ _ HV0.out
    have c3 := cell_of_row _ _ 3 _ _ _ HV0.out
    have c4 := cell_of_row _ _ 4 _ _ _ HV0.out
    go_enter Try.func21, Try.ntmps21
    go_wp2_with fail
    refine (HA.out _ HB0.out).mono ?_
    rintro e w3 ⟨⟨vw, rfl, hF⟩, hq⟩
    have HB3 := Hid.mk (HB0.out.trans (hq.mono HB0.out.size))
    have HR3 : Hid (w3.heap[w.heap.size + 1]? = _) := (hq.block _ (lt_of_row HR0.out)).trans HR0.out
    have HL := Hid.mk (lt_of_row HR0.out)
    clear hq
    have hF2 := hF.out.here
    obtain ⟨ta, tb, tc, td, ⟨teo, ten, tec⟩, tf, ⟨tgo, tgn, tgc⟩, ⟨tio, tinn, tic⟩, ⟨tjo, tjn, tjc⟩, esht⟩ := inT_shape hF2
    simp only [Value.agg.injEq, Array.mk.injEq, List.cons.injEq, and_true] at esht
    obtain ⟨rfl, rfl, rfl, rfl, rfl, rfl, rfl, rfl, rfl⟩ := esht
    clear hF2
    have g0 := cell_of_row _ _ 0 _ _ _ HR3.out
    have f0 := frozen_row9 (j := 0) HR3.out
    have g1 := cell_of_row _ _ 1 _ _ _ HR3.out
    have f1 := frozen_row9 (j := 1) HR3.out
    have g2 := cell_of_row _ _ 2 _ _ _ HR3.out
    have f2 := frozen_row9 (j := 2) HR3.out
    have g3 := cell_of_row _ _ 3 _ _ _ HR3.out
    have f3 := frozen_row9 (j := 3) HR3.out
    have g4 := cell_of_row _ _ 4 _ _ _ HR3.out
    have f4 := frozen_row9 (j := 4) HR3.out
    have g5 := cell_of_row _ _ 5 _ _ _ HR3.out
    have f5 := frozen_row9 (j := 5) HR3.out
    have g6 := cell_of_row _ _ 6 _ _ _ HR3.out
    have f6 := frozen_row9 (j := 6) HR3.out
    have g7 := cell_of_row _ _ 7 _ _ _ HR3.out
    have f7 := frozen_row9 (j := 7) HR3.out
    have g8 := cell_of_row _ _ 8 _ _ _ HR3.out
    have f8 := frozen_row9 (j := 8) HR3.out
    go_wp2_with fail
    (try simp only [Exit.inBlock, Exit.then])
    generalize hz9 : ((((((((w3.setCell ⟨w.heap.size + 1, 0, none⟩ (.bool ta)).setCell ⟨w.heap.size + 1, 1, none⟩ (.bool tb)).setCell ⟨w.heap.size + 1, 2, none⟩ (.bool tc)).setCell ⟨w.heap.size + 1, 3, none⟩ (.bool td)).setCell ⟨w.heap.size + 1, 4, none⟩ (.slice teo ten tec)).setCell ⟨w.heap.size + 1, 5, none⟩ (.bool tf)).setCell ⟨w.heap.size + 1, 6, none⟩ (.slice tgo tgn tgc)).setCell ⟨w.heap.size + 1, 7, none⟩ (.slice tio tinn tic)).setCell ⟨w.heap.size + 1, 8, none⟩ (.slice tjo tjn tjc) = wz
    obtain ⟨e7, k7, s7⟩ := rbox_set9 w3 _ _ _ _ _ _ _ _ _ _ _ _ _ _ _ _ _ _ _ _ (HR3.out) wz hz9.symm
    have d0 := cell_of_row _ _ 0 _ _ _ e7
    have d1 := cell_of_row _ _ 1 _ _ _ e7
    have d2 := cell_of_row _ _ 2 _ _ _ e7
    have d3 := cell_of_row _ _ 3 _ _ _ e7
    have d4 := cell_of_row _ _ 4 _ _ _ e7
    have d5 := cell_of_row _ _ 5 _ _ _ e7
    have d6 := cell_of_row _ _ 6 _ _ _ e7
    have d7 := cell_of_row _ _ 7 _ _ _ e7
    have d8 := cell_of_row _ _ 8 _ _ _ e7
    have hbz : Below w.heap.size w wz := by rw [← hz9]; exact (((((((((HB3.out.setCell (p := ⟨w.heap.size + 1, 0, none⟩) (by show w.heap.size ≤ w.heap.size + 1; omega) _).setCell (p := ⟨w.heap.size + 1, 1, none⟩) (by show w.heap.size ≤ w.heap.size + 1; omega) _).setCell (p := ⟨w.heap.size + 1, 2, none⟩) (by show w.heap.size ≤ w.heap.size + 1; omega) _).setCell (p := ⟨w.heap.size + 1, 3, none⟩) (by show w.heap.size ≤ w.heap.size + 1; omega) _).setCell (p := ⟨w.heap.size + 1, 4, none⟩) (by show w.heap.size ≤ w.heap.size + 1; omega) _).setCell (p := ⟨w.heap.size + 1, 5, none⟩) (by show w.heap.size ≤ w.heap.size + 1; omega) _).setCell (p := ⟨w.heap.size + 1, 6, none⟩) (by show w.heap.size ≤ w.heap.size + 1; omega) _).setCell (p := ⟨w.heap.size + 1, 7, none⟩) (by show w.heap.size ≤ w.heap.size + 1; omega) _).setCell (p := ⟨w.heap.size + 1, 8, none⟩) (by show w.heap.size ≤ w.heap.size + 1; omega) _)
    refine bodyPost_ret (v := .agg #[.bool ta, .bool tb, .bool tc, .bool td, .slice teo ten tec, .bool tf, .slice tgo tgn tgc, .slice tio tinn tic, .slice tjo tjn tjc]) (by simp [results, Try.results21, go_sem, d0, d1, d2, d3, d4, d5, d6, d7, d8]) rfl ?_
    exact ⟨⟨_, rfl, Hid.mk ((hF.out.set s7 (fun b hb => k7 b (by have := HL.out; omega))).mono (by have := HL.out; omega))⟩, hbz⟩
  · obtain ⟨W0, hW0⟩ : ∃ W0, (w.alloc (.cells #[.int .i64 6, .string nm, .string tx, .slice io NI icap, .slice ko NK kcap] 25)).alloc (.cells #[.bool false, .bool false, .bool false, .bool false, .slice none 0 0, .bool false, .slice none 0 0, .slice none 0 0, .slice none 0 0] 33) = W0 := ⟨_, rfl⟩
    have HB0 : Hid (Below w.heap.size w W0) := by rw [← hW0]; exact ((Below.refl _ w).alloc (Nat.le_refl _) _).alloc (by simp) _
    have HR0 : Hid (W0.heap[w.heap.size + 1]? = some (.cells #[.bool false, .bool false, .bool false, .bool false, .slice none 0 0, .bool false, .slice none 0 0, .slice none 0 0, .slice none 0 0] 33 (0, 0))) := by
      show _ = _
      rw [← hW0]
      have h := World.alloc_heap_new (w.alloc (.cells #[.int .i64 6, .string nm, .string tx, .slice io NI icap, .slice ko NK kcap] 25)) (.cells #[.bool false, .bool false, .bool false, .bool false, .slice none 0 0, .bool false, .slice none 0 0, .slice none 0 0, .slice none 0 0] 33)
      rw [World.size_alloc] at h
      exact h
    have HV0 : Hid (W0.heap[w.heap.size]? = some (.cells #[.int .i64 6, .string nm, .string tx, .slice io NI icap, .slice ko NK kcap] 25 (0, 0))) := by
      show _ = _
      rw [← hW0]
      exact (Below.heap_alloc _ _ _ (by simp)).trans (World.alloc_heap_new w _)
    have c0 := cell_of_row _ _ 0 _ _ _ HV0.out
    have c1 := cell_of_row _ _ 1 _ _ _ HV0.out
    have c2 := cell_of_row _ _ 2 _ _ _ HV0.out
    have c3 := cell_of_row _ _ 3 _ _ _ HV0.out
    have c4 := cell_of_row _ _ 4 _ _ _ HV0.out
    go_enter Try.func21, Try.ntmps21
    go_wp2_with fail
    refine (HA.out _ HB0.out).mono ?_
    rintro e w3 ⟨⟨vw, rfl, hF⟩, hq⟩
    have HB3 := Hid.mk (HB0.out.trans (hq.mono HB0.out.size))
    have HR3 : Hid (w3.heap[w.heap.size + 1]? = _) := (hq.block _ (lt_of_row HR0.out)).trans HR0.out
    have HL := Hid.mk (lt_of_row HR0.out)
    clear hq
    have hF2 := hF.out.here
    obtain ⟨ta, tb, tc, td, ⟨teo, ten, tec⟩, tf, ⟨tgo, tgn, tgc⟩, ⟨tio, tinn, tic⟩, ⟨tjo, tjn, tjc⟩, esht⟩ := inT_shape hF2
    simp only [Value.agg.injEq, Array.mk.injEq, List.cons.injEq, and_true] at esht
    obtain ⟨rfl, rfl, rfl, rfl, rfl, rfl, rfl, rfl, rfl⟩ := esht
    clear hF2
    have g0 := cell_of_row _ _ 0 _ _ _ HR3.out
    have f0 := frozen_row9 (j := 0) HR3.out
    have g1 := cell_of_row _ _ 1 _ _ _ HR3.out
    have f1 := frozen_row9 (j := 1) HR3.out
    have g2 := cell_of_row _ _ 2 _ _ _ HR3.out
    have f2 := frozen_row9 (j := 2) HR3.out
    have g3 := cell_of_row _ _ 3 _ _ _ HR3.out
    have f3 := frozen_row9 (j := 3) HR3.out
    have g4 := cell_of_row _ _ 4 _ _ _ HR3.out
    have f4 := frozen_row9 (j := 4) HR3.out
    have g5 := cell_of_row _ _ 5 _ _ _ HR3.out
    have f5 := frozen_row9 (j := 5) HR3.out
    have g6 := cell_of_row _ _ 6 _ _ _ HR3.out
    have f6 := frozen_row9 (j := 6) HR3.out
    have g7 := cell_of_row _ _ 7 _ _ _ HR3.out
    have f7 := frozen_row9 (j := 7) HR3.out
    have g8 := cell_of_row _ _ 8 _ _ _ HR3.out
    have f8 := frozen_row9 (j := 8) HR3.out
    go_wp2_with fail
    (try simp only [Exit.inBlock, Exit.then])
    generalize hz9 : ((((((((w3.setCell ⟨w.heap.size + 1, 0, none⟩ (.bool ta)).setCell ⟨w.heap.size + 1, 1, none⟩ (.bool tb)).setCell ⟨w.heap.size + 1, 2, none⟩ (.bool tc)).setCell ⟨w.heap.size + 1, 3, none⟩ (.bool td)).setCell ⟨w.heap.size + 1, 4, none⟩ (.slice teo ten tec)).setCell ⟨w.heap.size + 1, 5, none⟩ (.bool tf)).setCell ⟨w.heap.size + 1, 6, none⟩ (.slice tgo tgn tgc)).setCell ⟨w.heap.size + 1, 7, none⟩ (.slice tio tinn tic)).setCell ⟨w.heap.size + 1, 8, none⟩ (.slice tjo tjn tjc) = wz
    obtain ⟨e7, k7, s7⟩ := rbox_set9 w3 _ _ _ _ _ _ _ _ _ _ _ _ _ _ _ _ _ _ _ _ (HR3.out) wz hz9.symm
    have d0 := cell_of_row _ _ 0 _ _ _ e7
    have d1 := cell_of_row _ _ 1 _ _ _ e7
    have d2 := cell_of_row _ _ 2 _ _ _ e7
    have d3 := cell_of_row _ _ 3 _ _ _ e7
    have d4 := cell_of_row _ _ 4 _ _ _ e7
    have d5 := cell_of_row _ _ 5 _ _ _ e7
    have d6 := cell_of_row _ _ 6 _ _ _ e7
    have d7 := cell_of_row _ _ 7 _ _ _ e7
    have d8 := cell_of_row _ _ 8 _ _ _ e7
    have hbz : Below w.heap.size w wz := by rw [← hz9]; exact (((((((((HB3.out.setCell (p := ⟨w.heap.size + 1, 0, none⟩) (by show w.heap.size ≤ w.heap.size + 1; omega) _).setCell (p := ⟨w.heap.size + 1, 1, none⟩) (by show w.heap.size ≤ w.heap.size + 1; omega) _).setCell (p := ⟨w.heap.size + 1, 2, none⟩) (by show w.heap.size ≤ w.heap.size + 1; omega) _).setCell (p := ⟨w.heap.size + 1, 3, none⟩) (by show w.heap.size ≤ w.heap.size + 1; omega) _).setCell (p := ⟨w.heap.size + 1, 4, none⟩) (by show w.heap.size ≤ w.heap.size + 1; omega) _).setCell (p := ⟨w.heap.size + 1, 5, none⟩) (by show w.heap.size ≤ w.heap.size + 1; omega) _).setCell (p := ⟨w.heap.size + 1, 6, none⟩) (by show w.heap.size ≤ w.heap.size + 1; omega) _).setCell (p := ⟨w.heap.size + 1, 7, none⟩) (by show w.heap.size ≤ w.heap.size + 1; omega) _).setCell (p := ⟨w.heap.size + 1, 8, none⟩) (by show w.heap.size ≤ w.heap.size + 1; omega) _)
    refine bodyPost_ret (v := .agg #[.bool ta, .bool tb, .bool tc, .bool td, .slice teo ten tec, .bool tf, .slice tgo tgn tgc, .slice tio tinn tic, .slice tjo tjn tjc]) (by simp [results, Try.results21, go_sem, d0, d1, d2, d3, d4, d5, d6, d7, d8]) rfl ?_
    exact ⟨⟨_, rfl, Hid.mk ((hF.out.set s7 (fun b hb => k7 b (by have := HL.out; omega))).mono (by have := HL.out; omega))⟩, hbz⟩
end Go.Proofs.Ytdjoelhiahpmlaa
