import Derived.Test.YtoidodippmgbpaaM43
import Derived.Test.YtoidodippmgbpaaM45
import Derived.Test.YtoidodippmgbpaaM49
import Derived.Maps.AppendAt
namespace Go.Proofs.Ytoidodippmgbpaa
open Go.RowKit Go.Shelf Go.Sort Go.Maps
set_option linter.unusedVariables false
set_option linter.unusedSimpArgs false
attribute [local go_sem] Oper.semAt_some

theorem run_append_nilM (P : Program) (w : World) (t ty e : TypeId) (i : TypeInfo) (ht : P.underlying t = some (.slice e)) (hi : P.info? e = some i) (p : Option Addr) (n c c2 : Nat) (hn : n ≤ c) :
    (Builtin.append_ #[t, t] ty #[.slice p n c, .slice none 0 c2]).run P w = .ok (.slice p n c) w := by
  cases p with
  | none => simp [Builtin.append_, run_underlying ht, sizeOf, typeInfo, hi, Builtin.lenOf, hn, Builtin.firstCells]
  | some a => simp [Builtin.append_, run_underlying ht, sizeOf, typeInfo, hi, Builtin.lenOf, hn, Builtin.firstCells, storeCells]
/-- a whole row is appended, in a region that draws its order -/
theorem step_append_rowM {P : Program} {w : World} {ops : Array Oper} {o : Oper} {a : Act} {K : Act → World → Prop} {Q : Exit → Act → World → Prop} {E : Prop} (hgd : o.guard = none) (s x : Operand) (t : TypeId)
    (ho : o.op = .call { callee := .builtin .append, args := #[s, x], argTypes := #[t, t] })
    (base : Nat) (e : TypeId) (i : TypeInfo) (z : Value) (size bytes : Nat) (ht : P.underlying t = some (.slice e)) (hi : P.info? e = some i) (hz : i.zero = some z)
    (hsize : i.size = size) (hby : i.bytes = bytes) (hzs : z.cells.size = size) (hsz : 0 < size)
    (v : Value) (n : Nat) (xs : List Value) (hs : a.eval s = v) (hown : w.ownsRow base e size v n xs)
    (io : Option Addr) (m c : Nat) (news : List Value) (hx : a.eval x = .slice io m c) (hl : news.length = m * size) (hnil : io = none → m = 0) (hnews : ∀ ad, io = some ad → ∀ j u, news[j]? = some u → w.cell? (ad.add j) = some u) (h1 : ∀ u ∈ news, u.oneCell' = true)
    (h63 : n + m ≤ maxLen) (hbytes : (n + m) * bytes ≤ 140737488355328) (hbase : base ≤ w.heap.size)
    (h : ∀ v' w', w'.ownsRow base e size v' (n + m) (xs ++ news) → w.grownBy w' v.ownBlock → (v'.ownBlock = v.ownBlock ∨ v'.ownBlock = some w.heap.size) → K (a.put o.dst v') w') :
    if Region.wanted o (yielded ops a.tmps) = true then Oper.wp P o a w K Q else E := by
  have hw : Region.wanted o (yielded ops a.tmps) = true := by simp [Region.wanted, hgd]
  rw [if_pos hw]
  cases io with
  | none =>
    obtain rfl : m = 0 := hnil rfl
    obtain rfl : news = [] := List.eq_nil_of_length_eq_zero (by rw [hl, Nat.zero_mul])
    obtain ⟨p, cap, rfl, hcap⟩ : ∃ p cap, v = .slice p n cap ∧ n ≤ cap := by
      rcases hown.2 with ⟨e1, e2⟩ | ⟨g, cap, cur, e1, _, _, e3, _⟩
      · exact ⟨none, 0, by rw [e1, e2], by omega⟩
      · exact ⟨_, _, e1, e3⟩
    have hr := run_append_nilM P w t o.type e i ht hi p n cap c hcap
    unfold Oper.wp execOp
    simp only [ho, resolve, invoke, builtin, Sem.run_bind, Sem.run_pure, Result.andThen_ok, List.map_toArray, List.map_cons, List.map_nil, hs, hx, hr]
    exact h _ w (by rw [List.append_nil]; exact hown) ⟨rfl, rfl, rfl, Nat.le_refl _, fun _ _ _ => rfl⟩ (.inl rfl)
  | some ad =>
    obtain ⟨v', w', hr, h2, h3, h4, h5⟩ := run_append_own_at (P := P) w base t o.type e i z size bytes ht hi hz hsize hby hzs hsz v n xs hown ad m c news hl (hnews ad rfl) h1 h63 hbytes hbase
    unfold Oper.wp execOp
    simp only [ho, resolve, invoke, builtin, Sem.run_bind, Sem.run_pure, Result.andThen_ok, List.map_toArray, List.map_cons, List.map_nil, hs, hx, hr]
    exact h _ _ h2 h3 h5
/-- an own row of texts -/
theorem kin_own {w : World} {base n c : Nat} {so : Option Addr} {ks : List ByteArray} (h : w.ownsRow base 9 1 (.slice so n c) n (ks.map .string)) (hn : ks.length = n) : KIn w so ks ∧ n ≤ c := by
  rcases h.2 with ⟨e, h0⟩ | ⟨g, cap, cur, e, e2, e3, e4, _⟩
  · simp only [Value.slice.injEq] at e
    exact ⟨⟨fun h => by omega⟩, by omega⟩
  · simp only [Value.slice.injEq] at e
    obtain ⟨rfl, _, rfl⟩ := e
    refine ⟨⟨fun _ => ⟨g, 0, rfl, (Array.getElem?_eq_some_iff.1 e3).1, fun i hi => ?_⟩⟩, e4⟩
    rw [Nat.zero_add, own_cellAt h (by omega), List.getElem?_map, List.getElem?_eq_getElem hi, getD_key hi]
    rfl
theorem kin_news {W : World} {ko : Option Addr} {ks : List ByteArray} (h : KIn W ko ks) : ∀ ad, ko = some ad → ∀ j u, (ks.map Value.string)[j]? = some u → W.cell? (ad.add j) = some u := fun ad e j u hu => by
  have hj : j < ks.length := by
    have := (List.getElem?_eq_some_iff.1 hu).1
    simpa using this
  obtain ⟨b, off, e2, hb, hc⟩ := h.row (by omega)
  rw [e] at e2
  injection e2 with e2
  subst e2
  have hadd : (⟨b, off, none⟩ : Addr).add j = ⟨b, off + j, none⟩ := Go.WideShapes.add_plain _ _ _
  rw [hadd, hc j hj]
  rw [List.getElem?_map, List.getElem?_eq_getElem hj] at hu
  rw [getD_key hj]
  exact hu
theorem kin_nil {W : World} {ko : Option Addr} {ks : List ByteArray} (h : KIn W ko ks) (e : ko = none) : ks.length = 0 := by
  rcases Nat.eq_zero_or_pos ks.length with h0 | h0
  · exact h0
  · obtain ⟨b, off, e2, _⟩ := h.row h0
    rw [e] at e2
    cases e2
theorem iin_nil {W : World} {h : Nat} {io : Option Addr} {ts : List VT} (hI : IIn W h io ts) (e : io = none) : ts.length = 0 := by
  rcases Nat.eq_zero_or_pos ts.length with h0 | h0
  · exact h0
  · obtain ⟨b, off, e2, _⟩ := hI.row h0
    rw [e] at e2
    cases e2
/-- a row of items as cells to be appended -/
theorem iin_news {W : World} {h : Nat} {io : Option Addr} {ts : List VT} (hI : IIn W h io ts) : ∃ c : Nat → Fin 5 → Value, (∀ u, Below W.heap.size W u → (∀ ad, io = some ad → ∀ j x, (flat c ts.length)[j]? = some x → u.cell? (ad.add j) = some x) ∧ ∀ i, (hi : i < ts.length) → InH u h ts[i] (.agg #[c i 0, c i 1, c i 2, c i 3, c i 4])) ∧ ∀ u ∈ flat c ts.length, u.oneCell' = true := by
  obtain ⟨c, c1, c2, c3⟩ := items_fun hI
  refine ⟨c, fun w' hw => ⟨fun ad e j u hu => ?_, fun i hi => (c2 i hi).keep hw⟩, ?_⟩
  · have hj : j < ts.length * 5 := by
      have := (List.getElem?_eq_some_iff.1 hu).1
      rw [flat_lenV] at this
      exact this
    have hq : j / 5 < ts.length := by omega
    obtain ⟨b, off, e2, hb, a0, a1, a2, a3, a4⟩ := c1 _ hq
    rw [e] at e2
    injection e2 with e2
    subst e2
    have hadd : (⟨b, off, none⟩ : Addr).add j = ⟨b, off + j, none⟩ := Go.WideShapes.add_plain _ _ _
    rw [hadd]
    refine (hw.cell (p := ⟨b, off + j, none⟩) hb).trans ?_
    have hr : j % 5 < 5 := Nat.mod_lt _ (by omega)
    have hjj : j = j / 5 * 5 + j % 5 := by omega
    have g := flat_get c ts.length (j / 5) ⟨j % 5, hr⟩ hq
    have g' : (flat c ts.length)[j]? = some (c (j / 5) ⟨j % 5, hr⟩) := by
      rw [← g]
      show _ = (flat c ts.length)[j / 5 * 5 + j % 5]?
      rw [← hjj]
    rw [g'] at hu
    injection hu with hu
    subst hu
    clear g g'
    have he : off + j = off + j / 5 * 5 + j % 5 := by omega
    rw [he]
    generalize j / 5 = q at *
    generalize hm : j % 5 = r at *
    match r, hr with
    | 0, _ => exact a0
    | 1, _ => exact a1
    | 2, _ => exact a2
    | 3, _ => exact a3
    | 4, _ => exact a4
  · intro u hu
    obtain ⟨j, hj, rfl⟩ := List.getElem_of_mem hu
    rw [flat_lenV] at hj
    have hr : j % 5 < 5 := Nat.mod_lt _ (by omega)
    have hjj : j = j / 5 * 5 + j % 5 := by omega
    have hq : j / 5 < ts.length := by omega
    have g := flat_get c ts.length (j / 5) ⟨j % 5, hr⟩ hq
    have g' : (flat c ts.length)[j]? = some (c (j / 5) ⟨j % 5, hr⟩) := by
      rw [← g]
      show _ = (flat c ts.length)[j / 5 * 5 + j % 5]?
      rw [← hjj]
    obtain ⟨_, _, _, _, _, _, _, _, _, e0, e1, e2, e3, e4⟩ := (c2 _ hq).shape
    rw [List.getElem?_eq_getElem (by rw [flat_lenV]; exact hj)] at g'
    injection g' with g'
    rw [g']
    clear g g' hjj
    generalize j / 5 = q at *
    generalize hm : j % 5 = r at *
    match r, hr with
    | 0, _ => rw [show c q ⟨0, _⟩ = c q 0 from rfl, e0]; rfl
    | 1, _ => rw [show c q ⟨1, _⟩ = c q 1 from rfl, e1]; rfl
    | 2, _ => rw [show c q ⟨2, _⟩ = c q 2 from rfl, e2]; rfl
    | 3, _ => rw [show c q ⟨3, _⟩ = c q 3 from rfl, e3]; rfl
    | 4, _ => rw [show c q ⟨4, _⟩ = c q 4 from rfl, e4]; rfl
theorem iin_newsN {W : World} {h N : Nat} {io : Option Addr} {ts : List VT} (hI : IIn W h io ts) (hN : ts.length = N) : ∃ c : Nat → Fin 5 → Value, (∀ u, Below W.heap.size W u → (∀ ad, io = some ad → ∀ j x, (flat c N)[j]? = some x → u.cell? (ad.add j) = some x) ∧ ∀ i, (hi : i < ts.length) → InH u h ts[i] (.agg #[c i 0, c i 1, c i 2, c i 3, c i 4])) ∧ ∀ u ∈ flat c N, u.oneCell' = true := by
  subst hN
  exact iin_news hI
/-- an own row, another one behind it -/
theorem iin_two {W W' : World} {lo h N : Nat} {v v' : Value} {ca cb : Nat → Fin 5 → Value} {xs ys : List VT} (ra : RoR lo h N v ca xs W) (tb : ∀ i, (hi : i < ys.length) → InH W' h ys[i] (.agg #[cb i 0, cb i 1, cb i 2, cb i 3, cb i 4]))
    (own : W'.ownsRow lo 25 5 v' (N + ys.length) (flat ca N ++ flat cb ys.length)) (hg : W.grownBy W' v.ownBlock) : ∃ io c, v' = .slice io (N + ys.length) c ∧ N + ys.length ≤ c ∧ IIn W' h io (xs ++ ys) := by
  have la := ra.len
  rcases id own.2 with ⟨e, h0⟩ | ⟨g, cap', cur, e, e1, e2, e3, e4, _⟩
  · exact ⟨none, 0, by rw [e, h0], by omega, ⟨fun h => by rw [List.length_append] at h; omega⟩⟩
  · subst e
    refine ⟨_, _, rfl, e3, ⟨fun _ => ⟨g, 0, rfl, (Array.getElem?_eq_some_iff.1 e2).1, fun i hi => ?_⟩⟩⟩
    rw [List.length_append] at hi
    have gt : ∀ j, j < (N + ys.length) * 5 → W'.cell? ⟨g, 0 + j, none⟩ = (flat ca N ++ flat cb ys.length)[j]? := fun j hj => by rw [Nat.zero_add]; exact own_cellAt own hj
    by_cases hil : i < xs.length
    · have cc : ∀ j : Fin 5, W'.cell? ⟨g, 0 + i * 5 + j.1, none⟩ = some (ca i j) := fun j => by
        have hj := j.2
        rw [Nat.add_assoc, gt _ (by omega), List.getElem?_append_left (by rw [flat_lenV]; omega)]
        exact flat_get _ _ i j (by omega)
      rw [List.getElem_append_left hil]
      exact ⟨_, _, _, _, _, ⟨cc 0, cc 1, cc 2, cc 3, cc 4⟩, (InD.iff.1 (InD.keep (D' := fun b => lo ≤ b) hg.size (fun b hb hl => hg.block b hl (fun e => hb.2 e.symm)) (fun b hb _ => hb.1) (ra.trees i hil))).toH⟩
    · have cc : ∀ j : Fin 5, W'.cell? ⟨g, 0 + i * 5 + j.1, none⟩ = some (cb (i - xs.length) j) := fun j => by
        have hj := j.2
        rw [Nat.add_assoc, gt _ (by omega), List.getElem?_append_right (by rw [flat_lenV]; omega), flat_lenV]
        rw [show i * 5 + j.1 - N * 5 = (i - xs.length) * 5 + j.1 from by rw [Nat.sub_mul, la]; omega]
        exact flat_get _ _ (i - xs.length) j (by omega)
      rw [List.getElem_append_right (by omega)]
      exact ⟨_, _, _, _, _, ⟨cc 0, cc 1, cc 2, cc 3, cc 4⟩, tb _ (by omega)⟩
/-- a well shaped object of a size -/
structure Sm (h n : Nat) (T : VT) : Prop where
  kind : T.kind = 6
  form : formN (h + 1) T = true
  sz : szN (h + 1) T ≤ n
theorem Sm.obj {h n : Nat} {T : VT} (s : Sm h n T) : Obj6 T := (form_obj s.form s.kind).1
theorem Sm.keys {h n : Nat} {T : VT} (s : Sm h n T) : T.keys.length ≤ n := by
  have := s.sz
  have h2 : 1 + T.keys.length + sumL (T.items.map (szN h)) ≤ n := this
  omega
theorem Sm.mg {h n m : Nat} {A B : VT} (a : Sm h n A) (b : Sm h m B) : Sm h (n + m) (mg A B) :=
  ⟨(mg_obj a.obj b.obj).kind, mg_form a.form b.form a.kind b.kind, Nat.le_trans (mg_sz a.obj.len b.obj.len) (Nat.add_le_add a.sz b.sz)⟩
theorem Sm.none (h : Nat) : Sm h 1 noF := ⟨rfl, obj_form noF_obj (by rfl) (fun x hx => by cases hx), by show 1 + 0 + 0 ≤ 1; omega⟩
theorem none_in (W : World) (h : Nat) : InH W (h + 1) noF (.agg #[.int .i64 6, .string ⟨#[]⟩, .string ⟨#[]⟩, .slice none 0 0, .slice none 0 0]) :=
  ⟨Option.none, 0, Option.none, 0, rfl, by show 0 ≤ _; omega, by show 0 ≤ _; omega, by show 0 ≤ _; omega, by show 0 ≤ _; omega, by show 0 ≤ 0; omega, by show 0 ≤ 0; omega, (fun k hk => by cases hk), ⟨fun h => absurd h (by show ¬ 0 < 0; omega)⟩, fun h => absurd h (by show ¬ 0 < 0; omega)⟩
/-- Merge of two of these -/
theorem w_MergeS {h n m : Nat} {A B : VT} (a : Sm h n A) (b : Sm h m B) (hnm : n + m ≤ 100000) (va vb : Value) (w : World) (hA : InH w (h + 1) A va) (hB : InH w (h + 1) B vb) :
    Calls Try.prog 7 #[va, vb] w fun e w' => ∃ (yk : Int) (yn yt : ByteArray) (yio : Option Addr) (yN yic : Nat) (yko : Option Addr) (yK ykc : Nat), e = .returned (.tuple #[.agg #[.int .i64 yk, .string yn, .string yt, .slice yio yN yic, .slice yko yK ykc], .int .i64 0]) ∧ Hid (InH w' (h + 1) (mg A B) (.agg #[.int .i64 yk, .string yn, .string yt, .slice yio yN yic, .slice yko yK ykc]) ∧ Below w.heap.size w w') := by
  have h1 := a.keys
  have h2 := b.keys
  refine (w_Merge_ok h A B va vb w hA hB a.kind b.kind a.form b.form (by omega) (Nat.le_trans (a.mg b).sz hnm)).mono ?_
  rintro e w' ⟨v, rfl, HQ⟩
  obtain ⟨hF, hb⟩ := HQ.out
  obtain ⟨yk, yn, yt, yio, yN, yic, yko, yK, ykc, rfl⟩ := hF.shape
  exact ⟨_, _, _, _, _, _, _, _, _, rfl, hF.toH, hb⟩
/-- Make of all fields of both -/
theorem w_MakeS {h n m : Nat} {A B : VT} (a : Sm h n A) (b : Sm h m B) (hnm : n + m ≤ 100000) (K : Nat) (ko : Option Addr) (kc : Nat) (io : Option Addr) (ic : Nat) (w : World) (hk : KIn w ko (A.keys ++ B.keys)) (hi : IIn w h io (A.items ++ B.items)) (hK : A.keys.length + B.keys.length = K) (hkc : K ≤ kc) (hic : K ≤ ic) (hs : ∀ k ∈ A.keys ++ B.keys, k.size ≤ 140737488355328) :
    Calls Try.prog 11 #[.slice ko K kc, .slice io K ic] w fun e w' => ∃ (yk : Int) (yn yt : ByteArray) (yio : Option Addr) (yN yic : Nat) (yko : Option Addr) (yK ykc : Nat), e = .returned (.tuple #[.agg #[.int .i64 yk, .string yn, .string yt, .slice yio yN yic, .slice yko yK ykc], .int .i64 0]) ∧ Hid (InH w' (h + 1) (mg A B) (.agg #[.int .i64 yk, .string yn, .string yt, .slice yio yN yic, .slice yko yK ykc]) ∧ Below w.heap.size w w') := by
  have h1 := a.keys
  have h2 := b.keys
  obtain ⟨oa, ka, fa⟩ := form_obj a.form a.kind
  obtain ⟨ob, kb, fb⟩ := form_obj b.form b.kind
  have hm := mk_mg oa ob
  have hl : (A.keys ++ B.keys).length = K := by rw [List.length_append]; exact hK
  refine (w_Make_ok h (A.keys ++ B.keys) (A.items ++ B.items) K ko kc io ic w hk hi hl (by rw [List.length_append, ← oa.len, ← ob.len]; exact hK) hkc hic (by omega) hs ?_ ?_ ?_).mono ?_
  · rw [← hl, oK_all]
    intro k hk
    rcases List.mem_append.1 hk with h | h
    · exact oK_all.1 ka k h
    · exact oK_all.1 kb k h
  · rw [List.all_eq_true]
    intro x hx
    rcases List.mem_append.1 hx with h | h
    · exact fa x h
    · exact fb x h
  · rw [hm]
    exact Nat.le_trans (a.mg b).sz hnm
  · rw [hm]
    rintro e w' ⟨v, rfl, HQ⟩
    obtain ⟨hF, hb⟩ := HQ.out
    obtain ⟨yk, yn, yt, yio, yN, yic, yko, yK, ykc, rfl⟩ := hF.shape
    exact ⟨_, _, _, _, _, _, _, _, _, rfl, hF.toH, hb⟩
/-- Like of one and the same -/
theorem w_LikeS {h : Nat} {A B : VT} (hAB : A = B) (va vb : Value) (w : World) (hA : InH w h A va) (hB : InH w h B vb) : Calls Try.prog 8 #[va, vb] w fun e w' => e = .returned (.bool true) ∧ Below w.heap.size w w' := by
  have := w_Like h A B va vb w hA hB
  rwa [likeD_iff.2 hAB] at this
/-- three boxes -/
structure Vb3 (w u : World) (va vb vc : Array Value) : Prop where
  below : Below w.heap.size w u
  sz : w.heap.size + 3 ≤ u.heap.size
  a : u.heap[w.heap.size]? = some (.cells va 25 (0, 0))
  b : u.heap[w.heap.size + 1]? = some (.cells vb 25 (0, 0))
  c : u.heap[w.heap.size + 1 + 1]? = some (.cells vc 25 (0, 0))
theorem vb3_new (w : World) (va vb vc : Array Value) : Vb3 w (((w.alloc (.cells va 25)).alloc (.cells vb 25)).alloc (.cells vc 25)) va vb vc := by
  obtain ⟨b1, b2, b3, b4⟩ := boxes3 w (.cells va 25) (.cells vb 25) (.cells vc 25)
  exact ⟨below_more (below2 w _ _) (below1 _ _), by omega, b1, b2, b3⟩
theorem Vb3.keep {w u u' : World} {va vb vc : Array Value} (h : Vb3 w u va vb vc) (hb : Below u.heap.size u u') : Vb3 w u' va vb vc :=
  have := h.sz
  ⟨below_more h.below hb, Nat.le_trans h.sz hb.size, heap_low hb (by omega) h.a, heap_low hb (by omega) h.b, heap_low hb (by omega) h.c⟩
end Go.Proofs.Ytoidodippmgbpaa
