import Derived.Test.YtdjleoglphgdgaaGreatDoorM45
namespace Go.Proofs.YtdjleoglphgdgaaGreatDoor
open Go.RowKit Go.Shelf Go.Sort
set_option linter.unusedVariables false
set_option linter.unusedSimpArgs false

/-- a field as it is told -/
noncomputable def enX (h : Nat) (a b : NT) : List UInt8 := pKe (shT h a) a ++ ([58, 32] ++ pHd (shT h b) b 3)
theorem lx_colon {X : List UInt8} {T : KL} (h : Lx (FsP nnP) X T) : Lx (FsP nnP) ([58, 32] ++ X) ((10, [58]) :: T) := ((lx_one (c := 58) (by decide)).app lx_sp fun _ _ => trivial : Lx An [58, 32] [(10, [58])]).app h fun _ _ => trivial
theorem en_ful {h : Nat} {a b : NT} (ha : fpN h a = true) (hj : a.op = 3 → JnI h a) (fa : FulI h a) (fb : FulI h b) : ∃ E, (∀ ws nb, EnC ws nb E a b) ∧ Lx (FsP nnP) (enX h a b) E := by
  obtain ⟨Tb, fb⟩ := fb
  obtain ⟨T2, v, d1, d2, d3, d4, _⟩ := dress_o fb (n := 3) (by omega) (by omega)
  have d1 : Lx (FsP nnP) (pHd (shT h b) b 3) T2 := d1
  have ho : ∀ ws nb, OpC ws nb T2 b v := fun ws nb => beh_op (d4 ws nb)
  have hc := lx_colon d1
  unfold enX pKe
  by_cases ht : pTx a = true
  · rw [if_pos ht]
    obtain ⟨at_, x, rfl, hx⟩ := txt_shape ha (ptx_iff.1 ht).1 (ptx_iff.1 ht).2
    show ∃ E, _ ∧ Lx (FsP nnP) (pKy x ++ ([58, 32] ++ pHd (shT h b) b 3)) E
    unfold pKy
    rw [if_neg (by rw [hx]; decide)]
    by_cases hn : namedB x.data.toList = true
    · rw [if_pos hn]
      refine ⟨_, fun ws nb => en_word (ho ws nb) d3 (k := if ownB x.data.toList = true then 2 else 1) ?_ ?_, (lx_name hn).app hc fun _ _ => fs_cons (by decide)⟩
      · split <;> simp
      · rintro ⟨_, h⟩
        rw [h] at hn
        revert hn
        decide
    · rw [if_neg hn]
      exact ⟨_, fun ws nb => en_word (ho ws nb) d3 (k := 6) (by simp) (by rintro ⟨h, _⟩; omega), (lx_qt hx).app hc fun _ _ => trivial⟩
  · rw [if_neg ht]
    by_cases h3 : a.op = 3
    · rw [if_pos h3]
      obtain ⟨at_, at2, x, ks, M, rfl, h1, h2, h4⟩ := hj h3
      exact ⟨_, fun ws nb => en_join (h1 ws nb) (ho ws nb) d3, h2.app hc fun _ _ => trivial⟩
    · rw [if_neg h3]
      obtain ⟨Ta, fa⟩ := fa
      have hp : pHd (shT h a) a 11 = [40] ++ (shT h a ++ [41]) := by
        unfold pHd pBr
        rw [decide_eq_true (by have := (fp_op ha).2.2; omega)]
        rfl
      rw [hp]
      have := (lx_paren fa.lx).app hc fun _ _ => trivial
      have e : (((10, [40]) :: (Ta ++ [(10, [41])])) ++ ((10, [58]) :: T2) : KL) = (10, [40]) :: (Ta ++ ((10, [41]) :: (10, [58]) :: T2)) := by simp
      rw [e] at this
      exact ⟨_, fun ws nb => en_paren (fa.par.pi ws nb) (ho ws nb) d3, this⟩
noncomputable def enR (h : Nat) : List NT → List UInt8
  | a :: b :: r => ([44, 32] ++ enX h a b) ++ enR h r
  | _ => []
theorem enR_two (h : Nat) (a b : NT) (r : List NT) : enR h (a :: b :: r) = ([44, 32] ++ enX h a b) ++ enR h r := by rw [enR]
theorem enR_fs {h : Nat} (ks : List NT) (r : List UInt8) (hr : FsP nnP r) : FsP nnP (enR h ks ++ r) := by
  match ks with
  | [] => exact hr
  | [a] => exact hr
  | a :: b :: ks => rw [enR_two]; exact fs_cons (by decide)
theorem en_row {h : Nat} : ∀ (m : Nat) (ks : List NT), ks.length = 2 * m → KdI h ks → (∀ k ∈ ks, k.op = 3 → JnI h k) → ∃ Es, (∀ ws nb, EnL ws nb Es ks) ∧ Lx (FsP nnP) (enR h ks) (rowC Es)
  | 0, ks, hl, _, _ => by
    obtain rfl := List.length_eq_zero_iff.1 hl
    exact ⟨[], fun _ _ => .nil, lx_nil⟩
  | m + 1, ks, hl, hk, hj => by
    match ks, hl, hk, hj with
    | a :: b :: ks, hl, hk, hj =>
      obtain ⟨Es, h1, h2⟩ := en_row m ks (by simp at hl; omega) (fun k hm => hk k (by simp [hm])) (fun k hm => hj k (by simp [hm]))
      obtain ⟨E, h3, h4⟩ := en_ful (hk a (by simp)).1 (hj a (by simp)) (hk a (by simp)).2 (hk b (by simp)).2
      refine ⟨E :: Es, fun ws nb => .cons (h3 ws nb) (h1 ws nb), ?_⟩
      rw [enR_two]
      have h5 : Lx (FsP nnP) ([44, 32] ++ enX h a b) ([(10, [44])] ++ E) := ((lx_one (c := 44) (by decide)).app lx_sp fun _ _ => trivial : Lx An [44, 32] [(10, [44])]).app h4 fun _ _ => trivial
      exact h5.app h2 fun r hr => enR_fs ks r hr
theorem en_eq (h : Nat) : ∀ (m : Nat) (ks : List NT), ks.length = 2 * m → ((List.range m).flatMap fun i => [44, 32] ++ enX h (ks.getD (2 * i) nn0) (ks.getD (2 * i + 1) nn0)) = enR h ks
  | 0, ks, hl => by
    obtain rfl := List.length_eq_zero_iff.1 hl
    rfl
  | m + 1, ks, hl => by
    match ks, hl with
    | a :: b :: ks, hl =>
      rw [List.range_succ_eq_map, List.flatMap_cons, List.flatMap_map, enR_two, ← en_eq h m ks (by simp at hl; omega)]
      rfl
theorem sh_record (h : Nat) (at_ : Int) (ks : List NT) : shT (h + 1) (.mk 5 at_ .empty vtN [] ks) = sRecord (fun i => ks.getD i nn0) (fun i => shT h (ks.getD i nn0)) (ks.length / 2) := by rw [shT_up]; rfl
theorem getD_two (a b : NT) (ks : List NT) (i : Nat) : (a :: b :: ks).getD (2 * Nat.succ i) nn0 = ks.getD (2 * i) nn0 ∧ (a :: b :: ks).getD (2 * Nat.succ i + 1) nn0 = ks.getD (2 * i + 1) nn0 := by
  rw [show 2 * Nat.succ i = 2 * i + 1 + 1 by omega]
  exact ⟨rfl, rfl⟩
theorem ful_record {h : Nat} {at_ : Int} {tx : ByteArray} {V : VT} {ns : List ByteArray} {ks : List NT} (f : FpO h 5 tx V ns ks) (hk : KdI h ks) (hj : ∀ k ∈ ks, k.op = 3 → JnI h k) : FulI (h + 1) (.mk 5 at_ tx V ns ks) := by
  obtain rfl := f.txt rfl
  obtain rfl := f.nms (by decide)
  obtain rfl := f.val (by decide)
  obtain ⟨m, hm⟩ : ∃ m, ks.length = 2 * m := by
    have := f.mf
    simp [mfB] at this
    exact ⟨ks.length / 2, by omega⟩
  unfold FulI
  match ks, hm, hk, hj with
  | [], _, _, _ =>
    have e : shT (h + 1) (.mk 5 at_ .empty vtN [] []) = [123] ++ [125] := by rw [sh_record]; simp [sRecord]
    rw [e]
    exact ⟨_, .base (((lx_one (c := 123) (by decide)).app (lx_one (c := 125) (by decide)) fun _ _ => trivial).any) ⟨_, _, rfl, by decide⟩ (.term fun ws nb => term_record0)⟩
  | [a], hm, _, _ => simp at hm; omega
  | a :: b :: ks, hm, hk, hj =>
    obtain ⟨m, rfl⟩ : ∃ n, m = n + 1 := ⟨m - 1, by simp at hm; omega⟩
    have hl : ks.length = 2 * m := by simp at hm; omega
    have e : shT (h + 1) (.mk 5 at_ .empty vtN [] (a :: b :: ks)) = [123] ++ (enX h a b ++ (enR h ks ++ [125])) := by
      have hl2 : (a :: b :: ks).length / 2 = m + 1 := by simp; omega
      rw [sh_record, hl2, ← en_eq h m ks hl]
      unfold sRecord
      rw [List.range_succ_eq_map, List.flatMap_cons, List.flatMap_map]
      have e2 : ∀ i, (if 0 < Nat.succ i then [44, 32] else []) ++ (pKe (shT h ((a :: b :: ks).getD (2 * Nat.succ i) nn0)) ((a :: b :: ks).getD (2 * Nat.succ i) nn0) ++ ([58, 32] ++ pHd (shT h ((a :: b :: ks).getD (2 * Nat.succ i + 1) nn0)) ((a :: b :: ks).getD (2 * Nat.succ i + 1) nn0) 3)) = [44, 32] ++ enX h (ks.getD (2 * i) nn0) (ks.getD (2 * i + 1) nn0) := fun i => by
        rw [if_pos (Nat.succ_pos i), (getD_two a b ks i).1, (getD_two a b ks i).2]
        rfl
      simp only [e2]
      rw [if_neg (by omega), List.nil_append, List.append_assoc]
      rfl
    rw [e]
    obtain ⟨Es, h1, h2⟩ := en_row m ks hl (fun k hm => hk k (by simp [hm])) (fun k hm => hj k (by simp [hm]))
    obtain ⟨E, h3, h4⟩ := en_ful (hk a (by simp)).1 (hj a (by simp)) (hk a (by simp)).2 (hk b (by simp)).2
    have g1 := h4.app (h2.app (lx_one (c := 125) (by decide)) fun r _ => fs_cons (by decide)) fun r _ => by
      have := enR_fs (h := h) ks ([125] ++ r) (fs_cons (by decide))
      rw [List.append_assoc]
      exact this
    exact ⟨_, .base (((lx_one (c := 123) (by decide)).app g1 fun _ _ => trivial).any) ⟨_, _, rfl, by decide⟩ (.term fun ws nb => term_record (h3 ws nb) (h1 ws nb))⟩
/-- what is written is read -/
theorem ful_all : ∀ (h : Nat) (A : NT), fpN h A = true → KbT h A → FulI h A ∧ (A.op = 3 → JnI h A)
  | 0, A, hf, _ => by cases hf
  | h + 1, A, hf, hb => by
    obtain ⟨op, at_, tx, V, ns, ks⟩ := A
    have f := fp_all hf
    obtain ⟨b1, b2⟩ := hb
    have b1 : ks.length ≤ 140737488355328 := b1
    have b2 : ∀ i, i < ks.length → KbT h (ks.getD i nn0) := b2
    have hr : 1 ≤ op ∧ op ≤ 43 := by
      have h1 := f.mf
      unfold mfB at h1
      repeat' split at h1
      all_goals first | omega | skip
      simp only [Bool.and_eq_true, Bool.or_eq_true, decide_eq_true_eq] at h1
      omega
    have hkd : op ≠ 8 → KdI h ks ∧ ∀ k ∈ ks, k.op = 3 → JnI h k := fun h8 => by
      have q : ∀ k ∈ ks, ∃ i, i < ks.length ∧ ks.getD i nn0 = k := fun k hm => by
        obtain ⟨i, hi, rfl⟩ := List.getElem_of_mem hm
        exact ⟨i, hi, getD_kid hi⟩
      refine ⟨fun k hm => ?_, fun k hm => ?_⟩
      · obtain ⟨i, hi, rfl⟩ := q k hm
        exact ⟨f.kid h8 hi, (ful_all h _ (f.kid h8 hi) (b2 i hi)).1⟩
      · obtain ⟨i, hi, rfl⟩ := q k hm
        exact (ful_all h _ (f.kid h8 hi) (b2 i hi)).2
    by_cases h3 : op = 3
    · subst h3
      have j := jni_join (at_ := at_) f (hkd (by decide)).1
      exact ⟨ful_join j, fun _ => j⟩
    refine ⟨?_, fun e => absurd e h3⟩
    by_cases h8 : op = 8
    · subst h8
      exact ful_slice f fun i hi hf => (ful_all h _ hf (b2 i hi)).1
    obtain ⟨hk, hj⟩ := hkd h8
    by_cases h1 : op = 1
    · subst h1; exact (ful_self f).1
    by_cases h2 : op = 2
    · subst h2; exact ful_const f
    by_cases h4 : op = 4
    · subst h4; exact ful_list f hk
    by_cases h5 : op = 5
    · subst h5; exact ful_record f hk hj
    by_cases h6 : op = 6
    · subst h6; exact ful_var f
    by_cases h7 : op = 7
    · subst h7; exact ful_index f hk
    by_cases h9 : op = 9
    · subst h9; exact ful_each f hk
    by_cases h10 : op = 10
    · subst h10; exact ful_try f hk
    by_cases h11 : op = 11
    · subst h11; exact ful_neg f hk
    by_cases h12 : op = 12
    · subst h12; exact ful_pipe f hk
    by_cases h28 : op = 28
    · subst h28; exact ful_if f hk
    by_cases h29 : op = 29
    · subst h29; exact ful_bind f hk
    by_cases h30 : op = 30 ∨ op = 31
    · exact ful_loop h30 f hk
    by_cases h32 : op = 32
    · subst h32; exact ful_def f hk
    by_cases h33 : op = 33
    · subst h33; exact ful_call f hk b1
    by_cases h34 : op = 34
    · subst h34; exact ful_label f hk
    by_cases h35 : op = 35
    · subst h35; exact ful_break f
    exact ful_op (by omega) f hk
/-- the words of a filter's text, and what they are read as -/
theorem shT_read {h : Nat} {A : NT} (hf : fpN h A = true) (hb : KbT h A) : ∃ T, (scW (shT h A)).map kk = T ∧ (∀ x ∈ scW (shT h A), x.err = 0) ∧ ∀ nb, PipC (scW (shT h A)) nb T A := by
  obtain ⟨⟨T, f⟩, _⟩ := ful_all h A hf hb
  have h1 := f.lx (shT h A) 0 [] [] (by simp) (fun c u e => by cases e)
  obtain ⟨ts, a1, a2, a3⟩ := h1
  have e : scI (shT h A) (0 + (shT h A).length) [] = [] := by
    unfold scI
    have : idW (shT h A) (0 + (shT h A).length) = (shT h A).length := by
      have := idW_ge (l := shT h A) (p := (shT h A).length) (Nat.le_refl _)
      rw [Nat.zero_add]
      omega
    rw [this, sc_end (by omega), if_pos rfl]
  rw [e, List.append_nil] at a1
  have a1 : scW (shT h A) = ts := a1
  rw [a1]
  exact ⟨T, a2, a3, fun nb => f.par.pi ts nb⟩
/-- read at any depth: what is so deep that nothing is too deep too -/
theorem read_any {h : Nat} {A : NT} (hf : fpN h A = true) (hb : KbT h A) (nb o : Nat) : ∃ A', noA A' = noA A ∧ EQ o ((poP (scW (shT h A)) nb ((scW (shT h A)).length + 1)).1 0 o) (.ok A' (scW (shT h A)).length o) := by
  obtain ⟨T, h1, h2, h3⟩ := shT_read hf hb
  have hl : T.length = (scW (shT h A)).length := by rw [← h1, List.length_map]
  have ha : AtT (scW (shT h A)) 0 T := ⟨[], by rw [List.drop_zero, h1, List.append_nil]⟩
  have hc : cloK (nx (scW (shT h A)) (0 + T.length)) = true := by
    have : nx (scW (shT h A)) (0 + T.length) = (0, []) := by
      unfold nx hrP
      rw [List.getD_eq_getElem?_getD, List.getElem?_eq_none (by omega)]
      rfl
    rw [this]; rfl
  obtain ⟨A', e, h4⟩ := pip_call (h3 nb) (n := (scW (shT h A)).length + 1) (t := 0) (o := o) (by omega) ha hc
  rw [Nat.zero_add, hl] at h4
  exact ⟨A', e, h4⟩
/-- one text for one filter -/
theorem shT_inj {h g : Nat} {A B : NT} (hA : fpN h A = true) (kA : KbT h A) (hB : fpN g B = true) (kB : KbT g B) (e : shT h A = shT g B) : noA A = noA B := by
  obtain ⟨A', e1, h1⟩ := read_any hA kA 0 65
  obtain ⟨B', e2, h2⟩ := read_any hB kB 0 65
  rw [← e] at h2
  rcases h1 with h1 | ⟨h1, _⟩
  · rcases h2 with h2 | ⟨h2, _⟩
    · rw [h1] at h2
      injection h2 with h3
      rw [← e1, ← e2, h3]
    · omega
  · omega
end Go.Proofs.YtdjleoglphgdgaaGreatDoor
