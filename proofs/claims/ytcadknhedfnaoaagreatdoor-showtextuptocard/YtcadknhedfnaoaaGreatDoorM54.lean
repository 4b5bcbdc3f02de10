import Derived.Test.YtcadknhedfnaoaaGreatDoorM38
namespace Go.Proofs.YtcadknhedfnaoaaGreatDoor
open Go.RowKit Go.Shelf Go.Sort
set_option linter.unusedVariables false
set_option linter.unusedSimpArgs false

/-- how great a filter is -/
def smT (B : Nat → Nat) (n : Nat) : Nat := ((List.range n).map B).sum
theorem smT_succ (B : Nat → Nat) (n : Nat) : smT B (n + 1) = smT B n + B n := by
  unfold smT
  rw [List.range_succ, List.map_append, List.sum_append]
  simp
theorem smT_get (B : Nat → Nat) : ∀ {n i : Nat}, i < n → B i ≤ smT B n
  | n + 1, i, hi => by
    rw [smT_succ]
    by_cases e : i = n
    · rw [e]; omega
    · have := smT_get B (show i < n by omega)
      omega
def bkT : Nat → NT → Nat
  | 0, _ => 0
  | h + 1, A => 12 + A.text.size + A.value.num.size + A.value.text.size + (A.names.map (fun x => x.size + 1)).sum + smT (fun i => bkT h (A.kids.getD i nn0)) A.kids.length
theorem fl_len {f : Nat → List UInt8} {B : Nat → Nat} : ∀ {n : Nat}, (∀ i, i < n → (f i).length ≤ 8 * B i) → (fl f n).length ≤ 8 * smT B n
  | 0, _ => Nat.zero_le _
  | n + 1, h => by
    rw [fl_succ, smT_succ, List.length_append]
    have h1 := fl_len (n := n) (fun i hi => h i (by omega))
    have h2 := h n (by omega)
    omega
theorem fl_len2 {f : Nat → List UInt8} {B : Nat → Nat} : ∀ {n : Nat}, (∀ i, i < n → (f i).length ≤ 8 * (B (2 * i) + B (2 * i + 1))) → (fl f n).length ≤ 8 * smT B (2 * n)
  | 0, _ => Nat.zero_le _
  | n + 1, h => by
    rw [fl_succ, show 2 * (n + 1) = 2 * n + 1 + 1 by omega, smT_succ, smT_succ, List.length_append]
    have h1 := fl_len2 (n := n) (fun i hi => h i (by omega))
    have h2 := h n (by omega)
    omega
theorem pHd_len' (t : List UInt8) (A : NT) (n : Int) : (pHd t A n).length ≤ t.length + 2 := by
  unfold pHd pBr
  split <;> simp <;> omega
theorem pBs_len (t : List UInt8) (A : NT) : (pBs t A).length ≤ t.length + 2 := pHd_len' _ _ _
theorem pPc_len (s : ByteArray) : (pPc s).length ≤ 6 * s.size := by
  unfold pPc
  have h1 := qb_len (runes s.data.toList)
  have h2 := runes_len_le s.data.toList
  have h3 : s.data.toList.length = s.size := by rw [Array.length_toList]; rfl
  omega
theorem pQt_len (s : ByteArray) : (pQt s).length ≤ 6 * s.size + 2 := by
  have h := pPc_len s
  unfold pPc at h
  unfold pQt
  simp only [List.length_cons, List.length_append, List.length_nil]
  omega
theorem pKy_len (s : ByteArray) : (pKy s).length ≤ 6 * s.size + 2 := by
  have h := pQt_len s
  have h3 : s.data.toList.length = s.size := by rw [Array.length_toList]; rfl
  unfold pKy
  split
  · simp
  · split
    · omega
    · exact h
theorem pKe_len (t : List UInt8) (k : NT) : (pKe t k).length ≤ t.length + 2 + (6 * k.value.text.size + 2) := by
  have h1 := pKy_len k.value.text
  have h2 := pHd_len' t k 11
  unfold pKe
  split
  · omega
  · split <;> omega
theorem smT_tail (B : Nat → Nat) : ∀ {n : Nat}, 1 ≤ n → smT (fun i => B (i + 1)) (n - 1) + B 0 = smT B n
  | 1, _ => by simp [smT]
  | n + 2, _ => by
    have := smT_tail B (n := n + 1) (by omega)
    rw [smT_succ B (n + 1), show n + 2 - 1 = n + 1 by omega, smT_succ]
    rw [show n + 1 - 1 = n by omega] at this
    omega
theorem sg_len (op : Int) : (pSg op).length ≤ 6 := by
  unfold pSg pRow
  split
  · simp
  · rw [List.getD_eq_getElem?_getD]
    cases hx : pTab[op.toNat]? with
    | none => simp
    | some r =>
      have hd : ∀ r ∈ pTab, r.1.length ≤ 6 := by decide
      exact hd r (List.mem_of_getElem? hx)
theorem pKe_len2 (t : List UInt8) (k : NT) : (pKe t k).length ≤ t.length + 2 ∨ (pKe t k).length ≤ 6 * k.value.text.size + 2 := by
  have h1 := pKy_len k.value.text
  have h2 := pHd_len' t k 11
  unfold pKe
  split
  · exact .inr h1
  · split
    · exact .inl (by omega)
    · exact .inl h2
theorem join_len (ns : List ByteArray) : (pNm ns).length ≤ 2 * (ns.map (fun x => x.size + 1)).sum := by
  unfold pNm
  have ht : ∀ l : List ByteArray, (Lib.joinTail [59, 32] (l.map (·.data.toList))).length ≤ 2 * (l.map (fun x => x.size + 1)).sum := by
    intro l
    induction l with
    | nil => simp [Lib.joinTail]
    | cons x r ih =>
      have h3 : x.data.toList.length = x.size := by rw [Array.length_toList]; rfl
      simp only [Lib.joinTail, List.map_cons, List.flatten_cons, List.length_append, List.sum_cons, List.length_cons, List.length_nil] at ih ⊢
      omega
  cases ns with
  | nil => simp [Lib.join_nil]
  | cons x r =>
    have h3 : x.data.toList.length = x.size := by rw [Array.length_toList]; rfl
    have := ht r
    rw [List.map_cons, Lib.join_cons, List.length_append]
    simp only [List.map_cons, List.sum_cons]
    omega

set_option maxHeartbeats 1600000 in
theorem shT_len : ∀ (h : Nat) (A : NT), fpN h A = true → (shT h A).length + 6 ≤ 8 * bkT h A
  | 0, _, hf => by cases hf
  | h + 1, A, hf => by
    obtain ⟨hm, hk⟩ := fp_open hf
    obtain ⟨r1, r2⟩ := mf_rng hm
    have hsh := shT_up h A
    simp only at hsh
    obtain ⟨K, hK⟩ : ∃ K, K = fun i => A.kids.getD i nn0 := ⟨_, rfl⟩
    obtain ⟨t, hT0⟩ : ∃ t, t = fun i => shT h (A.kids.getD i nn0) := ⟨_, rfl⟩
    obtain ⟨B, hB⟩ : ∃ B, B = fun i => bkT h (A.kids.getD i nn0) := ⟨_, rfl⟩
    have eK : ∀ i, A.kids.getD i nn0 = K i := fun i => by rw [hK]
    rw [← hK, ← hT0] at hsh
    have hbk : bkT (h + 1) A = 12 + A.text.size + A.value.num.size + A.value.text.size + (A.names.map (fun x => x.size + 1)).sum + smT B A.kids.length := by rw [bkT, hB]
    have hkf : ∀ i, i < A.kids.length → (A.op = 8 → 0 < i → (K i).op ≠ 0) → fpN h (K i) = true := fun i hi hn => kf_fm (by have := hk i hi; rw [eK] at this; exact this) hn
    have hL : ∀ i, i < A.kids.length → (A.op = 8 → 0 < i → (K i).op ≠ 0) → (t i).length + 6 ≤ 8 * B i := fun i hi hn => by
      have := shT_len h (K i) (hkf i hi hn)
      rw [hT0, hB]
      simp only [eK]
      exact this
    have hX : ∀ i, i < A.kids.length → (A.op = 8 → 0 < i → (K i).op ≠ 0) → (K i).value.text.size + 12 ≤ B i := fun i hi hn => by
      have hr := hkf i hi hn
      cases h with
      | zero => cases hr
      | succ h =>
        rw [hB]
        simp only [eK]
        rw [bkT]
        omega
    have hLL : A.op ≠ 8 → ∀ i, i < A.kids.length → (t i).length + 6 ≤ 8 * B i := fun h8 i hi => hL i hi (fun e => absurd e h8)
    have hXX : A.op ≠ 8 → ∀ i, i < A.kids.length → (K i).value.text.size + 12 ≤ B i := fun h8 i hi => hX i hi (fun e => absurd e h8)
    have htl : A.text.data.toList.length = A.text.size := by rw [Array.length_toList]; rfl
    have hnl : A.value.num.data.toList.length = A.value.num.size := by rw [Array.length_toList]; rfl
    have s1 : smT B 1 = B 0 := by simp [smT, List.range_succ]
    have s2 : smT B 2 = B 0 + B 1 := by simp [smT, List.range_succ]
    have s3 : smT B 3 = B 0 + B 1 + B 2 := by simp [smT, List.range_succ]; omega
    rw [hbk]
    by_cases k1 : A.op = 1
    · have e : shT (h + 1) A = [46] := by rw [hsh]; simp only [k1]; rfl
      rw [e]
      simp
      omega
    by_cases k2 : A.op = 2
    · have e : shT (h + 1) A = pCn A.value := by rw [hsh]; simp only [k2]; rfl
      rw [e]
      have q := pQt_len A.value.text
      unfold pCn
      split
      · simp; omega
      split
      · simp; omega
      split
      · simp; omega
      split
      · omega
      · omega
    by_cases k3 : A.op = 3
    · have e : shT (h + 1) A = sJoin K t A.kids.length := by rw [hsh]; simp only [k3]; rfl
      rw [e]
      have q : (fl (fun i => if i % 2 = 0 then pPc (K i).value.text else [92, 40] ++ (t i ++ [41])) A.kids.length).length ≤ 8 * smT B A.kids.length := fl_len (fun i hi => by
        have a1 := hLL (by omega) i hi
        have a2 := hXX (by omega) i hi
        have a3 := pPc_len (K i).value.text
        by_cases hz : i % 2 = 0
        · simp only [if_pos hz]; omega
        · simp only [if_neg hz, List.length_append, List.length_cons, List.length_nil]; omega)
      unfold sJoin
      unfold fl at q
      simp only [List.length_append, List.length_cons, List.length_nil]
      omega
    by_cases k4 : A.op = 4
    · have e : shT (h + 1) A = sList t A.kids.length := by rw [hsh]; simp only [k4]; rfl
      rw [e]
      have q : (pRw t A.kids.length).length ≤ 8 * smT B A.kids.length := by rw [pRw_fl]; exact fl_len (fun i hi => by have a1 := hLL (by omega) i (by omega); by_cases hz : 0 < i <;> simp [hz] <;> omega)
      unfold sList
      simp only [List.length_append, List.length_cons, List.length_nil]
      omega
    by_cases k5 : A.op = 5
    · have e : shT (h + 1) A = sRecord K t (A.kids.length / 2) := by rw [hsh]; simp only [k5]; rfl
      rw [e]
      have hN : A.kids.length = 2 * (A.kids.length / 2) := by
        rw [k5] at hm
        simp [mfB] at hm
        omega
      have q : (fl (fun i => (if 0 < i then [44, 32] else []) ++ (pKe (t (2 * i)) (K (2 * i)) ++ ([58, 32] ++ pHd (t (2 * i + 1)) (K (2 * i + 1)) 3))) (A.kids.length / 2)).length ≤ 8 * smT B (2 * (A.kids.length / 2)) := fl_len2 (fun i hi => by
        have a1 := hLL (by omega) (2 * i) (by omega)
        have a2 := hXX (by omega) (2 * i) (by omega)
        have a3 := hLL (by omega) (2 * i + 1) (by omega)
        have a4 := pKe_len2 (t (2 * i)) (K (2 * i))
        have a5 := pHd_len' (t (2 * i + 1)) (K (2 * i + 1)) 3
        by_cases hz : 0 < i <;> simp [hz] <;> omega)
      rw [← hN] at q
      unfold sRecord
      unfold fl at q
      simp only [List.length_append, List.length_cons, List.length_nil]
      omega
    by_cases k6 : A.op = 6
    · have e : shT (h + 1) A = sVar A.op A.text := by rw [hsh]; simp only [k6]; rfl
      rw [e]
      unfold sVar
      split <;> simp only [List.length_append, List.length_cons, List.length_nil] <;> omega
    by_cases k35 : A.op = 35
    · have e : shT (h + 1) A = sVar A.op A.text := by rw [hsh]; simp only [k35]; rfl
      rw [e]
      unfold sVar
      split <;> simp only [List.length_append, List.length_cons, List.length_nil] <;> omega
    by_cases k7 : A.op = 7
    · have e : shT (h + 1) A = sIndex K t := by rw [hsh]; simp only [k7]; rfl
      rw [e]
      have hN : A.kids.length = 2 := by
        rw [k7] at hm
        simp [mfB] at hm
        omega
      have l0 := hLL (by omega) 0 (by omega)
      have l1 := hLL (by omega) 1 (by omega)
      have x1 := hXX (by omega) 1 (by omega)
      have d0 := pBs_len (t 0) (K 0)
      have e1 : (K 1).value.text.data.toList.length = (K 1).value.text.size := by rw [Array.length_toList]; rfl
      rw [hN, s2]
      unfold sIndex
      split
      · split <;> simp only [List.length_append, List.length_cons, List.length_nil] <;> omega
      · simp only [List.length_append, List.length_cons, List.length_nil]; omega
    by_cases k8 : A.op = 8
    · have e : shT (h + 1) A = sSlice K t := by rw [hsh]; simp only [k8]; rfl
      rw [e]
      have hN : A.kids.length = 3 := by
        rw [k8] at hm
        simp [mfB] at hm
        omega
      have l0 := hL 0 (by omega) (fun _ h => absurd h (Nat.lt_irrefl 0))
      have d0 := pBs_len (t 0) (K 0)
      have en : ∀ i, i < 3 → (pEn (t i) (K i)).length ≤ 8 * B i := fun i hi => by
        unfold pEn
        by_cases hz : (K i).op = 0
        · rw [if_pos hz]; simp
        · rw [if_neg hz]; have := hL i (by omega) (fun _ _ => hz); omega
      have e1 := en 1 (by omega)
      have e2 := en 2 (by omega)
      rw [hN, s3]
      unfold sSlice
      simp only [List.length_append, List.length_cons, List.length_nil]
      omega
    by_cases k9 : A.op = 9
    · have e : shT (h + 1) A = sEach K t := by rw [hsh]; simp only [k9]; rfl
      rw [e]
      have hN : A.kids.length = 1 := by
        rw [k9] at hm
        simp [mfB] at hm
        omega
      have l0 := hLL (by omega) 0 (by omega)
      have d0 := pBs_len (t 0) (K 0)
      rw [hN, s1]
      unfold sEach
      simp only [List.length_append, List.length_cons, List.length_nil]
      omega
    by_cases k10 : A.op = 10
    · have e : shT (h + 1) A = sTry K t A.kids.length := by rw [hsh]; simp only [k10]; rfl
      rw [e]
      have hN : A.kids.length = 1 ∨ A.kids.length = 2 := by
        rw [k10] at hm
        simp [mfB] at hm
        omega
      unfold sTry
      rcases hN with hN | hN
      · have l0 := hLL (by omega) 0 (by omega)
        have d0 := pBs_len (t 0) (K 0)
        rw [hN, s1, if_pos rfl]
        simp only [List.length_append, List.length_cons, List.length_nil]
        omega
      · have l0 := hLL (by omega) 0 (by omega)
        have l1 := hLL (by omega) 1 (by omega)
        have d0 := pHd_len' (t 0) (K 0) 10
        have d1 := pHd_len' (t 1) (K 1) 10
        rw [hN, s2, if_neg (by decide)]
        simp only [List.length_append, List.length_cons, List.length_nil]
        omega
    by_cases k11 : A.op = 11
    · have e : shT (h + 1) A = sNeg K t := by rw [hsh]; simp only [k11]; rfl
      rw [e]
      have hN : A.kids.length = 1 := by
        rw [k11] at hm
        simp [mfB] at hm
        omega
      have l0 := hLL (by omega) 0 (by omega)
      have d0 := pHd_len' (t 0) (K 0) 9
      rw [hN, s1]
      unfold sNeg
      split <;> simp only [List.length_append, List.length_cons, List.length_nil] <;> omega
    by_cases k28 : A.op = 28
    · have e : shT (h + 1) A = sIf t := by rw [hsh]; simp only [k28]; rfl
      rw [e]
      have hN : A.kids.length = 3 := by
        rw [k28] at hm
        simp [mfB] at hm
        omega
      have l0 := hLL (by omega) 0 (by omega)
      have l1 := hLL (by omega) 1 (by omega)
      have l2 := hLL (by omega) 2 (by omega)
      rw [hN, s3]
      unfold sIf
      simp only [List.length_append, List.length_cons, List.length_nil]
      omega
    by_cases k29 : A.op = 29
    · have e : shT (h + 1) A = sBind K t A.text := by rw [hsh]; simp only [k29]; rfl
      rw [e]
      have hN : A.kids.length = 2 := by
        rw [k29] at hm
        simp [mfB] at hm
        omega
      have l0 := hLL (by omega) 0 (by omega)
      have l1 := hLL (by omega) 1 (by omega)
      have d0 := pHd_len' (t 0) (K 0) 10
      rw [hN, s2]
      unfold sBind sSrc
      simp only [List.length_append, List.length_cons, List.length_nil]
      omega
    by_cases k30 : A.op = 30
    · have e : shT (h + 1) A = sLoop A.op K t A.text A.kids.length := by rw [hsh]; simp only [k30]; rfl
      rw [e]
      have hN : A.kids.length = 3 := by
        rw [k30] at hm
        simp [mfB] at hm
        omega
      have l0 := hLL (by omega) 0 (by omega)
      have d0 := pHd_len' (t 0) (K 0) 10
      have q : (pRw (fun i => t (i + 1)) (A.kids.length - 1)).length + 8 * B 0 ≤ 8 * smT B A.kids.length := by
        have q1 : (pRw (fun i => t (i + 1)) (A.kids.length - 1)).length ≤ 8 * smT (fun i => B (i + 1)) (A.kids.length - 1) := by rw [pRw_fl]; exact fl_len (fun i hi => by have a1 := hLL (by omega) (i + 1) (by omega); by_cases hz : 0 < i <;> simp [hz] <;> omega)
        have q2 := smT_tail B (n := A.kids.length) (by omega)
        omega
      unfold sLoop sSrc
      split <;> simp only [List.length_append, List.length_cons, List.length_nil] <;> omega
    by_cases k31 : A.op = 31
    · have e : shT (h + 1) A = sLoop A.op K t A.text A.kids.length := by rw [hsh]; simp only [k31]; rfl
      rw [e]
      have hN : A.kids.length = 3 ∨ A.kids.length = 4 := by
        rw [k31] at hm
        simp [mfB] at hm
        omega
      have l0 := hLL (by omega) 0 (by omega)
      have d0 := pHd_len' (t 0) (K 0) 10
      have q : (pRw (fun i => t (i + 1)) (A.kids.length - 1)).length + 8 * B 0 ≤ 8 * smT B A.kids.length := by
        have q1 : (pRw (fun i => t (i + 1)) (A.kids.length - 1)).length ≤ 8 * smT (fun i => B (i + 1)) (A.kids.length - 1) := by rw [pRw_fl]; exact fl_len (fun i hi => by have a1 := hLL (by omega) (i + 1) (by omega); by_cases hz : 0 < i <;> simp [hz] <;> omega)
        have q2 := smT_tail B (n := A.kids.length) (by omega)
        omega
      unfold sLoop sSrc
      split <;> simp only [List.length_append, List.length_cons, List.length_nil] <;> omega
    by_cases k32 : A.op = 32
    · have e : shT (h + 1) A = sDef t A.text A.names := by rw [hsh]; simp only [k32]; rfl
      rw [e]
      have hN : A.kids.length = 2 := by
        rw [k32] at hm
        simp [mfB] at hm
        omega
      have q : (pRw t 2).length ≤ 8 * smT B 2 := by rw [pRw_fl]; exact fl_len (fun i hi => by have a1 := hLL (by omega) i (by omega); by_cases hz : 0 < i <;> simp [hz] <;> omega)
      have jl := join_len A.names
      rw [hN]
      unfold sDef
      split <;> simp only [List.length_append, List.length_cons, List.length_nil] <;> omega
    by_cases k33 : A.op = 33
    · have e : shT (h + 1) A = sCall t A.text A.kids.length := by rw [hsh]; simp only [k33]; rfl
      rw [e]
      have q : (pRw t A.kids.length).length ≤ 8 * smT B A.kids.length := by rw [pRw_fl]; exact fl_len (fun i hi => by have a1 := hLL (by omega) i (by omega); by_cases hz : 0 < i <;> simp [hz] <;> omega)
      unfold sCall
      split <;> simp only [List.length_append, List.length_cons, List.length_nil] <;> omega
    by_cases k34 : A.op = 34
    · have e : shT (h + 1) A = sLabel t A.text := by rw [hsh]; simp only [k34]; rfl
      rw [e]
      have hN : A.kids.length = 1 := by
        rw [k34] at hm
        simp [mfB] at hm
        omega
      have l0 := hLL (by omega) 0 (by omega)
      rw [hN, s1]
      unfold sLabel
      simp only [List.length_append, List.length_cons, List.length_nil]
      omega
    have e : shT (h + 1) A = sOp A.op K t := by
      rw [hsh, if_neg k1, if_neg k2, if_neg k3, if_neg k4, if_neg k5, if_neg (by omega), if_neg k7, if_neg k8, if_neg k9, if_neg k10, if_neg k11, if_neg k28, if_neg k29, if_neg (by omega), if_neg k32, if_neg k33, if_neg k34]
    have hN : A.kids.length = 2 := by
      unfold mfB at hm
      rw [if_neg (by omega), if_neg (by omega), if_neg (by omega), if_neg (by omega), if_neg (by omega), if_neg (by omega), if_neg (by omega), if_neg (by omega), if_neg (by omega), if_neg (by omega)] at hm
      simp only [Bool.and_eq_true] at hm
      have := eq_of_beq hm.1
      omega
    have l0 := hLL k8 0 (by omega)
    have l1 := hLL k8 1 (by omega)
    have d0 := pHd_len' (t 0) (K 0) ((pRow A.op).2.2.1 : Int)
    have d1 := pHd_len' (t 1) (K 1) ((pRow A.op).2.2.2 : Int)
    have sg := sg_len A.op
    rw [e, hN, s2]
    unfold sOp
    simp only [List.length_append]
    omega
theorem bk_kid {h : Nat} {A : NT} {i : Nat} (hi : i < A.kids.length) : bkT h (A.kids.getD i nn0) ≤ bkT (h + 1) A := by
  have := smT_get (fun i => bkT h (A.kids.getD i nn0)) hi
  rw [bkT]
  omega
theorem tx_of_bk : ∀ (h : Nat) (A : NT), bkT h A ≤ 1048576 → TxB h A
  | 0, _, _ => trivial
  | h + 1, A, hb => ⟨by rw [bkT] at hb; omega, fun i hi => tx_of_bk h _ (Nat.le_trans (bk_kid hi) hb)⟩
end Go.Proofs.YtcadknhedfnaoaaGreatDoor
