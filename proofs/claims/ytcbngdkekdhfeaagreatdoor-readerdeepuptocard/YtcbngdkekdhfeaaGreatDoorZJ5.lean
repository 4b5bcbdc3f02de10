import Derived.Test.YtcbngdkekdhfeaaGreatDoorZJ2
namespace Go.Proofs.YtcbngdkekdhfeaaGreatDoor
open Go.RowKit Go.Shelf
set_option linter.unusedVariables false
set_option linter.unusedSimpArgs false

def opn : List Bool → List UInt8
  | [] => []
  | true :: ks => 91 :: opn ks
  | false :: ks => 123 :: 34 :: 34 :: 58 :: opn ks
def sht : List Bool → List UInt8
  | [] => []
  | true :: ks => sht ks ++ [93]
  | false :: ks => sht ks ++ [125]
def nestT : List Bool → VT
  | [] => .mk 3 (bT [48]) .empty [] []
  | true :: ks => .mk 5 .empty .empty [nestT ks] []
  | false :: ks => objT [([], nestT ks)]
theorem getD_at (a : List UInt8) (c : UInt8) (b : List UInt8) : (a ++ c :: b).getD a.length 0 = c := by
  simp [List.getD]
theorem beh_at {a b : List UInt8} {c : UInt8} {cs : List UInt8} (hc : cs.contains c = false) : behL (a ++ c :: b) a.length cs = a.length := by
  unfold behL
  rw [List.drop_left' rfl, List.dropWhile_cons, if_neg (by rw [hc]; decide), List.length_append]
  omega
theorem must_at_mark (a b : List UInt8) (c : UInt8) (hb : cBl.contains c = false) (hm : cMk.contains c = true) : mustL (a ++ c :: b) a.length = .ok ⟨(1 + Lib.indexByte cMk c).toNat, a.length, a.length + 1, [], 0⟩ (a.length + 1) := by
  have hbe := beh_at (a := a) (b := b) hb
  have hn : nextT (a ++ c :: b) a.length = ⟨(1 + Lib.indexByte cMk c).toNat, a.length, a.length + 1, [], 0⟩ := by
    unfold nextT
    rw [getD_at, if_pos hm]
  unfold mustL
  rw [hbe, hn, if_pos (by rw [List.length_append, List.length_cons]; omega), if_pos rfl]
theorem must_at_empty (a b : List UInt8) : mustL (a ++ 34 :: 34 :: b) a.length = .ok ⟨11, a.length, a.length + 2, [], 0⟩ (a.length + 2) := by
  have hbe := beh_at (a := a) (b := 34 :: b) (c := 34) (cs := cBl) (by decide)
  have hu : unqL (a ++ 34 :: 34 :: b) (a.length + 1) [] = ([], a.length + 1 + 1, 0) := by
    rw [unqL_step [] (by rw [List.length_append, List.length_cons, List.length_cons]; omega)]
    have hd : (a ++ 34 :: 34 :: b).drop (a.length + 1) = 34 :: b := by
      rw [show a ++ 34 :: 34 :: b = (a ++ [34]) ++ 34 :: b from by simp, List.drop_left' (by simp)]
    rw [hd]
    have h34 : (decL (34 :: b)).1 = 34 := by
      have := dec_enc 34 (by unfold isR; omega) b
      have e : enc 34 = [34] := by decide
      rw [e] at this
      rw [show (34 : UInt8) :: b = [34] ++ b from rfl, this]
    rw [if_pos h34]
  have hn : nextT (a ++ 34 :: 34 :: b) a.length = ⟨11, a.length, a.length + 2, [], 0⟩ := by
    unfold nextT
    rw [getD_at, if_neg (by decide), if_pos rfl]
    unfold litT
    rw [hu, if_pos rfl]
    rfl
  unfold mustL
  rw [hbe, hn, if_pos (by rw [List.length_append, List.length_cons]; omega), if_pos rfl]
theorem must_at_zero (a b : List UInt8) (hb : ∀ c r, b = c :: r → cNm.contains c = false) : mustL (a ++ 48 :: b) a.length = .ok ⟨10, a.length, a.length + 1, [48], 0⟩ (a.length + 1) := by
  have hbe := beh_at (a := a) (b := b) (c := 48) (cs := cBl) (by decide)
  have hnm : behL (a ++ 48 :: b) a.length cNm = a.length + 1 := by
    unfold behL
    rw [List.drop_left' rfl, List.dropWhile_cons, if_pos (by decide)]
    have hd : b.dropWhile (cNm.contains ·) = b := by
      cases b with
      | nil => rfl
      | cons c r => rw [List.dropWhile_cons, if_neg (by rw [hb c r rfl]; decide)]
    rw [hd, List.length_append, List.length_cons]
    omega
  have hc : cut (a ++ 48 :: b) a.length (a.length + 1) = [48] := by
    unfold cut
    rw [List.drop_left' rfl]
    simp
  have hn : nextT (a ++ 48 :: b) a.length = ⟨10, a.length, a.length + 1, [48], 0⟩ := by
    unfold nextT
    rw [getD_at, if_neg (by decide), if_neg (by decide), if_neg (by decide), if_pos (by decide)]
    unfold numeralT
    rw [hnm, hc, if_pos (by decide)]
    rfl
  unfold mustL
  rw [hbe, hn, if_pos (by rw [List.length_append, List.length_cons]; omega), if_pos rfl]
def Ends (b : List UInt8) : Prop := ∀ c r, b = c :: r → cNm.contains c = false
theorem kind3 : (1 + Lib.indexByte cMk 91).toNat = 3 := by decide
theorem kind4 : (1 + Lib.indexByte cMk 93).toNat = 4 := by decide
theorem kind1 : (1 + Lib.indexByte cMk 123).toNat = 1 := by decide
theorem kind2 : (1 + Lib.indexByte cMk 125).toNat = 2 := by decide
theorem kind5 : (1 + Lib.indexByte cMk 58).toNat = 5 := by decide
theorem deep_ok : ∀ (ks : List Bool) (f d : Nat) (a b l : List UInt8), l = a ++ (opn ks ++ 48 :: (sht ks ++ b)) → Ends b → f + d = 65 → ks.length ≤ f → ∃ t p1, mustL l a.length = .ok t p1 ∧ t.kind ≠ 2 ∧ t.kind ≠ 4 ∧ valL l (obL l) f d t p1 = .ok (nestT ks) (a.length + (opn ks).length + 1 + (sht ks).length)
  | [], f, d, a, b, l, hl, hE, hfd, hk => by
    subst hl
    refine ⟨_, _, must_at_zero a b hE, (by show 10 ≠ 2; omega), (by show 10 ≠ 4; omega), ?_⟩
    have e : ∀ f d : Nat, valL (a ++ 48 :: b) (obL (a ++ 48 :: b)) f d ⟨10, a.length, a.length + 1, [48], 0⟩ (a.length + 1) = .ok (nestT []) (a.length + 1) := by
      intro f d
      cases f <;> (unfold valL valAt leafL; simp [nestT])
    exact e f d
  | true :: ks, f, d, a, b, l, hl, hE, hfd, hk => by
    obtain ⟨f, rfl⟩ : ∃ g, f = g + 1 := ⟨f - 1, by have : (true :: ks).length = ks.length + 1 := rfl; omega⟩
    have hk' : ks.length ≤ f := by have : (true :: ks).length = ks.length + 1 := rfl; omega
    have hl0 : l = a ++ 91 :: (opn ks ++ 48 :: (sht ks ++ 93 :: b)) := by rw [hl]; simp [opn, sht]
    have hl1 : l = (a ++ [91]) ++ (opn ks ++ 48 :: (sht ks ++ 93 :: b)) := by rw [hl0]; simp
    obtain ⟨t, p1, h1, h2, h4, h5⟩ := deep_ok ks f (d + 1) (a ++ [91]) (93 :: b) l hl1 (fun c r e => by injection e with e _; rw [← e]; decide) (by omega) hk'
    have hla : (a ++ [91]).length = a.length + 1 := by simp
    rw [hla] at h1 h5
    have hm := must_at_mark a (opn ks ++ 48 :: (sht ks ++ 93 :: b)) 91 (by decide) (by decide)
    rw [← hl0, kind3] at hm
    refine ⟨_, _, hm, (by show 3 ≠ 2; omega), (by show 3 ≠ 4; omega), ?_⟩
    obtain ⟨q, hq⟩ : ∃ q, a.length + 1 + (opn ks).length + 1 + (sht ks).length = q := ⟨_, rfl⟩
    rw [hq] at h5
    have hl2 : l = (a ++ 91 :: (opn ks ++ 48 :: sht ks)) ++ 93 :: b := by rw [hl0]; simp
    have hlq : (a ++ 91 :: (opn ks ++ 48 :: sht ks)).length = q := by rw [← hq]; simp; omega
    have hm2 := must_at_mark (a ++ 91 :: (opn ks ++ 48 :: sht ks)) b 93 (by decide) (by decide)
    rw [← hl2, kind4, hlq] at hm2
    have hlen : a.length + (opn (true :: ks)).length + 1 + (sht (true :: ks)).length = q + 1 := by rw [← hq]; simp [opn, sht]; omega
    rw [hlen]
    unfold valL valAt
    rw [if_pos rfl, if_pos (by omega)]
    generalize valL l (obL l) f (d + 1) = vl at h5
    unfold arrL rowL
    rw [h1]
    dsimp only
    rw [if_neg h4]
    unfold aPt
    rw [h5]
    dsimp only
    rw [loopL, hm2]
    dsimp only
    rw [if_pos rfl]
    rfl
  | false :: ks, f, d, a, b, l, hl, hE, hfd, hk => by
    obtain ⟨f, rfl⟩ : ∃ g, f = g + 1 := ⟨f - 1, by have : (false :: ks).length = ks.length + 1 := rfl; omega⟩
    have hk' : ks.length ≤ f := by have : (false :: ks).length = ks.length + 1 := rfl; omega
    have hl0 : l = a ++ 123 :: (34 :: 34 :: 58 :: (opn ks ++ 48 :: (sht ks ++ 125 :: b))) := by rw [hl]; simp [opn, sht]
    have hl1 : l = (a ++ [123, 34, 34, 58]) ++ (opn ks ++ 48 :: (sht ks ++ 125 :: b)) := by rw [hl0]; simp
    obtain ⟨t, p1, h1, h2, h4, h5⟩ := deep_ok ks f (d + 1) (a ++ [123, 34, 34, 58]) (125 :: b) l hl1 (fun c r e => by injection e with e _; rw [← e]; decide) (by omega) hk'
    have hla : (a ++ [123, 34, 34, 58]).length = a.length + 4 := by simp
    rw [hla] at h1 h5
    have hm := must_at_mark a (34 :: 34 :: 58 :: (opn ks ++ 48 :: (sht ks ++ 125 :: b))) 123 (by decide) (by decide)
    rw [← hl0, kind1] at hm
    refine ⟨_, _, hm, (by show 1 ≠ 2; omega), (by show 1 ≠ 4; omega), ?_⟩
    have hl3 : l = (a ++ [123]) ++ 34 :: 34 :: (58 :: (opn ks ++ 48 :: (sht ks ++ 125 :: b))) := by rw [hl0]; simp
    have hmk := must_at_empty (a ++ [123]) (58 :: (opn ks ++ 48 :: (sht ks ++ 125 :: b)))
    rw [← hl3, show (a ++ [(123 : UInt8)]).length = a.length + 1 from by simp] at hmk
    have hl4 : l = (a ++ [123, 34, 34]) ++ 58 :: (opn ks ++ 48 :: (sht ks ++ 125 :: b)) := by rw [hl0]; simp
    have hmc := must_at_mark (a ++ [123, 34, 34]) (opn ks ++ 48 :: (sht ks ++ 125 :: b)) 58 (by decide) (by decide)
    rw [← hl4, kind5, show (a ++ [(123 : UInt8), 34, 34]).length = a.length + 1 + 2 from by simp] at hmc
    obtain ⟨q, hq⟩ : ∃ q, a.length + 4 + (opn ks).length + 1 + (sht ks).length = q := ⟨_, rfl⟩
    rw [hq] at h5
    have hl2 : l = (a ++ 123 :: 34 :: 34 :: 58 :: (opn ks ++ 48 :: sht ks)) ++ 125 :: b := by rw [hl0]; simp
    have hlq : (a ++ 123 :: 34 :: 34 :: 58 :: (opn ks ++ 48 :: sht ks)).length = q := by rw [← hq]; simp; omega
    have hm2 := must_at_mark (a ++ 123 :: 34 :: 34 :: 58 :: (opn ks ++ 48 :: sht ks)) b 125 (by decide) (by decide)
    rw [← hl2, kind2, hlq] at hm2
    have hlen : a.length + (opn (false :: ks)).length + 1 + (sht (false :: ks)).length = q + 1 := by rw [← hq]; simp [opn, sht]; omega
    rw [hlen]
    unfold valL valAt
    rw [if_neg (by show ¬ 1 = 3; omega), if_pos rfl, if_pos (by omega)]
    generalize valL l (obL l) f (d + 1) = vl at h5
    unfold obL rowL
    rw [hmk]
    dsimp only
    rw [if_neg (by show ¬ 11 = 2; omega)]
    unfold oPt
    rw [if_pos rfl, if_neg (by simp), hmc]
    dsimp only
    rw [if_pos rfl, show a.length + 1 + 2 + 1 = a.length + 4 from rfl, h1]
    dsimp only
    rw [h5]
    dsimp only
    rw [loopL, hm2]
    dsimp only
    rw [if_pos rfl]
    rfl
theorem deep_bad : ∀ (ks : List Bool) (f d : Nat) (a b l : List UInt8), l = a ++ (opn ks ++ 48 :: b) → f + d = 65 → f < ks.length → ∃ t p1, mustL l a.length = .ok t p1 ∧ t.kind ≠ 2 ∧ t.kind ≠ 4 ∧ valL l (obL l) f d t p1 = .bad 52 (a.length + (opn (ks.take f)).length)
  | [], f, d, a, b, l, hl, hfd, hk => absurd hk (Nat.not_lt_zero _)
  | true :: ks, f, d, a, b, l, hl, hfd, hk => by
    have hl0 : l = a ++ 91 :: (opn ks ++ 48 :: b) := by rw [hl]; simp [opn]
    have hm := must_at_mark a (opn ks ++ 48 :: b) 91 (by decide) (by decide)
    rw [← hl0, kind3] at hm
    refine ⟨_, _, hm, (by show 3 ≠ 2; omega), (by show 3 ≠ 4; omega), ?_⟩
    cases f with
    | zero =>
      unfold valL valAt
      rw [if_pos rfl, if_neg (by omega)]
      simp [opn]
    | succ f =>
      have hk' : f < ks.length := by have : (true :: ks).length = ks.length + 1 := rfl; omega
      have hl1 : l = (a ++ [91]) ++ (opn ks ++ 48 :: b) := by rw [hl0]; simp
      obtain ⟨t, p1, h1, h2, h4, h5⟩ := deep_bad ks f (d + 1) (a ++ [91]) b l hl1 (by omega) hk'
      have hla : (a ++ [(91 : UInt8)]).length = a.length + 1 := by simp
      rw [hla] at h1 h5
      have hlen : a.length + (opn ((true :: ks).take (f + 1))).length = a.length + 1 + (opn (ks.take f)).length := by simp [opn]; omega
      rw [hlen]
      unfold valL valAt
      rw [if_pos rfl, if_pos (by omega)]
      generalize valL l (obL l) f (d + 1) = vl at h5
      unfold arrL rowL
      rw [h1]
      dsimp only
      rw [if_neg h4]
      unfold aPt
      rw [h5]
  | false :: ks, f, d, a, b, l, hl, hfd, hk => by
    have hl0 : l = a ++ 123 :: (34 :: 34 :: 58 :: (opn ks ++ 48 :: b)) := by rw [hl]; simp [opn]
    have hm := must_at_mark a (34 :: 34 :: 58 :: (opn ks ++ 48 :: b)) 123 (by decide) (by decide)
    rw [← hl0, kind1] at hm
    refine ⟨_, _, hm, (by show 1 ≠ 2; omega), (by show 1 ≠ 4; omega), ?_⟩
    cases f with
    | zero =>
      unfold valL valAt
      rw [if_neg (by show ¬ 1 = 3; omega), if_pos rfl, if_neg (by omega)]
      simp [opn]
    | succ f =>
      have hk' : f < ks.length := by have : (false :: ks).length = ks.length + 1 := rfl; omega
      have hl1 : l = (a ++ [123, 34, 34, 58]) ++ (opn ks ++ 48 :: b) := by rw [hl0]; simp
      obtain ⟨t, p1, h1, h2, h4, h5⟩ := deep_bad ks f (d + 1) (a ++ [123, 34, 34, 58]) b l hl1 (by omega) hk'
      have hla : (a ++ [(123 : UInt8), 34, 34, 58]).length = a.length + 4 := by simp
      rw [hla] at h1 h5
      have hl3 : l = (a ++ [123]) ++ 34 :: 34 :: (58 :: (opn ks ++ 48 :: b)) := by rw [hl0]; simp
      have hmk := must_at_empty (a ++ [123]) (58 :: (opn ks ++ 48 :: b))
      rw [← hl3, show (a ++ [(123 : UInt8)]).length = a.length + 1 from by simp] at hmk
      have hl4 : l = (a ++ [123, 34, 34]) ++ 58 :: (opn ks ++ 48 :: b) := by rw [hl0]; simp
      have hmc := must_at_mark (a ++ [123, 34, 34]) (opn ks ++ 48 :: b) 58 (by decide) (by decide)
      rw [← hl4, kind5, show (a ++ [(123 : UInt8), 34, 34]).length = a.length + 1 + 2 from by simp] at hmc
      have hlen : a.length + (opn ((false :: ks).take (f + 1))).length = a.length + 4 + (opn (ks.take f)).length := by simp [opn]; omega
      rw [hlen]
      unfold valL valAt
      rw [if_neg (by show ¬ 1 = 3; omega), if_pos rfl, if_pos (by omega)]
      generalize valL l (obL l) f (d + 1) = vl at h5
      unfold obL rowL
      rw [hmk]
      dsimp only
      rw [if_neg (by show ¬ 11 = 2; omega)]
      unfold oPt
      rw [if_pos rfl, if_neg (by simp), hmc]
      dsimp only
      rw [if_pos rfl, show a.length + 1 + 2 + 1 = a.length + 4 from rfl, h1]
      dsimp only
      rw [h5]
theorem deep_one (s : ByteArray) (ks : List Bool) (hs : s.data.toList = opn ks ++ 48 :: sht ks) : (ks.length ≤ 64 → ∃ q, onlL s.data.toList (vL s) 0 = .ok (nestT ks) q) ∧ (64 < ks.length → onlL s.data.toList (vL s) 0 = .bad 52 (opn (ks.take 64)).length) := by
  constructor
  · intro hk
    obtain ⟨t, p1, h1, _, _, h5⟩ := deep_ok ks 64 1 [] [] s.data.toList (by rw [hs]; simp) (fun c r e => by cases e) rfl hk
    have h5' : vL s t p1 = _ := h5
    unfold onlL
    rw [show (0 : Nat) = ([] : List UInt8).length from rfl, h1]
    dsimp only
    rw [h5']
    dsimp only
    unfold endL
    have hb : ¬ behL s.data.toList (([] : List UInt8).length + (opn ks).length + 1 + (sht ks).length) cBl < s.data.toList.length := by
      have hl : s.data.toList.length = (opn ks).length + 1 + (sht ks).length := by rw [hs]; simp; omega
      have h := (behL_ge (l := s.data.toList) (p := ([] : List UInt8).length + (opn ks).length + 1 + (sht ks).length) cBl (by rw [hl]; simp)).1
      rw [hl]
      simp at h ⊢
      omega
    rw [if_neg hb]
    exact ⟨_, rfl⟩
  · intro hk
    obtain ⟨t, p1, h1, _, _, h5⟩ := deep_bad ks 64 1 [] (sht ks) s.data.toList (by rw [hs]; simp) rfl hk
    have h5' : vL s t p1 = _ := h5
    unfold onlL
    rw [show (0 : Nat) = ([] : List UInt8).length from rfl, h1]
    dsimp only
    rw [h5']
    simp
end Go.Proofs.YtcbngdkekdhfeaaGreatDoor
