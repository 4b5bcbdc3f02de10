import Derived.Test.YtfcbeohkhljboaaDoorM37
namespace Go.Proofs.YtfcbeohkhljboaaDoor
open Go.RowKit
set_option linter.unusedVariables false
set_option linter.unusedSimpArgs false

theorem formed_digs {l : List UInt8} (h : Pl.formed l = true) : (Pl.body l).all Pl.isDig = true := by
  unfold Pl.formed at h
  rw [Bool.or_eq_true] at h
  rcases h with h | h
  · have : l = [48] := by simpa using h
    subst this; decide
  · cases e : Pl.body l with
    | nil => rfl
    | cons c t => rw [e] at h; simp only [Pl.plainB, Bool.and_eq_true] at h; exact h.2

theorem dvl_pow {s : ByteArray} (hf : Pl.formed s.data.toList = true) : Pl.dvl (Pl.body s.data.toList) < 1000000000 ^ s.size :=
  Nat.lt_of_lt_of_le (Pl.dvl_lt _ (formed_digs hf)) (Nat.le_trans (pow_le9 _) (Nat.pow_le_pow_right (by decide) (body_size s)))

set_option maxRecDepth 100000 in
set_option maxHeartbeats 1600000 in
theorem w_one_unsigned (a : ByteArray) (w : World) (ha : a.size ≤ 4294967296) (fa : Pl.formed a.data.toList = true) (htab : Tab w) :
    Calls Tryd.prog 41 #[.string a, .func (.func 45) #[] #[]] w fun e w' => Ans w w' e (Pl.dvl (Pl.body a.data.toList) : Int) := by
  have HRa := Hid.mk (fun (u : World) => w_treadV a u ha fa)
  have HT := Hid.mk htab
  have HX := Hid.mk (dvl_pow fa)
  generalize Pl.neg a.data.toList = b1 at *
  generalize Pl.dvl (Pl.body a.data.toList) = x1 at *
  clear htab fa
  go_enter Tryd.func41, Tryd.ntmps41
  go_wp2_with fail
  refine (HRa.out _).mono ?_
  rintro e w1 ⟨ao, an, ac, rfl, HN1, hb1⟩
  have HB1 := Hid.mk hb1
  clear hb1
  go_wp2_with fail
  refine (w_unsigned b1 _ x1 _ (HN1.out.keep (below1 w1 _))).mono ?_
  rintro e w3 ⟨rfl, hb3⟩
  have HN3 := Hid.mk ((HN1.out.keep (below1 w1 _)).keep hb3)
  have HB3 := Hid.mk (below_more (below_more HB1.out (below1 w1 _)) hb3)
  clear hb3
  go_wp2_with fail
  refine (w_textV false _ x1 a.size w3 HN3.out HX.out (by omega) (HT.out.keep HB3.out)).mono ?_
  rintro e w4 ⟨r, rfl, HR, hb4⟩
  have HB4 := Hid.mk (below_more HB3.out hb4)
  clear hb4
  go_wp2_with fail
  go_ret2
  exact ⟨r, rfl, HR.out.1, by rw [HR.out.2]; rfl, HB4.out⟩

end Go.Proofs.YtfcbeohkhljboaaDoor
namespace Go.Proofs.YtfcbeohkhljboaaDoor
open Go.RowKit
set_option linter.unusedVariables false
set_option linter.unusedSimpArgs false

theorem natAbs_ival (l : List UInt8) : (Pl.ival l).natAbs = Pl.dvl (Pl.body l) := by
  unfold Pl.ival; split <;> omega

theorem pow_more {x n K : Nat} (h : x < 1000000000 ^ n) (hn : n ≤ K) : x < 1000000000 ^ K := Nat.lt_of_lt_of_le h (Nat.pow_le_pow_right (by decide) hn)

set_option maxRecDepth 100000 in
set_option maxHeartbeats 800000 in
theorem w_Add (a b : ByteArray) (w : World) (ha : a.size ≤ 4294967296) (hb : b.size ≤ 4294967296) (fa : Pl.formed a.data.toList = true) (fb : Pl.formed b.data.toList = true) (htab : Tab w) :
    Calls Tryd.prog 24 #[.string a, .string b] w fun e w' => Ans w w' e (Pl.ival a.data.toList + Pl.ival b.data.toList) := by
  have h1 := pow_more (dvl_pow fa) (Nat.le_max_left a.size b.size)
  have h2 := pow_more (dvl_pow fb) (Nat.le_max_right a.size b.size)
  have hz : (Pl.ival a.data.toList + Pl.ival b.data.toList).natAbs < 1000000000 ^ (max a.size b.size + 1) := by
    have e1 := natAbs_ival a.data.toList
    have e2 := natAbs_ival b.data.toList
    have : (Pl.ival a.data.toList + Pl.ival b.data.toList).natAbs ≤ (Pl.ival a.data.toList).natAbs + (Pl.ival b.data.toList).natAbs := Int.natAbs_add_le _ _
    rw [Nat.pow_succ]; omega
  have HW := Hid.mk (w_two_plus a b _ _ w ha hb fa fb htab hz (by omega) (fun u v1 v2 n1 n2 => w_plus _ _ v1 v2 _ _ _ u n1 n2 h1 h2 (by omega)))
  clear h1 h2 hz
  go_enter Tryd.func24, Tryd.ntmps24
  go_wp2_with fail
  refine HW.out.mono ?_
  rintro e w1 ⟨r, rfl, r1, r2, r3⟩
  have HR := Hid.mk (And.intro r1 (And.intro r2 r3))
  clear r1 r2 r3
  go_wp2_with fail
  go_ret2
  exact ⟨r, rfl, HR.out.1, HR.out.2.1, HR.out.2.2⟩

set_option maxRecDepth 100000 in
set_option maxHeartbeats 800000 in
theorem w_Sub (a b : ByteArray) (w : World) (ha : a.size ≤ 4294967296) (hb : b.size ≤ 4294967296) (fa : Pl.formed a.data.toList = true) (fb : Pl.formed b.data.toList = true) (htab : Tab w) :
    Calls Tryd.prog 26 #[.string a, .string b] w fun e w' => Ans w w' e (Pl.ival a.data.toList - Pl.ival b.data.toList) := by
  have h1 := pow_more (dvl_pow fa) (Nat.le_max_left a.size b.size)
  have h2 := pow_more (dvl_pow fb) (Nat.le_max_right a.size b.size)
  have hz : (Pl.ival a.data.toList - Pl.ival b.data.toList).natAbs < 1000000000 ^ (max a.size b.size + 1) := by
    have e1 := natAbs_ival a.data.toList
    have e2 := natAbs_ival b.data.toList
    rw [Nat.pow_succ]; omega
  have HW := Hid.mk (w_two_less a b _ _ w ha hb fa fb htab hz (by omega) (fun u v1 v2 n1 n2 => w_less _ _ v1 v2 _ _ _ u n1 n2 h1 h2 (by omega)))
  clear h1 h2 hz
  go_enter Tryd.func26, Tryd.ntmps26
  go_wp2_with fail
  refine HW.out.mono ?_
  rintro e w1 ⟨r, rfl, r1, r2, r3⟩
  have HR := Hid.mk (And.intro r1 (And.intro r2 r3))
  clear r1 r2 r3
  go_wp2_with fail
  go_ret2
  exact ⟨r, rfl, HR.out.1, HR.out.2.1, HR.out.2.2⟩

end Go.Proofs.YtfcbeohkhljboaaDoor
namespace Go.Proofs.YtfcbeohkhljboaaDoor
open Go.RowKit
set_option linter.unusedVariables false
set_option linter.unusedSimpArgs false

theorem dvl_inj : ∀ (p q : List UInt8), p.length = q.length → p.all Pl.isDig = true → q.all Pl.isDig = true → Pl.dvl p = Pl.dvl q → p = q := by
  intro p
  induction p with
  | nil => intro q h _ _ _; cases q with | nil => rfl | cons => simp at h
  | cons c r ih =>
    intro q h h1 h2 h3
    cases q with
    | nil => simp at h
    | cons d t =>
      simp only [List.length_cons, Nat.add_right_cancel_iff] at h
      simp only [List.all_cons, Bool.and_eq_true] at h1 h2
      have a1 := Pl.dvl_lt r h1.2
      have a2 := Pl.dvl_lt t h2.2
      rw [Pl.dvl_cons, Pl.dvl_cons, ← h] at h3
      rw [← h] at a2
      have c1 := (Pl.isDig_iff c).1 h1.1
      have d1 := (Pl.isDig_iff d).1 h2.1
      have hp : 0 < 10 ^ r.length := Nat.pow_pos (by decide)
      have e1 : c.toNat - 48 = d.toNat - 48 := by
        have g1 : (Pl.dvl r + 10 ^ r.length * (c.toNat - 48)) / 10 ^ r.length = c.toNat - 48 := by
          rw [Nat.add_mul_div_left _ _ hp, Nat.div_eq_of_lt a1, Nat.zero_add]
        have g2 : (Pl.dvl t + 10 ^ r.length * (d.toNat - 48)) / 10 ^ r.length = d.toNat - 48 := by
          rw [Nat.add_mul_div_left _ _ hp, Nat.div_eq_of_lt a2, Nat.zero_add]
        rw [← g1, ← g2, h3]
      rw [e1] at h3
      have e2 : Pl.dvl r = Pl.dvl t := by omega
      have e3 : c = d := UInt8.toNat_inj.1 (by omega)
      rw [e3, ih t h h1.2 h2.2 e2]

theorem canon_inj {p q : List UInt8} (hp : Pl.canon p) (hq : Pl.canon q) (h : Pl.dvl p = Pl.dvl q) : p = q := by
  have hl : p.length = q.length := by
    rcases Nat.lt_trichotomy p.length q.length with h1 | h1 | h1
    · have := Pl.len_lt hp hq h1; omega
    · exact h1
    · have := Pl.len_lt hq hp h1; omega
  exact dvl_inj p q hl (Pl.canon_dig hp) (Pl.canon_dig hq) h

theorem neg_split {l : List UInt8} (h : Pl.neg l = true) : l = 45 :: Pl.body l := by
  unfold Pl.body
  rw [if_pos h]
  cases l with
  | nil => cases h
  | cons c t =>
    have : c = 45 := UInt8.toNat_inj.1 (by simpa [Pl.neg] using h)
    rw [this]; rfl

/-- a number has one text -/
theorem ival_inj {p q : List UInt8} (hp : Pl.formed p = true) (hq : Pl.formed q = true) (h : Pl.ival p = Pl.ival q) : p = q := by
  cases np : Pl.neg p <;> cases nq : Pl.neg q
  · have e1 : Pl.body p = p := by unfold Pl.body; rw [np]; rfl
    have e2 : Pl.body q = q := by unfold Pl.body; rw [nq]; rfl
    unfold Pl.ival at h
    rw [np, nq] at h
    simp only [Bool.false_eq_true, if_false] at h
    rw [← e1, ← e2]
    exact canon_inj (Pl.formed_canon hp) (Pl.formed_canon hq) (by omega)
  · have := Pl.plain_pos (Pl.formed_neg hq nq)
    unfold Pl.ival at h
    rw [np, nq] at h
    simp only [Bool.false_eq_true, if_false, if_true] at h
    omega
  · have := Pl.plain_pos (Pl.formed_neg hp np)
    unfold Pl.ival at h
    rw [np, nq] at h
    simp only [Bool.false_eq_true, if_false, if_true] at h
    omega
  · unfold Pl.ival at h
    rw [np, nq] at h
    simp only [if_true] at h
    rw [neg_split np, neg_split nq, canon_inj (Pl.formed_canon hp) (Pl.formed_canon hq) (by omega)]

theorem bytes_ext {a b : ByteArray} (h : a.data.toList = b.data.toList) : a = b := by
  cases a; cases b; simp at h; simp [h]

theorem text_inj {a b : ByteArray} (ha : Pl.formed a.data.toList = true) (hb : Pl.formed b.data.toList = true) (h : Pl.ival a.data.toList = Pl.ival b.data.toList) : a = b := bytes_ext (ival_inj ha hb h)

theorem dvl_pos {l : List UInt8} (h : Pl.formed l = true) (hn : l ≠ [48]) : 0 < Pl.dvl (Pl.body l) := by
  unfold Pl.formed at h
  rw [Bool.or_eq_true] at h
  rcases h with h | h
  · exact absurd (by simpa using h) hn
  · exact Pl.plain_pos h

/-- how long a number's text is -/
theorem text_size {r : ByteArray} {K : Nat} (hf : Pl.formed r.data.toList = true) (hz : (Pl.ival r.data.toList).natAbs < 10 ^ K) (hK : 0 < K) : r.size ≤ K + 1 := by
  have h1 : (Pl.body r.data.toList).length ≤ K := by
    rcases Nat.lt_or_ge 1 (Pl.body r.data.toList).length with h | h
    · have := Pl.canon_ge (Pl.formed_canon hf) h
      rw [natAbs_ival] at hz
      have h2 : 10 ^ ((Pl.body r.data.toList).length - 1) < 10 ^ K := by omega
      have := (Nat.pow_lt_pow_iff_right (by decide : 1 < 10)).1 h2
      omega
    · omega
  have h2 : r.data.toList.length = r.size := Array.length_toList
  unfold Pl.body at h1
  split at h1
  · rw [List.length_tail] at h1; omega
  · omega

end Go.Proofs.YtfcbeohkhljboaaDoor
namespace Go.Proofs.YtfcbeohkhljboaaDoor
open Go.RowKit
set_option linter.unusedVariables false
set_option linter.unusedSimpArgs false

set_option maxRecDepth 100000 in
set_option maxHeartbeats 800000 in
theorem w_overDiv (a b : ByteArray) (w : World) (ha : a.size ≤ 4294967296) (hb : b.size ≤ 4294967296) (fa : Pl.formed a.data.toList = true) (fb : Pl.formed b.data.toList = true) (h0 : b.data.toList ≠ [48]) (htab : Tab w) :
    Calls Tryd.prog 60 #[.string a, .string b, .func (.func 61) #[] #[]] w fun e w' => Ans w w' e (Int.tdiv (Pl.ival a.data.toList) (Pl.ival b.data.toList)) := by
  have h1 := pow_more (dvl_pow fa) (Nat.le_max_left a.size b.size)
  have h2 := pow_more (dvl_pow fb) (Nat.le_max_right a.size b.size)
  have hz : (Int.tdiv (Pl.ival a.data.toList) (Pl.ival b.data.toList)).natAbs < 1000000000 ^ (max a.size b.size) := by
    have e1 := natAbs_ival a.data.toList
    have e2 := natAbs_ival b.data.toList
    rw [Int.natAbs_tdiv, e1, e2]
    exact Nat.lt_of_le_of_lt (Nat.div_le_self _ _) h1
  have HW := Hid.mk (fun (u : World) (hu : Tab u) => w_two_over a b _ _ u ha hb fa fb hu hz (by omega) (fun u v1 v2 n1 n2 => w_over _ _ v1 v2 _ _ _ u n1 n2 h1 h2 (by omega) (dvl_pos fb h0)))
  have HC := Hid.mk (fun (u : World) => w_Formed a u (by unfold maxLen; omega))
  have hn : (b.toList == [48]) = false := by rw [Lib.toList_data]; simpa using h0
  have HF := Hid.mk fa
  have HT := Hid.mk htab
  clear h1 h2 hz fa fb htab h0
  go_enter Tryd.func60, Tryd.ntmps60
  go_wp2_with fail
  refine (HC.out _).mono ?_
  rintro e w0 ⟨rfl, hb0⟩
  rw [HF.out]
  have HB0 := Hid.mk hb0
  clear hb0
  go_wp2_with fail
  refine (HW.out _ (HT.out.keep HB0.out)).mono ?_
  rintro e w1 ⟨r, rfl, r1, r2, r3⟩
  have HR := Hid.mk (And.intro r1 (And.intro r2 (below_more HB0.out r3)))
  clear r1 r2 r3
  go_wp2_with fail
  go_ret2
  exact ⟨r, rfl, HR.out.1, HR.out.2.1, HR.out.2.2⟩

set_option maxRecDepth 100000 in
set_option maxHeartbeats 800000 in
theorem w_Div (a b : ByteArray) (w : World) (ha : a.size ≤ 4294967296) (hb : b.size ≤ 4294967296) (fa : Pl.formed a.data.toList = true) (fb : Pl.formed b.data.toList = true) (h0 : b.data.toList ≠ [48]) (htab : Tab w) :
    Calls Tryd.prog 30 #[.string a, .string b] w fun e w' => Ans w w' e (Int.tdiv (Pl.ival a.data.toList) (Pl.ival b.data.toList)) := by
  have HW := Hid.mk (w_overDiv a b w ha hb fa fb h0 htab)
  clear fa fb h0 htab
  go_enter Tryd.func30, Tryd.ntmps30
  go_wp2_with fail
  refine HW.out.mono ?_
  rintro e w1 ⟨r, rfl, r1, r2, r3⟩
  have HR := Hid.mk (And.intro r1 (And.intro r2 r3))
  clear r1 r2 r3
  go_wp2_with fail
  go_ret2
  exact ⟨r, rfl, HR.out.1, HR.out.2.1, HR.out.2.2⟩

set_option maxRecDepth 100000 in
set_option maxHeartbeats 800000 in
theorem w_overMod (a b : ByteArray) (w : World) (ha : a.size ≤ 4294967296) (hb : b.size ≤ 4294967296) (fa : Pl.formed a.data.toList = true) (fb : Pl.formed b.data.toList = true) (h0 : b.data.toList ≠ [48]) (htab : Tab w) :
    Calls Tryd.prog 60 #[.string a, .string b, .func (.func 63) #[] #[]] w fun e w' => Ans w w' e (Int.tmod (Pl.ival a.data.toList) (Pl.ival b.data.toList)) := by
  have h1 := pow_more (dvl_pow fa) (Nat.le_max_left a.size b.size)
  have h2 := pow_more (dvl_pow fb) (Nat.le_max_right a.size b.size)
  have hz : (Int.tmod (Pl.ival a.data.toList) (Pl.ival b.data.toList)).natAbs < 1000000000 ^ (max a.size b.size) := by
    have e1 := natAbs_ival a.data.toList
    have e2 := natAbs_ival b.data.toList
    rw [Int.natAbs_tmod, e1, e2]
    exact Nat.lt_of_le_of_lt (Nat.mod_le _ _) h1
  have HW := Hid.mk (fun (u : World) (hu : Tab u) => w_two_left a b _ _ u ha hb fa fb hu hz (by omega) (fun u v1 v2 n1 n2 => w_left _ _ v1 v2 _ _ _ u n1 n2 h1 h2 (by omega) (dvl_pos fb h0)))
  have HC := Hid.mk (fun (u : World) => w_Formed a u (by unfold maxLen; omega))
  have hn : (b.toList == [48]) = false := by rw [Lib.toList_data]; simpa using h0
  have HF := Hid.mk fa
  have HT := Hid.mk htab
  clear h1 h2 hz fa fb htab h0
  go_enter Tryd.func60, Tryd.ntmps60
  go_wp2_with fail
  refine (HC.out _).mono ?_
  rintro e w0 ⟨rfl, hb0⟩
  rw [HF.out]
  have HB0 := Hid.mk hb0
  clear hb0
  go_wp2_with fail
  refine (HW.out _ (HT.out.keep HB0.out)).mono ?_
  rintro e w1 ⟨r, rfl, r1, r2, r3⟩
  have HR := Hid.mk (And.intro r1 (And.intro r2 (below_more HB0.out r3)))
  clear r1 r2 r3
  go_wp2_with fail
  go_ret2
  exact ⟨r, rfl, HR.out.1, HR.out.2.1, HR.out.2.2⟩

set_option maxRecDepth 100000 in
set_option maxHeartbeats 800000 in
theorem w_Mod (a b : ByteArray) (w : World) (ha : a.size ≤ 4294967296) (hb : b.size ≤ 4294967296) (fa : Pl.formed a.data.toList = true) (fb : Pl.formed b.data.toList = true) (h0 : b.data.toList ≠ [48]) (htab : Tab w) :
    Calls Tryd.prog 32 #[.string a, .string b] w fun e w' => Ans w w' e (Int.tmod (Pl.ival a.data.toList) (Pl.ival b.data.toList)) := by
  have HW := Hid.mk (w_overMod a b w ha hb fa fb h0 htab)
  clear fa fb h0 htab
  go_enter Tryd.func32, Tryd.ntmps32
  go_wp2_with fail
  refine HW.out.mono ?_
  rintro e w1 ⟨r, rfl, r1, r2, r3⟩
  have HR := Hid.mk (And.intro r1 (And.intro r2 r3))
  clear r1 r2 r3
  go_wp2_with fail
  go_ret2
  exact ⟨r, rfl, HR.out.1, HR.out.2.1, HR.out.2.2⟩

end Go.Proofs.YtfcbeohkhljboaaDoor
namespace Go.Proofs.YtfcbeohkhljboaaDoor
open Go.RowKit
set_option linter.unusedVariables false
set_option linter.unusedSimpArgs false

set_option maxRecDepth 100000 in
set_option maxHeartbeats 800000 in
theorem w_Abs (a : ByteArray) (w : World) (ha : a.size ≤ 4294967296) (fa : Pl.formed a.data.toList = true) (htab : Tab w) :
    Calls Tryd.prog 19 #[.string a] w fun e w' => Ans w w' e ((Pl.ival a.data.toList).natAbs : Int) := by
  have HW := Hid.mk (w_one_unsigned a w ha fa htab)
  rw [natAbs_ival]
  clear fa htab
  go_enter Tryd.func19, Tryd.ntmps19
  go_wp2_with fail
  refine HW.out.mono ?_
  rintro e w1 ⟨r, rfl, r1, r2, r3⟩
  have HR := Hid.mk (And.intro r1 (And.intro r2 r3))
  clear r1 r2 r3
  go_wp2_with fail
  go_ret2
  exact ⟨r, rfl, HR.out.1, HR.out.2.1, HR.out.2.2⟩

/-- what Root answers -/
def AnsR (w w' : World) (e : Ending) (x : Int) : Prop := ∃ r : ByteArray, e = .returned (.tuple #[.string r, .int .i64 0]) ∧ Pl.formed r.data.toList = true ∧ 0 ≤ Pl.ival r.data.toList ∧ Pl.ival r.data.toList * Pl.ival r.data.toList ≤ x ∧ x < (Pl.ival r.data.toList + 1) * (Pl.ival r.data.toList + 1) ∧ Below w.heap.size w w'

theorem root_any {w : World} {v : Value} {x K : Nat} (h : NumV w v x) (hx : x < 1000000000 ^ K) (hK : K ≤ 4294967296) : Calls Tryd.prog 48 #[v] w fun e w' => ∃ ro rn rc y, e = .returned (.slice ro rn rc) ∧ Hid (NumV w' (.slice ro rn rc) y ∧ y * y ≤ x ∧ x < (y + 1) * (y + 1)) ∧ Below w.heap.size w w' := by
  obtain ⟨xs, g, e, l⟩ := h.fits hx
  refine (w_root K v xs w l (by omega) g.1 g.2.1 g.2.2).mono ?_
  rintro e' w' ⟨v', rfl, rs, gr, hb, h1, h2⟩
  obtain ⟨ro, rc, rfl, _⟩ := gr.1
  rw [e] at h1 h2
  exact ⟨ro, _, rc, _, rfl, ⟨⟨rs, gr, rfl⟩, h1, h2⟩, hb⟩

set_option maxRecDepth 100000 in
set_option maxHeartbeats 1600000 in
theorem w_Root (a : ByteArray) (w : World) (ha : a.size ≤ 4294967296) (fa : Pl.formed a.data.toList = true) (hn : Pl.neg a.data.toList = false) (htab : Tab w) :
    Calls Tryd.prog 21 #[.string a] w fun e w' => AnsR w w' e (Pl.ival a.data.toList) := by
  have HRa := Hid.mk (fun (u : World) => w_treadV a u ha fa)
  have HT := Hid.mk htab
  have HX := Hid.mk (dvl_pow fa)
  have HV : Hid (Pl.ival a.data.toList = (Pl.dvl (Pl.body a.data.toList) : Int)) := by show _ = _; unfold Pl.ival; rw [hn]; rfl
  rw [HV.out]
  rw [hn] at HRa
  clear HV
  generalize Pl.dvl (Pl.body a.data.toList) = x1 at *
  clear htab fa hn
  go_enter Tryd.func21, Tryd.ntmps21
  go_wp2_with fail
  refine (HRa.out _).mono ?_
  rintro e w1 ⟨ao, an, ac, rfl, HN1, hb1⟩
  have HB1 := Hid.mk hb1
  clear hb1
  go_wp2_with fail
  refine (root_any (HN1.out.keep (below1 w1 _)) HX.out ha).mono ?_
  rintro e w2 ⟨ro, rn, rc, y, rfl, HN2, hb2⟩
  have HB2 := Hid.mk (below_more (below_more HB1.out (below1 w1 _)) hb2)
  have HY : Hid (y < 1000000000 ^ a.size) := by
    show _ < _
    have h1 := HN2.out.2.1
    have h2 := HX.out
    have h3 : y ≤ y * y := by
      rcases Nat.eq_zero_or_pos y with h | h
      · subst h; exact Nat.le_refl _
      · exact Nat.le_mul_of_pos_left _ h
    omega
  clear hb2
  go_wp2_with fail
  refine (w_textV false _ y a.size w2 HN2.out.1 HY.out (by omega) (HT.out.keep HB2.out)).mono ?_
  rintro e w4 ⟨r, rfl, HR, hb4⟩
  have HB4 := Hid.mk (below_more HB2.out hb4)
  clear hb4
  go_wp2_with fail
  go_ret2
  have e1 : Pl.ival r.data.toList = (y : Int) := HR.out.2
  refine ⟨r, rfl, HR.out.1, ?_, ?_, ?_, HB4.out⟩
  · rw [e1]; omega
  · rw [e1]; exact_mod_cast HN2.out.2.1
  · rw [e1]; exact_mod_cast HN2.out.2.2

end Go.Proofs.YtfcbeohkhljboaaDoor
namespace Go.Proofs.YtfcbeohkhljboaaDoor
open Go.RowKit
set_option linter.unusedVariables false
set_option linter.unusedSimpArgs false

set_option maxRecDepth 100000 in
set_option maxHeartbeats 800000 in
theorem w_Add_bad (a b : ByteArray) (w : World) (ha : a.size ≤ 4294967296) (hb : b.size ≤ 4294967296) (hbad : (Pl.formed a.data.toList && Pl.formed b.data.toList) = false) :
    Calls Tryd.prog 24 #[.string a, .string b] w fun e w' => e = .returned (.tuple #[.string ⟨#[]⟩, .int .i64 1]) ∧ Below w.heap.size w w' := by
  have HW := Hid.mk (fun (fn : Nat) => w_two_bad a b fn w ha hb hbad)
  clear hbad
  go_enter Tryd.func24, Tryd.ntmps24
  go_wp2_with fail
  refine (HW.out _).mono ?_
  rintro e w1 ⟨rfl, r3⟩
  have HR := Hid.mk r3
  clear r3
  go_wp2_with fail
  go_ret2
  exact ⟨rfl, HR.out⟩

set_option maxRecDepth 100000 in
set_option maxHeartbeats 800000 in
theorem w_Div_zero (a b : ByteArray) (w : World) (ha : a.size ≤ 4294967296) (fa : Pl.formed a.data.toList = true) (h0 : b.toList = [48]) :
    Calls Tryd.prog 30 #[.string a, .string b] w fun e w' => e = .returned (.tuple #[.string ⟨#[]⟩, .int .i64 10]) ∧ Below w.heap.size w w' := by
  have HC := Hid.mk (fun (u : World) => w_Formed a u (by unfold maxLen; omega))
  have hn : (b.toList == [48]) = true := by rw [h0]; rfl
  have HW : Hid (Calls Tryd.prog 60 #[.string a, .string b, .func (.func 61) #[] #[]] w fun e w' => e = .returned (.tuple #[.string ⟨#[]⟩, .int .i64 10]) ∧ Below w.heap.size w w') := by
    show Calls _ _ _ _ _
    have HF := Hid.mk fa
    clear fa h0
    go_enter Tryd.func60, Tryd.ntmps60
    go_wp2_with fail
    refine (HC.out _).mono ?_
    rintro e w0 ⟨rfl, hb0⟩
    rw [HF.out]
    have HB0 := Hid.mk hb0
    clear hb0
    go_wp2_with fail
    go_ret2
    exact ⟨rfl, HB0.out⟩
  clear fa h0 hn
  go_enter Tryd.func30, Tryd.ntmps30
  go_wp2_with fail
  refine HW.out.mono ?_
  rintro e w1 ⟨rfl, r3⟩
  have HR := Hid.mk r3
  clear r3
  go_wp2_with fail
  go_ret2
  exact ⟨rfl, HR.out⟩

set_option maxRecDepth 100000 in
set_option maxHeartbeats 1600000 in
theorem w_Root_neg (a : ByteArray) (w : World) (ha : a.size ≤ 4294967296) (fa : Pl.formed a.data.toList = true) (hn : Pl.neg a.data.toList = true) :
    Calls Tryd.prog 21 #[.string a] w fun e w' => e = .returned (.tuple #[.string ⟨#[]⟩, .int .i64 11]) ∧ Below w.heap.size w w' := by
  have HRa := Hid.mk (fun (u : World) => w_treadV a u ha fa)
  rw [hn] at HRa
  clear fa hn
  go_enter Tryd.func21, Tryd.ntmps21
  go_wp2_with fail
  refine (HRa.out _).mono ?_
  rintro e w1 ⟨ao, an, ac, rfl, HN1, hb1⟩
  have HB1 := Hid.mk (below_more hb1 (below1 w1 (.cells #[.bool true, .slice ao an ac] 58)))
  clear hb1
  go_wp2_with fail
  go_ret2
  exact ⟨rfl, HB1.out⟩

end Go.Proofs.YtfcbeohkhljboaaDoor
