import Derived.Test.YtfcbeohkhljboaaDoorM12
import Derived.Test.YtfcbeohkhljboaaDoorM0
namespace Go.Proofs.YtfcbeohkhljboaaDoor
open Go.RowKit
set_option linter.unusedVariables false
set_option linter.unusedSimpArgs false

theorem w_rootGuess (va : Value) (xs : List Nat) (w : World) (IH : Hid (∀ M, M < xs.length → RootAt M)) (ha : Nums .u64 w va xs) (hma : xs.length ≤ 34359738368) (hx : Pl.dig 1000000000 xs) (tx : Pl.Top xs) :
    Calls Tryd.prog 72 #[va] w fun e w' => ∃ v, e = .returned v ∧ Guess2 w w' v xs := by
  by_cases hl : xs.length ≤ 2
  · exact w_guess_small va xs w ha hl hx
  · exact w_guess_big va xs w IH ha (by omega) hma hx tx

set_option maxHeartbeats 3200000 in
theorem w_root_some (va : Value) (xs : List Nat) (w : World) (IH : Hid (∀ M, M < xs.length → RootAt M)) (ha : Nums .u64 w va xs) (hp : 0 < xs.length) (hma : xs.length ≤ 34359738368) (hx : Pl.dig 1000000000 xs) (tx : Pl.Top xs) :
    Calls Tryd.prog 48 #[va] w fun e w' => ∃ v, e = .returned v ∧ Rooted w w' v xs := by
  have HA := Hid.mk ha
  have HG := Hid.mk (w_rootGuess va xs w IH ha hma hx tx)
  have hAp : 0 < Pl.val 1000000000 xs := by
    have h1 := Pl.val_ge_top (B := 1000000000) hp (Pl.top_last tx hp)
    have : 0 < 1000000000 ^ (xs.length - 1) := Nat.pow_pos (by decide)
    omega
  have HAp := Hid.mk hAp
  obtain ⟨ao, capa, rfl, q1, q2⟩ := ha
  clear q1 q2 hAp
  have hne : ((xs.length : Int) == 0) = false := by simp; intro h; rw [h] at hp; simp at hp
  clear IH
  generalize hla : xs.length = la at *
  have HLA := Hid.mk hla
  clear hla
  go_enter Tryd.func48, Tryd.ntmps48
  go_wp2_with fail
  refine HG.out.mono ?_
  rintro e w1 ⟨v1, rfl, hg1⟩
  obtain ⟨gs, hgot, hb1, hgl, hgv⟩ := hg1
  have HGot := Hid.mk hgot
  have HB1 := Hid.mk hb1
  have HGv : Hid (Pl.val 1000000000 xs < (Pl.val 1000000000 gs + 1) * (Pl.val 1000000000 gs + 1)) := by
    have : Pl.val 1000000000 gs * Pl.val 1000000000 gs ≤ (Pl.val 1000000000 gs + 1) * (Pl.val 1000000000 gs + 1) := Nat.mul_le_mul (by omega) (by omega)
    show _ < _
    omega
  have hgl' : gs.length ≤ la + 2 := by rw [HLA.out] at hgl; exact hgl
  obtain ⟨ao1, cap1, hvv, q1, q2⟩ := hgot.1
  clear q1 q2 hgot hb1 hgv hgl
  subst hvv
  go_wp2_with fail
  go_loopw [3] (fun v wr => ∃ rs, Hid (Got wr v rs) ∧ Below w.heap.size w wr ∧ rs.length ≤ la + 2 ∧ Hid (Pl.val 1000000000 xs < (Pl.val 1000000000 rs + 1) * (Pl.val 1000000000 rs + 1))) (fun v wr => worth wr v)
  case atStart => exact ⟨gs, HGot, HB1.out, hgl', HGv⟩
  case round =>
    obtain ⟨rs, HRs, hbw, hrl, HRv⟩ := hrel
    have hrp : 0 < Pl.val 1000000000 rs := by
      rcases Nat.eq_zero_or_pos (Pl.val 1000000000 rs) with h | h
      · have := HRv.out; rw [h] at this; have := HAp.out; omega
      · exact h
    have HW := Hid.mk (worth_of HRs.out.1)
    have HBw := Hid.mk hbw
    have HRp := Hid.mk hrp
    obtain ⟨aor, capr, hvv, q1, q2⟩ := HRs.out.1
    clear q1 q2 hbw hrp
    subst hvv
    go_wp2_with fail
    refine (w_divide _ _ xs rs wr (HA.out.keep HBw.out) HRs.out.1 (by rw [HLA.out]; omega) (by omega) hx HRs.out.2.1 tx HRs.out.2.2 HRp.out).mono ?_
    rintro e w2 ⟨vq, vr, rfl, hdv⟩
    obtain ⟨qs, ts, hgq, hgr, hb2, hq1, hq2⟩ := hdv
    have HGq := Hid.mk hgq
    have HQ1 := Hid.mk hq1
    have HQ2 := Hid.mk hq2
    have HB2 := Hid.mk hb2
    have hql : qs.length ≤ la := by
      refine Pl.len_of_val (B := 1000000000) (by decide) hgq.2.2 ?_
      have h1 := Pl.val_lt hx
      rw [HLA.out] at h1
      have : Pl.val 1000000000 qs * 1 ≤ Pl.val 1000000000 qs * Pl.val 1000000000 rs := Nat.mul_le_mul_left _ HRp.out
      omega
    obtain ⟨aoq, capq, hvv, q1, q2⟩ := hgq.1
    clear q1 q2
    obtain ⟨aot, capt, hvv2, q1, q2⟩ := hgr.1
    clear q1 q2 hgq hgr hb2 hq1 hq2
    subst hvv
    subst hvv2
    go_wp2_with fail
    refine (w_sum _ _ rs qs w2 (HRs.out.1.keep HB2.out) HGq.out.1 (by omega) (by omega) HRs.out.2.1 HGq.out.2.1).mono ?_
    rintro e w3 ⟨v3, ss, rfl, hf3, hv3⟩
    have HF3 := Hid.mk hf3
    have HV3 := Hid.mk hv3
    have hsl : ss.length ≤ la + 2 + 1 := Pl.sum_len (B := 1000000000) (by decide) HRs.out.2.1 HGq.out.2.1 hf3.2.2.1 hv3 hrl (by omega)
    have HB3 : Hid (Below wr.heap.size wr w3) := HB2.out.trans (hf3.2.2.2.1.mono HB2.out.size)
    obtain ⟨ao3, cap3, hvv, q1, q2⟩ := hf3.1
    clear q1 q2 hf3 hv3
    subst hvv
    go_wp2_with fail
    refine (w_divideByGroup _ ss 2 w3 HF3.out.1 (by omega) HF3.out.2.1 (by decide) (by decide)).mono ?_
    rintro e w4 ⟨v4, ns, m, rfl, hf4, hv4, hm4⟩
    have HF4 := Hid.mk hf4
    have HB4 : Hid (Below wr.heap.size wr w4) := HB3.out.trans (hf4.2.2.2.1.mono HB3.out.size)
    obtain ⟨hnw1, hnw2⟩ := Pl.newton HQ1.out HQ2.out (by rw [hv4]; exact HV3.out) hm4 HRv.out
    have HN1 := Hid.mk hnw1
    have HN2 := Hid.mk hnw2
    have hnl : ns.length ≤ la + 2 + 1 := by
      refine Nat.le_trans (Pl.len_of_val (B := 1000000000) (n := ss.length) (by decide) hf4.2.2.1 ?_) hsl
      have := Pl.val_lt HF3.out.2.1
      omega
    obtain ⟨ao4, cap4, hvv, q1, q2⟩ := hf4.1
    clear q1 q2 hf4 hv4 hm4 hnw1 hnw2
    subst hvv
    go_wp2_with fail
    refine (w_compare _ _ ns rs w4 HF4.out.1 (HRs.out.1.keep HB4.out) (by unfold maxLen; omega) (by unfold maxLen; omega) HF4.out.2.1 HRs.out.2.1 HF4.out.2.2.1 HRs.out.2.2).mono ?_
    rintro e w5 ⟨rfl, hb5⟩
    have HB5 : Hid (Below wr.heap.size wr w5) := HB4.out.trans (hb5.mono HB4.out.size)
    have HBw5 : Hid (Below w.heap.size w w5) := HBw.out.trans (HB5.out.mono HBw.out.size)
    by_cases hlt : Pl.val 1000000000 ns < Pl.val 1000000000 rs
    · rw [Pl.cmp_less hlt]
      have HNew : Hid (Got w5 (.slice ao4 ns.length cap4) ns) := ⟨HF4.out.1.keep hb5, HF4.out.2.1, HF4.out.2.2.1⟩
      have HWn := Hid.mk (worth_of HNew.out.1)
      have hnl2 : ns.length ≤ la + 2 := by
        refine Nat.le_trans (Pl.len_of_val (B := 1000000000) (n := rs.length) (by decide) HF4.out.2.2.1 ?_) hrl
        have := Pl.val_lt HRs.out.2.1
        omega
      have HLt := Hid.mk hlt
      clear hlt hb5
      go_wp2_with fail
      go_roundw
      case measure => rw [HWn.out, HW.out]; exact HLt.out
      exact ⟨ns, HNew, HBw5.out, hnl2, HN2⟩
    · obtain ⟨c, hc⟩ : ∃ c, c = Pl.cmpI (Pl.val 1000000000 ns) (Pl.val 1000000000 rs) := ⟨_, rfl⟩
      have hc0 : 0 ≤ c := by
        rw [hc]
        rcases (show Pl.val 1000000000 rs < Pl.val 1000000000 ns ∨ Pl.val 1000000000 ns = Pl.val 1000000000 rs by omega) with h | h
        · rw [Pl.cmp_more h]; decide
        · rw [Pl.cmp_eq h]; decide
      rw [← hc]
      have HFin : Hid (Rooted w w5 (.slice aor rs.length capr) xs) := ⟨rs, ⟨HRs.out.1.keep HB5.out, HRs.out.2.1, HRs.out.2.2⟩, HBw5.out, HN1.out (by omega), HRv.out⟩
      clear hc hlt hb5
      go_wp2_with fail
      go_ret
      exact ⟨_, rfl, HFin.out⟩

theorem w_root (N : Nat) : RootAt N := by
  induction N using Nat.strongRecOn with
  | _ N ih =>
    intro va xs w hl hN ha hx tx
    by_cases h0 : xs.length = 0
    · obtain rfl : xs = [] := List.eq_nil_of_length_eq_zero h0
      obtain ⟨ao, capa, rfl, q1, q2⟩ := ha
      clear q1 q2
      go_enter Tryd.func48, Tryd.ntmps48
      go_wp2
      go_ret
      exact ⟨_, rfl, [], ⟨Nums.nil _ _ _ _ (fun a e => by cases e), Pl.dig_nil _, rfl⟩, Below.refl _ _, by simp [Pl.val], by simp [Pl.val]⟩
    · exact w_root_some va xs w (fun M hM => ih M (by omega)) ha (by omega) (by omega) hx tx
end Go.Proofs.YtfcbeohkhljboaaDoor
namespace Go.Proofs.YtfcbeohkhljboaaDoor.Pl
set_option linter.unusedVariables false
set_option linter.unusedSimpArgs false

/-- what a row of digits' letters is worth -/
def dvl (l : List UInt8) : Nat := val 10 (digs l)

theorem digs_length (l : List UInt8) : (digs l).length = l.length := by simp [digs]
theorem dvl_nil : dvl [] = 0 := rfl
theorem dvl_cons (c : UInt8) (r : List UInt8) : dvl (c :: r) = dvl r + 10 ^ r.length * (c.toNat - 48) := by
  unfold dvl
  have : digs (c :: r) = digs r ++ [c.toNat - 48] := by simp [digs]
  rw [this, val_append, digs_length]
  simp [val]

theorem digs_dig (l : List UInt8) (h : l.all isDig = true) : dig 10 (digs l) := by
  intro x hx
  simp only [digs, List.mem_reverse, List.mem_map] at hx
  obtain ⟨c, hc, rfl⟩ := hx
  have := (isDig_iff c).1 (List.all_eq_true.1 h c hc)
  omega

theorem dvl_lt (l : List UInt8) (h : l.all isDig = true) : dvl l < 10 ^ l.length := by
  have := val_lt (digs_dig l h)
  rwa [digs_length] at this

theorem dvl_ge (c : UInt8) (r : List UInt8) (h : isDig c = true) (h0 : ¬ c.toNat = 48) : 10 ^ r.length ≤ dvl (c :: r) := by
  rw [dvl_cons]
  have := (isDig_iff c).1 h
  have h1 : 10 ^ r.length * 1 ≤ 10 ^ r.length * (c.toNat - 48) := Nat.mul_le_mul_left _ (by omega)
  omega

/-- a text that is a number's: [48], or one without a nought ahead -/
def canon (l : List UInt8) : Prop := l = [48] ∨ plainB l = true

theorem canon_dig {l : List UInt8} (h : canon l) : l.all isDig = true := by
  rcases h with rfl | h
  · decide
  · cases l with
    | nil => simp [plainB] at h
    | cons c r => simp only [plainB, Bool.and_eq_true] at h; exact h.2

theorem canon_len {l : List UInt8} (h : canon l) : 0 < l.length := by
  rcases h with rfl | h
  · decide
  · cases l with
    | nil => simp [plainB] at h
    | cons c r => simp

theorem canon_ge {l : List UInt8} (h : canon l) (hl : 1 < l.length) : 10 ^ (l.length - 1) ≤ dvl l := by
  rcases h with rfl | h
  · simp at hl
  · cases l with
    | nil => simp [plainB] at h
    | cons c r =>
      simp only [plainB, Bool.and_eq_true] at h
      have hc := (List.all_eq_true.1 h.2) c (by simp)
      exact dvl_ge c r hc (by simpa using h.1)

theorem plain_pos {l : List UInt8} (h : plainB l = true) : 0 < dvl l := by
  cases l with
  | nil => simp [plainB] at h
  | cons c r =>
    simp only [plainB, Bool.and_eq_true] at h
    have hc := (List.all_eq_true.1 h.2) c (by simp)
    have := dvl_ge c r hc (by simpa using h.1)
    have : 0 < 10 ^ r.length := Nat.pow_pos (by decide)
    omega

theorem len_lt {p q : List UInt8} (hp : canon p) (hq : canon q) (h : p.length < q.length) : dvl p < dvl q := by
  have h1 := dvl_lt p (canon_dig hp)
  have h0 := canon_len hp
  have h2 := canon_ge hq (by omega)
  have h3 : 10 ^ p.length ≤ 10 ^ (q.length - 1) := Nat.pow_le_pow_right (by decide) (by omega)
  omega

theorem less_val (p q : List UInt8) (hl : p.length = q.length) (hp : p.all isDig = true) (hq : q.all isDig = true) :
    (Op.bytesLess p q = true ↔ dvl p < dvl q) ∧ (p = q ↔ dvl p = dvl q) := by
  induction p generalizing q with
  | nil =>
    cases q with
    | nil => simp [Op.bytesLess]
    | cons _ _ => simp at hl
  | cons c r ih =>
    cases q with
    | nil => simp at hl
    | cons d t =>
      have hl' : r.length = t.length := by simpa using hl
      simp only [List.all_cons, Bool.and_eq_true] at hp hq
      obtain ⟨i1, i2⟩ := ih t hl' hp.2 hq.2
      have hc := (isDig_iff c).1 hp.1
      have hd := (isDig_iff d).1 hq.1
      have b1 := dvl_lt r hp.2
      have b2 := dvl_lt t hq.2
      rw [dvl_cons, dvl_cons, ← hl']
      rw [← hl'] at b2
      have hcd : (c < d) ↔ c.toNat < d.toNat := UInt8.lt_iff_toNat_lt
      have hce : (c = d) ↔ c.toNat = d.toNat := ⟨fun h => by rw [h], fun h => UInt8.toNat_inj.1 h⟩
      have hbl : Op.bytesLess (c :: r) (d :: t) = (decide (c < d) || (c == d && Op.bytesLess r t)) := rfl
      rw [hbl]
      generalize hC : c.toNat - 48 = C at *
      generalize hD : d.toNat - 48 = D at *
      generalize 10 ^ r.length = T at *
      rcases (show C < D ∨ D < C ∨ C = D by omega) with h | h | h
      · have hlt : c < d := hcd.2 (by omega)
        have hne : ¬ c = d := fun e => by have := hce.1 e; omega
        have : T * C + T ≤ T * D := by rw [← Nat.mul_succ]; exact Nat.mul_le_mul_left _ h
        constructor
        · simp [hlt]; omega
        · simp [hne]; omega
      · have hlt : ¬ c < d := fun e => by have := hcd.1 e; omega
        have hne : ¬ c = d := fun e => by have := hce.1 e; omega
        have : T * D + T ≤ T * C := by rw [← Nat.mul_succ]; exact Nat.mul_le_mul_left _ h
        constructor
        · simp [hlt, hne]; omega
        · simp [hne]; omega
      · have hlt : ¬ c < d := fun e => by have := hcd.1 e; omega
        have heq : c = d := hce.2 (by omega)
        subst h
        subst heq
        constructor
        · simp [hlt, i1]
        · simp [i2]

theorem cmpS_val (p q : List UInt8) (hl : p.length = q.length) (hp : p.all isDig = true) (hq : q.all isDig = true) : cmpS p q = cmpI (dvl p) (dvl q) := by
  obtain ⟨h1, h2⟩ := less_val p q hl hp hq
  unfold cmpS
  rcases (show dvl p < dvl q ∨ dvl q < dvl p ∨ dvl p = dvl q by omega) with h | h | h
  · rw [if_pos (h1.2 h), cmp_less h]
  · have a : ¬ Op.bytesLess p q = true := fun e => by have := h1.1 e; omega
    have b : ¬ (p == q) = true := fun e => by have := h2.1 (by simpa using e); omega
    rw [if_neg a, if_neg b, cmp_more h]
  · have a : ¬ Op.bytesLess p q = true := fun e => by have := h1.1 e; omega
    have b : (p == q) = true := by simpa using h2.2 h
    rw [if_neg a, if_pos b, cmp_eq h]

theorem cmpT_val {p q : List UInt8} (hp : canon p) (hq : canon q) : cmpT p q = cmpI (dvl p) (dvl q) := by
  unfold cmpT
  by_cases h1 : p.length < q.length
  · rw [if_pos h1, cmp_less (len_lt hp hq h1)]
  · by_cases h2 : q.length < p.length
    · rw [if_neg h1, if_pos h2, cmp_more (len_lt hq hp h2)]
    · rw [if_neg h1, if_neg h2]
      exact cmpS_val p q (by omega) (canon_dig hp) (canon_dig hq)

theorem formed_canon {l : List UInt8} (h : formed l = true) : canon (body l) := by
  unfold formed at h
  simp only [Bool.or_eq_true] at h
  rcases h with h | h
  · have : l = [48] := by simpa using h
    subst this; exact Or.inl rfl
  · exact Or.inr h

theorem formed_neg {l : List UInt8} (h : formed l = true) (hn : neg l = true) : plainB (body l) = true := by
  unfold formed at h
  simp only [Bool.or_eq_true] at h
  rcases h with h | h
  · have : l = [48] := by simpa using h
    subst this; exact absurd hn (by decide)
  · exact h

/-- what a text that is a number is worth -/
def ival (l : List UInt8) : Int := if neg l then -(dvl (body l) : Int) else (dvl (body l) : Int)

theorem cmpI_swap (a b : Int) : cmpI b a = -cmpI a b := by
  unfold cmpI
  rcases (show a < b ∨ b < a ∨ a = b by omega) with h | h | h
  · rw [if_neg (show ¬ b < a by omega), if_pos h, if_pos h]; rfl
  · rw [if_pos h, if_neg (show ¬ a < b by omega), if_pos h]
  · subst h; simp

theorem trim_pos_of (xs : List Nat) (B : Nat) (h : 0 < val B xs) : 0 < (trimN xs).length := by
  rw [← val_trim] at h
  cases e : trimN xs with
  | nil => rw [e] at h; simp [val] at h
  | cons _ _ => simp

theorem neg_trim {l : List UInt8} (h : formed l = true) : (neg l && decide (0 < (trimN (digs (body l))).length)) = neg l := by
  cases hn : neg l
  · rfl
  · have := plain_pos (formed_neg h hn)
    have := trim_pos_of (digs (body l)) 10 this
    simp [this]

theorem order_val {a b : List UInt8} (ha : formed a = true) (hb : formed b = true) :
    ordI (neg a) (neg b) (cmpI (val 10 (trimN (digs (body a)))) (val 10 (trimN (digs (body b))))) = cmpN a b := by
  rw [val_trim, val_trim]
  show ordI (neg a) (neg b) (cmpI (dvl (body a)) (dvl (body b))) = cmpN a b
  unfold cmpN
  rw [ha, hb]
  cases neg a <;> cases neg b
  · simp only [ordI]; rw [cmpT_val (formed_canon ha) (formed_canon hb)]; rfl
  · rfl
  · rfl
  · simp only [ordI]; rw [cmpT_val (formed_canon hb) (formed_canon ha), cmpI_swap]; simp

theorem cmpN_val {a b : List UInt8} (ha : formed a = true) (hb : formed b = true) : cmpN a b = cmpI (ival a) (ival b) := by
  rw [← order_val ha hb, val_trim, val_trim]
  show ordI (neg a) (neg b) (cmpI (dvl (body a)) (dvl (body b))) = _
  unfold ival
  cases hna : neg a <;> cases hnb : neg b
  · rfl
  · have := plain_pos (formed_neg hb hnb)
    simp only [ordI]
    unfold cmpI
    rw [if_neg (by simp <;> omega), if_pos (by simp <;> omega)]
  · have := plain_pos (formed_neg ha hna)
    simp only [ordI]
    unfold cmpI
    rw [if_pos (by simp <;> omega)]
  · simp only [ordI]
    rw [← cmpI_swap]
    unfold cmpI
    simp

theorem body_le (s : ByteArray) : (body s.data.toList).length ≤ s.size := by
  unfold body; split <;> simp
theorem cmpS_bd (a b : List UInt8) : -1 ≤ cmpS a b ∧ cmpS a b ≤ 1 := by
  unfold cmpS; split <;> (try split) <;> omega
theorem cmpT_bd (a b : List UInt8) : -1 ≤ cmpT a b ∧ cmpT a b ≤ 1 := by
  have := cmpS_bd a b
  unfold cmpT; split <;> (try split) <;> omega
theorem cmpN_bd (a b : List UInt8) : -1 ≤ cmpN a b ∧ cmpN a b ≤ 1 := by
  have := cmpT_bd (body a) (body b)
  have := cmpT_bd (body b) (body a)
  unfold cmpN
  split <;> (try split) <;> (try split) <;> omega
theorem errN_bd (a b : List UInt8) : 0 ≤ errN a b ∧ errN a b ≤ 1 := by
  unfold errN; split <;> omega

end Go.Proofs.YtfcbeohkhljboaaDoor.Pl
