import Derived.Test.YtaflpeajapdkdaaM18
import Derived.Deep.RegionHeld3
namespace Go.Proofs.Ytaflpeajapdkdaa
open Go.RowKit
set_option linter.unusedVariables false
set_option linter.unusedSimpArgs false

/-- two trees are one -/
noncomputable def likeD (A B : VT) : Bool := @decide (A = B) (Classical.propDecidable _)
theorem likeD_iff {A B : VT} : likeD A B = true ↔ A = B := by unfold likeD; exact @decide_eq_true_iff (A = B) (Classical.propDecidable _)
theorem likeD_no {A B : VT} (h : ¬ A = B) : likeD A B = false := by
  cases e : likeD A B with
  | false => rfl
  | true => exact absurd (likeD_iff.1 e) h
/-- hallmarkref03.Like, at a height -/
def LkOk (h : Nat) : Prop := ∀ (A B : VT) (va vb : Value) (w : World), InH w h A va → InH w h B vb → Calls Try.prog 23 #[va, vb] w fun e w' => e = .returned (.bool (likeD A B)) ∧ Below w.heap.size w w'

theorem take_up {α : Type} {xs ys : List α} {k : Nat} (h1 : k < xs.length) (h2 : k < ys.length) (h : xs.take k = ys.take k) (e : xs[k] = ys[k]) : xs.take (k + 1) = ys.take (k + 1) := by
  rw [List.take_succ_eq_append_getElem h1, List.take_succ_eq_append_getElem h2, h, e]
theorem take_no {α : Type} {xs ys : List α} {k : Nat} (h1 : k < xs.length) (h2 : k < ys.length) (e : ¬ xs[k] = ys[k]) : ¬ xs = ys := by
  rintro rfl; exact e rfl
theorem VB2.drewL {w u : World} {a b c d e b' c' d' e' : Value} (h : VB2 w u a b c d e b' c' d' e') : VB2 w u.drew a b c d e b' c' d' e' := ⟨h.one.drew, h.two.drew⟩
theorem beq_no {x y : ByteArray} (h : (x.toList == y.toList) = false) : ¬ x = y := by rintro rfl; simp at h
theorem beq_yes {x y : ByteArray} (h : (x.toList == y.toList) = true) : x = y := by
  rw [Lib.toList_data, Lib.toList_data] at h
  exact Pl.eq_of_toList (by simpa using h)

set_option maxRecDepth 100000 in
set_option maxHeartbeats 3200000 in
theorem like_kind (w : World) (ka kb : Int) (an at_ : ByteArray) (aio : Option Addr) (aN aic : Nat) (ako : Option Addr) (aK akc : Nat) (bn bt : ByteArray) (bio : Option Addr) (bN bic : Nat) (bko : Option Addr) (bK bkc : Nat) (hk : ¬ ka = kb) :
    Calls Try.prog 23 #[.agg #[.int .i64 ka, .string an, .string at_, .slice aio aN aic, .slice ako aK akc], .agg #[.int .i64 kb, .string bn, .string bt, .slice bio bN bic, .slice bko bK bkc]] w fun e w' => e = .returned (.bool false) ∧ Below w.heap.size w w' := by
  have HB := Hid.mk (below2 w (.cells #[.int .i64 ka, .string an, .string at_, .slice aio aN aic, .slice ako aK akc] 25) (.cells #[.int .i64 kb, .string bn, .string bt, .slice bio bN bic, .slice bko bK bkc] 25))
  have hk' : (ka != kb) = true := by simpa using hk
  clear hk
  go_enter Try.func23, Try.ntmps23
  go_wp2_with fail
  go_ret
  exact ⟨rfl, HB.out⟩

set_option maxRecDepth 100000 in
set_option maxHeartbeats 3200000 in
theorem like_num (w : World) (ka : Int) (an at_ : ByteArray) (aio : Option Addr) (aN aic : Nat) (ako : Option Addr) (aK akc : Nat) (bn bt : ByteArray) (bio : Option Addr) (bN bic : Nat) (bko : Option Addr) (bK bkc : Nat) (hn : (an.toList == bn.toList) = false) :
    Calls Try.prog 23 #[.agg #[.int .i64 ka, .string an, .string at_, .slice aio aN aic, .slice ako aK akc], .agg #[.int .i64 ka, .string bn, .string bt, .slice bio bN bic, .slice bko bK bkc]] w fun e w' => e = .returned (.bool false) ∧ Below w.heap.size w w' := by
  have HB := Hid.mk (below2 w (.cells #[.int .i64 ka, .string an, .string at_, .slice aio aN aic, .slice ako aK akc] 25) (.cells #[.int .i64 ka, .string bn, .string bt, .slice bio bN bic, .slice bko bK bkc] 25))
  go_enter Try.func23, Try.ntmps23
  go_wp2_with fail
  go_ret
  exact ⟨rfl, HB.out⟩

set_option maxRecDepth 100000 in
set_option maxHeartbeats 3200000 in
theorem like_text (w : World) (ka : Int) (an at_ : ByteArray) (aio : Option Addr) (aN aic : Nat) (ako : Option Addr) (aK akc : Nat) (bn bt : ByteArray) (bio : Option Addr) (bN bic : Nat) (bko : Option Addr) (bK bkc : Nat) (hn : (an.toList == bn.toList) = true) (ht : (at_.toList == bt.toList) = false) :
    Calls Try.prog 23 #[.agg #[.int .i64 ka, .string an, .string at_, .slice aio aN aic, .slice ako aK akc], .agg #[.int .i64 ka, .string bn, .string bt, .slice bio bN bic, .slice bko bK bkc]] w fun e w' => e = .returned (.bool false) ∧ Below w.heap.size w w' := by
  have HB := Hid.mk (below2 w (.cells #[.int .i64 ka, .string an, .string at_, .slice aio aN aic, .slice ako aK akc] 25) (.cells #[.int .i64 ka, .string bn, .string bt, .slice bio bN bic, .slice bko bK bkc] 25))
  go_enter Try.func23, Try.ntmps23
  go_wp2_with fail
  go_ret
  exact ⟨rfl, HB.out⟩

set_option maxRecDepth 100000 in
set_option maxHeartbeats 3200000 in
theorem like_keys (w : World) (ka : Int) (an at_ : ByteArray) (aio : Option Addr) (aN aic : Nat) (ako : Option Addr) (aK akc : Nat) (bn bt : ByteArray) (bio : Option Addr) (bN bic : Nat) (bko : Option Addr) (bK bkc : Nat) (hn : (an.toList == bn.toList) = true) (ht : (at_.toList == bt.toList) = true) (hK : ¬ aK = bK) :
    Calls Try.prog 23 #[.agg #[.int .i64 ka, .string an, .string at_, .slice aio aN aic, .slice ako aK akc], .agg #[.int .i64 ka, .string bn, .string bt, .slice bio bN bic, .slice bko bK bkc]] w fun e w' => e = .returned (.bool false) ∧ Below w.heap.size w w' := by
  have HB := Hid.mk (below2 w (.cells #[.int .i64 ka, .string an, .string at_, .slice aio aN aic, .slice ako aK akc] 25) (.cells #[.int .i64 ka, .string bn, .string bt, .slice bio bN bic, .slice bko bK bkc] 25))
  have hK' : ((aK : Int) != (bK : Int)) = true := by simp; omega
  clear hK
  go_enter Try.func23, Try.ntmps23
  go_wp2_with fail
  go_ret
  exact ⟨rfl, HB.out⟩

set_option maxRecDepth 100000 in
set_option maxHeartbeats 3200000 in
theorem like_items (w : World) (ka : Int) (an at_ : ByteArray) (aio : Option Addr) (aN aic : Nat) (ako : Option Addr) (aK akc : Nat) (bn bt : ByteArray) (bio : Option Addr) (bN bic : Nat) (bko : Option Addr) (bkc : Nat) (hn : (an.toList == bn.toList) = true) (ht : (at_.toList == bt.toList) = true) (hN : ¬ aN = bN) :
    Calls Try.prog 23 #[.agg #[.int .i64 ka, .string an, .string at_, .slice aio aN aic, .slice ako aK akc], .agg #[.int .i64 ka, .string bn, .string bt, .slice bio bN bic, .slice bko aK bkc]] w fun e w' => e = .returned (.bool false) ∧ Below w.heap.size w w' := by
  have HB := Hid.mk (below2 w (.cells #[.int .i64 ka, .string an, .string at_, .slice aio aN aic, .slice ako aK akc] 25) (.cells #[.int .i64 ka, .string bn, .string bt, .slice bio bN bic, .slice bko aK bkc] 25))
  have hN' : ((aN : Int) != (bN : Int)) = true := by simp; omega
  clear hN
  go_enter Try.func23, Try.ntmps23
  go_wp2_with fail
  go_ret
  exact ⟨rfl, HB.out⟩

set_option maxRecDepth 100000 in
set_option maxHeartbeats 3200000 in
theorem like_loops (h : Nat) (ih : LkOk h) (w : World) (ka : Int) (an at_ : ByteArray) (aio : Option Addr) (N aic : Nat) (ako : Option Addr) (K akc : Nat) (bn bt : ByteArray) (bio : Option Addr) (bic : Nat) (bko : Option Addr) (bkc : Nat) (xs ys : List VT) (ak bk : List ByteArray)
    (hia : IIn w h aio xs) (hib : IIn w h bio ys) (hka : KIn w ako ak) (hkb : KIn w bko bk) (la : xs.length = N) (lb : ys.length = N) (ma : ak.length = K) (mb : bk.length = K)
    (hN1 : N ≤ aic) (hN2 : N ≤ bic) (hK1 : K ≤ akc) (hK2 : K ≤ bkc) (hN3 : N ≤ 140737488355328) (hK3 : K ≤ 140737488355328) (hn : (an.toList == bn.toList) = true) (ht : (at_.toList == bt.toList) = true)
    (R : Bool) (hR : R = true ↔ (ak = bk ∧ xs = ys)) :
    Calls Try.prog 23 #[.agg #[.int .i64 ka, .string an, .string at_, .slice aio N aic, .slice ako K akc], .agg #[.int .i64 ka, .string bn, .string bt, .slice bio N bic, .slice bko K bkc]] w fun e w' => e = .returned (.bool R) ∧ Below w.heap.size w w' := by
  have HX := Hid.mk (vb2_new w (.int .i64 ka) (.string an) (.string at_) (.slice aio N aic) (.slice ako K akc) (.string bn) (.string bt) (.slice bio N bic) (.slice bko K bkc))
  have HIA := Hid.mk hia
  have HIB := Hid.mk hib
  have HKA := Hid.mk hka
  have HKB := Hid.mk hkb
  have HLA := Hid.mk la
  have HLB := Hid.mk lb
  have HMA := Hid.mk ma
  have HMB := Hid.mk mb
  have HIh := Hid.mk ih
  have HR := Hid.mk hR
  have HNo : Hid ((¬ ak = bk ∨ ¬ xs = ys) → R = false) := fun hh => by
    cases hr : R with
    | false => rfl
    | true =>
      obtain ⟨e1, e2⟩ := HR.out.1 hr
      rcases hh with hh | hh
      · exact absurd e1 hh
      · exact absurd e2 hh
  clear hia hib hka hkb la lb ma mb ih hR
  go_enter Try.func23, Try.ntmps23
  go_wp2_with fail
  clear hn ht
  go_loopw [5] (fun i wr => ∃ k : Nat, k ≤ K ∧ i = .int .i64 (k : Int) ∧ Hid (VB2 w wr (.int .i64 ka) (.string an) (.string at_) (.slice aio N aic) (.slice ako K akc) (.string bn) (.string bt) (.slice bio N bic) (.slice bko K bkc)) ∧ Hid (ak.take k = bk.take k)) (fun i _ => K - (intOf i).toNat)
  case atStart => exact ⟨0, Nat.zero_le _, rfl, HX.out, rfl⟩
  case round =>
    clear HX
    obtain ⟨k, hk, rfl, HV, HQ⟩ := hrel
    have p3 := HV.out.one.c3
    have p4 := HV.out.one.c4
    have q3 := HV.out.d3
    have q4 := HV.out.d4
    by_cases hlt : k < K
    · have hl1 : (k : Int) < (K : Int) := by omega
      have hk1 : k < ak.length := by rw [HMA.out]; exact hlt
      have hk2 : k < bk.length := by rw [HMB.out]; exact hlt
      obtain ⟨b, off, hko, hbl, hrow⟩ := (HKA.out.keep HV.out.one.below).row (by omega)
      subst hko
      obtain ⟨b2, off2, hko2, hbl2, hrow2⟩ := (HKB.out.keep HV.out.one.below).row (by omega)
      subst hko2
      have c0 := hrow k hk1
      have c1 := hrow2 k hk2
      rw [getD_key hk1] at c0
      rw [getD_key hk2] at c1
      have HUp := Hid.mk (fun e => take_up hk1 hk2 HQ.out e)
      have HNe := Hid.mk (fun e => take_no hk1 hk2 e)
      generalize ak[k] = x at c0 HUp HNe
      generalize bk[k] = y at c1 HUp HNe
      clear hrow hrow2 hbl hbl2 hk1 hk2
      cases he : (x.toList == y.toList) with
      | true =>
        have HN := Hid.mk (HUp.out (beq_yes he))
        go_wp2_with fail
        go_quiet (fail)
        have HV2 := Hid.mk (HV.out.keep (below_drewN (Below.refl wr.heap.size wr) nq))
        clear p3 p4 q3 q4 c0 c1
        go_wp2_with fail
        go_roundw
        case rel => exact ⟨k + 1, hlt, by go_num, HV2, HN⟩
        case measure => simp [intOf]; omega
      | false =>
        have HF := Hid.mk (HNo.out (.inl (HNe.out (beq_no he))))
        go_wp2_with fail
        go_quiet (fail)
        have HV2 := Hid.mk (HV.out.keep (below_drewN (Below.refl wr.heap.size wr) nq))
        clear p3 p4 q3 q4 c0 c1
        go_wp2_with fail
        go_ret
        exact ⟨by rw [HF.out]; rfl, HV2.out.one.below⟩
    · have hl1 : ¬ (k : Int) < (K : Int) := by omega
      have HE : Hid (ak = bk) := by
        have h1 := HQ.out
        rw [List.take_of_length_le (by rw [HMA.out]; omega), List.take_of_length_le (by rw [HMB.out]; omega)] at h1
        exact h1
      go_wp2_with fail
      clear hl1
      go_loopw [6] (fun i wr => ∃ k : Nat, k ≤ N ∧ i = .int .i64 (k : Int) ∧ Hid (VB2 w wr (.int .i64 ka) (.string an) (.string at_) (.slice aio N aic) (.slice ako K akc) (.string bn) (.string bt) (.slice bio N bic) (.slice bko K bkc)) ∧ Hid (xs.take k = ys.take k)) (fun i _ => N - (intOf i).toNat)
      case atStart => exact ⟨0, Nat.zero_le _, rfl, HV.out, rfl⟩
      case round =>
        clear HV p3 p4 q3 q4 HQ hlt
        obtain ⟨k, hk, rfl, HV, HQ⟩ := hrel
        have p3 := HV.out.one.c3
        have p4 := HV.out.one.c4
        have q3 := HV.out.d3
        have q4 := HV.out.d4
        by_cases hlt : k < N
        · have hl1 : (k : Int) < (N : Int) := by omega
          have hk1 : k < xs.length := by rw [HLA.out]; exact hlt
          have hk2 : k < ys.length := by rw [HLB.out]; exact hlt
          obtain ⟨b, off, hko, hbl, hrow⟩ := (HIA.out.keep HV.out.one.below).row (by omega)
          subst hko
          obtain ⟨b2, off2, hko2, hbl2, hrow2⟩ := (HIB.out.keep HV.out.one.below).row (by omega)
          subst hko2
          obtain ⟨v0, v1, v2, v3, v4, ⟨c0, c1, c2, c3, c4⟩, hv⟩ := hrow k hk1
          obtain ⟨u0, u1, u2, u3, u4, ⟨d0, d1, d2, d3, d4⟩, hu⟩ := hrow2 k hk2
          have HUp := Hid.mk (fun e => take_up hk1 hk2 HQ.out e)
          have HNe := Hid.mk (fun e => take_no hk1 hk2 e)
          have HC : Hid (∀ u, Below wr.heap.size wr u → Calls Try.prog 23 #[.agg #[v0, v1, v2, v3, v4], .agg #[u0, u1, u2, u3, u4]] u fun e w' => e = .returned (.bool (likeD xs[k] ys[k])) ∧ Hid (Below wr.heap.size wr w')) := fun u hu2 => (HIh.out _ _ _ _ u (hv.keep hu2) (hu.keep hu2)).mono fun e w' ⟨he, hb⟩ => ⟨he, hu2.trans (hb.mono hu2.size)⟩
          have HL : Hid (Below wr.heap.size wr wr) := Below.refl _ _
          have hlk := @likeD_iff xs[k] ys[k]
          have hw0 := HV.out.one.lt
          have hw1 : w.heap.size + 1 < wr.heap.size := by have := HV.out.two.lt; rwa [World.size_alloc] at this
          have HS : Hid (∀ u, Below wr.heap.size wr u → u.cell? ⟨w.heap.size, 3, none⟩ = some (.slice (some ⟨b, off, none⟩) N aic) ∧ u.cell? ⟨w.heap.size + 1, 3, none⟩ = some (.slice (some ⟨b2, off2, none⟩) N bic) ∧ u.cell? ⟨b, off + k * 5, none⟩ = some v0 ∧ u.cell? ⟨b, off + k * 5 + 1, none⟩ = some v1 ∧ u.cell? ⟨b, off + k * 5 + 2, none⟩ = some v2 ∧ u.cell? ⟨b, off + k * 5 + 3, none⟩ = some v3 ∧ u.cell? ⟨b, off + k * 5 + 4, none⟩ = some v4 ∧ u.cell? ⟨b2, off2 + k * 5, none⟩ = some u0 ∧ u.cell? ⟨b2, off2 + k * 5 + 1, none⟩ = some u1 ∧ u.cell? ⟨b2, off2 + k * 5 + 2, none⟩ = some u2 ∧ u.cell? ⟨b2, off2 + k * 5 + 3, none⟩ = some u3 ∧ u.cell? ⟨b2, off2 + k * 5 + 4, none⟩ = some u4) := fun u hu => ⟨(hu.cell (p := ⟨_, _, _⟩) hw0).trans p3, (hu.cell (p := ⟨_, _, _⟩) hw1).trans q3, (hu.cell (p := ⟨_, _, _⟩) hbl).trans c0, (hu.cell (p := ⟨_, _, _⟩) hbl).trans c1, (hu.cell (p := ⟨_, _, _⟩) hbl).trans c2, (hu.cell (p := ⟨_, _, _⟩) hbl).trans c3, (hu.cell (p := ⟨_, _, _⟩) hbl).trans c4, (hu.cell (p := ⟨_, _, _⟩) hbl2).trans d0, (hu.cell (p := ⟨_, _, _⟩) hbl2).trans d1, (hu.cell (p := ⟨_, _, _⟩) hbl2).trans d2, (hu.cell (p := ⟨_, _, _⟩) hbl2).trans d3, (hu.cell (p := ⟨_, _, _⟩) hbl2).trans d4⟩
          clear hrow hrow2 hbl hbl2 hv hu hw0 hw1
          generalize xs[k] = X at HC HUp HNe hlk
          generalize ys[k] = Y at HC HUp HNe hlk
          generalize likeD X Y = D at HC hlk
          have HLk := Hid.mk hlk
          clear hk1 hk2 hlk
          cases D with
          | true =>
            have HN := Hid.mk (HUp.out (HLk.out.1 rfl))
            go_wp2_with fail
            go_region_held3 (fun u => u.cell? ⟨w.heap.size, 3, none⟩ = some (.slice (some ⟨b, off, none⟩) N aic) ∧ u.cell? ⟨w.heap.size + 1, 3, none⟩ = some (.slice (some ⟨b2, off2, none⟩) N bic) ∧ u.cell? ⟨b, off + k * 5, none⟩ = some v0 ∧ u.cell? ⟨b, off + k * 5 + 1, none⟩ = some v1 ∧ u.cell? ⟨b, off + k * 5 + 2, none⟩ = some v2 ∧ u.cell? ⟨b, off + k * 5 + 3, none⟩ = some v3 ∧ u.cell? ⟨b, off + k * 5 + 4, none⟩ = some v4 ∧ u.cell? ⟨b2, off2 + k * 5, none⟩ = some u0 ∧ u.cell? ⟨b2, off2 + k * 5 + 1, none⟩ = some u1 ∧ u.cell? ⟨b2, off2 + k * 5 + 2, none⟩ = some u2 ∧ u.cell? ⟨b2, off2 + k * 5 + 3, none⟩ = some u3 ∧ u.cell? ⟨b2, off2 + k * 5 + 4, none⟩ = some u4) (first | exact HS.out _ HL.out | exact HS.out _ HL.out.drew) (first | (go_at_call 23; refine (HC.out _ (by first | exact HL.out | exact HL.out.drew)).mono ?_; rintro e w4 ⟨rfl, HL⟩))
            all_goals have HV2 := Hid.mk (HV.out.keep HL.out)
            all_goals clear p3 p4 q3 q4 c0 c1 c2 c3 c4 d0 d1 d2 d3 d4
            all_goals go_wp2_with fail
            all_goals go_roundw
            case rel => exact ⟨k + 1, hlt, by go_num, HV2, HN⟩
            case measure => simp [intOf]; omega
          | false =>
            have HF := Hid.mk (HNo.out (.inr (HNe.out fun e => by have := HLk.out.2 e; cases this)))
            go_wp2_with fail
            go_region_held3 (fun u => u.cell? ⟨w.heap.size, 3, none⟩ = some (.slice (some ⟨b, off, none⟩) N aic) ∧ u.cell? ⟨w.heap.size + 1, 3, none⟩ = some (.slice (some ⟨b2, off2, none⟩) N bic) ∧ u.cell? ⟨b, off + k * 5, none⟩ = some v0 ∧ u.cell? ⟨b, off + k * 5 + 1, none⟩ = some v1 ∧ u.cell? ⟨b, off + k * 5 + 2, none⟩ = some v2 ∧ u.cell? ⟨b, off + k * 5 + 3, none⟩ = some v3 ∧ u.cell? ⟨b, off + k * 5 + 4, none⟩ = some v4 ∧ u.cell? ⟨b2, off2 + k * 5, none⟩ = some u0 ∧ u.cell? ⟨b2, off2 + k * 5 + 1, none⟩ = some u1 ∧ u.cell? ⟨b2, off2 + k * 5 + 2, none⟩ = some u2 ∧ u.cell? ⟨b2, off2 + k * 5 + 3, none⟩ = some u3 ∧ u.cell? ⟨b2, off2 + k * 5 + 4, none⟩ = some u4) (first | exact HS.out _ HL.out | exact HS.out _ HL.out.drew) (first | (go_at_call 23; refine (HC.out _ (by first | exact HL.out | exact HL.out.drew)).mono ?_; rintro e w4 ⟨rfl, HL⟩))
            all_goals have HV2 := Hid.mk (HV.out.keep HL.out)
            all_goals clear p3 p4 q3 q4 c0 c1 c2 c3 c4 d0 d1 d2 d3 d4
            all_goals go_wp2_with fail
            all_goals go_ret
            all_goals exact ⟨by rw [HF.out]; rfl, HV2.out.one.below⟩
        · have hl1 : ¬ (k : Int) < (N : Int) := by omega
          have HT : Hid (R = true) := HR.out.2 ⟨HE.out, by
            have h1 := HQ.out
            rw [List.take_of_length_le (by rw [HLA.out]; omega), List.take_of_length_le (by rw [HLB.out]; omega)] at h1
            exact h1⟩
          go_wp2_with fail
          go_ret
          exact ⟨by rw [HT.out]; rfl, HV.out.one.below⟩

theorem VT.ext' {A B : VT} (h1 : A.kind = B.kind) (h2 : A.num = B.num) (h3 : A.text = B.text) (h4 : A.items = B.items) (h5 : A.keys = B.keys) : A = B := by
  obtain ⟨_, _, _, _, _⟩ := A
  obtain ⟨_, _, _, _, _⟩ := B
  simp only [VT.kind, VT.num, VT.text, VT.items, VT.keys] at *
  subst h1 h2 h3 h4 h5; rfl
theorem w_Like : ∀ h, LkOk h
  | 0 => fun A B va vb w hA _ => hA.elim
  | h + 1 => fun A B va vb w hA hB => by
    obtain ⟨io, icap, ko, kcap, rfl, a1, a2, a3, a4, a5, a6, a7, hk, hi⟩ := hA.open
    obtain ⟨jo, jcap, lo, lcap, rfl, b1, b2, b3, b4, b5, b6, b7, hl, hj⟩ := hB.open
    by_cases ek : A.kind = B.kind
    · cases en : (A.num.toList == B.num.toList) with
      | false =>
        rw [likeD_no (fun e => beq_no en (by rw [e])), ek]
        exact like_num w _ _ _ _ _ _ _ _ _ _ _ _ _ _ _ _ _ en
      | true =>
        cases et : (A.text.toList == B.text.toList) with
        | false =>
          rw [likeD_no (fun e => beq_no et (by rw [e])), ek]
          exact like_text w _ _ _ _ _ _ _ _ _ _ _ _ _ _ _ _ _ en et
        | true =>
          by_cases eK : A.keys.length = B.keys.length
          · by_cases eN : A.items.length = B.items.length
            · rw [ek, eK, eN]
              exact like_loops h (w_Like h) w _ _ _ _ _ _ _ _ _ _ _ _ _ _ _ A.items B.items A.keys B.keys hi hj hk hl eN rfl eK rfl (by omega) b5 (by omega) b6 b3 b4 en et (likeD A B) (by
                rw [likeD_iff]
                refine ⟨fun e => ⟨by rw [e], by rw [e]⟩, fun ⟨e1, e2⟩ => VT.ext' ek (beq_yes en) (beq_yes et) e2 e1⟩)
            · rw [likeD_no (fun e => eN (by rw [e])), ek, eK]
              exact like_items w _ _ _ _ _ _ _ _ _ _ _ _ _ _ _ _ en et eN
          · rw [likeD_no (fun e => eK (by rw [e])), ek]
            exact like_keys w _ _ _ _ _ _ _ _ _ _ _ _ _ _ _ _ _ en et eK
    · rw [likeD_no (fun e => ek (by rw [e]))]
      exact like_kind w _ _ _ _ _ _ _ _ _ _ _ _ _ _ _ _ _ _ ek
end Go.Proofs.Ytaflpeajapdkdaa
