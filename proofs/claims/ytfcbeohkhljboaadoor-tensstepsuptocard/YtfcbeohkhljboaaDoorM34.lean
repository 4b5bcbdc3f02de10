import Derived.Test.YtfcbeohkhljboaaDoorM32
import Derived.Test.YtfcbeohkhljboaaDoorM33
import Derived.Test.YtfcbeohkhljboaaDoorM29
namespace Go.Proofs.YtfcbeohkhljboaaDoor
open Go.RowKit
set_option linter.unusedVariables false
set_option linter.unusedSimpArgs false

theorem w_radd (b1 b2 : Bool) (v1 v2 : Value) (x1 x2 K : Nat) (w : World) (h1 : RV w v1 x1) (h2 : RV w v2 x2) (k1 : x1 < 10 ^ K) (k2 : x2 < 10 ^ K) (hK : K ≤ 549755813888) :
    Calls Tryd.prog 57 #[.agg #[.bool b1, v1], .agg #[.bool b2, v2]] w fun e w' => RN w w' e (sgn b1 x1 + sgn b2 x2) := by
  by_cases hb : b1 = b2
  · subst hb; exact w_radd_same b1 v1 v2 x1 x2 K w h1 h2 k1 k2 hK
  · by_cases hlt : x1 < x2
    · exact w_radd_less b1 b2 v1 v2 x1 x2 K w h1 h2 k1 k2 hK hb hlt
    · exact w_radd_more b1 b2 v1 v2 x1 x2 K w h1 h2 k1 k2 hK hb hlt

/-- a number's box, and the answer's room -/
structure In2 (w u : World) (b1 : Bool) (v1 : Value) : Prop where
  c00 : u.cell? ⟨w.heap.size, 0, none⟩ = some (.bool b1)
  c01 : u.cell? ⟨w.heap.size, 1, none⟩ = some v1
  c10 : u.cell? ⟨w.heap.size + 1, 0, none⟩ = some (.bool false)
  c11 : u.cell? ⟨w.heap.size + 1, 1, none⟩ = some (.slice none 0 0)
  f10 : u.frozen? ⟨w.heap.size + 1, 0, none⟩ = false
  f11 : u.frozen? ⟨w.heap.size + 1, 1, none⟩ = false
  size : w.heap.size + 2 ≤ u.heap.size
  below : Below w.heap.size w u
theorem in2_rbox (w : World) (b1 : Bool) (v1 : Value) : In2 w ((w.alloc (.cells #[.bool b1, v1] 48)).alloc (.cells #[.bool false, .slice none 0 0] 48)) b1 v1 where
  c00 := by simp [go_sem]
  c01 := by simp [go_sem]
  c10 := by simp [go_sem]
  c11 := by simp [go_sem]
  f10 := by simp [go_sem]
  f11 := by simp [go_sem]
  size := by simp
  below := below2 w _ _
theorem In2.keep {w u u' : World} {b1 : Bool} {v1 : Value} (h : In2 w u b1 v1) (hb : Below u.heap.size u u') : In2 w u' b1 v1 := by
  have hs := h.size
  exact ⟨below_cells hb (by omega) h.c00, below_cells hb (by omega) h.c01, below_cells hb (by omega) h.c10, below_cells hb (by omega) h.c11, below_frees hb (by omega) h.f10, below_frees hb (by omega) h.f11, Nat.le_trans hs hb.size, below_more h.below hb⟩

theorem sgn_not (b : Bool) (x : Nat) : sgn (!b) x = -(sgn b x) := by cases b <;> simp [sgn]

set_option maxRecDepth 100000 in
set_option maxHeartbeats 800000 in
theorem w_ropposite (b1 : Bool) (v1 : Value) (x K : Nat) (w : World) (h1 : RV w v1 x) (k1 : x < 10 ^ K) (hK : K ≤ 549755813888) :
    Calls Tryd.prog 44 #[.agg #[.bool b1, v1]] w fun e w' => RN w w' e (-(sgn b1 x)) := by
  have HU := Hid.mk (h1.ru k1 (by omega))
  obtain ⟨ao, na, ca, hv⟩ : ∃ ao na ca, v1 = .slice ao na ca := by obtain ⟨_, ⟨ao, ca, rfl, _⟩, _⟩ := h1; exact ⟨ao, _, ca, rfl⟩
  subst hv
  clear h1 k1
  have HI := Hid.mk (in2_rbox w b1 (.slice ao na ca))
  go_enter Tryd.func44, Tryd.ntmps44
  go_wp2_with fail
  refine (w_trimR (!b1) _ x _ (HU.out.keep HI.out.below)).mono ?_
  rintro e w2 ⟨ro, rn, rc, rfl, HV, hb2⟩
  have HK := HI.out.keep hb2
  have g20 := HK.c10
  have g21 := HK.c11
  have q20 := HK.f10
  have q21 := HK.f11
  have HK' := Hid.mk HK
  clear HK hb2
  generalize hfl : (!b1 && decide (0 < x)) = bl
  have HFL := Hid.mk hfl
  clear hfl
  obtain ⟨r0, r1, r2, r3⟩ := rfill (bl := bl) HK'.out.below (Nat.le_succ _) g20 g21 (by simp) HV.out
  go_wp2_with fail
  refine bodyPost_ret (v := .agg #[.bool bl, .slice ro rn rc]) (by simp [results, Tryd.results44, go_sem, r0, r1]) rfl ?_
  exact ⟨bl, _, _, _, _, rfl, r2, flag_sgn HFL.out (sgn_not _ _), flag_pos HFL.out, r3⟩
end Go.Proofs.YtfcbeohkhljboaaDoor
namespace Go.Proofs.YtfcbeohkhljboaaDoor
open Go.RowKit
set_option linter.unusedVariables false
set_option linter.unusedSimpArgs false

/-- a call that answers a number's text -/
def TxtR (w w' : World) (e : Ending) (z : Int) : Prop := ∃ r : ByteArray, e = .returned (.string r) ∧ Pl.formed r.data.toList = true ∧ Pl.ival r.data.toList = z ∧ Below w.heap.size w w'

/-- while digits are written: from place k on -/
structure WrSt (w1 wr : World) (v : Value) (n : Nat) (bl : Bool) (zs : List Nat) (k : Nat) : Prop where
  out : ∃ l : List UInt8, l.length = n ∧ ((k = zs.length ∧ l = if bl then [45] else []) ∨ (k < zs.length ∧ Lets bl l (Pl.val 10 (zs.drop k)))) ∧ wr.ownsRow w1.heap.size 5 1 v n (Lib.byteCells l) ∧ Below w1.heap.size w1 wr ∧ n ≤ 1 + (zs.length - k)

theorem lets_one {bl : Bool} {l : List UInt8} {n x : Nat} (h : Lets bl l n) (hx : x < 10) : Lets bl (l ++ [UInt8.ofNat (48 + x)]) (x + 10 * n) := by
  obtain ⟨k, rfl, hp, hk⟩ := h
  have e : (UInt8.ofNat (48 + x)).toNat = 48 + x := by rw [UInt8.toNat_ofNat']; omega
  refine ⟨k ++ [UInt8.ofNat (48 + x)], by rw [List.append_assoc], ?_, ?_⟩
  · cases k with
    | nil => simp [Pl.plainB] at hp
    | cons c t =>
      simp only [Pl.plainB, Bool.and_eq_true, List.cons_append] at hp ⊢
      refine ⟨hp.1, ?_⟩
      rw [← List.cons_append, List.all_append, hp.2]
      simp [Pl.isDig, e]; omega
  · rw [dvl_append, hk, Pl.dvl_cons, Pl.dvl_nil, e]; simp; omega

theorem lets_first {bl : Bool} {x : Nat} (hx : x < 10) (h0 : x ≠ 0) : Lets bl ((if bl then [45] else []) ++ [UInt8.ofNat (48 + x)]) x := by
  have e : (UInt8.ofNat (48 + x)).toNat = 48 + x := by rw [UInt8.toNat_ofNat']; omega
  refine ⟨[UInt8.ofNat (48 + x)], rfl, ?_, ?_⟩
  · simp [Pl.plainB, Pl.isDig, e]; omega
  · rw [Pl.dvl_cons, Pl.dvl_nil, e]; simp

theorem WrSt.step {w1 wn : World} {v' : Value} {n m x : Nat} {bl : Bool} {zs : List Nat} {l : List UInt8} (hl : l.length = n) (hs : (m + 1 = zs.length ∧ l = if bl then [45] else []) ∨ (m + 1 < zs.length ∧ Lets bl l (Pl.val 10 (zs.drop (m + 1))))) (hn : n ≤ 1 + (zs.length - (m + 1)))
    (hm : m < zs.length) (hx : zs.getD m 0 = x) (hx9 : x < 10) (ht : Pl.Top zs) {z : Int} (hz : z = ((48 + x : Nat) : Int)) (hown : wn.ownsRow w1.heap.size 5 1 v' (n + 1) (Lib.byteCells l ++ [.int .u8 z])) (hb : Below w1.heap.size w1 wn) : WrSt w1 wn v' (n + 1) bl zs m := by
  have e : (UInt8.ofNat (48 + x)).toNat = 48 + x := by rw [UInt8.toNat_ofNat']; omega
  refine ⟨l ++ [UInt8.ofNat (48 + x)], by simp [hl], Or.inr ⟨hm, ?_⟩, ?_, hb, by omega⟩
  · obtain ⟨r, t, h1, h2, h3⟩ := Pl.drop_parts hm
    rw [h1, Pl.val_cons]
    rcases hs with ⟨h4, h5⟩ | ⟨h4, h5⟩
    · have ht0 : t = [] := by rw [← h3]; exact List.drop_eq_nil_of_le (by omega)
      have hne : x ≠ 0 := by
        have := Pl.top_last ht (by omega)
        rw [show zs.length - 1 = m by omega, hx] at this
        exact this
      rw [ht0, h5, Pl.val_nil, show r = x by rw [← h2, hx]]
      exact lets_first hx9 hne
    · rw [h3] at h5
      rw [show r = x by rw [← h2, hx]]
      exact lets_one h5 hx9
  · have : Lib.byteCells (l ++ [UInt8.ofNat (48 + x)]) = Lib.byteCells l ++ [.int .u8 z] := by
      rw [Lib.byteCells_append, hz]; simp [Lib.byteCells, e]; omega
    rw [this]; exact hown

theorem WrSt.fin {w1 wr : World} {v : Value} {n : Nat} {bl : Bool} {zs : List Nat} (h : WrSt w1 wr v n bl zs 0) (hp : 0 < zs.length) : ∃ l : List UInt8, l.length = n ∧ Pl.formed l = true ∧ Pl.ival l = sgn bl (Pl.val 10 zs) ∧ wr.ownsRow w1.heap.size 5 1 v n (Lib.byteCells l) ∧ Below w1.heap.size w1 wr := by
  obtain ⟨l, h1, h2, h3, h4, h5⟩ := h.out
  rcases h2 with ⟨h6, _⟩ | ⟨_, h7⟩
  · omega
  · obtain ⟨a, b⟩ := lets_formed h7
    exact ⟨l, h1, a, by simpa using b, h3, h4⟩

/-- the world with a number laid down -/
def rbox (w : World) (bl : Bool) (v : Value) : World := w.alloc (.cells #[.bool bl, v] 48)
theorem rbox_size (w : World) (bl : Bool) (v : Value) : (rbox w bl v).heap.size = w.heap.size + 1 := by simp [rbox]
theorem rbox_below (w : World) (bl : Bool) (v : Value) : Below w.heap.size w (rbox w bl v) := (Below.refl w.heap.size w).alloc (Nat.le_refl _) _
theorem rbox_cell (w : World) (bl : Bool) (v : Value) : (rbox w bl v).cell? ⟨w.heap.size, 1, none⟩ = some v := by simp [rbox]

theorem bytes_conv {wr : World} {base n cap g : Nat} {l : List UInt8} (h1 : l.length = n) (h3 : wr.ownsRow base 5 1 (.slice (some ⟨g, 0, none⟩) n cap) n (Lib.byteCells l)) : (convert 75 9 (.slice (some ⟨g, 0, none⟩) n cap)).run Tryd.prog wr = .ok (.string ⟨l.toArray⟩) wr := by
  subst h1
  refine run_convert_bytes_back (P := Tryd.prog) wr 75 9 5 ⟨g, 0, none⟩ cap l Tryd.underlying75 Tryd.underlying5 Tryd.underlying9 (fun j hj => ?_)
  have := h3.cellAt j (by omega)
  have e : (⟨g, 0, none⟩ : Addr).add j = ⟨g, j, none⟩ := by
    unfold Addr.add; by_cases h0 : j = 0 <;> simp [h0]
  rw [e, this]
  simp [Lib.byteCells, hj]

theorem own_some5 {w : World} {base n : Nat} {v : Value} {xs : List Value} (h : w.ownsRow base 5 1 v n xs) (hn : 0 < n) : ∃ g cap, v = .slice (some ⟨g, 0, none⟩) n cap := by
  rcases h.2 with ⟨e, e2⟩ | ⟨g, cap, cur, e, _⟩
  · omega
  · exact ⟨g, cap, e⟩

set_option maxRecDepth 100000 in
set_option maxHeartbeats 1600000 in
theorem w_rwrite_zero (bl : Bool) (v : Value) (w : World) (h : Nums .i64 w v []) (hb : bl = false) :
    Calls Tryd.prog 43 #[.agg #[.bool bl, v]] w fun e w' => TxtR w w' e 0 := by
  subst hb
  obtain ⟨ao, cap, rfl, q1, q2⟩ := h
  clear q1 q2
  go_enter Tryd.func43, Tryd.ntmps43
  go_wp2
  go_ret
  exact ⟨⟨#[48]⟩, rfl, rfl, rfl, (Below.refl _ _).alloc (Nat.le_refl _) _⟩

set_option maxRecDepth 100000 in
set_option maxHeartbeats 1600000 in
theorem w_rwrite_pos (b off cap m : Nat) (zs : List Nat) (w : World) (hm : zs.length = m + 1) (hmm : m ≤ 1099511627776) (hd : Pl.dig 10 zs ∧ Pl.Top zs) (hc : m + 1 ≤ cap) (hlt : b < w.heap.size) (hcell : ∀ i, i < zs.length → w.cell? ⟨b, off + i, none⟩ = some (.int .i64 ((zs.getD i 0 : Nat) : Int))) :
    Calls Tryd.prog 43 #[.agg #[.bool false, .slice (some ⟨b, off, none⟩) (m + 1) cap]] w fun e w' => TxtR w w' e (sgn false (Pl.val 10 zs)) := by
  obtain ⟨i0, hi0, hz0, hz1, hz2⟩ := info_parts Tryd.infoB
  have HG := Hid.mk hd
  have HM := Hid.mk hm
  rw [hm] at hcell
  have HCell := Hid.mk hcell
  have hne : ((m : Int) + 1 == 0) = false := by rw [beq_eq_false_iff_ne]; omega
  clear hd hm hcell
  go_enter Tryd.func43, Tryd.ntmps43
  have HS0 : Hid (WrSt (rbox w false (.slice (some ⟨b, off, none⟩) (m + 1) cap)) (rbox w false (.slice (some ⟨b, off, none⟩) (m + 1) cap)) (.slice none 0 0) 0 false zs (m + 1)) := ⟨[], rfl, Or.inl ⟨HM.out.symm, rfl⟩, World.ownsRow_nil _ _ _ _, Below.refl _ _, by omega⟩
  go_wp2_with fail
  go_loopw [3, 4] (fun o i wr => ∃ (k n : Nat) (so : Option Addr) (sc : Nat), k ≤ m + 1 ∧ n ≤ m + 2 ∧ o = .slice so n sc ∧ i = .int .i64 ((k : Int) - 1) ∧ Hid (WrSt (rbox w false (.slice (some ⟨b, off, none⟩) (m + 1) cap)) wr (.slice so n sc) n false zs k)) (fun _ i _ => (intOf i + 1).toNat)
  case atStart => exact ⟨m + 1, 0, none, 0, Nat.le_refl _, by omega, rfl, r_int_eq (by omega), HS0⟩
  case round =>
    obtain ⟨k, n, so, sc, hk, hnn, rfl, rfl, HQ⟩ := hrel
    cases k with
    | zero =>
      obtain ⟨l, h1, h2, h3, h4, h5⟩ := HQ.out.fin (by rw [HM.out]; omega)
      have hn0 : 0 < n := by
        rcases Nat.eq_zero_or_pos n with e | e
        · rw [e] at h1
          rw [List.eq_nil_of_length_eq_zero h1] at h2
          exact absurd h2 (by decide)
        · exact e
      obtain ⟨g, cp, hvv⟩ := own_some5 h4 hn0
      rw [hvv] at h4
      cases hvv
      have hcv := bytes_conv h1 h4
      have HF : Hid (Pl.formed l = true ∧ Pl.ival l = sgn false (Pl.val 10 zs) ∧ Below w.heap.size w wr) := ⟨h2, h3, (rbox_below _ _ _).trans (h5.mono (by rw [rbox_size]; omega))⟩
      clear h2 h3 h4 h5 HQ h1
      rw [show ((0 : Nat) : Int) - 1 = -1 from rfl]
      go_wp2_with fail
      go_ret
      exact ⟨⟨l.toArray⟩, rfl, by simpa using HF.out.1, by simpa using HF.out.2.1, HF.out.2.2⟩
    | succ k =>
      obtain ⟨l, h1, h2, hown, hbw, h5⟩ := HQ.out.out
      obtain ⟨x, hx⟩ : ∃ x, x = zs.getD k 0 := ⟨_, rfl⟩
      have hxl : x < 10 := by rw [hx]; exact Pl.dig_getD (by decide) HG.out.1 k
      have cb : wr.cell? ⟨w.heap.size, 1, none⟩ = some (.slice (some ⟨b, off, none⟩) (m + 1) cap) := by
        rw [hbw.cell (p := ⟨w.heap.size, 1, none⟩) (by rw [rbox_size]; exact Nat.lt_succ_self _)]
        exact rbox_cell _ _ _
      have cd : wr.cell? ⟨b, off + k, none⟩ = some (.int .i64 (x : Int)) := by
        rw [hbw.cell (p := ⟨b, off + k, none⟩) (by rw [rbox_size]; show b < _; omega), hx, ← HCell.out k (by omega)]
        exact World.cell?_alloc_lt _ _ _ hlt
      have hlw : w.heap.size + 1 ≤ wr.heap.size := by have := hbw.size; rw [rbox_size] at this; exact this
      have H2 := Hid.mk h2
      have HBW := Hid.mk hbw
      have HX := Hid.mk hx
      have H5 := Hid.mk h5
      have hki : (k : Int) < (m : Int) + 1 := by omega
      have hk0 : (0 : Int) ≤ (k : Int) := by omega
      rw [rbox_size] at hown
      clear h2 hbw hx HQ h5
      rw [show ((k + 1 : Nat) : Int) - 1 = (k : Int) by omega]
      go_wp2_with (at_builtin; refine wpList_append_own _ rfl _ _ 75 rfl (w.heap.size + 1) 5 i0 (.int .u8 0) 1 1 Tryd.underlying75 hi0 hz0 hz1 hz2 rfl (by decide) _ _ _ rfl (hown.alloc _) ⟨wr.heap.size, 0, none⟩ 1 1 [.int .u8 (48 + (x : Int))] rfl rfl (by intro j u hj; match j, hj with | 0, hj => simp at hj; subst hj; simp [Addr.add]) (by intro u hu; simp at hu; subst hu; rfl) (by unfold maxLen; omega) (by omega) (by simp; omega) ?_)
      intro v1 w1 hown1 hgrow1 hnn1
      obtain ⟨so1, sc1, hv1⟩ := own_shape hown1
      have HN : Hid (WrSt (rbox w false (.slice (some ⟨b, off, none⟩) (m + 1) cap)) w1 v1 (n + 1) false zs k) := by
        rw [← rbox_size w false (.slice (some ⟨b, off, none⟩) (m + 1) cap)] at hown1 hown
        exact WrSt.step h1 H2.out H5.out (by rw [HM.out]; omega) HX.out.symm hxl HG.out.2 (by omega) hown1 (below_app hown HBW.out hgrow1)
      have hn2 : n + 1 ≤ m + 2 := by have := H5.out; rw [HM.out] at this; omega
      subst hv1
      clear hown1 hgrow1 hnn1 hown
      go_wp2_with fail
      go_roundw
      case rel => exact ⟨k, n + 1, so1, sc1, by omega, hn2, rfl, r_int_eq (by omega), HN⟩
      case measure => simp [intOf]

set_option maxRecDepth 100000 in
set_option maxHeartbeats 1600000 in
theorem w_rwrite_neg (b off cap m : Nat) (zs : List Nat) (w : World) (hm : zs.length = m + 1) (hmm : m ≤ 1099511627776) (hd : Pl.dig 10 zs ∧ Pl.Top zs) (hc : m + 1 ≤ cap) (hlt : b < w.heap.size) (hcell : ∀ i, i < zs.length → w.cell? ⟨b, off + i, none⟩ = some (.int .i64 ((zs.getD i 0 : Nat) : Int))) :
    Calls Tryd.prog 43 #[.agg #[.bool true, .slice (some ⟨b, off, none⟩) (m + 1) cap]] w fun e w' => TxtR w w' e (sgn true (Pl.val 10 zs)) := by
  obtain ⟨i0, hi0, hz0, hz1, hz2⟩ := info_parts Tryd.infoB
  have HG := Hid.mk hd
  have HM := Hid.mk hm
  rw [hm] at hcell
  have HCell := Hid.mk hcell
  have hne : ((m : Int) + 1 == 0) = false := by rw [beq_eq_false_iff_ne]; omega
  clear hd hm hcell
  go_enter Tryd.func43, Tryd.ntmps43
  have hown0 : (rbox w true (.slice (some ⟨b, off, none⟩) (m + 1) cap)).ownsRow (w.heap.size + 1) 5 1 (.slice none 0 0) 0 (Lib.byteCells []) := World.ownsRow_nil _ _ _ _
  go_wp2_with (at_builtin; refine wpList_append_own _ rfl (.tmp 11) (.tmp 12) 75 rfl (w.heap.size + 1) 5 i0 (.int .u8 0) 1 1 Tryd.underlying75 hi0 hz0 hz1 hz2 rfl (by decide) _ _ _ rfl (hown0.alloc _) ⟨w.heap.size + 1, 0, none⟩ 1 1 [.int .u8 45] rfl rfl (by intro j u hj; match j, hj with | 0, hj => simp at hj; subst hj; simp [Addr.add, rbox]) (by intro u hu; simp at hu; subst hu; rfl) (by decide) (by omega) (by simp [rbox]) ?_)
  intro v1 w1 hown1 hgrow1 hnn1
  obtain ⟨so1, sc1, hv1⟩ := own_shape hown1
  have HS0 : Hid (WrSt (rbox w true (.slice (some ⟨b, off, none⟩) (m + 1) cap)) w1 v1 1 true zs (m + 1)) := by
    rw [← rbox_size w true (.slice (some ⟨b, off, none⟩) (m + 1) cap)] at hown1 hown0
    exact ⟨[45], rfl, Or.inl ⟨HM.out.symm, rfl⟩, hown1, below_app hown0 (Below.refl _ _) hgrow1, by omega⟩
  have cb0 : w1.cell? ⟨w.heap.size, 1, none⟩ = some (.slice (some ⟨b, off, none⟩) (m + 1) cap) := by
    obtain ⟨_, _, _, _, hb1, _⟩ := HS0.out.out
    rw [hb1.cell (p := ⟨w.heap.size, 1, none⟩) (by rw [rbox_size]; exact Nat.lt_succ_self _)]
    exact rbox_cell _ _ _
  subst hv1
  clear hown1 hgrow1 hnn1 hown0
  go_wp2_with fail
  go_loopw [3, 4] (fun o i wr => ∃ (k n : Nat) (so : Option Addr) (sc : Nat), k ≤ m + 1 ∧ n ≤ m + 2 ∧ o = .slice so n sc ∧ i = .int .i64 ((k : Int) - 1) ∧ Hid (WrSt (rbox w true (.slice (some ⟨b, off, none⟩) (m + 1) cap)) wr (.slice so n sc) n true zs k)) (fun _ i _ => (intOf i + 1).toNat)
  case atStart => exact ⟨m + 1, 1, so1, sc1, Nat.le_refl _, by omega, rfl, r_int_eq (by omega), HS0⟩
  case round =>
    obtain ⟨k, n, so, sc, hk, hnn, rfl, rfl, HQ⟩ := hrel
    cases k with
    | zero =>
      obtain ⟨l, h1, h2, h3, h4, h5⟩ := HQ.out.fin (by rw [HM.out]; omega)
      have hn0 : 0 < n := by
        rcases Nat.eq_zero_or_pos n with e | e
        · rw [e] at h1
          rw [List.eq_nil_of_length_eq_zero h1] at h2
          exact absurd h2 (by decide)
        · exact e
      obtain ⟨g, cp, hvv⟩ := own_some5 h4 hn0
      rw [hvv] at h4
      cases hvv
      have hcv := bytes_conv h1 h4
      have HF : Hid (Pl.formed l = true ∧ Pl.ival l = sgn true (Pl.val 10 zs) ∧ Below w.heap.size w wr) := ⟨h2, h3, (rbox_below _ _ _).trans (h5.mono (by rw [rbox_size]; omega))⟩
      clear h2 h3 h4 h5 HQ h1
      rw [show ((0 : Nat) : Int) - 1 = -1 from rfl]
      go_wp2_with fail
      go_ret
      exact ⟨⟨l.toArray⟩, rfl, by simpa using HF.out.1, by simpa using HF.out.2.1, HF.out.2.2⟩
    | succ k =>
      obtain ⟨l, h1, h2, hown, hbw, h5⟩ := HQ.out.out
      obtain ⟨x, hx⟩ : ∃ x, x = zs.getD k 0 := ⟨_, rfl⟩
      have hxl : x < 10 := by rw [hx]; exact Pl.dig_getD (by decide) HG.out.1 k
      have cb : wr.cell? ⟨w.heap.size, 1, none⟩ = some (.slice (some ⟨b, off, none⟩) (m + 1) cap) := by
        rw [hbw.cell (p := ⟨w.heap.size, 1, none⟩) (by rw [rbox_size]; exact Nat.lt_succ_self _)]
        exact rbox_cell _ _ _
      have cd : wr.cell? ⟨b, off + k, none⟩ = some (.int .i64 (x : Int)) := by
        rw [hbw.cell (p := ⟨b, off + k, none⟩) (by rw [rbox_size]; show b < _; omega), hx, ← HCell.out k (by omega)]
        exact World.cell?_alloc_lt _ _ _ hlt
      have hlw : w.heap.size + 1 ≤ wr.heap.size := by have := hbw.size; rw [rbox_size] at this; exact this
      have H2 := Hid.mk h2
      have HBW := Hid.mk hbw
      have HX := Hid.mk hx
      have H5 := Hid.mk h5
      have hki : (k : Int) < (m : Int) + 1 := by omega
      have hk0 : (0 : Int) ≤ (k : Int) := by omega
      rw [rbox_size] at hown
      clear h2 hbw hx HQ h5
      rw [show ((k + 1 : Nat) : Int) - 1 = (k : Int) by omega]
      go_wp2_with (at_builtin; refine wpList_append_own _ rfl _ _ 75 rfl (w.heap.size + 1) 5 i0 (.int .u8 0) 1 1 Tryd.underlying75 hi0 hz0 hz1 hz2 rfl (by decide) _ _ _ rfl (hown.alloc _) ⟨wr.heap.size, 0, none⟩ 1 1 [.int .u8 (48 + (x : Int))] rfl rfl (by intro j u hj; match j, hj with | 0, hj => simp at hj; subst hj; simp [Addr.add]) (by intro u hu; simp at hu; subst hu; rfl) (by unfold maxLen; omega) (by omega) (by simp; omega) ?_)
      intro v1 w1 hown1 hgrow1 hnn1
      obtain ⟨so1, sc1, hv1⟩ := own_shape hown1
      have HN : Hid (WrSt (rbox w true (.slice (some ⟨b, off, none⟩) (m + 1) cap)) w1 v1 (n + 1) true zs k) := by
        rw [← rbox_size w true (.slice (some ⟨b, off, none⟩) (m + 1) cap)] at hown1 hown
        exact WrSt.step h1 H2.out H5.out (by rw [HM.out]; omega) HX.out.symm hxl HG.out.2 (by omega) hown1 (below_app hown HBW.out hgrow1)
      have hn2 : n + 1 ≤ m + 2 := by have := H5.out; rw [HM.out] at this; omega
      subst hv1
      clear hown1 hgrow1 hnn1 hown
      go_wp2_with fail
      go_roundw
      case rel => exact ⟨k, n + 1, so1, sc1, by omega, hn2, rfl, r_int_eq (by omega), HN⟩
      case measure => simp [intOf]

theorem w_rwrite (bl : Bool) (v : Value) (x K : Nat) (w : World) (h : RV w v x) (hx : x < 10 ^ K) (hK : K ≤ 549755813888) (hbl : bl = true → 0 < x) :
    Calls Tryd.prog 43 #[.agg #[.bool bl, v]] w fun e w' => TxtR w w' e (sgn bl x) := by
  obtain ⟨zs, h1, h2, h3, h4, h5⟩ := h.fits hx
  rcases h1.open' with ⟨rfl, ao, cap, rfl, hblk⟩ | ⟨hp, b, off, cap, rfl, hc, hlt, hcell⟩
  · have hx0 : x = 0 := h4.symm
    have hb : bl = false := by cases bl with | false => rfl | true => have := hbl rfl; omega
    have := w_rwrite_zero bl _ w h1 hb
    rw [hb, hx0]
    rw [hb] at this
    exact this
  · obtain ⟨m, hm⟩ : ∃ m, zs.length = m + 1 := ⟨zs.length - 1, by omega⟩
    rw [← h4, hm]
    rw [hm] at hc
    cases bl
    · exact w_rwrite_pos b off cap m zs w hm (by omega) ⟨h2, h3⟩ hc hlt hcell
    · exact w_rwrite_neg b off cap m zs w hm (by omega) ⟨h2, h3⟩ hc hlt hcell
end Go.Proofs.YtfcbeohkhljboaaDoor
