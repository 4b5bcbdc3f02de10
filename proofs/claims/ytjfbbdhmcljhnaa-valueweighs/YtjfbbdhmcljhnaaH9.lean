import Derived.Test.YtjfbbdhmcljhnaaH4
import Derived.Test.YtjfbbdhmcljhnaaH5
import Derived.Test.YtjfbbdhmcljhnaaH8
namespace Go.Proofs.Ytjfbbdhmcljhnaa
open Go.RowKit
set_option linter.unusedVariables false
set_option linter.unusedSimpArgs false

theorem wt_flat {h : Nat} {T : VT} (hN : T.items.length = 0) : wtN (h + 1) T = 1 + nmW T + T.text.size := by
  show 1 + nmW T + T.text.size + sumL _ = _
  rw [hN]; rfl
theorem wt_bound {W : World} {h : Nat} {T : VT} {v : Value} (hI : InH W h T v) (hsz : szN h T ≤ 10001) : wtN h T ≤ 9223372036854775807 := by
  have := wtN_le hI
  omega
def gW (h : Nat) (T : VT) (i : Nat) : Nat := (T.items[i]?.map (wtN h)).getD 0 + ksz T i
theorem wt_open (h : Nat) (T : VT) : wtN (h + 1) T = 1 + nmW T + T.text.size + sumL ((List.range T.items.length).map (gW h T)) := rfl
theorem gW_eq {h : Nat} {T : VT} {i : Nat} (hi : i < T.items.length) : gW h T i = wtN h T.items[i] + (if T.kind = 6 then 1 + (T.keys.getD i .empty).size else 0) := by
  unfold gW ksz
  rw [List.getElem?_eq_getElem hi]; rfl

theorem w_rWeight : ∀ h, RwOk h
  | 0 => fun T v w hI _ _ => hI.elim
  | h + 1 => by
    intro T v w hI hsz hf
    have hb := wt_bound hI hsz
    obtain ⟨io, icap, ko, kcap, rfl, a1, a2, a3, a4, a5, a6, a7, hk, hi⟩ := hI.open
    obtain ⟨e1, e2, e3, e4⟩ := form_empty hf
    have hszI : ∀ i, (hi' : i < T.items.length) → szN h T.items[i] ≤ 10001 := fun i hi' => by have := szN_item (h := h) hi'; omega
    by_cases h3 : T.kind = 3
    · obtain ⟨f1, f2⟩ := form_flat hf (by omega) (by omega)
      have h0 : 0 < T.num.size := by
        rcases Nat.eq_zero_or_pos T.num.size with hz | hz
        · exfalso
          have hfn := form_num hf h3
          have : T.num.data.toList = [] := List.eq_nil_of_length_eq_zero (by rw [sizeLn]; exact hz)
          rw [this] at hfn
          cases hfn
        · exact hz
      have := rweight_num T.num T.text io icap ko T.keys.length kcap w a1 a2 h0
      rw [wt_flat f1, show nmW T = dgN T.num from by unfold nmW; rw [if_pos h3], h3, f1]
      exact this
    · have hnm : nmW T = T.num.size := by unfold nmW; rw [if_neg h3]
      rw [wt_open, hnm] at hb ⊢
      by_cases h6 : T.kind = 6
      · have := rweight_loop6 h (w_rWeight h) T.num T.text io _ icap ko _ kcap T.items T.keys w hi hk rfl rfl a5 a6 a3 a1 a2 a7 (fun _ => e4 h6) hszI (form_items hf (.inr h6)) (gW h T) (fun i hi' => by rw [gW_eq hi', if_pos h6, if_pos rfl]) hb
        rw [h6]; exact this
      · exact rweight_loopN h (w_rWeight h) T.kind h3 h6 T.num T.text io _ icap ko _ kcap T.items T.keys w hi hk rfl rfl a5 a6 a3 a1 a2 a7 (fun e => absurd e h6) hszI (by
          by_cases h5 : T.kind = 5
          · exact form_items hf (.inl h5)
          · intro i hi'
            have := (form_flat hf h5 h6).1
            omega) (gW h T) (fun i hi' => gW_eq hi') hb

set_option maxRecDepth 100000 in
set_option maxHeartbeats 3200000 in
theorem vweight_num (nm tx : ByteArray) (io : Option Addr) (N icap : Nat) (ko : Option Addr) (K kcap : Nat) (w : World) (hn : nm.size ≤ 140737488355328) (hf : Pl.formed nm.data.toList = true) :
    Calls Try.prog 17 #[.agg #[.int .i64 3, .string nm, .string tx, .slice io N icap, .slice ko K kcap]] w fun e w' => e = .returned (.int .i64 ((1 + dgN nm : Nat) : Int)) ∧ Below w.heap.size w w' := by
  have HX := Hid.mk (vbx_new w (.int .i64 3) (.string nm) (.string tx) (.slice io N icap) (.slice ko K kcap))
  have HD := Hid.mk (fun u => w_DigitsE nm u hn hf)
  have hd : dgN nm ≤ 140737488355328 := Nat.le_trans (dgN_le nm) hn
  have hdd : (Pl.body nm.data.toList).length = dgN nm := rfl
  rw [hdd] at HD
  generalize dgN nm = d at HD hd ⊢
  clear hf hdd
  go_enter Try.func17, Try.ntmps17
  go_wp2_with fail
  refine (HD.out _).mono ?_
  rintro e w2 ⟨rfl, hb2⟩
  have HB2 := Hid.mk (HX.out.keep hb2).below
  clear hb2
  go_wp2_with fail
  go_ret
  exact ⟨by go_num, HB2.out⟩

set_option maxRecDepth 100000 in
set_option maxHeartbeats 3200000 in
theorem vweight_text (nm tx : ByteArray) (io : Option Addr) (N icap : Nat) (ko : Option Addr) (K kcap : Nat) (w : World) (hn : tx.size ≤ 140737488355328) :
    Calls Try.prog 17 #[.agg #[.int .i64 4, .string nm, .string tx, .slice io N icap, .slice ko K kcap]] w fun e w' => e = .returned (.int .i64 ((1 + tx.size : Nat) : Int)) ∧ Below w.heap.size w w' := by
  have HX := Hid.mk (vbx_new w (.int .i64 4) (.string nm) (.string tx) (.slice io N icap) (.slice ko K kcap))
  go_enter Try.func17, Try.ntmps17
  go_wp2_with fail
  go_ret
  exact ⟨by go_num, HX.out.below⟩

theorem w_vWeight : ∀ h, FwOk h
  | 0 => fun T v w hI _ _ => hI.elim
  | h + 1 => by
    intro T v w hI hsz hf
    have hb := wt_bound hI hsz
    obtain ⟨io, icap, ko, kcap, rfl, a1, a2, a3, a4, a5, a6, a7, hk, hi⟩ := hI.open
    obtain ⟨e1, e2, e3, e4⟩ := form_empty hf
    have hszI : ∀ i, (hi' : i < T.items.length) → szN h T.items[i] ≤ 10001 := fun i hi' => by have := szN_item (h := h) hi'; omega
    by_cases h3 : T.kind = 3
    · obtain ⟨f1, f2⟩ := form_flat hf (by omega) (by omega)
      have := vweight_num T.num T.text io T.items.length icap ko T.keys.length kcap w a1 (form_num hf h3)
      rw [wt_flat f1, show nmW T = dgN T.num from by unfold nmW; rw [if_pos h3], h3, e2 (by omega)]
      exact this
    · have hnm : nmW T = T.num.size := by unfold nmW; rw [if_neg h3]
      by_cases h4 : T.kind = 4
      · obtain ⟨f1, f2⟩ := form_flat hf (by omega) (by omega)
        have := vweight_text T.num T.text io T.items.length icap ko T.keys.length kcap w a2
        rw [wt_flat f1, hnm, e1 h3, h4]
        exact this
      · rw [wt_open, hnm, e1 h3, e2 h4] at hb ⊢
        simp only [Nat.add_zero] at hb ⊢
        refine weight_step h (w_vWeight h) T.kind h3 h4 T.num T.text io _ icap ko _ kcap T.items T.keys w hi hk rfl rfl a5 a6 a3 a7 hszI ?_ (gW h T) (fun i hi' => ?_) hb
        · by_cases h56 : T.kind = 5 ∨ T.kind = 6
          · exact form_items hf h56
          · intro i hi'
            have := (form_flat hf (by omega) (by omega)).1
            omega
        · rw [gW_eq hi']
          by_cases h6 : T.kind = 6
          · rw [if_pos h6, if_pos h6]
            unfold kyAt
            rw [if_pos (by rw [e4 h6]; exact hi')]
            dsimp only
            omega
          · rw [if_neg h6, if_neg h6]
            unfold kyAt
            rw [if_neg (by rw [e3 h6]; omega)]
            rfl

set_option maxRecDepth 100000 in
set_option maxHeartbeats 3200000 in
theorem vdepth_flat (kd : Int) (h5 : kd ≠ 5) (h6 : kd ≠ 6) (nm tx : ByteArray) (io : Option Addr) (N icap : Nat) (ko : Option Addr) (K kcap : Nat) (w : World) :
    Calls Try.prog 19 #[.agg #[.int .i64 kd, .string nm, .string tx, .slice io N icap, .slice ko K kcap]] w fun e w' => e = .returned (.int .i64 0) ∧ Below w.heap.size w w' := by
  have HX := Hid.mk (vbx_new w (.int .i64 kd) (.string nm) (.string tx) (.slice io N icap) (.slice ko K kcap))
  have h5' : (kd != 5) = true := by simpa using h5
  have h6' : (kd != 6) = true := by simpa using h6
  clear h5 h6
  go_enter Try.func19, Try.ntmps19
  go_wp2_with fail
  go_ret
  exact ⟨rfl, HX.out.below⟩
theorem w_vDepth : ∀ h, FdOk h
  | 0 => fun T v w hI _ => hI.elim
  | h + 1 => by
    intro T v w hI hsz
    obtain ⟨io, icap, ko, kcap, rfl, a1, a2, a3, a4, a5, a6, a7, hk, hi⟩ := hI.open
    have hszI : ∀ i, (hi' : i < T.items.length) → szN h T.items[i] ≤ 10000 := fun i hi' => by have := szN_item (h := h) hi'; omega
    by_cases h5 : T.kind = 5
    · have : dpN (h + 1) T = 1 + mxL (T.items.map (dpN h)) := by unfold dpN; rw [if_pos (.inl h5)]
      rw [this, h5]
      exact depth_step5 h (w_vDepth h) _ _ io _ icap ko _ kcap T.items T.keys w hi hk rfl rfl a5 a6 a3 hszI
    by_cases h6 : T.kind = 6
    · have : dpN (h + 1) T = 1 + mxL (T.items.map (dpN h)) := by unfold dpN; rw [if_pos (.inr h6)]
      rw [this, h6]
      exact depth_step6 h (w_vDepth h) _ _ io _ icap ko _ kcap T.items T.keys w hi hk rfl rfl a5 a6 a3 hszI
    have : dpN (h + 1) T = 0 := by unfold dpN; rw [if_neg (by omega)]
    rw [this]
    exact vdepth_flat T.kind h5 h6 _ _ _ _ _ _ _ _ w
/-- a value weighs at least as much as it is deep -/
theorem dp_wt : ∀ (h : Nat) (T : VT), formN h T = true → dpN h T ≤ wtN h T
  | 0, T, _ => Nat.le_refl _
  | h + 1, T, hf => by
    rw [wt_open]
    show (if T.kind = 5 ∨ T.kind = 6 then 1 + mxL (T.items.map (dpN h)) else 0) ≤ _
    split
    · next hk =>
      have h1 := mxL_le T.items (f := dpN h) (g := wtN h) (fun t ht => by
        obtain ⟨i, hi, rfl⟩ := List.getElem_of_mem ht
        exact dp_wt h _ (form_items hf hk i hi))
      have h2 : sumL (T.items.map (wtN h)) ≤ sumL ((List.range T.items.length).map (gW h T)) := by
        rw [← range_map_gen (ts := T.items) (wtN h) (fun i => (T.items[i]?.map (wtN h)).getD 0) (fun i hi => by rw [List.getElem?_eq_getElem hi]; rfl)]
        exact sumL_le _ (fun i _ => by unfold gW; omega)
      omega
    · omega
end Go.Proofs.Ytjfbbdhmcljhnaa
