import Derived.Test.YtdmkfdaddacdhaaGreatDoorM12
import Derived.Test.YtdmkfdaddacdhaaGreatDoorM13
namespace Go.Proofs.YtdmkfdaddacdhaaGreatDoor
open Go.RowKit
set_option linter.unusedVariables false
set_option linter.unusedSimpArgs false

/-- while a text is read as a literal, exactly -/
structure ExSt (B k0 : Nat) (w wr : World) (v : Value) (n : Nat) (T : ByteArray) (pos : Nat) (done : List Nat) : Prop where
  iter : wr.heap[k0]? = some (.stringIter T pos)
  below : Below B w wr
  isr : ∀ z ∈ done, isR z
  len : (txt done).length = n
  own : wr.ownsRow B 5 1 v n (Lib.byteCells (txt done))

theorem ex_rune {B k0 n q r : Nat} {w W : World} {v : Value} {T : ByteArray} {done : List Nat} (h : ExSt B k0 w W v n T q done) (hB : B ≤ W.heap.size) (hr : isR r) (hlim : n ≤ 4398046511104) :
    Calls Tryz.prog 157 #[v, .int .i32 (r : Int)] W fun e w' => ∃ ao m cap, e = .returned (.slice ao m cap) ∧ m ≤ n + 4 ∧ Hid (ExSt B k0 w w' (.slice ao m cap) m T q (done ++ [r])) := by
  have hr1 : (r : Int) ≤ 2147483647 := by unfold isR at hr; omega
  have HA := Tryz.utf8_AppendRune_plain B v n (Lib.byteCells (txt done)) (r : Int) (by omega) hr1 W h.own (by omega) hB
  have hcells : Lib.runeCells (r : Int) = Lib.byteCells (enc r) := by rw [← Lib.byteCells_encodeRune, encodeRune_rn, rn_nat hr]
  have hlen : (Lib.byteCells (enc r)).length = (enc r).length := by simp [Lib.byteCells]
  rw [hcells, hlen] at HA
  refine HA.mono ?_
  rintro e w1 ⟨v1, rfl, hown1, o, hg1⟩
  obtain ⟨so, sc, rfl⟩ := own_shape hown1
  refine ⟨so, _, sc, rfl, by have := (enc_len r).2; omega, ⟨iter_kept h.own h.iter (grown_after hg1), below_app h.own hB h.below hg1, ?_, ?_, ?_⟩⟩
  · intro z hz
    rcases List.mem_append.1 hz with h2 | h2
    · exact h.isr z h2
    · have : z = r := by simpa using h2
      rw [this]; exact hr
  · rw [txt_snoc, List.length_append, h.len]
  · rw [txt_snoc, Lib.byteCells_append]; exact hown1

theorem ExSt.keep {B k0 n pos : Nat} {w W u : World} {v : Value} {T : ByteArray} {done : List Nat} (h : ExSt B k0 w W v n T pos done) (hB : B ≤ W.heap.size) (hu : Below W.heap.size W u) : ExSt B k0 w u v n T pos done :=
  ⟨by rw [hu.block k0 (Array.getElem?_eq_some_iff.1 h.iter).1]; exact h.iter, h.below.trans (hu.mono hB), h.isr, h.len, own_below h.own hu⟩

/-- where the reading stands: at place a, with what has been taken up to p -/
structure Look (l : List UInt8) (R : List Nat × Nat × Nat) (a : Nat) (nx : Int) (done : List Nat) : Prop where
  at_ : ∃ p, a ≤ p ∧ p ≤ l.length ∧ (nx ≤ (a : Int) → p = a) ∧ ((a : Int) < nx → (p : Int) = nx) ∧ unqL l p done = R ∧ ∀ j, a ≤ j → j < p → (l.getD j 0).toNat < 128

/-- within an escape -/
theorem Look.skip {l : List UInt8} {R : List Nat × Nat × Nat} {a : Nat} {nx : Int} {done : List Nat} (h : Look l R a nx done) (ha : (a : Int) < nx) : Look l R (a + (decL (l.drop a)).2) nx done := by
  obtain ⟨p, h1, h2, h3, h4, h5, h6⟩ := h.at_
  have hp := h4 ha
  have hd := dec_asciiD (l := l) (k := a) (by omega) (h6 a (Nat.le_refl _) (by omega))
  rw [hd]
  exact ⟨p, by show a + 1 ≤ p; omega, h2, fun g => by show p = a + 1; have : nx ≤ ((a + 1 : Nat) : Int) := g; omega, fun _ => hp, h5, fun j hj1 hj2 => h6 j (by have : a + 1 ≤ j := hj1; omega) hj2⟩
theorem Look.here {l : List UInt8} {R : List Nat × Nat × Nat} {a : Nat} {nx : Int} {done : List Nat} (h : Look l R a nx done) (ha : nx ≤ (a : Int)) : unqL l a done = R := by
  obtain ⟨p, h1, h2, h3, h4, h5, h6⟩ := h.at_
  rw [h3 ha] at h5; exact h5
theorem Look.rune {l : List UInt8} {R : List Nat × Nat × Nat} {a : Nat} {nx : Int} {done : List Nat} (h : unqL l a done = R) (ha : nx ≤ (a : Int)) (hlt : a < l.length) (hle : a + (decL (l.drop a)).2 ≤ l.length) (h1 : ¬ (decL (l.drop a)).1 = 34) (h2 : ¬ (decL (l.drop a)).1 < 32) (h3 : strayL (l.drop a) = false) (h4 : ¬ (decL (l.drop a)).1 = 92) : Look l R (a + (decL (l.drop a)).2) nx (done ++ [(decL (l.drop a)).1]) :=
  ⟨a + (decL (l.drop a)).2, Nat.le_refl _, hle, fun _ => rfl, fun g => by omega, by rw [← unqL_rune done hlt h1 h2 h3 h4]; exact h, fun j hj1 hj2 => by omega⟩
theorem Look.esc {l : List UInt8} {R : List Nat × Nat × Nat} {a : Nat} {done : List Nat} (h : unqL l a done = R) (hlt : a < l.length) (h3 : strayL (l.drop a) = false) (h4 : (decL (l.drop a)).1 = 92) (h5 : (escL l a).2.2 = 0) : Look l R (a + (decL (l.drop a)).2) ((escL l a).2.1 : Int) (done ++ [(escL l a).1]) := by
  obtain ⟨g1, g2, g3, g4⟩ := escL_ok h5
  have hd := dec_asciiD (l := l) (k := a) hlt (g4 a (Nat.le_refl _) g1)
  rw [unqL_esc done hlt h3 h4, if_pos h5, if_pos g1] at h
  rw [hd]
  exact ⟨(escL l a).2.1, g1, g2, fun g => by show _ = a + 1; have : ((escL l a).2.1 : Int) ≤ ((a + 1 : Nat) : Int) := g; omega, fun _ => rfl, h, fun j hj1 hj2 => g4 j (by have : a + 1 ≤ j := hj1; omega) hj2⟩
theorem esc_fault {l : List UInt8} {R : List Nat × Nat × Nat} {a : Nat} {done : List Nat} (h : unqL l a done = R) (hlt : a < l.length) (h3 : strayL (l.drop a) = false) (h4 : (decL (l.drop a)).1 = 92) (h5 : ¬ (escL l a).2.2 = 0) : R = ([], (escL l a).2.1, (escL l a).2.2) := by
  rw [unqL_esc done hlt h3 h4, if_neg h5] at h; exact h.symm

/-- what Unquote answers, from behind the quote -/
def UnqX (R : List Nat × Nat × Nat) (w w' : World) (e : Ending) : Prop := e = .returned (.tuple #[.string ⟨(txt R.1).toArray⟩, .int .i64 (R.2.1 : Int), .int .i64 (R.2.2 : Int)]) ∧ Below w.heap.size w w'
theorem unqX_mk {R : List Nat × Nat × Nat} {w w' : World} {A : List Nat} {p c : Nat} {t : ByteArray} {q z : Int} (h : R = (A, p, c)) (ht : t = ⟨(txt A).toArray⟩) (hq : q = (p : Int)) (hz : z = (c : Int)) (hb : Below w.heap.size w w') : UnqX R w w' (.returned (.tuple #[.string t, .int .i64 q, .int .i64 z])) := by
  subst h ht hq hz
  exact ⟨rfl, hb⟩

set_option maxRecDepth 100000 in
set_option maxHeartbeats 6400000 in
theorem w_Unquote_ex (s : ByteArray) (k : Nat) (w : World) (hk : k < s.size) (hs : s.size ≤ 1099511627776) (hq : s[k] = 34) (hE : ErrIn w) :
    Calls Tryz.prog 125 #[.string s, .int .i64 (k : Int)] w fun e w' => UnqX (unqL s.data.toList (k + 1) []) w w' e := by
  have HP := Hid.mk (fun u => w_isPlace s k u hk)
  have hi0 : (k : Int) < (s.size : Int) := by omega
  have hi1 : (k : Int) + 1 ≤ (s.size : Int) := by omega
  obtain ⟨R, hR0⟩ : ∃ R, unqL s.data.toList (k + 1) [] = R := ⟨_, rfl⟩
  rw [hR0]
  have HL0 : Hid (Look s.data.toList R (k + 1) ((k : Int) + 1) []) := ⟨k + 1, Nat.le_refl _, by rw [size_len]; omega, fun _ => rfl, fun g => by omega, hR0, fun j hj1 hj2 => by omega⟩
  obtain ⟨T, hT⟩ : ∃ T, T = s.extract (k + 1) s.size := ⟨_, rfl⟩
  have hsd : ∀ p, s.data.toList.drop (k + 1 + p) = T.data.toList.drop p := by
    intro p; rw [hT, extract_drop, List.drop_drop]
  have hTs : T.size = s.size - (k + 1) := by
    have e : T.data.toList.length = T.size := by rw [Array.length_toList]; rfl
    have e2 : s.data.toList.length = s.size := by rw [Array.length_toList]; rfl
    rw [← e, hT, extract_drop, List.length_drop, e2]
  have HSD := Hid.mk hsd
  have HTS := Hid.mk hTs
  have HE := Hid.mk hE
  have hT' : s.extract (k + 1) s.size = T := hT.symm
  clear hT hsd hTs hE hR0
  go_enter Tryz.func125, Tryz.ntmps125
  go_wp2_with fail
  refine (HP.out _).mono ?_
  rintro e w1 ⟨rfl, hw⟩
  obtain rfl := hw.symm
  go_wp2_with fail
  clear hT'
  go_loopw [7, 9] (fun vt vn wr => ∃ (pos n : Nat) (nx : Int) (ao : Option Addr) (cap : Nat) (done : List Nat), pos ≤ T.size ∧ n ≤ 4 * pos ∧ vt = .slice ao n cap ∧ vn = .int .i64 nx ∧ Hid (ExSt w.heap.size w.heap.size w wr (.slice ao n cap) n T pos done) ∧ Hid (Look s.data.toList R (k + 1 + pos) nx done)) (fun _ _ wr => T.size - wr.iterPos w.heap.size)
  case atStart => exact ⟨0, 0, (k : Int) + 1, none, 0, [], Nat.zero_le _, by omega, rfl, rfl, ⟨World.iter_heap w T 0, iter_below w T 0, (fun z hz => by cases hz), rfl, World.ownsRow_nil _ _ _ _⟩, HL0⟩
  case round =>
    clear HL0
    obtain ⟨pos, n, nx, ao, cap, done, hpos, hn4, rfl, rfl, HQ, HLk⟩ := hrel
    have hkr := HQ.out.iter
    have HM : Hid (wr.iterPos w.heap.size = pos) := iterPos_of hkr
    have hTsz := HTS.out
    by_cases hp : pos < T.size
    · have hKp : k + 1 + pos < s.size := by omega
      have hn42 : n ≤ 4398046511104 := by omega
      obtain ⟨q, hqq⟩ : ∃ q, q = pos + (decL (T.data.toList.drop pos)).2 := ⟨_, rfl⟩
      obtain ⟨r, hr⟩ : ∃ r, r = (decL (T.data.toList.drop pos)).1 := ⟨_, rfl⟩
      have h1 := decL_pos (T.data.toList.drop pos)
      have h2 := step_le' hp
      have hR := decL_isR _ (drop_ne' hp)
      have hqs : k + 1 + q = k + 1 + pos + (decL (s.data.toList.drop (k + 1 + pos))).2 := by rw [HSD.out, hqq]; omega
      have HRs : Hid (r = (decL (s.data.toList.drop (k + 1 + pos))).1) := by show _ = _; rw [HSD.out]; exact hr
      have HQs := Hid.mk hqs
      obtain ⟨W1, hW1⟩ : ∃ W : World, W = wr.iterAt w.heap.size T q := ⟨_, rfl⟩
      have hn1 := nxtAt wr w.heap.size T pos r q hkr hp (by rw [decode_eq T pos hpos]; exact Prod.ext hr.symm (by show _ = q - pos; omega)) (by omega)
      have hk1 := Lib.iterAt_heap wr w.heap.size T pos q hkr
      have ho1 := own_iterAt HQ.out.own hkr q
      have hB1 := Lib.below_iterAt HQ.out.below (Nat.le_refl _) T q
      rw [← hW1] at hn1 hk1 ho1 hB1
      rw [← hr] at hR
      rw [← hqq] at h2
      have HRI := Hid.mk hR
      have hrlt : r ≤ 1114111 := by unfold isR at hR; omega
      have hq1 : pos + 1 ≤ q := by omega
      have HAN : Hid (ExSt w.heap.size w.heap.size w W1 (.slice ao n cap) n T q done) := ⟨hk1, hB1, HQ.out.isr, HQ.out.len, ho1⟩
      have HM1 : Hid (W1.iterPos w.heap.size = q) := iterPos_of hk1
      have HB1 := Hid.mk hB1
      have HST := Hid.mk (fun u => w_stray s (k + 1 + pos) r u (by omega))
      rw [show ((k + 1 + pos : Nat) : Int) = (k : Int) + 1 + (pos : Int) by omega] at HST
      obtain ⟨sb, hsb⟩ : ∃ sb, sb = strayL (s.data.toList.drop (k + 1 + pos)) := ⟨_, rfl⟩
      have HSB := Hid.mk hsb
      unfold strayL at hsb
      rw [← HRs.out] at hsb
      rw [← hsb] at HST
      have HEs := Hid.mk (w_Escape_ex s (k + 1 + pos) W1 hKp (by omega) (HE.out.keep hB1))
      rw [show ((k + 1 + pos : Nat) : Int) = (k : Int) + 1 + (pos : Int) by omega] at HEs
      have hcv := conv_own HQ.out.len ho1
      have hplen : k + 1 + pos < s.data.toList.length := by rw [size_len]; exact hKp
      have HPL := Hid.mk hplen
      have HQL : Hid (k + 1 + pos + (decL (s.data.toList.drop (k + 1 + pos))).2 ≤ s.data.toList.length) := by
        show _ ≤ _
        rw [← hqs, size_len]; omega
      clear hW1 hk1 ho1 hB1 hkr hTsz hqq hr h1 hR HE hsb hqs hplen
      by_cases hcond : (k : Int) + 1 + (pos : Int) < nx
      · have HL1 : Hid (Look s.data.toList R (k + 1 + q) nx done) := by
          show Look _ _ _ _ _
          rw [HQs.out]
          exact HLk.out.skip (by omega)
        clear HSB HEs HST HRs hcv
        go_wp2_with fail
        go_roundw
        case rel => exact ⟨q, n, nx, ao, cap, done, h2, by omega, rfl, rfl, HAN, HL1⟩
        case measure => rw [HM1.out, HM.out]; omega
      have HU := Hid.mk (HLk.out.here (by omega))
      have hnx : Hid (nx ≤ ((k + 1 + pos : Nat) : Int)) := by show _ ≤ _; omega
      clear HLk
      by_cases hr34 : r = 34
      · subst hr34
        have HF : Hid (R = (done, k + 1 + pos + 1, 0)) := HU.out.symm.trans (unqL_quote done HPL.out HRs.out.symm)
        go_wp2_with fail
        refine bodyPost_ret (v := .tuple #[.string ⟨(txt done).toArray⟩, .int .i64 ((k : Int) + 1 + (pos : Int) + 1), .int .i64 0]) (by simp [results, Tryz.results125, go_sem]) rfl ?_
        exact unqX_mk HF.out rfl (by omega) rfl HB1.out
      have q1 : ((r : Int) == 34) = false := by rw [beq_eq_false_iff_ne]; omega
      have H34 : Hid (¬ (decL (s.data.toList.drop (k + 1 + pos))).1 = 34) := by rw [← HRs.out]; exact hr34
      by_cases hr32 : r < 32
      · have q2 : (r : Int) < 32 := by omega
        have HF : Hid (R = ([], k + 1 + pos, 22)) := HU.out.symm.trans (unqL_ctl done HPL.out H34.out (by rw [← HRs.out]; exact hr32))
        clear hr34 hr32
        go_wp2_with fail
        refine bodyPost_ret (v := .tuple #[.string .empty, .int .i64 ((k : Int) + 1 + (pos : Int)), .int .i64 22]) (by simp [results, Tryz.results125, go_sem]; try rfl) rfl ?_
        exact unqX_mk HF.out rfl (by omega) rfl HB1.out
      have q2 : ¬ (r : Int) < 32 := by omega
      have H32 : Hid (¬ (decL (s.data.toList.drop (k + 1 + pos))).1 < 32) := by rw [← HRs.out]; exact hr32
      cases sb with
      | true =>
        have HF : Hid (R = ([], k + 1 + pos, 20)) := HU.out.symm.trans (unqL_stray done HPL.out H34.out H32.out HSB.out.symm)
        clear hr34 hr32
        go_wp2_with fail
        refine (HST.out _).mono ?_
        rintro e w2 ⟨rfl, hw⟩
        obtain rfl := hw.symm
        go_wp2_with fail
        refine bodyPost_ret (v := .tuple #[.string .empty, .int .i64 ((k : Int) + 1 + (pos : Int)), .int .i64 20]) (by simp [results, Tryz.results125, go_sem]; try rfl) rfl ?_
        exact unqX_mk HF.out rfl (by omega) rfl HB1.out
      | false =>
        by_cases hr92 : r = 92
        · have H92 : Hid ((decL (s.data.toList.drop (k + 1 + pos))).1 = 92) := by show _ = _; rw [← HRs.out]; exact hr92
          have HFa := Hid.mk (fun h5 => esc_fault HU.out HPL.out HSB.out.symm H92.out h5)
          have HLe := Hid.mk (fun h5 => Look.esc HU.out HPL.out HSB.out.symm H92.out h5)
          have hcode := escL_code s.data.toList (k + 1 + pos)
          have HOk := Hid.mk (fun h5 => escL_ok (l := s.data.toList) (k := k + 1 + pos) h5)
          unfold EscX at HEs
          obtain ⟨er, her⟩ : ∃ er, er = escL s.data.toList (k + 1 + pos) := ⟨_, rfl⟩
          rw [← her] at HFa HLe hcode HOk HEs
          obtain ⟨z, p', c⟩ := er
          rw [← HQs.out] at HLe
          subst hr92
          clear hr34 hr32 q1 q2 her
          go_wp2_with fail
          refine (HST.out _).mono ?_
          rintro e w2 ⟨rfl, hw⟩
          obtain rfl := hw.symm
          go_wp2_with fail
          refine HEs.out.mono ?_
          rintro e w2 ⟨rfl, hb2⟩
          rcases hcode with hc | ⟨hc, hz, hp'⟩ | ⟨hc, hz, hp'⟩
          · have hc' : c = 0 := hc
            subst hc'
            obtain ⟨_, hple, hzR, _⟩ := HOk.out rfl
            have hple' : p' ≤ s.data.toList.length := hple
            rw [size_len] at hple'
            have hst := ex_rune (HAN.out.keep HB1.out.size hb2) (Nat.le_trans HB1.out.size hb2.size) hzR hn42
            have HLn := Hid.mk (HLe.out rfl)
            clear hb2 HOk HFa HLe hple hzR hc
            go_wp2_with fail
            refine hst.mono ?_
            rintro e w3 ⟨ao3, m3, cap3, rfl, hm3, HN3⟩
            have HM3 : Hid (w3.iterPos w.heap.size = q) := iterPos_of HN3.out.iter
            clear hst
            go_wp2_with fail
            go_roundw
            case rel => exact ⟨q, m3, (p' : Int), ao3, cap3, done ++ [z], h2, by omega, rfl, rfl, HN3, HLn⟩
            case measure => rw [HM3.out, HM.out]; omega
          · have hc' : c = 23 := hc
            have hpp : p' = k + 1 + pos := hp'
            subst hc'
            have HF := Hid.mk (HFa.out (by decide))
            have HB2 := Hid.mk (HB1.out.trans (hb2.mono HB1.out.size))
            have hz' : z = 0 := hz
            subst hz'
            clear hb2 HOk HFa HLe hc hp' hz
            go_wp2_with fail
            refine bodyPost_ret (v := .tuple #[.string .empty, .int .i64 ((k : Int) + 1 + (pos : Int)), .int .i64 23]) (by simp [results, Tryz.results125, go_sem]; try rfl) rfl ?_
            exact unqX_mk HF.out rfl (by omega) rfl HB2.out
          · have hc' : c = 24 := hc
            have hpp : p' = k + 1 + pos := hp'
            subst hc'
            have HF := Hid.mk (HFa.out (by decide))
            have HB2 := Hid.mk (HB1.out.trans (hb2.mono HB1.out.size))
            have hz' : z = 0 := hz
            subst hz'
            clear hb2 HOk HFa HLe hc hp' hz
            go_wp2_with fail
            refine bodyPost_ret (v := .tuple #[.string .empty, .int .i64 ((k : Int) + 1 + (pos : Int)), .int .i64 24]) (by simp [results, Tryz.results125, go_sem]; try rfl) rfl ?_
            exact unqX_mk HF.out rfl (by omega) rfl HB2.out
        · have q3 : ((r : Int) == 92) = false := by rw [beq_eq_false_iff_ne]; omega
          have H92 : Hid (¬ (decL (s.data.toList.drop (k + 1 + pos))).1 = 92) := by rw [← HRs.out]; exact hr92
          have HL1 := Hid.mk (Look.rune HU.out hnx.out HPL.out HQL.out H34.out H32.out HSB.out.symm H92.out)
          rw [← HQs.out, ← HRs.out] at HL1
          have HAp0 := Hid.mk (ex_rune HAN.out HB1.out.size HRI.out hn42)
          clear hr34 hr32 hr92 HEs
          go_wp2_with fail
          refine (HST.out _).mono ?_
          rintro e w2 ⟨rfl, hw⟩
          obtain rfl := hw.symm
          go_wp2_with fail
          refine HAp0.out.mono ?_
          rintro e w3 ⟨ao3, m3, cap3, rfl, hm3, HN3⟩
          have HM3 : Hid (w3.iterPos w.heap.size = q) := iterPos_of HN3.out.iter
          go_wp2_with fail
          go_roundw
          case rel => exact ⟨q, m3, nx, ao3, cap3, done ++ [r], h2, by omega, rfl, rfl, HN3, HL1⟩
          case measure => rw [HM3.out, HM.out]; omega
    · have hne := fun ty => Lib.run_next_end_at (P := Tryz.prog) wr w.heap.size T pos ty hkr hp
      have HB := Hid.mk HQ.out.below
      have HF : Hid (R = ([], s.size, 21)) := by
        obtain ⟨p, h1, h2, h3, h4, h5, h6⟩ := HLk.out.at_
        rw [size_len] at h2
        rw [unqL_end done (by rw [size_len]; omega), size_len] at h5
        exact h5.symm
      clear hkr hTsz
      go_wp2_with fail
      refine bodyPost_ret (v := .tuple #[.string .empty, .int .i64 (s.size : Int), .int .i64 21]) (by simp [results, Tryz.results125, go_sem]; try rfl) rfl ?_
      exact unqX_mk HF.out rfl rfl rfl HB.out
end Go.Proofs.YtdmkfdaddacdhaaGreatDoor
