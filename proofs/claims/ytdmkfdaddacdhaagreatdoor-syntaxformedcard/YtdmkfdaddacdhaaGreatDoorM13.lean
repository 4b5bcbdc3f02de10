import Derived.Test.YtdmkfdaddacdhaaGreatDoorM8
namespace Go.Proofs.YtdmkfdaddacdhaaGreatDoor
open Go.RowKit
set_option linter.unusedVariables false
set_option linter.unusedSimpArgs false

theorem encodeRune_rn (r : Int) : Lib.encodeRune r = enc (rn r) := by
  cases hv : Lib.validRune r with
  | true =>
    have hv' : decide ((0 ≤ r ∧ r < 0xD800) ∨ (0xDFFF < r ∧ r ≤ 0x10FFFF)) = true := hv
    have h := of_decide_eq_true hv'
    have e : rn r = r.toNat := by unfold rn; rw [hv]; rfl
    have := encodeRune_enc (rn r) (rn_isR r)
    rw [show ((rn r : Nat) : Int) = r by rw [e]; omega] at this
    exact this
  | false =>
    have hv' : decide ((0 ≤ r ∧ r < 0xD800) ∨ (0xDFFF < r ∧ r ≤ 0x10FFFF)) = false := hv
    have h := of_decide_eq_false hv'
    have e : rn r = 65533 := by unfold rn; rw [hv]; rfl
    rw [e, enc_err]
    unfold Lib.encodeRune Lib.encodeRuneZ
    rw [if_neg (by omega), if_neg (by omega), if_neg (by omega), if_neg (by omega)]
    rfl

theorem dec_quote {l : List UInt8} (h : l ≠ []) (e : (decL l).1 = 34) : ∃ post, l = 34 :: post := by
  rcases decL_cases l h with ⟨n, post, hn, rfl⟩ | e2
  · rw [dec_enc n hn post] at e
    have e' : n = 34 := e
    subst e'
    exact ⟨post, rfl⟩
  · rw [e2] at e; cases e

/-- while any text is read as a literal -/
structure AnySt (B k0 : Nat) (w wr : World) (v : Value) (n : Nat) (T : ByteArray) (pos : Nat) : Prop where
  iter : wr.heap[k0]? = some (.stringIter T pos)
  below : Below B w wr
  own : ∃ done, (∀ z ∈ done, isR z) ∧ (txt done).length = n ∧ wr.ownsRow B 5 1 v n (Lib.byteCells (txt done))

theorem any_rune {B k0 n q : Nat} {r : Int} {w W : World} {v : Value} {T : ByteArray} {done : List Nat} (hi : W.heap[k0]? = some (.stringIter T q)) (hb : Below B w W) (hB : B ≤ W.heap.size) (hR : ∀ z ∈ done, isR z) (hn : (txt done).length = n) (hown : W.ownsRow B 5 1 v n (Lib.byteCells (txt done))) (hr0 : -2147483648 ≤ r) (hr1 : r ≤ 2147483647) (hlim : n ≤ 4398046511104) :
    Calls Tryz.prog 157 #[v, .int .i32 r] W fun e w' => ∃ ao m cap, e = .returned (.slice ao m cap) ∧ m ≤ n + 4 ∧ Hid (AnySt B k0 w w' (.slice ao m cap) m T q) := by
  have HA := Tryz.utf8_AppendRune_plain B v n (Lib.byteCells (txt done)) r hr0 hr1 W hown (by omega) hB
  have hcells : Lib.runeCells r = Lib.byteCells (enc (rn r)) := by rw [← Lib.byteCells_encodeRune, encodeRune_rn r]
  have hlen : (Lib.byteCells (enc (rn r))).length = (enc (rn r)).length := by simp [Lib.byteCells]
  rw [hcells, hlen] at HA
  refine HA.mono ?_
  rintro e w1 ⟨v1, rfl, hown1, o, hg1⟩
  obtain ⟨so, sc, rfl⟩ := own_shape hown1
  refine ⟨so, _, sc, rfl, by have := (enc_len (rn r)).2; omega, ⟨iter_kept hown hi (grown_after hg1), below_app hown hB hb hg1, done ++ [rn r], ?_, ?_, ?_⟩⟩
  · intro z hz
    rcases List.mem_append.1 hz with h | h
    · exact hR z h
    · have : z = rn r := by simpa using h
      rw [this]; exact rn_isR r
  · rw [txt_snoc, List.length_append, hn]
  · rw [txt_snoc, Lib.byteCells_append]; exact hown1

set_option maxHeartbeats 400000 in
theorem w_isPlace_no (s : ByteArray) (w : World) (h : s.size = 0) :
    Calls Tryz.prog 154 #[.string s, .int .i64 0] w fun e w' => e = .returned (.bool false) ∧ w' = w := by
  have H2 : Hid (decide (0 < s.size) = false) := by show _ = _; exact decide_eq_false (by omega)
  clear h
  go_enter Tryz.func154, Tryz.ntmps154
  go_wp2_with fail
  go_ret
  exact ⟨by show Ending.returned (.bool (decide (0 < s.size))) = _; rw [H2.out], rfl⟩

/-- what Unquote may answer -/
def UnqR (s : ByteArray) (w w' : World) (e : Ending) : Prop := ∃ (t : ByteArray) (p c : Int), e = .returned (.tuple #[.string t, .int .i64 p, .int .i64 c]) ∧ Below w.heap.size w w' ∧ ((c ≠ 0 ∧ t = .empty) ∨ (c = 0 ∧ ∃ zs, (∀ z ∈ zs, isR z) ∧ t = ⟨(txt zs).toArray⟩ ∧ (txt zs).length ≤ 4 * s.size ∧ ∃ (k : Nat) (h : k < s.size), p = (k : Int) + 1 ∧ s[k]'h = 34))

set_option maxRecDepth 100000 in
set_option maxHeartbeats 6400000 in
theorem w_Unquote_any (s : ByteArray) (w : World) (hs : s.size ≤ 1099511627776) (hE : ErrIn w) :
    Calls Tryz.prog 125 #[.string s, .int .i64 0] w fun e w' => UnqR s w w' e := by
  by_cases h0 : s.size = 0
  · have HP := Hid.mk (fun u => w_isPlace_no s u h0)
    clear h0
    go_enter Tryz.func125, Tryz.ntmps125
    go_wp2_with fail
    refine (HP.out _).mono ?_
    rintro e w1 ⟨rfl, hw⟩
    obtain rfl := hw.symm
    go_wp2_with fail
    refine bodyPost_ret (v := .tuple #[.string .empty, .int .i64 0, .int .i64 2]) (by simp [results, Tryz.results125, go_sem]; try rfl) rfl ?_
    exact ⟨_, _, _, rfl, Below.refl _ _, Or.inl ⟨by omega, rfl⟩⟩
  have hpos0 : 0 < s.size := by omega
  have HP := Hid.mk (fun u => w_isPlace s 0 u hpos0)
  rw [show ((0 : Nat) : Int) = 0 from rfl] at HP
  have hi0 : (0 : Int) < (s.size : Int) := by omega
  have hi1 : (1 : Int) ≤ (s.size : Int) := by omega
  by_cases hq : s[0] = 34
  · obtain ⟨T, hT⟩ : ∃ T, T = s.extract 1 s.size := ⟨_, rfl⟩
    have hsd : ∀ p, s.data.toList.drop (1 + p) = T.data.toList.drop p := by
      intro p; rw [hT, extract_drop, List.drop_drop]
    have hTs : T.size = s.size - 1 := by
      have e : T.data.toList.length = T.size := by rw [Array.length_toList]; rfl
      have e2 : s.data.toList.length = s.size := by rw [Array.length_toList]; rfl
      rw [← e, hT, extract_drop, List.length_drop, e2]
    have HSD := Hid.mk hsd
    have HTS := Hid.mk hTs
    have HE := Hid.mk hE
    have hT' : s.extract 1 s.size = T := hT.symm
    clear h0 hT hsd hTs hE
    go_enter Tryz.func125, Tryz.ntmps125
    go_wp2_with fail
    refine (HP.out _).mono ?_
    rintro e w1 ⟨rfl, hw⟩
    obtain rfl := hw.symm
    go_wp2_with fail
    clear hT'
    go_loopw [7, 9] (fun vt vn wr => ∃ (pos n : Nat) (nx : Int) (ao : Option Addr) (cap : Nat), pos ≤ T.size ∧ n ≤ 4 * pos ∧ vt = .slice ao n cap ∧ vn = .int .i64 nx ∧ Hid (AnySt w.heap.size w.heap.size w wr (.slice ao n cap) n T pos)) (fun _ _ wr => T.size - wr.iterPos w.heap.size)
    case atStart => exact ⟨0, 0, 1, none, 0, Nat.zero_le _, by omega, rfl, rfl, ⟨World.iter_heap w T 0, iter_below w T 0, [], (fun z hz => by cases hz), rfl, World.ownsRow_nil _ _ _ _⟩⟩
    case round =>
      obtain ⟨pos, n, nx, ao, cap, hpos, hn4, rfl, rfl, HQ⟩ := hrel
      have hkr := HQ.out.iter
      have HM : Hid (wr.iterPos w.heap.size = pos) := iterPos_of hkr
      have hTsz := HTS.out
      by_cases hp : pos < T.size
      · have hKp : 1 + pos < s.size := by omega
        have hn42 : n ≤ 4398046511104 := by omega
        obtain ⟨q, hqq⟩ : ∃ q, q = pos + (decL (T.data.toList.drop pos)).2 := ⟨_, rfl⟩
        obtain ⟨r, hr⟩ : ∃ r, r = (decL (T.data.toList.drop pos)).1 := ⟨_, rfl⟩
        have h1 := decL_pos (T.data.toList.drop pos)
        have h2 := step_le' hp
        have hR := decL_isR _ (drop_ne' hp)
        have H34 : Hid (r = 34 → s[1 + pos]'hKp = 34) := by
          intro e
          obtain ⟨post, hpost⟩ := dec_quote (drop_ne' hp) (by rw [← hr]; exact e)
          exact get_of (r := post) (by rw [HSD.out, hpost]) hKp
        obtain ⟨W1, hW1⟩ : ∃ W : World, W = wr.iterAt w.heap.size T q := ⟨_, rfl⟩
        have hn1 := nxtAt wr w.heap.size T pos r q hkr hp (by rw [decode_eq T pos hpos]; exact Prod.ext hr.symm (by show _ = q - pos; omega)) (by omega)
        have hk1 := Lib.iterAt_heap wr w.heap.size T pos q hkr
        obtain ⟨done, hdR, hdn, hown⟩ := HQ.out.own
        have ho1 := own_iterAt hown hkr q
        have hB1 := Lib.below_iterAt HQ.out.below (Nat.le_refl _) T q
        rw [← hW1] at hn1 hk1 ho1 hB1
        rw [← hr] at hR
        rw [← hqq] at h2
        have hrlt : r ≤ 1114111 := by unfold isR at hR; omega
        have hq1 : pos + 1 ≤ q := by omega
        have HAN : Hid (AnySt w.heap.size w.heap.size w W1 (.slice ao n cap) n T q) := ⟨hk1, hB1, done, hdR, hdn, ho1⟩
        have HM1 : Hid (W1.iterPos w.heap.size = q) := iterPos_of hk1
        have HB1 := Hid.mk hB1
        have HST := Hid.mk (fun u => w_stray s (1 + pos) r u (by omega))
        rw [show ((1 + pos : Nat) : Int) = (1 : Int) + (pos : Int) by omega] at HST
        generalize (r == 65533 && !Lib.hasPrefix (List.drop (1 + pos) s.data.toList) [239, 191, 189]) = sb at HST
        have HEs := Hid.mk (w_Escape_any s (1 + pos) W1 hKp (by omega) (HE.out.keep hB1))
        rw [show ((1 + pos : Nat) : Int) = (1 : Int) + (pos : Int) by omega] at HEs
        have hcv := conv_own hdn ho1
        have HDN : Hid ((∀ z ∈ done, isR z) ∧ (txt done).length ≤ 4 * s.size) := ⟨hdR, by omega⟩
        have HAp0 := Hid.mk (any_rune (r := (r : Int)) hk1 hB1 hB1.size hdR hdn ho1 (by omega) (by omega) hn42)
        have HAp : Hid (∀ u (z : Int), Below W1.heap.size W1 u → 0 ≤ z → z ≤ 2147483647 → Calls Tryz.prog 157 #[.slice ao n cap, .int .i32 z] u fun e w' => ∃ ao m cap, e = .returned (.slice ao m cap) ∧ m ≤ n + 4 ∧ Hid (AnySt w.heap.size w.heap.size w w' (.slice ao m cap) m T q)) := by
          intro u z hu hz0 hz1
          have hk2 : u.heap[w.heap.size]? = some (.stringIter T q) := by
            rw [hu.block w.heap.size (Array.getElem?_eq_some_iff.1 hk1).1]; exact hk1
          exact any_rune hk2 (hB1.trans (hu.mono hB1.size)) (Nat.le_trans hB1.size hu.size) hdR hdn (own_below ho1 hu) (by omega) hz1 hn42
        clear hW1 hk1 ho1 hB1 hown hdn hdR hkr hTsz hqq hr h1 hR HE
        by_cases hcond : (1 : Int) + (pos : Int) < nx
        · go_wp2_with fail
          go_roundw
          case rel => exact ⟨q, n, nx, ao, cap, h2, by omega, rfl, rfl, HAN⟩
          case measure => rw [HM1.out, HM.out]; omega
        by_cases hr34 : r = 34
        · subst hr34
          have H34' := Hid.mk (H34.out rfl)
          go_wp2_with fail
          refine bodyPost_ret (v := .tuple #[.string ⟨(txt done).toArray⟩, .int .i64 ((1 : Int) + (pos : Int) + 1), .int .i64 0]) (by simp [results, Tryz.results125, go_sem]) rfl ?_
          exact ⟨_, _, _, rfl, HB1.out, Or.inr ⟨rfl, done, HDN.out.1, rfl, HDN.out.2, 1 + pos, hKp, by omega, H34'.out⟩⟩
        have q1 : ((r : Int) == 34) = false := by rw [beq_eq_false_iff_ne]; omega
        by_cases hr32 : r < 32
        · have q2 : (r : Int) < 32 := by omega
          clear hr34 hr32
          go_wp2_with fail
          refine bodyPost_ret (v := .tuple #[.string .empty, .int .i64 ((1 : Int) + (pos : Int)), .int .i64 22]) (by simp [results, Tryz.results125, go_sem]; try rfl) rfl ?_
          exact ⟨_, _, _, rfl, HB1.out, Or.inl ⟨by omega, rfl⟩⟩
        have q2 : ¬ (r : Int) < 32 := by omega
        cases sb with
        | true =>
          clear hr34 hr32
          go_wp2_with fail
          refine (HST.out _).mono ?_
          rintro e w2 ⟨rfl, hw⟩
          obtain rfl := hw.symm
          go_wp2_with fail
          refine bodyPost_ret (v := .tuple #[.string .empty, .int .i64 ((1 : Int) + (pos : Int)), .int .i64 20]) (by simp [results, Tryz.results125, go_sem]; try rfl) rfl ?_
          exact ⟨_, _, _, rfl, HB1.out, Or.inl ⟨by omega, rfl⟩⟩
        | false =>
          by_cases hr92 : r = 92
          · subst hr92
            clear hr34 hr32 q1 q2
            go_wp2_with fail
            refine (HST.out _).mono ?_
            rintro e w2 ⟨rfl, hw⟩
            obtain rfl := hw.symm
            go_wp2_with fail
            refine HEs.out.mono ?_
            rintro e w2 ⟨z, p', c, rfl, hc, hz0, hz1, _, _, hb2⟩
            rcases hc with rfl | rfl | rfl
            · have hst := HAp.out _ z hb2 hz0 hz1
              clear hb2
              go_wp2_with fail
              refine hst.mono ?_
              rintro e w3 ⟨ao3, m3, cap3, rfl, hm3, HN3⟩
              have HM3 : Hid (w3.iterPos w.heap.size = q) := iterPos_of HN3.out.iter
              clear hst
              go_wp2_with fail
              go_roundw
              case rel => exact ⟨q, m3, p', ao3, cap3, h2, by omega, rfl, rfl, HN3⟩
              case measure => rw [HM3.out, HM.out]; omega
            · have HB2 := Hid.mk (HB1.out.trans (hb2.mono HB1.out.size))
              clear hb2
              go_wp2_with fail
              refine bodyPost_ret (v := .tuple #[.string .empty, .int .i64 p', .int .i64 23]) (by simp [results, Tryz.results125, go_sem]; try rfl) rfl ?_
              exact ⟨_, _, _, rfl, HB2.out, Or.inl ⟨by omega, rfl⟩⟩
            · have HB2 := Hid.mk (HB1.out.trans (hb2.mono HB1.out.size))
              clear hb2
              go_wp2_with fail
              refine bodyPost_ret (v := .tuple #[.string .empty, .int .i64 p', .int .i64 24]) (by simp [results, Tryz.results125, go_sem]; try rfl) rfl ?_
              exact ⟨_, _, _, rfl, HB2.out, Or.inl ⟨by omega, rfl⟩⟩
          · have q3 : ((r : Int) == 92) = false := by rw [beq_eq_false_iff_ne]; omega
            clear hr34 hr32 hr92 HEs HAp
            go_wp2_with fail
            refine (HST.out _).mono ?_
            rintro e w2 ⟨rfl, hw⟩
            obtain rfl := hw.symm
            go_wp2_with fail
            refine HAp0.out.mono ?_
            rintro e w3 ⟨ao3, m3, cap3, rfl, hm3, HN3⟩
            have HM3 : Hid (w3.iterPos w.heap.size = q) := iterPos_of HN3.out.iter
            go_wp2_with fail
            go_roundw
            case rel => exact ⟨q, m3, nx, ao3, cap3, h2, by omega, rfl, rfl, HN3⟩
            case measure => rw [HM3.out, HM.out]; omega
      · have hne := fun ty => Lib.run_next_end_at (P := Tryz.prog) wr w.heap.size T pos ty hkr hp
        have HB := Hid.mk HQ.out.below
        clear hkr hTsz
        go_wp2_with fail
        refine bodyPost_ret (v := .tuple #[.string .empty, .int .i64 (s.size : Int), .int .i64 21]) (by simp [results, Tryz.results125, go_sem]; try rfl) rfl ?_
        exact ⟨_, _, _, rfl, HB.out, Or.inl ⟨by omega, rfl⟩⟩
  · have hq' : ((((s[0]).toNat : Nat) : Int) != 34) = true := by
      rw [bne_iff_ne]
      intro e
      apply hq
      apply UInt8.toNat_inj.1
      have : (34 : UInt8).toNat = 34 := rfl
      omega
    clear hq h0
    go_enter Tryz.func125, Tryz.ntmps125
    go_wp2_with fail
    refine (HP.out _).mono ?_
    rintro e w1 ⟨rfl, hw⟩
    obtain rfl := hw.symm
    go_wp2_with fail
    refine bodyPost_ret (v := .tuple #[.string .empty, .int .i64 0, .int .i64 21]) (by simp [results, Tryz.results125, go_sem]; try rfl) rfl ?_
    exact ⟨_, _, _, rfl, Below.refl _ _, Or.inl ⟨by omega, rfl⟩⟩
end Go.Proofs.YtdmkfdaddacdhaaGreatDoor
