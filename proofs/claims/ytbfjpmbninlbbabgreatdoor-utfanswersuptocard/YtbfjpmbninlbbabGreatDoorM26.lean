import Derived.Test.YtbfjpmbninlbbabGreatDoorM20
import Derived.Test.YtbfjpmbninlbbabGreatDoorM25
import Derived.Lib.AppendStr
import Derived.Deep.RegionLaw
import Derived.Deep.AppendLies
import Derived.BigRegion
namespace Go.Proofs.YtbfjpmbninlbbabGreatDoor
open Go.RowKit
set_option linter.unusedVariables false
set_option linter.unusedSimpArgs false

theorem ok_step (l : List UInt8) {k : Nat} (hk : k < (runes l).length) : okB (l.drop (off l k)) = if strayL (l.drop (off l k)) = true then false else okB (l.drop (off l (k + 1))) := by
  have hl := off_lt k l hk
  have hne : l.drop (off l k) ≠ [] := by
    intro e
    have := congrArg List.length e
    rw [List.length_drop, List.length_nil] at this
    omega
  have hs := off_step l k hne
  rcases stray_or _ hne with ⟨n, post, hn, he, hst⟩ | ⟨hd, hst⟩
  · rw [if_neg (by rw [hst]; decide)]
    have hd := dec_enc n hn post
    rw [← he] at hd
    have : l.drop (off l (k + 1)) = post := by
      rw [hs, hd, ← List.drop_drop, he]
      exact List.drop_left' rfl
    rw [this, he, ok_enc n hn post]
  · rw [if_pos hst, ok_stray _ hne hd]

theorem rows_of {s : ByteArray} {w w1 : World} {so : Option Addr} {sc N : Nat} (hN : N = (runes s.data.toList).length) (ho : w1.ownsRow w.heap.size 63 4 (.slice so N sc) N (prow s N)) : 0 < N → ∃ g, so = some ⟨g, 0, none⟩ ∧ PRow s w1 g := by
  intro h0
  rcases ho.2 with ⟨_, e⟩ | ⟨g, cap, cur, e, _, hr, _, _, _, ht⟩
  · omega
  · simp only [Value.slice.injEq] at e
    exact ⟨g, e.1, ⟨cur, hr, by rw [← hN]; exact ht⟩⟩

set_option maxRecDepth 100000 in
set_option maxHeartbeats 1600000 in
theorem w_rLen (s : ByteArray) (w : World) (hs : s.size ≤ 1048576) :
    Calls Tryz.prog 13 #[.string s] w fun e w' => e = .returned (.int .i64 ((runes s.data.toList).length : Int)) ∧ Below w.heap.size w w' := by
  have HPc := Hid.mk (fun u => w_Pieces s u (by omega))
  generalize (runes s.data.toList).length = N at *
  go_enter Tryz.func13, Tryz.ntmps13
  go_wp2_with fail
  refine (HPc.out _).mono ?_
  rintro e w1 ⟨so, sc, rfl, ho, hb1⟩
  have HB := Hid.mk hb1
  clear hb1
  go_wp2_with fail
  go_ret
  exact ⟨rfl, HB.out⟩

set_option maxRecDepth 100000 in
set_option maxHeartbeats 1600000 in
theorem w_rValid (s : ByteArray) (w : World) (hs : s.size ≤ 1048576) :
    Calls Tryz.prog 12 #[.string s] w fun e w' => e = .returned (.bool (okB s.data.toList)) ∧ Below w.heap.size w w' := by
  have hrl := runes_len_le s.data.toList
  rw [size_len] at hrl
  have HPc := Hid.mk (fun u => w_Pieces s u (by omega))
  obtain ⟨N, hN⟩ : ∃ N, N = (runes s.data.toList).length := ⟨_, rfl⟩
  have HNN := Hid.mk hN
  rw [← hN] at HPc hrl
  clear hN
  go_enter Tryz.func12, Tryz.ntmps12
  go_wp2_with fail
  refine (HPc.out _).mono ?_
  rintro e w1 ⟨so, sc, rfl, ho, hb1⟩
  have HB := Hid.mk hb1
  have HR := Hid.mk (rows_of HNN.out ho.out)
  clear hb1 ho HPc
  go_wp2_with fail
  go_loopw [4] (fun i wr => ∃ k : Nat, k ≤ N ∧ i = .int .i64 (k : Int) ∧ wr = w1 ∧ Hid (okB s.data.toList = okB (s.data.toList.drop (off s.data.toList k)))) (fun i _ => N - (intOf i).toNat)
  case atStart => exact ⟨0, Nat.zero_le _, rfl, rfl, rfl⟩
  case round =>
    obtain ⟨k, hk, rfl, rfl, HQ⟩ := hrel
    by_cases hlt : k < N
    · have hl1 : (k : Int) < (N : Int) := by omega
      have hkN : k < (runes s.data.toList).length := by rw [← HNN.out]; exact hlt
      obtain ⟨g, hg, hpr⟩ := HR.out (by omega)
      subst hg
      have c3 : wr.cell? ⟨g, k * 4 + 3, none⟩ = some (.bool (strayL (s.data.toList.drop (off s.data.toList k)))) := hpr.get hkN 3 (by omega)
      have HS := Hid.mk (ok_step s.data.toList hkN)
      cases hst : strayL (s.data.toList.drop (off s.data.toList k)) with
      | true =>
        rw [hst] at c3 HS
        have HF : Hid (okB s.data.toList = false) := by rw [HQ.out, HS.out]; rfl
        clear hpr hkN hst
        go_wp2_with fail
        go_ret
        exact ⟨by rw [HF.out]; rfl, HB.out⟩
      | false =>
        rw [hst] at c3 HS
        have HN : Hid (okB s.data.toList = okB (s.data.toList.drop (off s.data.toList (k + 1)))) := by
          rw [HQ.out, HS.out]; rfl
        clear hpr hkN hst
        go_wp2_with fail
        go_roundw
        case rel => exact ⟨k + 1, by omega, by go_num, trivial, HN⟩
        case measure => simp [intOf]; omega
    · have hl1 : ¬ (k : Int) < (N : Int) := by omega
      have HF : Hid (okB s.data.toList = true) := by
        show _ = _
        rw [HQ.out, off_end k s.data.toList (by rw [← HNN.out]; omega), List.drop_length]
        rfl
      go_wp2_with fail
      go_ret
      exact ⟨by rw [HF.out]; rfl, HB.out⟩

/-- append of a text's bytes, as one step of a region that draws -/
theorem step_append_str {P : Program} {w : World} {ops : Array Oper} {o : Oper} {a : Act} {K : Act → World → Prop} {Q : Exit → Act → World → Prop} {E : Prop} (hgd : o.guard = none) (sl x : Operand) (t u : TypeId)
    (ho : o.op = .call { callee := .builtin .append, args := #[sl, x], argTypes := #[t, u] })
    (base : Nat) (e : TypeId) (i : TypeInfo) (ht : P.underlying t = some (.slice e)) (hu : P.underlying u = some .string) (hi : P.info? e = some i) (hz : i.zero = some (.int .u8 0))
    (hsize : i.size = 1) (hby : i.bytes = 1)
    (v : Value) (n : Nat) (xs : List Value) (hs : a.eval sl = v) (hown : w.ownsRow base e 1 v n xs) (s : ByteArray) (hx : a.eval x = .string s)
    (h63 : n + s.size ≤ maxLen) (hbytes : n + s.size ≤ 140737488355328) (hbase : base ≤ w.heap.size)
    (h : ∀ v' w', w'.ownsRow base e 1 v' (n + s.size) (xs ++ Lib.strCells s) → w.grownBy w' v.ownBlock → K (a.put o.dst v') w') :
    if Region.wanted o (yielded ops a.tmps) = true then Oper.wp P o a w K Q else E := by
  have hw : Region.wanted o (yielded ops a.tmps) = true := by simp [Region.wanted, hgd]
  rw [if_pos hw]
  obtain ⟨v', w', hr, h2, h3, h4⟩ := Lib.run_append_own_string (P := P) w base t u o.type e i ht hu hi hz hsize hby v n xs hown s h63 hbytes hbase
  unfold Oper.wp execOp
  simp only [ho, resolve, invoke, builtin, Sem.run_bind, Sem.run_pure, Result.andThen_ok, List.map_toArray, List.map_cons, List.map_nil, hs, hx, hr]
  exact h v' w' h2 h3

/-- what has been cut when k pieces have been looked at -/
def ctk (l : List UInt8) (F T k : Nat) : List UInt8 := (l.take (off l (min k T))).drop (off l F)
theorem ext_listY (s : ByteArray) (a b : Nat) : (s.extract a b).data.toList = (s.data.toList.take b).drop a := by
  rw [Lib.extract_data, List.drop_take]
theorem ctk_out (l : List UInt8) (F T k : Nat) (h : k < F ∨ T ≤ k) : ctk l F T (k + 1) = ctk l F T k := by
  unfold ctk
  rcases h with h | h
  · have h1 : off l (min (k + 1) T) ≤ off l F := off_mono l (by omega)
    have h2 : off l (min k T) ≤ off l F := off_mono l (by omega)
    rw [List.drop_eq_nil_of_le (by rw [List.length_take]; omega), List.drop_eq_nil_of_le (by rw [List.length_take]; omega)]
  · rw [show min (k + 1) T = T by omega, show min k T = T by omega]
theorem ctk_in (s : ByteArray) (F T k : Nat) (h1 : F ≤ k) (h2 : k < T) : ctk s.data.toList F T (k + 1) = ctk s.data.toList F T k ++ (s.extract (off s.data.toList k) (off s.data.toList (k + 1))).data.toList := by
  unfold ctk
  rw [show min (k + 1) T = k + 1 by omega, show min k T = k by omega]
  have hm1 := off_mono s.data.toList h1
  have hm2 := off_mono s.data.toList (Nat.le_succ k)
  have he : (s.extract (off s.data.toList k) (off s.data.toList (k + 1))).data.toList = (s.data.toList.take (off s.data.toList (k + 1))).drop (off s.data.toList k) := ext_listY _ _ _
  rw [he]
  have hl := off_le (k + 1) s.data.toList
  have hl0 := off_le k s.data.toList
  have e1 : s.data.toList.take (off s.data.toList (k + 1)) = s.data.toList.take (off s.data.toList k) ++ (s.data.toList.take (off s.data.toList (k + 1))).drop (off s.data.toList k) := by
    have := (List.take_append_drop (off s.data.toList k) (s.data.toList.take (off s.data.toList (k + 1)))).symm
    rw [List.take_take, Nat.min_eq_left hm2] at this
    exact this
  have e2 : (s.data.toList.take (off s.data.toList (k + 1))).drop (off s.data.toList F) = (s.data.toList.take (off s.data.toList k) ++ (s.data.toList.take (off s.data.toList (k + 1))).drop (off s.data.toList k)).drop (off s.data.toList F) := by rw [← e1]
  rw [e2, List.drop_append_of_le_length (by rw [List.length_take]; omega)]
theorem ctk_end (s : ByteArray) (f t : Int) (k : Nat) (hk : (runes s.data.toList).length ≤ k) : (⟨(ctk s.data.toList (max f 0).toNat t.toNat k).toArray⟩ : ByteArray) = cutS s f t := by
  have hT : off s.data.toList (min k t.toNat) = off s.data.toList t.toNat := by
    rcases Nat.le_total k t.toNat with h | h
    · rw [Nat.min_eq_left h, off_end k _ hk, off_end t.toNat _ (by omega)]
    · rw [Nat.min_eq_right h]
  unfold ctk cutS
  rw [hT]
  split
  · rename_i h
    have := off_mono s.data.toList (show t.toNat ≤ (max f 0).toNat by omega)
    rw [List.drop_eq_nil_of_le (by rw [List.length_take]; omega)]
    rfl
  · apply ByteArray.ext
    apply Array.ext'
    rw [ext_listY]
theorem ctk_len (s : ByteArray) (F T k : Nat) : (ctk s.data.toList F T k).length ≤ s.size := by
  unfold ctk
  rw [List.length_drop, List.length_take, size_len]; omega

structure CuSt (s : ByteArray) (w wr : World) (v : Value) (n F T k : Nat) : Prop where
  own : wr.ownsRow w.heap.size 5 1 v n (Lib.byteCells (ctk s.data.toList F T k))
  len : (ctk s.data.toList F T k).length = n
  below : Below w.heap.size w wr

theorem prow_kept5 {s : ByteArray} {wr w1 : World} {g B n : Nat} {v : Value} {xs : List Value} (hown : wr.ownsRow B 5 1 v n xs) (h : PRow s wr g) (hg : wr.grownBy w1 v.ownBlock) : PRow s w1 g := by
  obtain ⟨cur, h1, h2⟩ := h.row
  have hlt := (Array.getElem?_eq_some_iff.1 h1).1
  have hne : some g ≠ v.ownBlock := by
    rcases hown.2 with ⟨rfl, _⟩ | ⟨g', cap, cur', rfl, _, hb, _⟩
    · simp [Value.ownBlock]
    · intro e
      simp only [Value.ownBlock, Option.some.injEq] at e
      subst e
      rw [h1] at hb
      simp at hb
  exact ⟨cur, by rw [hg.block g hlt hne]; exact h1, h2⟩
theorem drew_grown {w w1 : World} {r : Option Nat} (h : w.drew.grownBy w1 r) : w.grownBy w1 r := ⟨h.os, h.tape, h.output, h.size, h.block⟩
theorem offs_succ (s : ByteArray) {k : Nat} (h : k < (runes s.data.toList).length) : off s.data.toList k + (decL (s.data.toList.drop (off s.data.toList k))).2 = off s.data.toList (k + 1) := by
  have hl := off_lt k s.data.toList h
  rw [off_step s.data.toList k (by
    intro e
    have := congrArg List.length e
    rw [List.length_drop, List.length_nil] at this
    omega)]

set_option maxRecDepth 100000 in
set_option maxHeartbeats 4000000 in
theorem w_rCut (s : ByteArray) (f t : Int) (w : World) (hs : s.size ≤ 1048576) :
    Calls Tryz.prog 21 #[.string s, .int .i64 f, .int .i64 t] w fun e w' => e = .returned (.string (cutS s f t)) ∧ Below w.heap.size w w' := by
  obtain ⟨i0, hi0, hz0, hz1, hz2⟩ := info_parts Tryz.infoB
  have hrl := runes_len_le s.data.toList
  rw [size_len] at hrl
  have HPc := Hid.mk (fun u => w_Pieces s u (by omega))
  obtain ⟨N, hN⟩ : ∃ N, N = (runes s.data.toList).length := ⟨_, rfl⟩
  have HNN := Hid.mk hN
  have HEnd := Hid.mk (fun k hk => ctk_end s f t k hk)
  obtain ⟨F, hF⟩ : ∃ F, F = (max f 0).toNat := ⟨_, rfl⟩
  obtain ⟨T, hT⟩ : ∃ T, T = t.toNat := ⟨_, rfl⟩
  rw [← hF, ← hT] at HEnd
  have HFF : Hid (∀ k : Nat, f ≤ (k : Int) ↔ F ≤ k) := fun k => by omega
  have HTT : Hid (∀ k : Nat, (k : Int) < t ↔ k < T) := fun k => by omega
  rw [← hN] at HPc hrl HEnd
  clear hN hF hT
  go_enter Tryz.func21, Tryz.ntmps21
  go_wp2_with fail
  refine (HPc.out _).mono ?_
  rintro e w1 ⟨so, sc, rfl, ho, hb1⟩
  have HR := Hid.mk (rows_of HNN.out ho.out)
  have HC0 : Hid (CuSt s w (w1.alloc (.cells #[] 5)) (.slice (some ⟨w1.heap.size, 0, none⟩) 0 0) 0 F T 0) := by
    have h := own_empty w1 5
    have e0 : ctk s.data.toList F T 0 = [] := by
      unfold ctk
      rw [Nat.zero_min]
      have : off s.data.toList 0 = 0 := by simp [off]
      rw [this]; simp
    exact ⟨by rw [e0]; exact ⟨h.1, h.2.imp id (fun ⟨g, cap, cur, e, hb, rest⟩ => ⟨g, cap, cur, e, Nat.le_trans hb1.size hb, rest⟩)⟩, by rw [e0]; rfl, hb1.alloc hb1.size _⟩
  have HBA := Hid.mk (below1 w1 (.cells #[] 5))
  clear hb1 ho HPc
  go_wp2_with fail
  go_loopw [8, 9] (fun l i wr => ∃ (k n : Nat) (ao : Option Addr) (cap : Nat), k ≤ N ∧ n ≤ 1048576 ∧ l = .slice ao n cap ∧ i = .int .i64 (k : Int) ∧ Hid (CuSt s w wr (.slice ao n cap) n F T k) ∧ Hid (∀ g, PRow s w1 g → PRow s wr g)) (fun _ i _ => N - (intOf i).toNat)
  case atStart => exact ⟨0, 0, _, 0, Nat.zero_le _, by omega, rfl, rfl, HC0, fun g h => h.keep HBA.out⟩
  case round =>
    obtain ⟨k, n, ao, cap, hk, hn, rfl, rfl, HQ, HP⟩ := hrel
    by_cases hlt : k < N
    · have hl1 : (k : Int) < (N : Int) := by omega
      have hkN : k < (runes s.data.toList).length := by rw [← HNN.out]; exact hlt
      by_cases hF : f ≤ (k : Int)
      · by_cases hT : (k : Int) < t
        · obtain ⟨g, hg, hpr⟩ := HR.out (by omega)
          subst hg
          have c0 : wr.cell? ⟨g, k * 4, none⟩ = some (.int .i64 (off s.data.toList k : Int)) := (HP.out g hpr).get hkN 0 (by omega)
          have c1 : wr.cell? ⟨g, k * 4 + 1, none⟩ = some (.int .i64 (off s.data.toList (k + 1) : Int)) := by
            rw [(HP.out g hpr).get hkN 1 (by omega), ← offs_succ s hkN]; rfl
          have m1 := off_mono s.data.toList (Nat.le_succ k)
          have m2 := off_size s (k + 1)
          have HIn := Hid.mk (ctk_in s F T k ((HFF.out k).1 hF) ((HTT.out k).1 hT))
          have hlen1 := ctk_len s F T (k + 1)
          rw [HIn.out, List.length_append, HQ.out.len, Array.length_toList] at hlen1
          generalize off s.data.toList (k + 1) = b at c1 m1 m2 HIn hlen1
          generalize off s.data.toList k = a at c0 m1 HIn hlen1
          have g1 : (a : Int) ≤ (b : Int) := by omega
          have g2 : (b : Int) ≤ (s.size : Int) := by omega
          have g3 : (0 : Int) ≤ (a : Int) := by omega
          have g4 : (0 : Int) ≤ (b : Int) := by omega
          have hxs : n + (s.extract a b).size ≤ 1048576 := by
            have : (s.extract a b).data.size = (s.extract a b).size := rfl
            omega
          have hown := HQ.out.own
          have hsz := HQ.out.below.size
          have HPR := Hid.mk (HP.out)
          have hx63 : n + (s.extract a b).size ≤ maxLen := by unfold maxLen; omega
          clear hpr hkN hlen1
          go_wp2_with fail
          go_region_law
            ((refine step_append_str (by rfl) _ _ _ _ (by rfl) w.heap.size 5 i0 Tryz.underlying55 Tryz.underlying9 hi0 hz0 hz1 hz2 (.slice ao n cap) n _ (by rfl) hown.drew (s.extract a b) (by rfl) hx63 (by omega) hsz ?_; intro v4 w4 hown4 hgrow4))
          all_goals obtain ⟨so4, c4, hv4⟩ := own_shape hown4
          all_goals subst hv4
          all_goals have HN : Hid (CuSt s w w4 (.slice so4 (n + (s.extract a b).size) c4) (n + (s.extract a b).size) F T (k + 1)) := ⟨by rw [HIn.out, Lib.byteCells_append]; exact hown4, by rw [HIn.out, List.length_append, HQ.out.len, Array.length_toList]; rfl, (HQ.out.below.drew).grown hgrow4 hsz (own_base hown)⟩
          all_goals have HP1 : Hid (∀ g, PRow s w1 g → PRow s w4 g) := fun g h => prow_kept5 hown (HP.out g h) (drew_grown hgrow4)
          all_goals clear hown4 hgrow4 hown
          all_goals generalize (s.extract a b).size = dn at *
          all_goals go_wp2_with fail
          all_goals go_roundw
          all_goals first | (case rel => exact ⟨k + 1, n + dn, _, _, hlt, hxs, rfl, by go_num, HN, HP1⟩) | skip
          all_goals simp [intOf]
          all_goals omega
        · have HN : Hid (CuSt s w wr (.slice ao n cap) n F T (k + 1)) := by
            have e := ctk_out s.data.toList F T k (.inr (by have := (HTT.out k).2; omega))
            exact ⟨by rw [e]; exact HQ.out.own, by rw [e]; exact HQ.out.len, HQ.out.below⟩
          clear hkN
          go_wp2_with fail
          go_roundw
          case rel => exact ⟨k + 1, n, ao, cap, hlt, hn, rfl, by go_num, HN, HP⟩
          case measure => simp [intOf]; omega
      · have HN : Hid (CuSt s w wr (.slice ao n cap) n F T (k + 1)) := by
          have e := ctk_out s.data.toList F T k (.inl (by have := (HFF.out k).2; omega))
          exact ⟨by rw [e]; exact HQ.out.own, by rw [e]; exact HQ.out.len, HQ.out.below⟩
        clear hkN
        go_wp2_with fail
        go_roundw
        case rel => exact ⟨k + 1, n, ao, cap, hlt, hn, rfl, by go_num, HN, HP⟩
        case measure => simp [intOf]; omega
    · have hl1 : ¬ (k : Int) < (N : Int) := by omega
      have hcv := conv_own' HQ.out.len HQ.out.own
      rw [HEnd.out k (by omega)] at hcv
      have HB := Hid.mk HQ.out.below
      go_wp2_with fail
      go_ret
      exact ⟨rfl, HB.out⟩
end Go.Proofs.YtbfjpmbninlbbabGreatDoor
