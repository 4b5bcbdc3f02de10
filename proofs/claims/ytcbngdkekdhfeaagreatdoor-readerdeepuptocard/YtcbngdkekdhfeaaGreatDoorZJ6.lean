import Derived.Test.YtcbngdkekdhfeaaGreatDoorZJ5
import Derived.Lib.QuietBelow
import Derived.BigQuiet
namespace Go.Proofs.YtcbngdkekdhfeaaGreatDoor
open Go.RowKit Go.Shelf Go.Sort
set_option linter.unusedVariables false
set_option linter.unusedSimpArgs false
attribute [local go_sem] Oper.semAt_some

theorem opn_snoc : ∀ (xs : List Bool) (b : Bool), opn (xs ++ [b]) = opn xs ++ opn [b]
  | [], b => rfl
  | true :: xs, b => by show 91 :: opn (xs ++ [b]) = _; rw [opn_snoc xs b]; rfl
  | false :: xs, b => by show 123 :: 34 :: 34 :: 58 :: opn (xs ++ [b]) = _; rw [opn_snoc xs b]; rfl
theorem sht_snoc : ∀ (xs : List Bool) (b : Bool), sht (xs ++ [b]) = (if b then 93 else 125) :: sht xs
  | [], true => rfl
  | [], false => rfl
  | true :: xs, b => by show sht (xs ++ [b]) ++ [93] = _; rw [sht_snoc xs b]; rfl
  | false :: xs, b => by show sht (xs ++ [b]) ++ [125] = _; rw [sht_snoc xs b]; rfl
structure BlR (w : World) (ks : List Bool) (io : Option Addr) : Prop where
  row : 0 < ks.length → ∃ b off, io = some ⟨b, off, none⟩ ∧ b < w.heap.size ∧ ∀ i, i < ks.length → w.cell? ⟨b, off + i, none⟩ = some (.bool (ks.getD i false))
def plc (ks : List Bool) (k : Nat) : Int := if k ≤ 64 then -1 else ((opn (ks.take 64)).length : Int)
theorem plc_64 {ks : List Bool} {k : Nat} (h : k = 64) : plc ks (k + 1) = ((opn (ks.take 64)).length : Int) := by unfold plc; rw [if_neg (by omega)]
theorem plc_not {ks : List Bool} {k : Nat} (h : k ≠ 64) : plc ks k = plc ks (k + 1) := by
  unfold plc
  by_cases hk : k ≤ 64
  · rw [if_pos hk, if_pos (by omega)]
  · rw [if_neg hk, if_neg (by omega)]
theorem size_of_list {O : ByteArray} {l : List UInt8} (h : O.data.toList = l) : ((O.size : Nat) : Int) = (l.length : Int) := by rw [← h, size_lst]
structure DpS (w2 : World) (T : VT) (wr : World) : Prop where
  box : ∃ jo jc jk jkc h, wr.heap[w2.heap.size]? = some (.cells #[.int .i64 T.kind, .string T.num, .string T.text, .slice jo T.items.length jc, .slice jk T.keys.length jkc] 27 (0, 0)) ∧ InH w2 (h + 1) T (.agg #[.int .i64 T.kind, .string T.num, .string T.text, .slice jo T.items.length jc, .slice jk T.keys.length jkc])
  bel : Below w2.heap.size w2 wr

set_option maxRecDepth 100000 in
set_option maxHeartbeats 6400000 in
theorem w_ReaderDeep (ks : List Bool) (N cap : Nat) (io : Option Addr) (w : World) (hN : ks.length = N) (hk : BlR w ks io) (hcap : N ≤ cap) (sz : N ≤ 1048576) (hE : ErrIn w) : Calls Tryz.prog 3 #[.slice io N cap] w fun e w' => Below w.heap.size w w' ∧ e = .returned (.bool true) := by
  have HF := Hid.mk (w_fixed5 w hE)
  have HE := Hid.mk hE
  have HK := Hid.mk hk
  have HN := Hid.mk hN
  clear hE hk hN
  go_enter Tryz.func3, Tryz.ntmps3
  go_wp2_with fail
  refine HF.out.mono ?_
  rintro e w1 ⟨hb1, rfl⟩
  have HB1 := Hid.mk hb1
  clear hb1 HF
  go_wp2_with fail
  go_loopw [3, 4, 5, 6] (fun o sh pl i wr => ∃ (k : Nat) (O S : ByteArray) (z : Int), k ≤ N ∧ o = .string O ∧ sh = .string S ∧ pl = .int .i64 z ∧ i = .int .i64 (k : Int) ∧ Hid (O.data.toList = opn (ks.take k) ∧ S.data.toList = sht (ks.take k)) ∧ Hid (O.size ≤ 4 * k ∧ S.size ≤ k) ∧ Hid (z = plc ks k) ∧ wr = w1) (fun _ _ _ i _ => N - (intOf i).toNat)
  case atStart => exact ⟨0, ⟨#[]⟩, ⟨#[]⟩, -1, Nat.zero_le _, rfl, rfl, rfl, rfl, ⟨rfl, rfl⟩, ⟨Nat.zero_le _, Nat.zero_le _⟩, rfl, rfl⟩
  case round =>
    obtain ⟨k, O, S, z, hk, rfl, rfl, rfl, rfl, HD, HZ, HP, rfl⟩ := hrel
    have hO := HZ.out.1
    have hS := HZ.out.2
    by_cases hlt : k < N
    · have hl1 : (k : Int) < (N : Int) := by omega
      have hl0 : (0 : Int) ≤ (k : Int) := by omega
      have hkl : k < ks.length := by rw [HN.out]; exact hlt
      obtain ⟨ab, aoff, hao, habl, harow⟩ := HK.out.row (by omega)
      subst hao
      have ca : wr.cell? ⟨ab, aoff + k, none⟩ = some (.bool (ks.getD k false)) := (World.cell?_of_block (a := ⟨ab, aoff + k, none⟩) (HB1.out.block ab habl)).trans (harow k hkl)
      have HT : Hid (ks.take (k + 1) = ks.take k ++ [ks.getD k false]) := by
        show _ = _
        rw [List.take_succ_eq_append_getElem hkl]
        simp [List.getD, hkl]
      have n1 : ¬ 9223372036854775807 < O.size + 1 := by omega
      have n2 : ¬ (9223372036854775807 : Int) < (O.size : Int) + 1 := by omega
      have n3 : ¬ 9223372036854775807 < O.size + 4 := by omega
      have n4 : ¬ (9223372036854775807 : Int) < (O.size : Int) + 4 := by omega
      have n5 : ¬ 9223372036854775807 < 1 + S.size := by omega
      have n6 : ¬ (9223372036854775807 : Int) < 1 + (S.size : Int) := by omega
      clear harow habl hkl hO hS
      by_cases h64 : k = 64
      · have H64 := Hid.mk h64
        have g64 : ((k : Int) == 64) = true := by rw [h64]; rfl
        clear h64
        cases hb : ks.getD k false with
        | true =>
          rw [hb] at ca
          go_wp2_with fail
          go_roundw
          case rel => exact ⟨k + 1, O ++ ⟨#[91]⟩, ⟨#[93]⟩ ++ S, ((O.size : Nat) : Int), hlt, rfl, rfl, rfl, by go_num, ⟨by rw [HT.out, opn_snoc, hb, ← HD.out.1]; simp [opn], by rw [HT.out, sht_snoc, hb, ← HD.out.2]; simp⟩, ⟨by rw [ByteArray.size_append]; show O.size + 1 ≤ 4 * (k + 1); have := HZ.out.1; omega, by rw [ByteArray.size_append]; show 1 + S.size ≤ k + 1; have := HZ.out.2; omega⟩, (by show ((O.size : Nat) : Int) = plc ks (k + 1); rw [plc_64 H64.out, size_of_list HD.out.1, H64.out]), (by first | rfl | trivial)⟩
          case measure => simp [intOf]; omega
        | false =>
          rw [hb] at ca
          go_wp2_with fail
          go_roundw
          case rel => exact ⟨k + 1, O ++ ⟨#[123, 34, 34, 58]⟩, ⟨#[125]⟩ ++ S, ((O.size : Nat) : Int), hlt, rfl, rfl, rfl, by go_num, ⟨by rw [HT.out, opn_snoc, hb, ← HD.out.1]; simp [opn], by rw [HT.out, sht_snoc, hb, ← HD.out.2]; simp⟩, ⟨by rw [ByteArray.size_append]; show O.size + 4 ≤ 4 * (k + 1); have := HZ.out.1; omega, by rw [ByteArray.size_append]; show 1 + S.size ≤ k + 1; have := HZ.out.2; omega⟩, (by show ((O.size : Nat) : Int) = plc ks (k + 1); rw [plc_64 H64.out, size_of_list HD.out.1, H64.out]), (by first | rfl | trivial)⟩
          case measure => simp [intOf]; omega
      · have H64 := Hid.mk h64
        have g64 : ((k : Int) == 64) = false := by rw [beq_eq_false_iff_ne]; omega
        have e64 : ¬ (k : Int) = 64 := by omega
        clear h64
        cases hb : ks.getD k false with
        | true =>
          rw [hb] at ca
          go_wp2_with fail
          go_roundw
          case rel => exact ⟨k + 1, O ++ ⟨#[91]⟩, ⟨#[93]⟩ ++ S, z, hlt, rfl, rfl, rfl, by go_num, ⟨by rw [HT.out, opn_snoc, hb, ← HD.out.1]; simp [opn], by rw [HT.out, sht_snoc, hb, ← HD.out.2]; simp⟩, ⟨by rw [ByteArray.size_append]; show O.size + 1 ≤ 4 * (k + 1); have := HZ.out.1; omega, by rw [ByteArray.size_append]; show 1 + S.size ≤ k + 1; have := HZ.out.2; omega⟩, (by show z = plc ks (k + 1); rw [HP.out]; exact plc_not H64.out), (by first | rfl | trivial)⟩
          case measure => simp [intOf]; omega
        | false =>
          rw [hb] at ca
          go_wp2_with fail
          go_roundw
          case rel => exact ⟨k + 1, O ++ ⟨#[123, 34, 34, 58]⟩, ⟨#[125]⟩ ++ S, z, hlt, rfl, rfl, rfl, by go_num, ⟨by rw [HT.out, opn_snoc, hb, ← HD.out.1]; simp [opn], by rw [HT.out, sht_snoc, hb, ← HD.out.2]; simp⟩, ⟨by rw [ByteArray.size_append]; show O.size + 4 ≤ 4 * (k + 1); have := HZ.out.1; omega, by rw [ByteArray.size_append]; show 1 + S.size ≤ k + 1; have := HZ.out.2; omega⟩, (by show z = plc ks (k + 1); rw [HP.out]; exact plc_not H64.out), (by first | rfl | trivial)⟩
          case measure => simp [intOf]; omega
    · have hl1 : ¬ (k : Int) < (N : Int) := by omega
      obtain rfl : N = k := by omega
      clear hlt hk
      have HL : Hid ((O ++ ⟨#[48]⟩ ++ S : ByteArray).data.toList = opn ks ++ 48 :: sht ks) := by
        show _ = _
        have e : ks.take N = ks := List.take_of_length_le (by rw [HN.out]; exact Nat.le_refl _)
        rw [show (O ++ ⟨#[48]⟩ ++ S : ByteArray).data.toList = O.data.toList ++ 48 :: S.data.toList from by simp, HD.out.1, HD.out.2, e]
      have hsz : (O ++ ⟨#[48]⟩ ++ S : ByteArray).size = O.size + 1 + S.size := by rw [ByteArray.size_append, ByteArray.size_append]; rfl
      have hsz1 : (O ++ ⟨#[48]⟩ : ByteArray).size = O.size + 1 := by rw [ByteArray.size_append]; rfl
      have HOne := Hid.mk (w_One5 (O ++ ⟨#[48]⟩ ++ S) (by omega) wr (HE.out.keep HB1.out))
      have HDp := Hid.mk (deep_one _ ks HL.out)
      have n1 : ¬ 9223372036854775807 < O.size + 1 := by omega
      have n2 : ¬ (9223372036854775807 : Int) < (O.size : Int) + 1 := by omega
      have n3 : ¬ 9223372036854775807 < O.size + 1 + S.size := by omega
      have n4 : ¬ (9223372036854775807 : Int) < (O.size : Int) + 1 + (S.size : Int) := by omega
      have n5 : ¬ 9223372036854775807 < (O ++ ⟨#[48]⟩ : ByteArray).size + S.size := by omega
      have n6 : ¬ (9223372036854775807 : Int) < ((O ++ ⟨#[48]⟩ : ByteArray).size : Int) + (S.size : Int) := by omega
      clear hsz hsz1 HL HD HZ hO hS
      go_wp2_with fail
      refine HOne.out.mono ?_
      rintro e w2 ⟨hb2, hm⟩
      have HB2 : Hid (Below w.heap.size w w2) := HB1.out.trans (hb2.mono HB1.out.size)
      clear hb2 HOne n1 n2 n3 n4 n5 n6
      by_cases h64 : N ≤ 64
      · obtain ⟨q, hq⟩ := HDp.out.1 (by rw [HN.out]; exact h64)
        rw [hq] at hm
        obtain ⟨v, rfl, hF⟩ := hm
        have hz : z = -1 := by rw [HP.out]; unfold plc; rw [if_pos h64]
        subst hz
        have hH := hF.toH
        obtain ⟨jo, jc, jk, jkc, rfl, _⟩ := id hF
        have HS0 : Hid (DpS w2 (nestT (ks.drop 0)) (w2.alloc (.cells #[.int .i64 (nestT ks).kind, .string (nestT ks).num, .string (nestT ks).text, .slice jo (nestT ks).items.length jc, .slice jk (nestT ks).keys.length jkc] 27))) := by
          rw [List.drop_zero]
          exact ⟨⟨jo, jc, jk, jkc, 64, heap_alloc_new w2 _, hH⟩, below1 w2 _⟩
        clear hF hH hq HDp h64
        go_wp2_with fail
        go_loopw [10] (fun i wr => ∃ k : Nat, k ≤ N ∧ i = .int .i64 (k : Int) ∧ Hid (DpS w2 (nestT (ks.drop k)) wr)) (fun i _ => N - (intOf i).toNat)
        case atStart => exact ⟨0, Nat.zero_le _, rfl, HS0⟩
        case round =>
          clear HS0
          obtain ⟨k, hk, rfl, HS⟩ := hrel
          by_cases hlt : k < N
          · have hl1 : (k : Int) < (N : Int) := by omega
            have hl0 : (0 : Int) ≤ (k : Int) := by omega
            have hkl : k < ks.length := by rw [HN.out]; exact hlt
            obtain ⟨ab, aoff, hao, habl, harow⟩ := HK.out.row (by omega)
            subst hao
            have hBw : Below w.heap.size w wr := HB2.out.trans (HS.out.bel.mono HB2.out.size)
            have ca : wr.cell? ⟨ab, aoff + k, none⟩ = some (.bool (ks.getD k false)) := (World.cell?_of_block (a := ⟨ab, aoff + k, none⟩) (hBw.block ab habl)).trans (harow k hkl)
            have hdr : ks.drop k = ks.getD k false :: ks.drop (k + 1) := by
              rw [List.drop_eq_getElem_cons hkl]
              simp [List.getD, hkl]
            have hD := HS.out
            rw [hdr] at hD
            obtain ⟨X, hX⟩ : ∃ X, nestT (ks.drop (k + 1)) = X := ⟨_, rfl⟩
            have HX := Hid.mk hX
            clear harow habl hkl hdr HS
            cases hb : ks.getD k false with
            | true =>
              rw [hb] at ca hD
              have eT : nestT (true :: ks.drop (k + 1)) = .mk 5 .empty .empty [X] [] := by rw [← hX]; rfl
              rw [eT] at hD
              obtain ⟨⟨yo, yc, yk, ykc, h, hbx, hI⟩, hbel⟩ := hD
              have hbx' : wr.heap[w2.heap.size]? = some (.cells #[.int .i64 5, .string ⟨#[]⟩, .string ⟨#[]⟩, .slice yo 1 yc, .slice yk 0 ykc] 27 (0, 0)) := hbx
              obtain ⟨zo, zc, zk, zkc, hsh, _, _, _, _, hle, _, _, _, hit⟩ := hI
              simp only [Value.agg.injEq, Array.mk.injEq, List.cons.injEq, and_true, Value.slice.injEq] at hsh
              obtain ⟨_, _, _, ⟨rfl, _, rfl⟩, _⟩ := hsh
              obtain ⟨ib, ioff, hio, hibl, hirow⟩ := hit (by show 0 < 1; omega)
              subst hio
              obtain ⟨v0, v1, v2, v3, v4, ⟨c0, c1, c2, c3, c4⟩, hIx⟩ := hirow 0 (by show 0 < 1; omega)
              have hIx' : InH w2 h X (.agg #[v0, v1, v2, v3, v4]) := hIx
              have hcl : (1 : Nat) ≤ yc := hle
              have hsx := hIx'
              cases h with
              | zero => exact absurd hIx' (by intro h; exact h)
              | succ h =>
                obtain ⟨po, pc, pk, pkc, ep, _⟩ := hIx'
                simp only [Value.agg.injEq, Array.mk.injEq, List.cons.injEq, and_true] at ep
                obtain ⟨rfl, rfl, rfl, rfl, rfl⟩ := ep
                rw [Nat.zero_mul, Nat.add_zero] at c0 c1 c2 c3 c4
                have kc : ∀ {o : Nat} {v : Value}, w2.cell? ⟨ib, o, none⟩ = some v → wr.cell? ⟨ib, o, none⟩ = some v := fun {o v} h => (World.cell?_of_block (a := ⟨ib, o, none⟩) (hbel.block ib hibl)).trans h
                obtain ⟨b0, b1, b2, b3, b4, _, _, _, _, _⟩ := vbox_cells hbx'
                have A0 := fun d os => cell_regrown b0 d os
                have A3 := fun d os => cell_regrown b3 d os
                have R1 := fun d os => cell_regrown ca d os
                have HH := Hid.mk (And.intro hbx' (And.intro hbel (And.intro hsx (And.intro hibl (And.intro (kc c0) (And.intro (kc c1) (And.intro (kc c2) (And.intro (kc c3) (kc c4)))))))))
                clear hbx hbx' hbel hirow hit hIx hsx hibl c0 c1 c2 c3 c4 kc ca hle
                go_wp2_with fail
                refine wp_region_quiet_below (by kernel_rfl) (by kernel_rfl) ?_
                repeat (go_big_quiet_step (fail))
                refine wpQuiet_nil ?_
                intro wr3 hw'
                obtain ⟨hbx3, hbel3, hsx3, hibl3, q0, q1, q2, q3, q4⟩ := HH.out
                have hb3 : Below wr.heap.size wr wr3 := by
                  obtain ⟨⟨dq, osq⟩, rfl⟩ := hw'
                  exact below_regrown wr dq osq
                have hsz3 : w2.heap.size < wr.heap.size := (Array.getElem?_eq_some_iff.1 hbx3).1
                have hibw : ib < wr.heap.size := by have := hbel3.size; omega
                have hbx4 := (hb3.block _ hsz3).trans hbx3
                obtain ⟨d0, d1, d2, d3, d4, f0, f1, f2, f3, f4⟩ := vbox_cells hbx4
                have e0 := (hb3.cell (p := ⟨ib, ioff, none⟩) hibw).trans q0
                have e1 := (hb3.cell (p := ⟨ib, ioff + 1, none⟩) hibw).trans q1
                have e2 := (hb3.cell (p := ⟨ib, ioff + 2, none⟩) hibw).trans q2
                have e3 := (hb3.cell (p := ⟨ib, ioff + 3, none⟩) hibw).trans q3
                have e4 := (hb3.cell (p := ⟨ib, ioff + 4, none⟩) hibw).trans q4
                have HH3 := Hid.mk (And.intro hbx4 (And.intro (hbel3.trans (hb3.mono (by omega))) hsx3))
                clear hw' hbx3 hbel3 hsx3 hb3 hbx4 q0 q1 q2 q3 q4 A0 A3 R1 b0 b1 b2 b3 b4 HH
                go_wp2_with fail
                go_roundw
                case rel =>
                  refine ⟨k + 1, hlt, by go_num, ?_⟩
                  rw [HX.out]
                  obtain ⟨e5, k5, s5⟩ := rbox_set5 wr3 _ _ _ _ _ _ _ _ _ _ _ _ HH3.out.1 _ rfl
                  exact ⟨⟨po, pc, pk, pkc, h, e5, HH3.out.2.2⟩, ((((HH3.out.2.1.setCell (p := ⟨w2.heap.size, 0, none⟩) (Nat.le_refl _) _).setCell (p := ⟨w2.heap.size, 1, none⟩) (Nat.le_refl _) _).setCell (p := ⟨w2.heap.size, 2, none⟩) (Nat.le_refl _) _).setCell (p := ⟨w2.heap.size, 3, none⟩) (Nat.le_refl _) _).setCell (p := ⟨w2.heap.size, 4, none⟩) (Nat.le_refl _) _⟩
                case measure => simp [intOf]; omega
            | false =>
              rw [hb] at ca hD
              have eT : nestT (false :: ks.drop (k + 1)) = .mk 6 .empty .empty [X] [bT []] := by rw [← hX]; rfl
              rw [eT] at hD
              obtain ⟨⟨yo, yc, yk, ykc, h, hbx, hI⟩, hbel⟩ := hD
              have hbx' : wr.heap[w2.heap.size]? = some (.cells #[.int .i64 6, .string ⟨#[]⟩, .string ⟨#[]⟩, .slice yo 1 yc, .slice yk 1 ykc] 27 (0, 0)) := hbx
              obtain ⟨zo, zc, zk, zkc, hsh, _, _, _, _, hle, _, _, _, hit⟩ := hI
              simp only [Value.agg.injEq, Array.mk.injEq, List.cons.injEq, and_true, Value.slice.injEq] at hsh
              obtain ⟨_, _, _, ⟨rfl, _, rfl⟩, _⟩ := hsh
              obtain ⟨ib, ioff, hio, hibl, hirow⟩ := hit (by show 0 < 1; omega)
              subst hio
              obtain ⟨v0, v1, v2, v3, v4, ⟨c0, c1, c2, c3, c4⟩, hIx⟩ := hirow 0 (by show 0 < 1; omega)
              have hIx' : InH w2 h X (.agg #[v0, v1, v2, v3, v4]) := hIx
              have hcl : (1 : Nat) ≤ yc := hle
              have hsx := hIx'
              cases h with
              | zero => exact absurd hIx' (by intro h; exact h)
              | succ h =>
                obtain ⟨po, pc, pk, pkc, ep, _⟩ := hIx'
                simp only [Value.agg.injEq, Array.mk.injEq, List.cons.injEq, and_true] at ep
                obtain ⟨rfl, rfl, rfl, rfl, rfl⟩ := ep
                rw [Nat.zero_mul, Nat.add_zero] at c0 c1 c2 c3 c4
                have kc : ∀ {o : Nat} {v : Value}, w2.cell? ⟨ib, o, none⟩ = some v → wr.cell? ⟨ib, o, none⟩ = some v := fun {o v} h => (World.cell?_of_block (a := ⟨ib, o, none⟩) (hbel.block ib hibl)).trans h
                obtain ⟨b0, b1, b2, b3, b4, _, _, _, _, _⟩ := vbox_cells hbx'
                have A0 := fun d os => cell_regrown b0 d os
                have A3 := fun d os => cell_regrown b3 d os
                have R1 := fun d os => cell_regrown ca d os
                have HH := Hid.mk (And.intro hbx' (And.intro hbel (And.intro hsx (And.intro hibl (And.intro (kc c0) (And.intro (kc c1) (And.intro (kc c2) (And.intro (kc c3) (kc c4)))))))))
                clear hbx hbx' hbel hirow hit hIx hsx hibl c0 c1 c2 c3 c4 kc ca hle
                go_wp2_with fail
                refine wp_region_quiet_below (by kernel_rfl) (by kernel_rfl) ?_
                repeat (go_big_quiet_step (fail))
                refine wpQuiet_nil ?_
                intro wr3 hw'
                obtain ⟨hbx3, hbel3, hsx3, hibl3, q0, q1, q2, q3, q4⟩ := HH.out
                have hb3 : Below wr.heap.size wr wr3 := by
                  obtain ⟨⟨dq, osq⟩, rfl⟩ := hw'
                  exact below_regrown wr dq osq
                have hsz3 : w2.heap.size < wr.heap.size := (Array.getElem?_eq_some_iff.1 hbx3).1
                have hibw : ib < wr.heap.size := by have := hbel3.size; omega
                have hbx4 := (hb3.block _ hsz3).trans hbx3
                obtain ⟨d0, d1, d2, d3, d4, f0, f1, f2, f3, f4⟩ := vbox_cells hbx4
                have e0 := (hb3.cell (p := ⟨ib, ioff, none⟩) hibw).trans q0
                have e1 := (hb3.cell (p := ⟨ib, ioff + 1, none⟩) hibw).trans q1
                have e2 := (hb3.cell (p := ⟨ib, ioff + 2, none⟩) hibw).trans q2
                have e3 := (hb3.cell (p := ⟨ib, ioff + 3, none⟩) hibw).trans q3
                have e4 := (hb3.cell (p := ⟨ib, ioff + 4, none⟩) hibw).trans q4
                have HH3 := Hid.mk (And.intro hbx4 (And.intro (hbel3.trans (hb3.mono (by omega))) hsx3))
                clear hw' hbx3 hbel3 hsx3 hb3 hbx4 q0 q1 q2 q3 q4 A0 A3 R1 b0 b1 b2 b3 b4 HH
                go_wp2_with fail
                go_roundw
                case rel =>
                  refine ⟨k + 1, hlt, by go_num, ?_⟩
                  rw [HX.out]
                  obtain ⟨e5, k5, s5⟩ := rbox_set5 wr3 _ _ _ _ _ _ _ _ _ _ _ _ HH3.out.1 _ rfl
                  exact ⟨⟨po, pc, pk, pkc, h, e5, HH3.out.2.2⟩, ((((HH3.out.2.1.setCell (p := ⟨w2.heap.size, 0, none⟩) (Nat.le_refl _) _).setCell (p := ⟨w2.heap.size, 1, none⟩) (Nat.le_refl _) _).setCell (p := ⟨w2.heap.size, 2, none⟩) (Nat.le_refl _) _).setCell (p := ⟨w2.heap.size, 3, none⟩) (Nat.le_refl _) _).setCell (p := ⟨w2.heap.size, 4, none⟩) (Nat.le_refl _) _⟩
                case measure => simp [intOf]; omega
          · have hl1 : ¬ (k : Int) < (N : Int) := by omega
            have hD := HS.out
            rw [List.drop_of_length_le (by rw [HN.out]; omega)] at hD
            obtain ⟨⟨yo, yc, yk, ykc, h, hbx, _⟩, hbel⟩ := hD
            have hbx' : wr.heap[w2.heap.size]? = some (.cells #[.int .i64 3, .string ⟨#[48]⟩, .string ⟨#[]⟩, .slice yo 0 yc, .slice yk 0 ykc] 27 (0, 0)) := hbx
            obtain ⟨b0, b1, b2, b3, b4, _, _, _, _, _⟩ := vbox_cells hbx'
            have HBz : Hid (Below w.heap.size w wr) := HB2.out.trans (hbel.mono HB2.out.size)
            clear hbx hbx' hbel
            go_wp2_with fail
            refine bodyPost_ret (v := .bool true) (by simp [results, Tryz.results3, go_sem]) rfl ?_
            exact ⟨HBz.out, rfl⟩
      · have hq := HDp.out.2 (by rw [HN.out]; omega)
        rw [hq] at hm
        have hm' : e = .returned (.tuple #[v0V, .int .i64 52, .int .i64 ((opn (ks.take 64)).length : Int)]) := hm
        subst hm'
        have hz : z = ((opn (ks.take 64)).length : Int) := by rw [HP.out]; unfold plc; rw [if_neg h64]
        subst hz
        generalize (opn (ks.take 64)).length = P
        have g0 : (0 : Int) ≤ (P : Int) := by omega
        have g1 : ((P : Int) == (P : Int)) = true := by simp
        clear hm hq HDp h64 HP
        unfold v0V
        go_wp2_with fail
        refine bodyPost_ret (v := .bool true) (by simp [results, Tryz.results3, go_sem]) rfl ?_
        exact ⟨HB2.out.alloc HB2.out.size _, rfl⟩
end Go.Proofs.YtcbngdkekdhfeaaGreatDoor
