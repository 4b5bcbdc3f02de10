import Derived.Test.YtcbngdkekdhfeaaGreatDoorM34
import Derived.Lib.QuietBelow
import Derived.BigQuiet
import Derived.Test.YtcbngdkekdhfeaaGreatDoorM37
import Derived.Test.YtcbngdkekdhfeaaGreatDoorM35
import Derived.Test.YtcbngdkekdhfeaaGreatDoorM36
namespace Go.Proofs.YtcbngdkekdhfeaaGreatDoor
open Go.RowKit Go.Shelf Go.Sort
set_option linter.unusedVariables false
set_option linter.unusedSimpArgs false
attribute [local go_sem] Oper.semAt_some

theorem inH_shape {W : World} {h : Nat} {T : VT} {v : Value} (hI : InH W h T v) : ∃ (k : Int) (n t : ByteArray) (io : Option Addr) (a ic : Nat) (ko : Option Addr) (b kc : Nat), v = .agg #[.int .i64 k, .string n, .string t, .slice io a ic, .slice ko b kc] := by
  cases h with
  | zero => exact absurd hI (by intro h; exact h)
  | succ h =>
    obtain ⟨io, ic, ko, kc, e, _⟩ := hI
    exact ⟨_, _, _, _, _, _, _, _, _, e⟩

set_option maxRecDepth 100000 in
set_option maxHeartbeats 6400000 in
theorem w_5Same : ∀ (h : Nat) (T : VT) (va vb : Value) (w : World), InH w h T va → InH w h T vb → Calls Tryz.prog 12 #[va, vb] w fun e w' => e = .returned (.bool true) ∧ Below w.heap.size w w'
  | 0, _, _, _, _, ha, _ => absurd ha (by intro h; exact h)
  | h + 1, T, va, vb, w, ha, hb => by
    have IH := Hid.mk (fun (T : VT) (va vb : Value) (u : World) (h1 : InH u h T va) (h2 : InH u h T vb) => w_5Same h T va vb u h1 h2)
    obtain ⟨aio, aic, ako, akc, rfl, _, _, l1, l2, l3, l4, _, aK, aI⟩ := ha
    obtain ⟨bio, bic, bko, bkc, rfl, _, _, _, _, m3, m4, _, bK, bI⟩ := hb
    have HAK := Hid.mk (And.intro aK bK)
    have HAI := Hid.mk (And.intro aI bI)
    obtain ⟨K, hK⟩ : ∃ K, T.keys.length = K := ⟨_, rfl⟩
    obtain ⟨N, hN⟩ : ∃ N, T.items.length = N := ⟨_, rfl⟩
    rw [hK] at l2 l4 m4 ⊢
    rw [hN] at l1 l3 m3 ⊢
    have HKN := Hid.mk (And.intro hK hN)
    clear aK bK aI bI hK hN
    generalize T.kind = tk
    generalize T.num = tn
    generalize T.text = tt
    have g1 : (tk != tk) = false := by simp
    have g2 : (tn.toList != tn.toList) = false := by simp
    have g3 : (tt.toList != tt.toList) = false := by simp
    have g4 : ((N : Int) != (N : Int)) = false := by simp
    have g5 : ((K : Int) != (K : Int)) = false := by simp
    obtain ⟨W0, hW0⟩ : ∃ W0, (w.alloc (.cells #[.int .i64 tk, .string tn, .string tt, .slice aio N aic, .slice ako K akc] 27)).alloc (.cells #[.int .i64 tk, .string tn, .string tt, .slice bio N bic, .slice bko K bkc] 27) = W0 := ⟨_, rfl⟩
    have hs0 : W0.heap.size = w.heap.size + 1 + 1 := by rw [← hW0]; simp
    have hbw : Below w.heap.size w W0 := by rw [← hW0]; exact (below1 w _).alloc (by simp) _
    have hA0 : W0.heap[w.heap.size]? = some (.cells #[.int .i64 tk, .string tn, .string tt, .slice aio N aic, .slice ako K akc] 27 (0, 0)) := by rw [← hW0, Below.heap_alloc _ _ _ (by simp), heap_alloc_new]
    have hB0 : W0.heap[w.heap.size + 1]? = some (.cells #[.int .i64 tk, .string tn, .string tt, .slice bio N bic, .slice bko K bkc] 27 (0, 0)) := by
      have := heap_alloc_new (w.alloc (.cells #[.int .i64 tk, .string tn, .string tt, .slice aio N aic, .slice ako K akc] 27)) (.cells #[.int .i64 tk, .string tn, .string tt, .slice bio N bic, .slice bko K bkc] 27)
      rw [World.size_alloc, hW0] at this
      exact this
    obtain ⟨x0, x1, x2, x3, x4, _, _, _, _, _⟩ := vbox_cells hA0
    obtain ⟨y0, y1, y2, y3, y4, _, _, _, _, _⟩ := vbox_cells hB0
    have hwl : w.heap.size < W0.heap.size := by omega
    have hwl1 : w.heap.size + 1 < W0.heap.size := by omega
    have HW := Hid.mk (And.intro hs0 (And.intro hbw (And.intro hA0 hB0)))
    clear hs0 hbw hA0 hB0
    go_enter Tryz.func12, Tryz.ntmps12
    go_wp2_with fail
    go_loopw [5] (fun i wr => ∃ k : Nat, k ≤ K ∧ i = .int .i64 (k : Int) ∧ Hid (Below W0.heap.size W0 wr)) (fun i _ => K - (intOf i).toNat)
    case atStart => exact ⟨0, Nat.zero_le _, rfl, Below.refl _ _⟩
    case round =>
      obtain ⟨k, hk, rfl, HB⟩ := hrel
      obtain ⟨hs0, hbw, hA0, hB0⟩ := HW.out
      have hBW : Below w.heap.size w wr := hbw.trans (HB.out.mono (by omega))
      obtain ⟨a0, a1, a2, a3, a4, _, _, _, _, _⟩ := vbox_cells ((HB.out.block _ (by omega)).trans hA0)
      obtain ⟨b0, b1, b2, b3, b4, _, _, _, _, _⟩ := vbox_cells ((HB.out.block _ (by omega)).trans hB0)
      have HBW := Hid.mk hBW
      clear x0 x1 x2 x3 x4 y0 y1 y2 y3 y4 hA0 hB0 hbw hBW
      by_cases hlt : k < K
      · have hl1 : (k : Int) < (K : Int) := by omega
        have hl0 : (0 : Int) ≤ (k : Int) := by omega
        have hkl : k < T.keys.length := by rw [HKN.out.1]; exact hlt
        obtain ⟨ab, aoff, hao, habl, harow⟩ := (HAK.out.1.keep HBW.out).row (by omega)
        obtain ⟨bb, boff, hbo, hbbl, hbrow⟩ := (HAK.out.2.keep HBW.out).row (by omega)
        subst hao hbo
        have ca := harow k hkl
        have cb := hbrow k hkl
        generalize T.keys.getD k ByteArray.empty = y at ca cb
        have gy : (y.toList != y.toList) = false := by simp
        have R1 := fun d os => cell_regrown ca d os
        have R2 := fun d os => cell_regrown cb d os
        have A4 := fun d os => cell_regrown a4 d os
        have B4 := fun d os => cell_regrown b4 d os
        clear harow hbrow habl hbbl hkl ca cb
        go_wp2_with fail
        refine wp_region_quiet_below (by kernel_rfl) (by kernel_rfl) ?_
        repeat (go_big_quiet_step (fail))
        refine wpQuiet_nil ?_
        intro w2 hw'
        have HB2 : Hid (Below W0.heap.size W0 w2) := by
          obtain ⟨⟨dq, osq⟩, rfl⟩ := hw'
          exact HB.out.trans ((below_regrown wr dq osq).mono HB.out.size)
        clear hw' R1 R2 A4 B4
        go_wp2_with fail
        go_roundw
        case rel => exact ⟨k + 1, hlt, by go_num, HB2⟩
        case measure => simp [intOf]; omega
      · have hl1 : ¬ (k : Int) < (K : Int) := by omega
        go_wp2_with fail
        go_loopw [6] (fun i wr => ∃ k : Nat, k ≤ N ∧ i = .int .i64 (k : Int) ∧ Hid (Below W0.heap.size W0 wr)) (fun i _ => N - (intOf i).toNat)
        case atStart => exact ⟨0, Nat.zero_le _, rfl, HB⟩
        case round =>
          clear HB a0 a1 a2 a3 a4 b0 b1 b2 b3 b4 HBW hk hlt hl1
          obtain ⟨k, hk, rfl, HB⟩ := hrel
          obtain ⟨hs0, hbw, hA0, hB0⟩ := HW.out
          have hBW : Below w.heap.size w wr := hbw.trans (HB.out.mono (by omega))
          obtain ⟨a0, a1, a2, a3, a4, _, _, _, _, _⟩ := vbox_cells ((HB.out.block _ (by omega)).trans hA0)
          obtain ⟨b0, b1, b2, b3, b4, _, _, _, _, _⟩ := vbox_cells ((HB.out.block _ (by omega)).trans hB0)
          have HBW := Hid.mk hBW
          clear hA0 hB0 hbw hBW
          by_cases hlt : k < N
          · have hl1 : (k : Int) < (N : Int) := by omega
            have hl0 : (0 : Int) ≤ (k : Int) := by omega
            have hkl : k < T.items.length := by rw [HKN.out.2]; exact hlt
            obtain ⟨ab, aoff, hao, habl, harow⟩ := HAI.out.1 (by omega)
            obtain ⟨bb, boff, hbo, hbbl, hbrow⟩ := HAI.out.2 (by omega)
            subst hao hbo
            obtain ⟨p0, p1, p2, p3, p4, ⟨c0, c1, c2, c3, c4⟩, hp⟩ := harow k hkl
            obtain ⟨q0, q1, q2, q3, q4, ⟨d0, d1, d2, d3, d4⟩, hq⟩ := hbrow k hkl
            have kc : ∀ {b o : Nat} {v : Value}, b < w.heap.size → w.cell? ⟨b, o, none⟩ = some v → wr.cell? ⟨b, o, none⟩ = some v := fun {b o v} hb h => (World.cell?_of_block (a := ⟨b, o, none⟩) (HBW.out.block b hb)).trans h
            have HC := Hid.mk (fun (d : Nat) (os : Array Obj) => IH.out T.items[k] _ _ (grow (redrawn wr d) os) ((hp.keep HBW.out).keep (below_regrown wr d os)) ((hq.keep HBW.out).keep (below_regrown wr d os)))
            obtain ⟨_, _, _, _, _, _, _, _, _, ep⟩ := inH_shape hp
            obtain ⟨_, _, _, _, _, _, _, _, _, eq⟩ := inH_shape hq
            simp only [Value.agg.injEq, Array.mk.injEq, List.cons.injEq, and_true] at ep eq
            obtain ⟨rfl, rfl, rfl, rfl, rfl⟩ := ep
            obtain ⟨rfl, rfl, rfl, rfl, rfl⟩ := eq
            have R0 := fun d os => cell_regrown (kc habl c0) d os
            have R1 := fun d os => cell_regrown (kc habl c1) d os
            have R2 := fun d os => cell_regrown (kc habl c2) d os
            have R3 := fun d os => cell_regrown (kc habl c3) d os
            have R4 := fun d os => cell_regrown (kc habl c4) d os
            have S0 := fun d os => cell_regrown (kc hbbl d0) d os
            have S1 := fun d os => cell_regrown (kc hbbl d1) d os
            have S2 := fun d os => cell_regrown (kc hbbl d2) d os
            have S3 := fun d os => cell_regrown (kc hbbl d3) d os
            have S4 := fun d os => cell_regrown (kc hbbl d4) d os
            have A3 := fun d os => cell_regrown a3 d os
            have B3 := fun d os => cell_regrown b3 d os
            clear harow hbrow habl hbbl hkl c0 c1 c2 c3 c4 d0 d1 d2 d3 d4 hp hq kc
            go_wp2_with fail
            refine wp_region_quiet_below (by kernel_rfl) (by kernel_rfl) ?_
            repeat (go_big_quiet_step (exact Calls.regrown_of (HC.out _ _)))
            refine wpQuiet_nil ?_
            intro w2 hw'
            have HB2 : Hid (Below W0.heap.size W0 w2) := by
              obtain ⟨⟨dq, osq⟩, rfl⟩ := hw'
              exact HB.out.trans ((below_regrown wr dq osq).mono HB.out.size)
            clear hw' R0 R1 R2 R3 R4 S0 S1 S2 S3 S4 A3 B3 HC
            go_wp2_with fail
            go_roundw
            case rel => exact ⟨k + 1, hlt, by go_num, HB2⟩
            case measure => simp [intOf]; omega
          · have hl1 : ¬ (k : Int) < (N : Int) := by omega
            go_wp2_with fail
            go_ret
            exact ⟨rfl, HBW.out⟩
end Go.Proofs.YtcbngdkekdhfeaaGreatDoor
namespace Go.Proofs.YtcbngdkekdhfeaaGreatDoor
open Go.RowKit Go.Shelf
set_option linter.unusedVariables false
set_option linter.unusedSimpArgs false
attribute [local go_sem] Oper.semAt_some

theorem rd_vL_up {s : ByteArray} (ss : s.size ≤ 16777216) (T : VT) (q : Nat) (h : rdL s.data.toList (vL s) 0 = .ok T q) : q ≤ s.size := by
  unfold rdL at h
  split at h
  · cases h
  · next t p1 hm =>
    have h1 := (mustL_up (l := s.data.toList) (Nat.zero_le _) hm).2
    exact (vL_up ss _ _ _ _ h1 h).2

set_option maxRecDepth 100000 in
set_option maxHeartbeats 3200000 in
theorem w_one5 (s : ByteArray) (ss : s.size ≤ 1048576) (HR : RdC s 64 0 (vL s)) (w : World) (hE : ErrIn w) : Calls Tryz.prog 13 #[.string s] w fun e w' => Below w.heap.size w w' ∧ e = .returned (.bool true) := by
  have H1 := Hid.mk (w_One5 s (by omega) w hE)
  have H2 := Hid.mk (fun u => w_5One s ss 64 (vL s) HR (rd_vL_up (by omega)) u)
  have HS := Hid.mk (fun (T : VT) (va vb : Value) (u : World) (h1 : InH u 65 T va) (h2 : InH u 65 T vb) => w_5Same 65 T va vb u h1 h2)
  obtain ⟨R, hR⟩ : ∃ R, onlL s.data.toList (vL s) 0 = R := ⟨_, rfl⟩
  rw [hR] at H1 H2
  clear hR HR hE
  go_enter Tryz.func13, Tryz.ntmps13
  go_wp2_with fail
  refine H1.out.mono ?_
  rintro e w1 ⟨hb1, hm⟩
  cases R with
  | ok T q =>
    obtain ⟨v, rfl, hF⟩ := hm
    have HF := Hid.mk hF
    obtain ⟨jo, jc, ko, kc, rfl, hrest⟩ := id hF
    clear hrest hF
    have HB1 := Hid.mk hb1
    clear hb1
    go_wp2_with fail
    refine (H2.out _).mono ?_
    rintro e w2 ⟨hb2, v, rfl, hF2⟩
    have HF2 := Hid.mk hF2
    obtain ⟨jo2, jc2, ko2, kc2, rfl, hrest⟩ := id hF2
    have hz2 := hb2.size
    rw [World.size_alloc] at hz2
    have hax := (hb2.block w1.heap.size (by simp)).trans (heap_alloc_new w1 _)
    obtain ⟨c0, c1, c2, c3, c4, _, _, _, _, _⟩ := vbox_cells hax
    have HB2 := Hid.mk hb2
    have hw12 : w1.heap.size < w2.heap.size := by omega
    clear hrest hF2 hax hb2
    go_wp2_with fail
    refine (HS.out T _ _ _ ?_ ?_).mono ?_
    · exact ((HF.out.toH.keep (below1 w1 _)).keep HB2.out).keep (below1 w2 _)
    · exact HF2.out.toH.keep (below1 w2 _)
    · rintro e w3 ⟨rfl, hb3⟩
      have HB3 : Hid (Below w.heap.size w w3) := by
        have h1 := HB1.out.alloc HB1.out.size (.cells #[.int .i64 T.kind, .string T.num, .string T.text, .slice jo T.items.length jc, .slice ko T.keys.length kc] 27)
        have h2 := h1.trans (HB2.out.mono h1.size)
        have h3 := h2.alloc h2.size (.cells #[.int .i64 T.kind, .string T.num, .string T.text, .slice jo2 T.items.length jc2, .slice ko2 T.keys.length kc2] 27)
        exact h3.trans (hb3.mono h3.size)
      clear hb3
      go_wp2_with fail
      refine bodyPost_ret (v := .bool true) (by simp [results, Tryz.results13, go_sem]) rfl ?_
      exact ⟨HB3.out, rfl⟩
  | bad er q =>
    have hm' : e = .returned (.tuple #[v0V, .int .i64 (er : Int), .int .i64 (q : Int)]) := hm
    subst hm'
    have HB1 := Hid.mk hb1
    have g1 : (((er : Nat) : Int) == (er : Int)) = true := by simp
    have g2 : (((q : Nat) : Int) == (q : Int)) = true := by simp
    clear hb1
    unfold v0V
    go_wp2_with fail
    refine (H2.out _).mono ?_
    rintro e w2 ⟨hb2, hm2⟩
    have hm2' : e = .returned (.tuple #[v0V, .int .i64 (er : Int), .int .i64 (q : Int)]) := hm2
    subst hm2'
    have hz2 := hb2.size
    rw [World.size_alloc] at hz2
    have hax := (hb2.block w1.heap.size (by simp)).trans (heap_alloc_new w1 _)
    obtain ⟨c0, c1, c2, c3, c4, _, _, _, _, _⟩ := vbox_cells hax
    have HB2 := Hid.mk hb2
    have hw12 : w1.heap.size < w2.heap.size := by omega
    clear hax hb2
    unfold v0V
    go_wp2_with fail
    refine (HS.out (.mk 0 .empty .empty [] []) _ _ _ ?_ ?_).mono ?_
    · exact (inF_leaf 0 _ 64 0 .empty .empty (by decide) (by decide)).toH
    · exact (inF_leaf 0 _ 64 0 .empty .empty (by decide) (by decide)).toH
    · rintro e w3 ⟨rfl, hb3⟩
      have HB3 : Hid (Below w.heap.size w w3) := by
        have h1 := HB1.out.alloc HB1.out.size (.cells #[.int .i64 0, .string ⟨#[]⟩, .string ⟨#[]⟩, .slice none 0 0, .slice none 0 0] 27)
        have h2 := h1.trans (HB2.out.mono h1.size)
        have h3 := h2.alloc h2.size (.cells #[.int .i64 0, .string ⟨#[]⟩, .string ⟨#[]⟩, .slice none 0 0, .slice none 0 0] 27)
        exact h3.trans (hb3.mono h3.size)
      clear hb3
      go_wp2_with fail
      refine bodyPost_ret (v := .bool true) (by simp [results, Tryz.results13, go_sem]) rfl ?_
      exact ⟨HB3.out, rfl⟩
end Go.Proofs.YtcbngdkekdhfeaaGreatDoor
namespace Go.Proofs.YtcbngdkekdhfeaaGreatDoor
open Go.RowKit Go.Shelf
set_option linter.unusedVariables false
set_option linter.unusedSimpArgs false

def RoC (s : ByteArray) : Prop := ∀ (h d : Nat) (vl : Tok → Nat → Rd VT), RdC s h d vl → ValUp s vl → ∀ (z : Nat) (u : World), z ≤ s.size → Calls Tryz.prog 49 #[.string s, .int .i64 (z : Int), .int .i64 (d : Int)] u fun e w' => An5 (h + 1) u (obL s.data.toList vl z) e w'
theorem rdC_all {s : ByteArray} (ss : s.size ≤ 1048576) (HO : RoC s) : ∀ (f d : Nat), f + d = 64 → RdC s f d (valL s.data.toList (obL s.data.toList) f (d + 1)) := by
  intro f
  induction f with
  | zero =>
    intro d hd
    exact w_5Read s ss 0 d (fun _ => .bad 0 0) (fun _ => .bad 0 0) (fun h => absurd h (by omega)) (fun h => absurd h (by omega))
  | succ f ih =>
    intro d hd
    have hr := ih (d + 1) (by omega)
    have hu := valL_up (objOk (s := s) (by omega) (3 + 1) (by omega)) f (d + 1 + 1)
    have e : ((d : Int) + 1) = ((d + 1 : Nat) : Int) := by omega
    exact w_5Read s ss (f + 1) d (arrL s.data.toList (valL s.data.toList (obL s.data.toList) f (d + 1 + 1))) (obL s.data.toList (valL s.data.toList (obL s.data.toList) f (d + 1 + 1))) (fun _ z u hz => by
      rw [e]
      exact w_5readArray s ss f (d + 1) z hz _ hr hu u) (fun _ z u hz => by
      rw [e]
      exact HO f (d + 1) _ hr hu z u hz)
theorem w_one5' {s : ByteArray} (ss : s.size ≤ 1048576) (HO : RoC s) (w : World) (hE : ErrIn w) : Calls Tryz.prog 13 #[.string s] w fun e w' => Below w.heap.size w w' ∧ e = .returned (.bool true) := w_one5 s ss (rdC_all ss HO 64 0 rfl) w hE
end Go.Proofs.YtcbngdkekdhfeaaGreatDoor
namespace Go.Proofs.YtcbngdkekdhfeaaGreatDoor
open Go.RowKit Go.Shelf
set_option linter.unusedVariables false
set_option linter.unusedSimpArgs false
attribute [local go_sem] Oper.semAt_some

theorem roC5 {s : ByteArray} (ss : s.size ≤ 1048576) : RoC s := fun h d vl HR HU z u hz => w_5readObject s ss h d z hz vl HR HU u
theorem rdC5 {s : ByteArray} (ss : s.size ≤ 1048576) : RdC s 64 0 (vL s) := rdC_all ss (roC5 ss) 64 0 rfl
end Go.Proofs.YtcbngdkekdhfeaaGreatDoor
