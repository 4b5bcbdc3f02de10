import Derived.Test.YtcbngdkekdhfeaaGreatDoorZRR18
import Derived.Lib.QuietBelow
import Derived.BigQuiet
namespace Go.Proofs.YtcbngdkekdhfeaaGreatDoor
open Go.RowKit Go.Shelf Go.Sort
set_option linter.unusedVariables false
set_option linter.unusedSimpArgs false
attribute [local go_sem] Oper.semAt_some

structure VRw (w : World) (h : Nat) (xs : List VT) (io : Option Addr) : Prop where
  row : 0 < xs.length → ∃ b off, io = some ⟨b, off, none⟩ ∧ b < w.heap.size ∧ ∀ i, (hi : i < xs.length) → ∃ v0 v1 v2 v3 v4 : Value, (w.cell? ⟨b, off + i * 5, none⟩ = some v0 ∧ w.cell? ⟨b, off + i * 5 + 1, none⟩ = some v1 ∧ w.cell? ⟨b, off + i * 5 + 2, none⟩ = some v2 ∧ w.cell? ⟨b, off + i * 5 + 3, none⟩ = some v3 ∧ w.cell? ⟨b, off + i * 5 + 4, none⟩ = some v4) ∧ InH w h xs[i] (.agg #[v0, v1, v2, v3, v4])
theorem VRw.keep {w w' : World} {h : Nat} {xs : List VT} {io : Option Addr} (hr : VRw w h xs io) (hb : Below w.heap.size w w') : VRw w' h xs io := by
  refine ⟨fun h0 => ?_⟩
  obtain ⟨b, off, e, hl, hc⟩ := hr.row h0
  refine ⟨b, off, e, Nat.lt_of_lt_of_le hl hb.size, fun i hi => ?_⟩
  obtain ⟨v0, v1, v2, v3, v4, ⟨c0, c1, c2, c3, c4⟩, ht⟩ := hc i hi
  have cc : ∀ o u, w.cell? ⟨b, o, none⟩ = some u → w'.cell? ⟨b, o, none⟩ = some u := fun o u h3 => (hb.cell (p := ⟨b, o, none⟩) hl).trans h3
  exact ⟨v0, v1, v2, v3, v4, ⟨cc _ _ c0, cc _ _ c1, cc _ _ c2, cc _ _ c3, cc _ _ c4⟩, ht.keep hb⟩
theorem InD.toH {D : Nat → Prop} {W : World} : ∀ {h : Nat} {T : VT} {v : Value}, InD D W h T v → InH W h T v
  | 0, _, _, h => h
  | h + 1, T, v, hI => by
    obtain ⟨io, icap, ko, kcap, e, a1, a2, a3, a4, a5, a6, a7, hk, hi⟩ := hI
    refine ⟨io, icap, ko, kcap, e, a1, a2, a3, a4, a5, a6, a7, ⟨fun h0 => ?_⟩, fun h0 => ?_⟩
    · obtain ⟨b, off, e2, _, hl, hc⟩ := hk h0
      exact ⟨b, off, e2, hl, hc⟩
    · obtain ⟨b, off, e2, _, hl, hc⟩ := hi h0
      refine ⟨b, off, e2, hl, fun i hil => ?_⟩
      obtain ⟨v0, v1, v2, v3, v4, c, ht⟩ := hc i hil
      exact ⟨v0, v1, v2, v3, v4, c, InD.toH ht⟩
theorem VRw.of {w : World} {lo h k cap : Nat} {io : Option Addr} {c : Nat → Fin 5 → Value} {xs : List VT} {D : Nat → Prop} (hlen : xs.length = k) (own : w.ownsRow lo 27 5 (.slice io k cap) k (flat c k)) (trees : ∀ i, (hi : i < xs.length) → InD D w h xs[i] (.agg #[c i 0, c i 1, c i 2, c i 3, c i 4])) : VRw w h xs io ∧ k ≤ cap := by
  rcases id own.2 with ⟨e, h0⟩ | ⟨g, cap', cur, e, e1, e2, e3, e4, _⟩
  · simp only [Value.slice.injEq] at e
    exact ⟨⟨fun h1 => by omega⟩, by omega⟩
  · simp only [Value.slice.injEq] at e
    obtain ⟨rfl, _, rfl⟩ := e
    refine ⟨⟨fun h1 => ⟨g, 0, rfl, (Array.getElem?_eq_some_iff.1 e2).1, fun i hi => ?_⟩⟩, by omega⟩
    have cc : ∀ j : Fin 5, w.cell? ⟨g, 0 + i * 5 + j.1, none⟩ = some (c i j) := fun j => by
      rw [Nat.zero_add, own_cellAt own (by have := j.2; omega)]
      exact flat_get _ _ i j (by omega)
    exact ⟨_, _, _, _, _, ⟨cc 0, cc 1, cc 2, cc 3, cc 4⟩, (trees i hi).toH⟩
theorem VRw.nil (w : World) (h : Nat) (io : Option Addr) : VRw w h [] io := ⟨fun h => absurd h (by show ¬ 0 < 0; omega)⟩

theorem eachL_len (s : ByteArray) (vl : Tok → Nat → Rd VT) (hv : ValUp s vl) : ∀ (f : Nat) (xs : List VT) (p : Nat), p ≤ s.size → xs.length ≤ p → (eachL s.data.toList vl f xs p).1.length ≤ s.size
  | 0, xs, p, h1, h2 => by show xs.length ≤ _; omega
  | f + 1, xs, p, h1, h2 => by
    unfold eachL
    cases hr : folL s.data.toList vl p with
    | bad e q => show xs.length ≤ _; omega
    | ok o q =>
      cases o with
      | none => show xs.length ≤ _; omega
      | some T =>
        obtain ⟨c1, c2⟩ := folL_up hv h1 hr
        exact eachL_len s vl hv f (xs ++ [T]) q c2 (by rw [List.length_append]; show xs.length + 1 ≤ q; omega)

set_option maxRecDepth 100000 in
set_option maxHeartbeats 6400000 in
theorem w_alike5 (h N : Nat) (xs : List VT) (aio bio : Option Addr) (aic bic : Nat) (w : World) (hN : xs.length = N) (ha : VRw w h xs aio) (hb : VRw w h xs bio) (l3 : N ≤ aic) (m3 : N ≤ bic) (l1 : N ≤ 140737488355328) : Calls Tryz.prog 18 #[.slice aio N aic, .slice bio N bic] w fun e w' => e = .returned (.bool true) ∧ Below w.heap.size w w' := by
  have IH := Hid.mk (fun (T : VT) (va vb : Value) (u : World) (h1 : InH u h T va) (h2 : InH u h T vb) => w_5Same h T va vb u h1 h2)
  have HAI := Hid.mk (And.intro ha hb)
  have HKN := Hid.mk hN
  have g4 : ((N : Int) != (N : Int)) = false := by simp
  clear ha hb hN
  go_enter Tryz.func18, Tryz.ntmps18
  go_wp2_with fail
  go_loopw [5] (fun i wr => ∃ k : Nat, k ≤ N ∧ i = .int .i64 (k : Int) ∧ Hid (Below w.heap.size w wr)) (fun i _ => N - (intOf i).toNat)
  case atStart => exact ⟨0, Nat.zero_le _, rfl, Below.refl _ _⟩
  case round =>
    obtain ⟨k, hk, rfl, HB⟩ := hrel
    by_cases hlt : k < N
    · have hl1 : (k : Int) < (N : Int) := by omega
      have hl0 : (0 : Int) ≤ (k : Int) := by omega
      have hkl : k < xs.length := by rw [HKN.out]; exact hlt
      obtain ⟨ab, aoff, hao, habl, harow⟩ := HAI.out.1.row (by omega)
      obtain ⟨bb, boff, hbo, hbbl, hbrow⟩ := HAI.out.2.row (by omega)
      subst hao hbo
      obtain ⟨p0, p1, p2, p3, p4, ⟨c0, c1, c2, c3, c4⟩, hp⟩ := harow k hkl
      obtain ⟨q0, q1, q2, q3, q4, ⟨d0, d1, d2, d3, d4⟩, hq⟩ := hbrow k hkl
      have kc : ∀ {b o : Nat} {v : Value}, b < w.heap.size → w.cell? ⟨b, o, none⟩ = some v → wr.cell? ⟨b, o, none⟩ = some v := fun {b o v} hb h => (World.cell?_of_block (a := ⟨b, o, none⟩) (HB.out.block b hb)).trans h
      have HC := Hid.mk (fun (d : Nat) (os : Array Obj) => IH.out xs[k] _ _ (grow (redrawn wr d) os) ((hp.keep HB.out).keep (below_regrown wr d os)) ((hq.keep HB.out).keep (below_regrown wr d os)))
      obtain ⟨_, _, _, _, _, _, _, _, _, ep⟩ := inH_shape hp
      obtain ⟨_, _, _, _, _, _, _, _, _, eq⟩ := inH_shape hq
      simp only [Value.agg.injEq, Array.mk.injEq, List.cons.injEq, and_true] at ep eq
      obtain ⟨rfl, rfl, rfl, rfl, rfl⟩ := ep
      obtain ⟨rfl, rfl, rfl, rfl, rfl⟩ := eq
      have R0 := fun d os => cell_regrown (kc habl c0) d os
      have S0 := fun d os => cell_regrown (kc hbbl d0) d os
      have R1 := fun d os => cell_regrown (kc habl c1) d os
      have S1 := fun d os => cell_regrown (kc hbbl d1) d os
      have R2 := fun d os => cell_regrown (kc habl c2) d os
      have S2 := fun d os => cell_regrown (kc hbbl d2) d os
      have R3 := fun d os => cell_regrown (kc habl c3) d os
      have S3 := fun d os => cell_regrown (kc hbbl d3) d os
      have R4 := fun d os => cell_regrown (kc habl c4) d os
      have S4 := fun d os => cell_regrown (kc hbbl d4) d os
      clear harow hbrow habl hbbl hkl c0 c1 c2 c3 c4 d0 d1 d2 d3 d4 hp hq kc
      go_wp2_with fail
      refine wp_region_quiet_below (by kernel_rfl) (by kernel_rfl) ?_
      repeat (go_big_quiet_step (exact Calls.regrown_of (HC.out _ _)))
      refine wpQuiet_nil ?_
      intro w2 hw'
      have HB2 : Hid (Below w.heap.size w w2) := by
        obtain ⟨⟨dq, osq⟩, rfl⟩ := hw'
        exact HB.out.trans ((below_regrown wr dq osq).mono HB.out.size)
      clear hw' R0 R1 R2 R3 R4 S0 S1 S2 S3 S4 HC
      go_wp2_with fail
      go_roundw
      case rel => exact ⟨k + 1, hlt, by go_num, HB2⟩
      case measure => simp [intOf]; omega
    · have hl1 : ¬ (k : Int) < (N : Int) := by omega
      go_wp2_with fail
      go_ret
      exact ⟨rfl, HB.out⟩

set_option maxRecDepth 100000 in
set_option maxHeartbeats 3200000 in
theorem w_many5 (s : ByteArray) (ss : s.size ≤ 1048576) (w : World) (hE : ErrIn w) : Calls Tryz.prog 14 #[.string s] w fun e w' => Below w.heap.size w w' ∧ e = .returned (.bool true) := by
  have H1 := Hid.mk (w_Many5 s (by omega) w hE)
  have H2 := Hid.mk (fun u => w_5Many s ss 64 (vL s) (rdC5 ss) (vL_up (by omega)) u)
  have hle := eachL_len s (vL s) (vL_up (by omega)) (s.size + 1) [] 0 (Nat.zero_le _) (Nat.zero_le _)
  obtain ⟨R, hR⟩ : ∃ R, eachL s.data.toList (vL s) (s.size + 1) [] 0 = R := ⟨_, rfl⟩
  rw [hR] at H1 H2 hle
  obtain ⟨xs, er, q⟩ := R
  dsimp only at hle
  have HLe := Hid.mk hle
  clear hR hE hle
  go_enter Tryz.func14, Tryz.ntmps14
  go_wp2_with fail
  refine H1.out.mono ?_
  rintro e w1 ⟨hb1, hm⟩
  have HB1 := Hid.mk hb1
  clear hb1
  rcases hm with ⟨h0, k, io, cap, c, rfl, hM⟩ | ⟨h0, rfl⟩
  · have hlen := hM.len
    obtain ⟨hV1, hc1⟩ := VRw.of hM.len hM.own hM.trees
    have HV1 := Hid.mk hV1
    have HK := Hid.mk hlen
    have hk : k ≤ 1048576 := by have := HLe.out; dsimp only at hlen; omega
    dsimp only at h0
    subst h0
    clear hM hV1 hlen
    go_wp2_with fail
    refine (H2.out _).mono ?_
    rintro e w2 ⟨hb2, k2, io2, cap2, c2, hM2, hway⟩
    rcases hway with ⟨_, rfl⟩ | ⟨h2, _⟩
    · have hkk : k2 = k := by have h1 := hM2.len; have h2 := HK.out; dsimp only at h1 h2; omega
      subst hkk
      obtain ⟨hV2, hc2⟩ := VRw.of hM2.len hM2.own hM2.trees
      have HV2 := Hid.mk hV2
      have HB2 := Hid.mk hb2
      clear hM2 hV2 hb2
      go_wp2_with fail
      refine (w_alike5 65 k2 xs io io2 cap cap2 w2 HK.out (HV1.out.keep HB2.out) HV2.out hc1 hc2 (by omega)).mono ?_
      rintro e w3 ⟨rfl, hb3⟩
      have HB3 : Hid (Below w.heap.size w w3) := (HB1.out.trans (HB2.out.mono HB1.out.size)).trans (hb3.mono (Nat.le_trans HB1.out.size HB2.out.size))
      clear hb3
      go_wp2_with fail
      refine bodyPost_ret (v := .bool true) (by simp [results, Tryz.results14, go_sem]) rfl ?_
      exact ⟨HB3.out, rfl⟩
    · exact absurd rfl h2
  · have H0 := Hid.mk h0
    have g1 : (((er : Nat) : Int) == (er : Int)) = true := by simp
    have g2 : (((q : Nat) : Int) == (q : Int)) = true := by simp
    clear h0
    dsimp only
    go_wp2_with fail
    refine (H2.out _).mono ?_
    rintro e w2 ⟨hb2, k2, io2, cap2, c2, hM2, hway⟩
    rcases hway with ⟨h2, _⟩ | ⟨_, g, rfl⟩
    · exact absurd h2 H0.out
    · have HB2 := Hid.mk hb2
      clear hM2 hb2
      dsimp only
      go_wp2_with fail
      refine (w_alike5 65 0 [] none (some ⟨g, 0, none⟩) 0 0 w2 rfl (VRw.nil _ _ _) (VRw.nil _ _ _) (Nat.le_refl _) (Nat.le_refl _) (by omega)).mono ?_
      rintro e w3 ⟨rfl, hb3⟩
      have HB3 : Hid (Below w.heap.size w w3) := (HB1.out.trans (HB2.out.mono HB1.out.size)).trans (hb3.mono (Nat.le_trans HB1.out.size HB2.out.size))
      clear hb3
      go_wp2_with fail
      refine bodyPost_ret (v := .bool true) (by simp [results, Tryz.results14, go_sem]) rfl ?_
      exact ⟨HB3.out, rfl⟩
end Go.Proofs.YtcbngdkekdhfeaaGreatDoor
