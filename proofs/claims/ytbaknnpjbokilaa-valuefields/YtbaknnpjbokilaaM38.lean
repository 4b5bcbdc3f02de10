import Derived.Test.YtbaknnpjbokilaaM37
import Derived.Sort.CutIn
namespace Go.Proofs.Ytbaknnpjbokilaa
open Go.RowKit Go.Maps Go.Sort Go.Shelf Go.WideMaps
set_option linter.unusedVariables false
set_option linter.unusedSimpArgs false
attribute [local go_sem] Oper.semAt_some

/-- a field of a value in a box -/
theorem uni_more {ka kb : Nat → ByteArray} {K L : Nat} {U : List (Nat ⊕ Nat)} {f i j k : Nat} {x : Nat ⊕ Nat} {r : List (Nat ⊕ Nat)} (h : U.drop k = uniF ka kb K L f i j) (e : uniF ka kb K L f i j = x :: r) : k < U.length ∧ U.getD k (.inl 0) = x ∧ U.drop (k + 1) = r := by
  rw [e] at h
  have hk : k < U.length := by
    rcases Nat.lt_or_ge k U.length with h1 | h1
    · exact h1
    · rw [List.drop_eq_nil_of_le h1] at h; cases h
  rw [List.drop_eq_getElem_cons hk] at h
  injection h with h1 h2
  refine ⟨hk, ?_, h2⟩
  rw [List.getD_eq_getElem?_getD, List.getElem?_eq_getElem hk]
  exact h1
set_option maxRecDepth 100000 in
set_option maxHeartbeats 16000000 in
theorem united1_in (l n₀ B A1 A2 A3 K L : Nat) (koa : Option Addr) (kca : Nat) (ioa : Option Addr) (ica : Nat) (kob : Option Addr) (kcb : Nat) (iob : Option Addr) (icb : Nat) (ka kb : Nat → ByteArray) (ca cb : Nat → Fin 5 → Value) (hK : K ≤ kca ∧ K ≤ ica ∧ L ≤ kcb ∧ L ≤ icb) (hsz : K + L ≤ 100000) (hoa : ∀ i, i < K → OneC (ca i)) (hob : ∀ i, i < L → OneC (cb i))
    (U : List (Nat ⊕ Nat)) (hU : uniF ka kb K L (K + L) 0 0 = U)
    (J Jx : List { i : Nat // i < U.length } → World → Prop) (W : World) (hn0 : n₀ ≤ W.heap.size) (hS0 : UnS W n₀ A1 A2 A3 K L koa kca ioa ica kob kcb iob icb ka kb ca cb) (hJ : AbidesFrom W.heap.size J) (hJx : AbidesFrom W.heap.size Jx)
    (hY : ∀ pre (x : { i : Nat // i < U.length }) W1, J pre W1 → pre.length < U.length → YieldAt Fence.wide (6 - 1) Try.prog l (encK (fun k => kyU ka kb (U.getD k (.inl 0))) (fun k => cU ca cb (U.getD k (.inl 0))) x.1) W1 fun e W' =>
      (e = .returned (.bool true) ∧ J (pre ++ [x]) W' ∧ KpG n₀ B W1 W') ∨ (e = .returned (.bool false) ∧ Jx (pre ++ [x]) W')) (h0 : J [] W) :
    CallsIn Fence.wide 6 Try.prog 47 #[.func (.yield l) #[] #[], .pointer (some ⟨A1, 0, none⟩), .pointer (some ⟨A2, 0, none⟩), .pointer (some ⟨A3, 0, none⟩)] W fun e W' => (∃ v, e = .returned v) ∧
      ((∃ xs, xs.map (·.1) = List.range U.length ∧ J xs W') ∨ (∃ pre, True ∧ Jx pre W')) := by
  have HJ := Hid.mk hJ
  have HJX := Hid.mk hJx
  have HY := Hid.mk hY
  have H0 := Hid.mk h0
  have HO := Hid.mk (And.intro hoa hob)
  have HSt := Hid.mk hS0
  have HU := Hid.mk hU
  have HK := Hid.mk hK
  clear hJ hJx hY h0 hoa hob hS0 hU hK
  refine callsIn_of_wp Try.func47 rfl trivial ?_ rfl
  simp only [Try.ntmps47, List.size_toArray, List.length_cons, List.length_nil, Nat.reduceAdd, Nat.reduceSub, Array.replicate_succ, Array.replicate_zero, List.push_toArray, List.append_toArray, List.nil_append, List.cons_append]
  gi_wp2_with fail
  gi_loopw [5, 6, 7] (fun vi vj vm wr => ∃ (i j k : Nat) (m : Bool), vi = .int .i64 (i : Int) ∧ vj = .int .i64 (j : Int) ∧ vm = .bool m ∧ i ≤ K ∧ j ≤ L ∧ Hid ((m = true → UnS wr n₀ A1 A2 A3 K L koa kca ioa ica kob kcb iob icb ka kb ca cb ∧ W.heap.size ≤ wr.heap.size ∧ ∃ f, (K - i) + (L - j) ≤ f ∧ U.drop k = uniF ka kb K L f i j ∧ ∃ pre : List { i : Nat // i < U.length }, pre.map (·.1) = List.range k ∧ J pre wr) ∧ (m = false → ∃ pre, Jx pre wr))) (fun vi vj vm _ => (K - (intOf vi).toNat) + (L - (intOf vj).toNat) + (match vm with | .bool true => 1 | _ => 0))
  case atStart => exact ⟨0, 0, 0, true, rfl, rfl, rfl, Nat.zero_le _, Nat.zero_le _, ⟨fun _ => ⟨HSt.out, Nat.le_refl _, K + L, by omega, by rw [HU.out]; rfl, [], rfl, H0.out⟩, by intro h; cases h⟩⟩
  case round =>
    obtain ⟨i, j, k, m, rfl, rfl, rfl, hi, hj, HQ⟩ := hrel
    cases m with
    | false =>
      have HX := HQ.out.2 rfl
      gi_wp2_with fail
      all_goals first
        | (rename_i x b hu hn; exact absurd hu (by simp [undef]))
        | skip
      go_end0
      obtain ⟨pre, hx⟩ := HX
      exact ⟨⟨_, rfl⟩, .inr ⟨pre, hx⟩⟩
    | true =>
      have HS := Hid.mk (HQ.out.1 rfl).1
      have c3 := HS.out.a4
      have d3 := HS.out.b4
      by_cases hlt : i < K ∨ j < L
      · rcases near_cases (x := ka i) (y := kb j) hlt with ⟨hC, h1⟩ | ⟨hC, h1⟩ | ⟨hC, h1, h2⟩
        · have h1p : (i : Int) < (K : Int) := by omega
          obtain ⟨k1, k2, k3, k4⟩ := HK.out
          have m1 : (0 : Int) ≤ (i : Int) := by omega
          have m2 : (i : Int) ≤ (K : Int) := by omega
          have m3 : (K : Int) ≤ (kca : Int) := by omega
          have m4 : (0 : Int) ≤ (j : Int) := by omega
          have m5 : (j : Int) ≤ (L : Int) := by omega
          have m6 : (L : Int) ≤ (kcb : Int) := by omega
          have HC : Hid (∀ (qa qb : Option Addr) (c1 c2 : Nat), (0 < K - i → qa = Option.map (fun x => x.add i) koa) → (0 < L - j → qb = Option.map (fun x => x.add j) kob) → ∀ (d : Nat) (os : Array Obj), Calls Try.prog 48 #[.slice qa (K - i) c1, .slice qb (L - j) c2] (grow (redrawn wr d) os) fun e w' => e = .returned (.int .i64 (-1)) ∧ Below (grow (redrawn wr d) os).heap.size (grow (redrawn wr d) os) w') := by
            refine Hid.mk fun qa qb c1 c2 hqa hqb d os => ?_
            rw [← hC]
            refine w_nearer _ _ _ _ _ _ (ka i) (kb j) _ (fun h => ?_) (fun h => ?_)
            · obtain ⟨b, off, e, _, hc⟩ := HS.out.ka i (by omega)
              exact ⟨b, off + i, by rw [hqa h, e]; first | (exfalso; omega) | simp [Addr.add], cell_regrown hc d os⟩
            · obtain ⟨b, off, e, _, hc⟩ := HS.out.kb j (by omega)
              exact ⟨b, off + j, by rw [hqb h, e]; first | (exfalso; omega) | simp [Addr.add], cell_regrown hc d os⟩
          gi_upto_region 3 with fail
          have F0 := fun d os => cell_regrown c3 d os
          have F1 := fun d os => cell_regrown d3 d os
          refine wpIn_wide.2 (wp_region_quiet_below (by kernel_rfl) (by kernel_rfl) ?_)
          repeat (go_big_quiet_step (exact Calls.regrown_of (HC.out _ _ _ _ (by intro h; first | rfl | (exfalso; omega) | (rw [if_neg (by omega)])) (by intro h; first | rfl | (exfalso; omega) | (rw [if_neg (by omega)])) _ _)))
          refine wpQuiet_nil ?_
          intro w9 hw'
          have hb9 : Below wr.heap.size wr w9 := by
            obtain ⟨⟨dq, osq⟩, rfl⟩ := hw'
            exact below_regrown wr dq osq
          clear hw' F0 F1 HC
          have HN : Hid (∃ f, k < U.length ∧ U.getD k (.inl 0) = .inl i ∧ (K - (i + 1)) + (L - j) ≤ f ∧ U.drop (k + 1) = uniF ka kb K L f (i + 1) j ∧ W.heap.size ≤ w9.heap.size ∧ UnS w9 n₀ A1 A2 A3 K L koa kca ioa ica kob kcb iob icb ka kb ca cb ∧ ∃ pre : List { i : Nat // i < U.length }, pre.map (·.1) = List.range k ∧ J pre w9) := by
            obtain ⟨hs, hwr, f, hf, hd, pre, hp, hJp⟩ := HQ.out.1 rfl
            cases f with
            | zero => omega
            | succ f =>
              have e : uniF ka kb K L (f + 1) i j = .inl i :: uniF ka kb K L f (i + 1) j := by
                rw [uniF, if_pos hlt]
                first | rw [if_neg (by rw [hC]; decide), if_neg (by rw [hC]; decide)] | rw [if_neg (by rw [hC]; decide), if_pos hC] | rw [if_pos (show nearI (K - i) (L - j) (ka i) (kb j) = -1 from hC)]
              obtain ⟨u1, u2, u3⟩ := uni_more hd e
              exact ⟨f, u1, u2, by omega, u3, Nat.le_trans hwr hb9.size, hs.keep (hb9.mono (Nat.le_trans hn0 hwr)), pre, hp, HJ.out _ _ _ none hJp ⟨hb9.os, hb9.tape, hb9.output, hb9.size, fun j hj _ => hb9.block j hj⟩ (fun r e => by cases e)⟩
          clear hb9 HQ
          obtain ⟨f, hkU, hx, hf, hd, hw9, hs9, pre, hpre, hJp⟩ := HN.out
          clear HN
          obtain ⟨b, off, e1, hb1, q0⟩ := hs9.ka i (by omega)
          obtain ⟨b2, off2, e2, hb2, a0, a1, a2, a3, a4⟩ := hs9.ia i (by omega)
          obtain ⟨ik, inm, itx, iio, iN, iicap, iko, iK, ikcap, o0, o1, o2, o3, o4⟩ := HO.out.1 i (by omega)
          have z3 := hs9.a3
          have z4 := hs9.a4
          subst e1 e2
          rw [o0] at a0; rw [o1] at a1; rw [o2] at a2; rw [o3] at a3; rw [o4] at a4
          have hY1 : ∀ w1, J pre w1 → YieldAt Fence.wide (6 - 1) Try.prog l #[.string (ka i), .agg #[.int .i64 ik, .string inm, .string itx, .slice iio iN iicap, .slice iko iK ikcap]] w1 fun e W' => (e = .returned (.bool true) ∧ J (pre ++ [⟨k, hkU⟩]) W' ∧ KpG n₀ B w1 W') ∨ (e = .returned (.bool false) ∧ Jx (pre ++ [⟨k, hkU⟩]) W') := fun w1 h1 => by
            have h2 := HY.out pre ⟨k, hkU⟩ w1 h1 (by have := congrArg List.length hpre; simp at this; omega)
            unfold encK at h2
            dsimp only at h2
            rw [hx] at h2
            dsimp only [kyU, cU] at h2
            rw [o0, o1, o2, o3, o4] at h2
            exact h2
          have HYY := Hid.mk hY1
          have HPr : Hid ((pre ++ [(⟨k, hkU⟩ : { i : Nat // i < U.length })]).map (·.1) = List.range (k + 1)) := by show _ = _; rw [List.map_append, hpre, List.range_succ]; rfl
          clear hY1 o0 o1 o2 o3 o4 hx
          have n1 : (i : Int) < (K : Int) := by omega
          have n2 : (0 : Int) ≤ (i : Int) := by omega
          have n3 : i < K := by omega
          gi_upto_region 8 with fail
          have hbd : Below w9.heap.size w9 w9.drew := ⟨rfl, rfl, rfl, Nat.le_refl _, fun _ _ => rfl⟩
          refine wpIn_region_G 11 (S := fun u => u.cell? ⟨A1, 4, none⟩ = some (.slice (some ⟨b, off, none⟩) K kca) ∧ u.cell? ⟨b, off + i, none⟩ = some (.string (ka i)) ∧ u.cell? ⟨A1, 3, none⟩ = some (.slice (some ⟨b2, off2, none⟩) K ica) ∧ u.cell? ⟨b2, off2 + i * 5, none⟩ = some (.int .i64 ik) ∧ u.cell? ⟨b2, off2 + i * 5 + 1, none⟩ = some (.string inm) ∧ u.cell? ⟨b2, off2 + i * 5 + 2, none⟩ = some (.string itx) ∧ u.cell? ⟨b2, off2 + i * 5 + 3, none⟩ = some (.slice iio iN iicap) ∧ u.cell? ⟨b2, off2 + i * 5 + 4, none⟩ = some (.slice iko iK ikcap) ∧ J pre u ∧ w9.heap.size ≤ u.heap.size ∧ Below w9.heap.size w9 u) (by kernel_rfl) ⟨z4, q0, z3, a0, a1, a2, a3, a4, HJ.out _ _ _ none hJp ⟨hbd.os, hbd.tape, hbd.output, hbd.size, fun j hj _ => hbd.block j hj⟩ (fun r e => by cases e), Nat.le_refl _, hbd⟩ (fun hS => ?_)
          clear z4 q0 z3 a0 a1 a2 a3 a4 hbd
          refine wpAnyG_take 0 (.func (.yield l) #[] #[]) rfl rfl (by kernel_rfl) (fun _ _ _ h => h) ⟨Or.inl ⟨by rfl, ?_⟩, fun _ => rfl⟩ (by assumption) ?_
          · intro w hSw
            go_simp
          try simp only [Act.put, List.setIfInBounds_toArray, List.set_cons_zero, List.set_cons_succ]
          refine wpAnyG_take 1 (.pointer (some ⟨A1, 4, none⟩)) rfl rfl (by kernel_rfl) (fun _ _ _ h => h) ⟨Or.inl ⟨by rfl, ?_⟩, fun _ => rfl⟩ (by assumption) ?_
          · intro w hSw
            go_simp
          try simp only [Act.put, List.setIfInBounds_toArray, List.set_cons_zero, List.set_cons_succ]
          refine wpAnyG_take 2 (.slice (some ⟨b, off, none⟩) K kca) rfl rfl (by kernel_rfl) (fun _ _ _ h => h) ⟨Or.inl ⟨by rfl, ?_⟩, fun _ => rfl⟩ (by assumption) ?_
          · intro w hSw
            obtain ⟨hs0, hs1, hs2, hs3, hs4, hs5, hs6, hs7, _⟩ := hSw
            go_simp
          try simp only [Act.put, List.setIfInBounds_toArray, List.set_cons_zero, List.set_cons_succ]
          refine wpAnyG_take 3 (.int .i64 (i : Int)) rfl rfl (by kernel_rfl) (fun _ _ _ h => h) ⟨Or.inl ⟨by rfl, ?_⟩, fun _ => rfl⟩ (by assumption) ?_
          · intro w hSw
            go_simp
          try simp only [Act.put, List.setIfInBounds_toArray, List.set_cons_zero, List.set_cons_succ]
          refine wpAnyG_take 4 (.pointer (some ⟨b, off + i, none⟩)) rfl rfl (by kernel_rfl) (fun _ _ _ h => h) ⟨Or.inl ⟨by rfl, ?_⟩, fun _ => rfl⟩ (by assumption) ?_
          · intro w hSw
            go_simp
          try simp only [Act.put, List.setIfInBounds_toArray, List.set_cons_zero, List.set_cons_succ]
          refine wpAnyG_take 5 (.string (ka i)) rfl rfl (by kernel_rfl) (fun _ _ _ h => h) ⟨Or.inl ⟨by rfl, ?_⟩, fun _ => rfl⟩ (by assumption) ?_
          · intro w hSw
            obtain ⟨hs0, hs1, hs2, hs3, hs4, hs5, hs6, hs7, _⟩ := hSw
            go_simp
          try simp only [Act.put, List.setIfInBounds_toArray, List.set_cons_zero, List.set_cons_succ]
          refine wpAnyG_take 6 (.pointer (some ⟨A1, 3, none⟩)) rfl rfl (by kernel_rfl) (fun _ _ _ h => h) ⟨Or.inl ⟨by rfl, ?_⟩, fun _ => rfl⟩ (by assumption) ?_
          · intro w hSw
            go_simp
          try simp only [Act.put, List.setIfInBounds_toArray, List.set_cons_zero, List.set_cons_succ]
          refine wpAnyG_take 7 (.slice (some ⟨b2, off2, none⟩) K ica) rfl rfl (by kernel_rfl) (fun _ _ _ h => h) ⟨Or.inl ⟨by rfl, ?_⟩, fun _ => rfl⟩ (by assumption) ?_
          · intro w hSw
            obtain ⟨hs0, hs1, hs2, hs3, hs4, hs5, hs6, hs7, _⟩ := hSw
            go_simp
          try simp only [Act.put, List.setIfInBounds_toArray, List.set_cons_zero, List.set_cons_succ]
          refine wpAnyG_take 8 (.int .i64 (i : Int)) rfl rfl (by kernel_rfl) (fun _ _ _ h => h) ⟨Or.inl ⟨by rfl, ?_⟩, fun _ => rfl⟩ (by assumption) ?_
          · intro w hSw
            go_simp
          try simp only [Act.put, List.setIfInBounds_toArray, List.set_cons_zero, List.set_cons_succ]
          refine wpAnyG_take 9 (.pointer (some ⟨b2, off2 + i * 5, none⟩)) rfl rfl (by kernel_rfl) (fun _ _ _ h => h) ⟨Or.inl ⟨by rfl, ?_⟩, fun _ => rfl⟩ (by assumption) ?_
          · intro w hSw
            go_simp
          try simp only [Act.put, List.setIfInBounds_toArray, List.set_cons_zero, List.set_cons_succ]
          refine wpAnyG_take 10 (.agg #[.int .i64 ik, .string inm, .string itx, .slice iio iN iicap, .slice iko iK ikcap]) rfl rfl (by kernel_rfl) (fun _ _ _ h => h) ⟨Or.inl ⟨by rfl, ?_⟩, fun _ => rfl⟩ (by assumption) ?_
          · intro w hSw
            obtain ⟨hs0, hs1, hs2, hs3, hs4, hs5, hs6, hs7, _⟩ := hSw
            go_simp
          try simp only [Act.put, List.setIfInBounds_toArray, List.set_cons_zero, List.set_cons_succ]
          refine wpAnyG_one (i := 11) (o := _) (by kernel_rfl) rfl (fun K2 hK2 => ?_)
          have hYS := HYY.out _ hS.2.2.2.2.2.2.2.2.1
          rw [if_pos (by rfl)]
          have hSk : ∀ {W4 : World}, KpG n₀ B w9.drew W4 → UnS W4 n₀ A1 A2 A3 K L (some ⟨b, off, none⟩) kca (some ⟨b2, off2, none⟩) ica kob kcb iob icb ka kb ca cb := fun hk => hs9.keep ((hS.2.2.2.2.2.2.2.2.2.2.mono (Nat.le_trans hn0 hw9)).trans hk.below)
          have hZk : ∀ {W4 : World}, KpG n₀ B w9.drew W4 → W.heap.size ≤ W4.heap.size := fun hk => Nat.le_trans hw9 (Nat.le_trans hS.2.2.2.2.2.2.2.2.2.1 hk.below.size)
          clear hs9 hS
          refine wpIn_of_yield rfl (fun _ => by decide) (by kernel_rfl) (by kernel_rfl) hYS ?_
          clear hYS
          rintro e W4 (⟨rfl, hJ4, hk4⟩ | ⟨rfl, hJx4⟩)
          · have HE : Hid ((true = true → UnS W4 n₀ A1 A2 A3 K L (some ⟨b, off, none⟩) kca (some ⟨b2, off2, none⟩) ica kob kcb iob icb ka kb ca cb ∧ W.heap.size ≤ W4.heap.size ∧ ∃ f, (K - (i + 1)) + (L - j) ≤ f ∧ U.drop (k + 1) = uniF ka kb K L f (i + 1) j ∧ ∃ pre : List { i : Nat // i < U.length }, pre.map (·.1) = List.range (k + 1) ∧ J pre W4) ∧ (true = false → ∃ pre, Jx pre W4)) := ⟨fun _ => ⟨hSk hk4, hZk hk4, f, hf, hd, _, HPr.out, hJ4⟩, by intro h; cases h⟩
            clear hJ4 hk4 hSk hZk hd
            refine ⟨_, rfl, hK2 _ _ (fun _ h => absurd rfl h) ?_⟩
            try simp only [Act.put, List.setIfInBounds_toArray, List.set_cons_zero, List.set_cons_succ]
            refine wpAnyG_one (i := 12) (o := _) (by kernel_rfl) rfl (fun K3 hK3 => ?_)
            rw [if_pos (by rfl)]
            refine wpIn_of_value (.bool true) rfl (by kernel_rfl) (by kernel_rfl) (hK3 _ _ (fun h => absurd h (by decide)) ?_)
            try simp only [Act.put, List.setIfInBounds_toArray, List.set_cons_zero, List.set_cons_succ]
            refine wpAnyG_done (by kernel_rfl) ?_ _
            clear hK2 hK3 K2 K3
            gi_wp2_with fail
            go_roundw
            case rel => exact ⟨i + 1, j, k + 1, true, by go_num, by go_num, rfl, by omega, by omega, HE⟩
            case measure => simp [intOf]; omega
          · have HE : Hid ((false = true → UnS W4 n₀ A1 A2 A3 K L (some ⟨b, off, none⟩) kca (some ⟨b2, off2, none⟩) ica kob kcb iob icb ka kb ca cb ∧ W.heap.size ≤ W4.heap.size ∧ ∃ f, (K - (i + 1)) + (L - j) ≤ f ∧ U.drop (k + 1) = uniF ka kb K L f (i + 1) j ∧ ∃ pre : List { i : Nat // i < U.length }, pre.map (·.1) = List.range (k + 1) ∧ J pre W4) ∧ (false = false → ∃ pre, Jx pre W4)) := ⟨(by intro h; cases h), fun _ => ⟨_, hJx4⟩⟩
            clear hJx4 hSk hZk hd
            refine ⟨_, rfl, hK2 _ _ (fun _ h => absurd rfl h) ?_⟩
            try simp only [Act.put, List.setIfInBounds_toArray, List.set_cons_zero, List.set_cons_succ]
            refine wpAnyG_one (i := 12) (o := _) (by kernel_rfl) rfl (fun K3 hK3 => ?_)
            rw [if_pos (by rfl)]
            refine wpIn_of_value (.bool false) rfl (by kernel_rfl) (by kernel_rfl) (hK3 _ _ (fun h => absurd h (by decide)) ?_)
            try simp only [Act.put, List.setIfInBounds_toArray, List.set_cons_zero, List.set_cons_succ]
            refine wpAnyG_done (by kernel_rfl) ?_ _
            clear hK2 hK3 K2 K3
            gi_wp2_with fail
            go_roundw
            case rel => exact ⟨i + 1, j, k + 1, false, by go_num, by go_num, rfl, by omega, by omega, HE⟩
            case measure => simp [intOf]; omega
        · have h1p : (j : Int) < (L : Int) := by omega
          by_cases h0 : i < K
          · have h0p : (i : Int) < (K : Int) := by omega
            obtain ⟨k1, k2, k3, k4⟩ := HK.out
            have m1 : (0 : Int) ≤ (i : Int) := by omega
            have m2 : (i : Int) ≤ (K : Int) := by omega
            have m3 : (K : Int) ≤ (kca : Int) := by omega
            have m4 : (0 : Int) ≤ (j : Int) := by omega
            have m5 : (j : Int) ≤ (L : Int) := by omega
            have m6 : (L : Int) ≤ (kcb : Int) := by omega
            have HC : Hid (∀ (qa qb : Option Addr) (c1 c2 : Nat), (0 < K - i → qa = Option.map (fun x => x.add i) koa) → (0 < L - j → qb = Option.map (fun x => x.add j) kob) → ∀ (d : Nat) (os : Array Obj), Calls Try.prog 48 #[.slice qa (K - i) c1, .slice qb (L - j) c2] (grow (redrawn wr d) os) fun e w' => e = .returned (.int .i64 (1)) ∧ Below (grow (redrawn wr d) os).heap.size (grow (redrawn wr d) os) w') := by
              refine Hid.mk fun qa qb c1 c2 hqa hqb d os => ?_
              rw [← hC]
              refine w_nearer _ _ _ _ _ _ (ka i) (kb j) _ (fun h => ?_) (fun h => ?_)
              · obtain ⟨b, off, e, _, hc⟩ := HS.out.ka i (by omega)
                exact ⟨b, off + i, by rw [hqa h, e]; first | (exfalso; omega) | simp [Addr.add], cell_regrown hc d os⟩
              · obtain ⟨b, off, e, _, hc⟩ := HS.out.kb j (by omega)
                exact ⟨b, off + j, by rw [hqb h, e]; first | (exfalso; omega) | simp [Addr.add], cell_regrown hc d os⟩
            gi_upto_region 3 with fail
            have F0 := fun d os => cell_regrown c3 d os
            have F1 := fun d os => cell_regrown d3 d os
            refine wpIn_wide.2 (wp_region_quiet_below (by kernel_rfl) (by kernel_rfl) ?_)
            repeat (go_big_quiet_step (exact Calls.regrown_of (HC.out _ _ _ _ (by intro h; first | rfl | (exfalso; omega) | (rw [if_neg (by omega)])) (by intro h; first | rfl | (exfalso; omega) | (rw [if_neg (by omega)])) _ _)))
            refine wpQuiet_nil ?_
            intro w9 hw'
            have hb9 : Below wr.heap.size wr w9 := by
              obtain ⟨⟨dq, osq⟩, rfl⟩ := hw'
              exact below_regrown wr dq osq
            clear hw' F0 F1 HC
            have HN : Hid (∃ f, k < U.length ∧ U.getD k (.inl 0) = .inr j ∧ (K - i) + (L - (j + 1)) ≤ f ∧ U.drop (k + 1) = uniF ka kb K L f i (j + 1) ∧ W.heap.size ≤ w9.heap.size ∧ UnS w9 n₀ A1 A2 A3 K L koa kca ioa ica kob kcb iob icb ka kb ca cb ∧ ∃ pre : List { i : Nat // i < U.length }, pre.map (·.1) = List.range k ∧ J pre w9) := by
              obtain ⟨hs, hwr, f, hf, hd, pre, hp, hJp⟩ := HQ.out.1 rfl
              cases f with
              | zero => omega
              | succ f =>
                have e : uniF ka kb K L (f + 1) i j = .inr j :: uniF ka kb K L f i (j + 1) := by
                  rw [uniF, if_pos hlt]
                  first | rw [if_neg (by rw [hC]; decide), if_neg (by rw [hC]; decide)] | rw [if_neg (by rw [hC]; decide), if_pos hC] | rw [if_pos (show nearI (K - i) (L - j) (ka i) (kb j) = -1 from hC)]
                obtain ⟨u1, u2, u3⟩ := uni_more hd e
                exact ⟨f, u1, u2, by omega, u3, Nat.le_trans hwr hb9.size, hs.keep (hb9.mono (Nat.le_trans hn0 hwr)), pre, hp, HJ.out _ _ _ none hJp ⟨hb9.os, hb9.tape, hb9.output, hb9.size, fun j hj _ => hb9.block j hj⟩ (fun r e => by cases e)⟩
            clear hb9 HQ
            obtain ⟨f, hkU, hx, hf, hd, hw9, hs9, pre, hpre, hJp⟩ := HN.out
            clear HN
            obtain ⟨b, off, e1, hb1, q0⟩ := hs9.kb j (by omega)
            obtain ⟨b2, off2, e2, hb2, a0, a1, a2, a3, a4⟩ := hs9.ib j (by omega)
            obtain ⟨ik, inm, itx, iio, iN, iicap, iko, iK, ikcap, o0, o1, o2, o3, o4⟩ := HO.out.2 j (by omega)
            have z3 := hs9.b3
            have z4 := hs9.b4
            subst e1 e2
            rw [o0] at a0; rw [o1] at a1; rw [o2] at a2; rw [o3] at a3; rw [o4] at a4
            have hY1 : ∀ w1, J pre w1 → YieldAt Fence.wide (6 - 1) Try.prog l #[.string (kb j), .agg #[.int .i64 ik, .string inm, .string itx, .slice iio iN iicap, .slice iko iK ikcap]] w1 fun e W' => (e = .returned (.bool true) ∧ J (pre ++ [⟨k, hkU⟩]) W' ∧ KpG n₀ B w1 W') ∨ (e = .returned (.bool false) ∧ Jx (pre ++ [⟨k, hkU⟩]) W') := fun w1 h1 => by
              have h2 := HY.out pre ⟨k, hkU⟩ w1 h1 (by have := congrArg List.length hpre; simp at this; omega)
              unfold encK at h2
              dsimp only at h2
              rw [hx] at h2
              dsimp only [kyU, cU] at h2
              rw [o0, o1, o2, o3, o4] at h2
              exact h2
            have HYY := Hid.mk hY1
            have HPr : Hid ((pre ++ [(⟨k, hkU⟩ : { i : Nat // i < U.length })]).map (·.1) = List.range (k + 1)) := by show _ = _; rw [List.map_append, hpre, List.range_succ]; rfl
            clear hY1 o0 o1 o2 o3 o4 hx
            have n1 : (j : Int) < (L : Int) := by omega
            have n2 : (0 : Int) ≤ (j : Int) := by omega
            have n3 : j < L := by omega
            gi_upto_region 11 with fail
            have hbd : Below w9.heap.size w9 w9.drew := ⟨rfl, rfl, rfl, Nat.le_refl _, fun _ _ => rfl⟩
            refine wpIn_region_G 11 (S := fun u => u.cell? ⟨A2, 4, none⟩ = some (.slice (some ⟨b, off, none⟩) L kcb) ∧ u.cell? ⟨b, off + j, none⟩ = some (.string (kb j)) ∧ u.cell? ⟨A2, 3, none⟩ = some (.slice (some ⟨b2, off2, none⟩) L icb) ∧ u.cell? ⟨b2, off2 + j * 5, none⟩ = some (.int .i64 ik) ∧ u.cell? ⟨b2, off2 + j * 5 + 1, none⟩ = some (.string inm) ∧ u.cell? ⟨b2, off2 + j * 5 + 2, none⟩ = some (.string itx) ∧ u.cell? ⟨b2, off2 + j * 5 + 3, none⟩ = some (.slice iio iN iicap) ∧ u.cell? ⟨b2, off2 + j * 5 + 4, none⟩ = some (.slice iko iK ikcap) ∧ J pre u ∧ w9.heap.size ≤ u.heap.size ∧ Below w9.heap.size w9 u) (by kernel_rfl) ⟨z4, q0, z3, a0, a1, a2, a3, a4, HJ.out _ _ _ none hJp ⟨hbd.os, hbd.tape, hbd.output, hbd.size, fun j hj _ => hbd.block j hj⟩ (fun r e => by cases e), Nat.le_refl _, hbd⟩ (fun hS => ?_)
            clear z4 q0 z3 a0 a1 a2 a3 a4 hbd
            refine wpAnyG_take 0 (.func (.yield l) #[] #[]) rfl rfl (by kernel_rfl) (fun _ _ _ h => h) ⟨Or.inl ⟨by rfl, ?_⟩, fun _ => rfl⟩ (by assumption) ?_
            · intro w hSw
              go_simp
            try simp only [Act.put, List.setIfInBounds_toArray, List.set_cons_zero, List.set_cons_succ]
            refine wpAnyG_take 1 (.pointer (some ⟨A2, 4, none⟩)) rfl rfl (by kernel_rfl) (fun _ _ _ h => h) ⟨Or.inl ⟨by rfl, ?_⟩, fun _ => rfl⟩ (by assumption) ?_
            · intro w hSw
              go_simp
            try simp only [Act.put, List.setIfInBounds_toArray, List.set_cons_zero, List.set_cons_succ]
            refine wpAnyG_take 2 (.slice (some ⟨b, off, none⟩) L kcb) rfl rfl (by kernel_rfl) (fun _ _ _ h => h) ⟨Or.inl ⟨by rfl, ?_⟩, fun _ => rfl⟩ (by assumption) ?_
            · intro w hSw
              obtain ⟨hs0, hs1, hs2, hs3, hs4, hs5, hs6, hs7, _⟩ := hSw
              go_simp
            try simp only [Act.put, List.setIfInBounds_toArray, List.set_cons_zero, List.set_cons_succ]
            refine wpAnyG_take 3 (.int .i64 (j : Int)) rfl rfl (by kernel_rfl) (fun _ _ _ h => h) ⟨Or.inl ⟨by rfl, ?_⟩, fun _ => rfl⟩ (by assumption) ?_
            · intro w hSw
              go_simp
            try simp only [Act.put, List.setIfInBounds_toArray, List.set_cons_zero, List.set_cons_succ]
            refine wpAnyG_take 4 (.pointer (some ⟨b, off + j, none⟩)) rfl rfl (by kernel_rfl) (fun _ _ _ h => h) ⟨Or.inl ⟨by rfl, ?_⟩, fun _ => rfl⟩ (by assumption) ?_
            · intro w hSw
              go_simp
            try simp only [Act.put, List.setIfInBounds_toArray, List.set_cons_zero, List.set_cons_succ]
            refine wpAnyG_take 5 (.string (kb j)) rfl rfl (by kernel_rfl) (fun _ _ _ h => h) ⟨Or.inl ⟨by rfl, ?_⟩, fun _ => rfl⟩ (by assumption) ?_
            · intro w hSw
              obtain ⟨hs0, hs1, hs2, hs3, hs4, hs5, hs6, hs7, _⟩ := hSw
              go_simp
            try simp only [Act.put, List.setIfInBounds_toArray, List.set_cons_zero, List.set_cons_succ]
            refine wpAnyG_take 6 (.pointer (some ⟨A2, 3, none⟩)) rfl rfl (by kernel_rfl) (fun _ _ _ h => h) ⟨Or.inl ⟨by rfl, ?_⟩, fun _ => rfl⟩ (by assumption) ?_
            · intro w hSw
              go_simp
            try simp only [Act.put, List.setIfInBounds_toArray, List.set_cons_zero, List.set_cons_succ]
            refine wpAnyG_take 7 (.slice (some ⟨b2, off2, none⟩) L icb) rfl rfl (by kernel_rfl) (fun _ _ _ h => h) ⟨Or.inl ⟨by rfl, ?_⟩, fun _ => rfl⟩ (by assumption) ?_
            · intro w hSw
              obtain ⟨hs0, hs1, hs2, hs3, hs4, hs5, hs6, hs7, _⟩ := hSw
              go_simp
            try simp only [Act.put, List.setIfInBounds_toArray, List.set_cons_zero, List.set_cons_succ]
            refine wpAnyG_take 8 (.int .i64 (j : Int)) rfl rfl (by kernel_rfl) (fun _ _ _ h => h) ⟨Or.inl ⟨by rfl, ?_⟩, fun _ => rfl⟩ (by assumption) ?_
            · intro w hSw
              go_simp
            try simp only [Act.put, List.setIfInBounds_toArray, List.set_cons_zero, List.set_cons_succ]
            refine wpAnyG_take 9 (.pointer (some ⟨b2, off2 + j * 5, none⟩)) rfl rfl (by kernel_rfl) (fun _ _ _ h => h) ⟨Or.inl ⟨by rfl, ?_⟩, fun _ => rfl⟩ (by assumption) ?_
            · intro w hSw
              go_simp
            try simp only [Act.put, List.setIfInBounds_toArray, List.set_cons_zero, List.set_cons_succ]
            refine wpAnyG_take 10 (.agg #[.int .i64 ik, .string inm, .string itx, .slice iio iN iicap, .slice iko iK ikcap]) rfl rfl (by kernel_rfl) (fun _ _ _ h => h) ⟨Or.inl ⟨by rfl, ?_⟩, fun _ => rfl⟩ (by assumption) ?_
            · intro w hSw
              obtain ⟨hs0, hs1, hs2, hs3, hs4, hs5, hs6, hs7, _⟩ := hSw
              go_simp
            try simp only [Act.put, List.setIfInBounds_toArray, List.set_cons_zero, List.set_cons_succ]
            refine wpAnyG_one (i := 11) (o := _) (by kernel_rfl) rfl (fun K2 hK2 => ?_)
            have hYS := HYY.out _ hS.2.2.2.2.2.2.2.2.1
            rw [if_pos (by rfl)]
            have hSk : ∀ {W4 : World}, KpG n₀ B w9.drew W4 → UnS W4 n₀ A1 A2 A3 K L koa kca ioa ica (some ⟨b, off, none⟩) kcb (some ⟨b2, off2, none⟩) icb ka kb ca cb := fun hk => hs9.keep ((hS.2.2.2.2.2.2.2.2.2.2.mono (Nat.le_trans hn0 hw9)).trans hk.below)
            have hZk : ∀ {W4 : World}, KpG n₀ B w9.drew W4 → W.heap.size ≤ W4.heap.size := fun hk => Nat.le_trans hw9 (Nat.le_trans hS.2.2.2.2.2.2.2.2.2.1 hk.below.size)
            clear hs9 hS
            refine wpIn_of_yield rfl (fun _ => by decide) (by kernel_rfl) (by kernel_rfl) hYS ?_
            clear hYS
            rintro e W4 (⟨rfl, hJ4, hk4⟩ | ⟨rfl, hJx4⟩)
            · have HE : Hid ((true = true → UnS W4 n₀ A1 A2 A3 K L koa kca ioa ica (some ⟨b, off, none⟩) kcb (some ⟨b2, off2, none⟩) icb ka kb ca cb ∧ W.heap.size ≤ W4.heap.size ∧ ∃ f, (K - i) + (L - (j + 1)) ≤ f ∧ U.drop (k + 1) = uniF ka kb K L f i (j + 1) ∧ ∃ pre : List { i : Nat // i < U.length }, pre.map (·.1) = List.range (k + 1) ∧ J pre W4) ∧ (true = false → ∃ pre, Jx pre W4)) := ⟨fun _ => ⟨hSk hk4, hZk hk4, f, hf, hd, _, HPr.out, hJ4⟩, by intro h; cases h⟩
              clear hJ4 hk4 hSk hZk hd
              refine ⟨_, rfl, hK2 _ _ (fun _ h => absurd rfl h) ?_⟩
              try simp only [Act.put, List.setIfInBounds_toArray, List.set_cons_zero, List.set_cons_succ]
              refine wpAnyG_one (i := 12) (o := _) (by kernel_rfl) rfl (fun K3 hK3 => ?_)
              rw [if_pos (by rfl)]
              refine wpIn_of_value (.bool true) rfl (by kernel_rfl) (by kernel_rfl) (hK3 _ _ (fun h => absurd h (by decide)) ?_)
              try simp only [Act.put, List.setIfInBounds_toArray, List.set_cons_zero, List.set_cons_succ]
              refine wpAnyG_done (by kernel_rfl) ?_ _
              clear hK2 hK3 K2 K3
              gi_wp2_with fail
              go_roundw
              case rel => exact ⟨i, j + 1, k + 1, true, by go_num, by go_num, rfl, by omega, by omega, HE⟩
              case measure => simp [intOf]; omega
            · have HE : Hid ((false = true → UnS W4 n₀ A1 A2 A3 K L koa kca ioa ica (some ⟨b, off, none⟩) kcb (some ⟨b2, off2, none⟩) icb ka kb ca cb ∧ W.heap.size ≤ W4.heap.size ∧ ∃ f, (K - i) + (L - (j + 1)) ≤ f ∧ U.drop (k + 1) = uniF ka kb K L f i (j + 1) ∧ ∃ pre : List { i : Nat // i < U.length }, pre.map (·.1) = List.range (k + 1) ∧ J pre W4) ∧ (false = false → ∃ pre, Jx pre W4)) := ⟨(by intro h; cases h), fun _ => ⟨_, hJx4⟩⟩
              clear hJx4 hSk hZk hd
              refine ⟨_, rfl, hK2 _ _ (fun _ h => absurd rfl h) ?_⟩
              try simp only [Act.put, List.setIfInBounds_toArray, List.set_cons_zero, List.set_cons_succ]
              refine wpAnyG_one (i := 12) (o := _) (by kernel_rfl) rfl (fun K3 hK3 => ?_)
              rw [if_pos (by rfl)]
              refine wpIn_of_value (.bool false) rfl (by kernel_rfl) (by kernel_rfl) (hK3 _ _ (fun h => absurd h (by decide)) ?_)
              try simp only [Act.put, List.setIfInBounds_toArray, List.set_cons_zero, List.set_cons_succ]
              refine wpAnyG_done (by kernel_rfl) ?_ _
              clear hK2 hK3 K2 K3
              gi_wp2_with fail
              go_roundw
              case rel => exact ⟨i, j + 1, k + 1, false, by go_num, by go_num, rfl, by omega, by omega, HE⟩
              case measure => simp [intOf]; omega
          · have h0p : ¬ (i : Int) < (K : Int) := by omega
            obtain ⟨k1, k2, k3, k4⟩ := HK.out
            have m1 : (0 : Int) ≤ (i : Int) := by omega
            have m2 : (i : Int) ≤ (K : Int) := by omega
            have m3 : (K : Int) ≤ (kca : Int) := by omega
            have m4 : (0 : Int) ≤ (j : Int) := by omega
            have m5 : (j : Int) ≤ (L : Int) := by omega
            have m6 : (L : Int) ≤ (kcb : Int) := by omega
            have HC : Hid (∀ (qa qb : Option Addr) (c1 c2 : Nat), (0 < K - i → qa = Option.map (fun x => x.add i) koa) → (0 < L - j → qb = Option.map (fun x => x.add j) kob) → ∀ (d : Nat) (os : Array Obj), Calls Try.prog 48 #[.slice qa (K - i) c1, .slice qb (L - j) c2] (grow (redrawn wr d) os) fun e w' => e = .returned (.int .i64 (1)) ∧ Below (grow (redrawn wr d) os).heap.size (grow (redrawn wr d) os) w') := by
              refine Hid.mk fun qa qb c1 c2 hqa hqb d os => ?_
              rw [← hC]
              refine w_nearer _ _ _ _ _ _ (ka i) (kb j) _ (fun h => ?_) (fun h => ?_)
              · obtain ⟨b, off, e, _, hc⟩ := HS.out.ka i (by omega)
                exact ⟨b, off + i, by rw [hqa h, e]; first | (exfalso; omega) | simp [Addr.add], cell_regrown hc d os⟩
              · obtain ⟨b, off, e, _, hc⟩ := HS.out.kb j (by omega)
                exact ⟨b, off + j, by rw [hqb h, e]; first | (exfalso; omega) | simp [Addr.add], cell_regrown hc d os⟩
            gi_upto_region 3 with fail
            have F0 := fun d os => cell_regrown c3 d os
            have F1 := fun d os => cell_regrown d3 d os
            refine wpIn_wide.2 (wp_region_quiet_below (by kernel_rfl) (by kernel_rfl) ?_)
            repeat (go_big_quiet_step (exact Calls.regrown_of (HC.out _ _ _ _ (by intro h; first | rfl | (exfalso; omega) | (rw [if_neg (by omega)])) (by intro h; first | rfl | (exfalso; omega) | (rw [if_neg (by omega)])) _ _)))
            refine wpQuiet_nil ?_
            intro w9 hw'
            have hb9 : Below wr.heap.size wr w9 := by
              obtain ⟨⟨dq, osq⟩, rfl⟩ := hw'
              exact below_regrown wr dq osq
            clear hw' F0 F1 HC
            have HN : Hid (∃ f, k < U.length ∧ U.getD k (.inl 0) = .inr j ∧ (K - i) + (L - (j + 1)) ≤ f ∧ U.drop (k + 1) = uniF ka kb K L f i (j + 1) ∧ W.heap.size ≤ w9.heap.size ∧ UnS w9 n₀ A1 A2 A3 K L koa kca ioa ica kob kcb iob icb ka kb ca cb ∧ ∃ pre : List { i : Nat // i < U.length }, pre.map (·.1) = List.range k ∧ J pre w9) := by
              obtain ⟨hs, hwr, f, hf, hd, pre, hp, hJp⟩ := HQ.out.1 rfl
              cases f with
              | zero => omega
              | succ f =>
                have e : uniF ka kb K L (f + 1) i j = .inr j :: uniF ka kb K L f i (j + 1) := by
                  rw [uniF, if_pos hlt]
                  first | rw [if_neg (by rw [hC]; decide), if_neg (by rw [hC]; decide)] | rw [if_neg (by rw [hC]; decide), if_pos hC] | rw [if_pos (show nearI (K - i) (L - j) (ka i) (kb j) = -1 from hC)]
                obtain ⟨u1, u2, u3⟩ := uni_more hd e
                exact ⟨f, u1, u2, by omega, u3, Nat.le_trans hwr hb9.size, hs.keep (hb9.mono (Nat.le_trans hn0 hwr)), pre, hp, HJ.out _ _ _ none hJp ⟨hb9.os, hb9.tape, hb9.output, hb9.size, fun j hj _ => hb9.block j hj⟩ (fun r e => by cases e)⟩
            clear hb9 HQ
            obtain ⟨f, hkU, hx, hf, hd, hw9, hs9, pre, hpre, hJp⟩ := HN.out
            clear HN
            obtain ⟨b, off, e1, hb1, q0⟩ := hs9.kb j (by omega)
            obtain ⟨b2, off2, e2, hb2, a0, a1, a2, a3, a4⟩ := hs9.ib j (by omega)
            obtain ⟨ik, inm, itx, iio, iN, iicap, iko, iK, ikcap, o0, o1, o2, o3, o4⟩ := HO.out.2 j (by omega)
            have z3 := hs9.b3
            have z4 := hs9.b4
            subst e1 e2
            rw [o0] at a0; rw [o1] at a1; rw [o2] at a2; rw [o3] at a3; rw [o4] at a4
            have hY1 : ∀ w1, J pre w1 → YieldAt Fence.wide (6 - 1) Try.prog l #[.string (kb j), .agg #[.int .i64 ik, .string inm, .string itx, .slice iio iN iicap, .slice iko iK ikcap]] w1 fun e W' => (e = .returned (.bool true) ∧ J (pre ++ [⟨k, hkU⟩]) W' ∧ KpG n₀ B w1 W') ∨ (e = .returned (.bool false) ∧ Jx (pre ++ [⟨k, hkU⟩]) W') := fun w1 h1 => by
              have h2 := HY.out pre ⟨k, hkU⟩ w1 h1 (by have := congrArg List.length hpre; simp at this; omega)
              unfold encK at h2
              dsimp only at h2
              rw [hx] at h2
              dsimp only [kyU, cU] at h2
              rw [o0, o1, o2, o3, o4] at h2
              exact h2
            have HYY := Hid.mk hY1
            have HPr : Hid ((pre ++ [(⟨k, hkU⟩ : { i : Nat // i < U.length })]).map (·.1) = List.range (k + 1)) := by show _ = _; rw [List.map_append, hpre, List.range_succ]; rfl
            clear hY1 o0 o1 o2 o3 o4 hx
            have n1 : (j : Int) < (L : Int) := by omega
            have n2 : (0 : Int) ≤ (j : Int) := by omega
            have n3 : j < L := by omega
            gi_upto_region 11 with fail
            have hbd : Below w9.heap.size w9 w9.drew := ⟨rfl, rfl, rfl, Nat.le_refl _, fun _ _ => rfl⟩
            refine wpIn_region_G 11 (S := fun u => u.cell? ⟨A2, 4, none⟩ = some (.slice (some ⟨b, off, none⟩) L kcb) ∧ u.cell? ⟨b, off + j, none⟩ = some (.string (kb j)) ∧ u.cell? ⟨A2, 3, none⟩ = some (.slice (some ⟨b2, off2, none⟩) L icb) ∧ u.cell? ⟨b2, off2 + j * 5, none⟩ = some (.int .i64 ik) ∧ u.cell? ⟨b2, off2 + j * 5 + 1, none⟩ = some (.string inm) ∧ u.cell? ⟨b2, off2 + j * 5 + 2, none⟩ = some (.string itx) ∧ u.cell? ⟨b2, off2 + j * 5 + 3, none⟩ = some (.slice iio iN iicap) ∧ u.cell? ⟨b2, off2 + j * 5 + 4, none⟩ = some (.slice iko iK ikcap) ∧ J pre u ∧ w9.heap.size ≤ u.heap.size ∧ Below w9.heap.size w9 u) (by kernel_rfl) ⟨z4, q0, z3, a0, a1, a2, a3, a4, HJ.out _ _ _ none hJp ⟨hbd.os, hbd.tape, hbd.output, hbd.size, fun j hj _ => hbd.block j hj⟩ (fun r e => by cases e), Nat.le_refl _, hbd⟩ (fun hS => ?_)
            clear z4 q0 z3 a0 a1 a2 a3 a4 hbd
            refine wpAnyG_take 0 (.func (.yield l) #[] #[]) rfl rfl (by kernel_rfl) (fun _ _ _ h => h) ⟨Or.inl ⟨by rfl, ?_⟩, fun _ => rfl⟩ (by assumption) ?_
            · intro w hSw
              go_simp
            try simp only [Act.put, List.setIfInBounds_toArray, List.set_cons_zero, List.set_cons_succ]
            refine wpAnyG_take 1 (.pointer (some ⟨A2, 4, none⟩)) rfl rfl (by kernel_rfl) (fun _ _ _ h => h) ⟨Or.inl ⟨by rfl, ?_⟩, fun _ => rfl⟩ (by assumption) ?_
            · intro w hSw
              go_simp
            try simp only [Act.put, List.setIfInBounds_toArray, List.set_cons_zero, List.set_cons_succ]
            refine wpAnyG_take 2 (.slice (some ⟨b, off, none⟩) L kcb) rfl rfl (by kernel_rfl) (fun _ _ _ h => h) ⟨Or.inl ⟨by rfl, ?_⟩, fun _ => rfl⟩ (by assumption) ?_
            · intro w hSw
              obtain ⟨hs0, hs1, hs2, hs3, hs4, hs5, hs6, hs7, _⟩ := hSw
              go_simp
            try simp only [Act.put, List.setIfInBounds_toArray, List.set_cons_zero, List.set_cons_succ]
            refine wpAnyG_take 3 (.int .i64 (j : Int)) rfl rfl (by kernel_rfl) (fun _ _ _ h => h) ⟨Or.inl ⟨by rfl, ?_⟩, fun _ => rfl⟩ (by assumption) ?_
            · intro w hSw
              go_simp
            try simp only [Act.put, List.setIfInBounds_toArray, List.set_cons_zero, List.set_cons_succ]
            refine wpAnyG_take 4 (.pointer (some ⟨b, off + j, none⟩)) rfl rfl (by kernel_rfl) (fun _ _ _ h => h) ⟨Or.inl ⟨by rfl, ?_⟩, fun _ => rfl⟩ (by assumption) ?_
            · intro w hSw
              go_simp
            try simp only [Act.put, List.setIfInBounds_toArray, List.set_cons_zero, List.set_cons_succ]
            refine wpAnyG_take 5 (.string (kb j)) rfl rfl (by kernel_rfl) (fun _ _ _ h => h) ⟨Or.inl ⟨by rfl, ?_⟩, fun _ => rfl⟩ (by assumption) ?_
            · intro w hSw
              obtain ⟨hs0, hs1, hs2, hs3, hs4, hs5, hs6, hs7, _⟩ := hSw
              go_simp
            try simp only [Act.put, List.setIfInBounds_toArray, List.set_cons_zero, List.set_cons_succ]
            refine wpAnyG_take 6 (.pointer (some ⟨A2, 3, none⟩)) rfl rfl (by kernel_rfl) (fun _ _ _ h => h) ⟨Or.inl ⟨by rfl, ?_⟩, fun _ => rfl⟩ (by assumption) ?_
            · intro w hSw
              go_simp
            try simp only [Act.put, List.setIfInBounds_toArray, List.set_cons_zero, List.set_cons_succ]
            refine wpAnyG_take 7 (.slice (some ⟨b2, off2, none⟩) L icb) rfl rfl (by kernel_rfl) (fun _ _ _ h => h) ⟨Or.inl ⟨by rfl, ?_⟩, fun _ => rfl⟩ (by assumption) ?_
            · intro w hSw
              obtain ⟨hs0, hs1, hs2, hs3, hs4, hs5, hs6, hs7, _⟩ := hSw
              go_simp
            try simp only [Act.put, List.setIfInBounds_toArray, List.set_cons_zero, List.set_cons_succ]
            refine wpAnyG_take 8 (.int .i64 (j : Int)) rfl rfl (by kernel_rfl) (fun _ _ _ h => h) ⟨Or.inl ⟨by rfl, ?_⟩, fun _ => rfl⟩ (by assumption) ?_
            · intro w hSw
              go_simp
            try simp only [Act.put, List.setIfInBounds_toArray, List.set_cons_zero, List.set_cons_succ]
            refine wpAnyG_take 9 (.pointer (some ⟨b2, off2 + j * 5, none⟩)) rfl rfl (by kernel_rfl) (fun _ _ _ h => h) ⟨Or.inl ⟨by rfl, ?_⟩, fun _ => rfl⟩ (by assumption) ?_
            · intro w hSw
              go_simp
            try simp only [Act.put, List.setIfInBounds_toArray, List.set_cons_zero, List.set_cons_succ]
            refine wpAnyG_take 10 (.agg #[.int .i64 ik, .string inm, .string itx, .slice iio iN iicap, .slice iko iK ikcap]) rfl rfl (by kernel_rfl) (fun _ _ _ h => h) ⟨Or.inl ⟨by rfl, ?_⟩, fun _ => rfl⟩ (by assumption) ?_
            · intro w hSw
              obtain ⟨hs0, hs1, hs2, hs3, hs4, hs5, hs6, hs7, _⟩ := hSw
              go_simp
            try simp only [Act.put, List.setIfInBounds_toArray, List.set_cons_zero, List.set_cons_succ]
            refine wpAnyG_one (i := 11) (o := _) (by kernel_rfl) rfl (fun K2 hK2 => ?_)
            have hYS := HYY.out _ hS.2.2.2.2.2.2.2.2.1
            rw [if_pos (by rfl)]
            have hSk : ∀ {W4 : World}, KpG n₀ B w9.drew W4 → UnS W4 n₀ A1 A2 A3 K L koa kca ioa ica (some ⟨b, off, none⟩) kcb (some ⟨b2, off2, none⟩) icb ka kb ca cb := fun hk => hs9.keep ((hS.2.2.2.2.2.2.2.2.2.2.mono (Nat.le_trans hn0 hw9)).trans hk.below)
            have hZk : ∀ {W4 : World}, KpG n₀ B w9.drew W4 → W.heap.size ≤ W4.heap.size := fun hk => Nat.le_trans hw9 (Nat.le_trans hS.2.2.2.2.2.2.2.2.2.1 hk.below.size)
            clear hs9 hS
            refine wpIn_of_yield rfl (fun _ => by decide) (by kernel_rfl) (by kernel_rfl) hYS ?_
            clear hYS
            rintro e W4 (⟨rfl, hJ4, hk4⟩ | ⟨rfl, hJx4⟩)
            · have HE : Hid ((true = true → UnS W4 n₀ A1 A2 A3 K L koa kca ioa ica (some ⟨b, off, none⟩) kcb (some ⟨b2, off2, none⟩) icb ka kb ca cb ∧ W.heap.size ≤ W4.heap.size ∧ ∃ f, (K - i) + (L - (j + 1)) ≤ f ∧ U.drop (k + 1) = uniF ka kb K L f i (j + 1) ∧ ∃ pre : List { i : Nat // i < U.length }, pre.map (·.1) = List.range (k + 1) ∧ J pre W4) ∧ (true = false → ∃ pre, Jx pre W4)) := ⟨fun _ => ⟨hSk hk4, hZk hk4, f, hf, hd, _, HPr.out, hJ4⟩, by intro h; cases h⟩
              clear hJ4 hk4 hSk hZk hd
              refine ⟨_, rfl, hK2 _ _ (fun _ h => absurd rfl h) ?_⟩
              try simp only [Act.put, List.setIfInBounds_toArray, List.set_cons_zero, List.set_cons_succ]
              refine wpAnyG_one (i := 12) (o := _) (by kernel_rfl) rfl (fun K3 hK3 => ?_)
              rw [if_pos (by rfl)]
              refine wpIn_of_value (.bool true) rfl (by kernel_rfl) (by kernel_rfl) (hK3 _ _ (fun h => absurd h (by decide)) ?_)
              try simp only [Act.put, List.setIfInBounds_toArray, List.set_cons_zero, List.set_cons_succ]
              refine wpAnyG_done (by kernel_rfl) ?_ _
              clear hK2 hK3 K2 K3
              gi_wp2_with fail
              go_roundw
              case rel => exact ⟨i, j + 1, k + 1, true, by go_num, by go_num, rfl, by omega, by omega, HE⟩
              case measure => simp [intOf]; omega
            · have HE : Hid ((false = true → UnS W4 n₀ A1 A2 A3 K L koa kca ioa ica (some ⟨b, off, none⟩) kcb (some ⟨b2, off2, none⟩) icb ka kb ca cb ∧ W.heap.size ≤ W4.heap.size ∧ ∃ f, (K - i) + (L - (j + 1)) ≤ f ∧ U.drop (k + 1) = uniF ka kb K L f i (j + 1) ∧ ∃ pre : List { i : Nat // i < U.length }, pre.map (·.1) = List.range (k + 1) ∧ J pre W4) ∧ (false = false → ∃ pre, Jx pre W4)) := ⟨(by intro h; cases h), fun _ => ⟨_, hJx4⟩⟩
              clear hJx4 hSk hZk hd
              refine ⟨_, rfl, hK2 _ _ (fun _ h => absurd rfl h) ?_⟩
              try simp only [Act.put, List.setIfInBounds_toArray, List.set_cons_zero, List.set_cons_succ]
              refine wpAnyG_one (i := 12) (o := _) (by kernel_rfl) rfl (fun K3 hK3 => ?_)
              rw [if_pos (by rfl)]
              refine wpIn_of_value (.bool false) rfl (by kernel_rfl) (by kernel_rfl) (hK3 _ _ (fun h => absurd h (by decide)) ?_)
              try simp only [Act.put, List.setIfInBounds_toArray, List.set_cons_zero, List.set_cons_succ]
              refine wpAnyG_done (by kernel_rfl) ?_ _
              clear hK2 hK3 K2 K3
              gi_wp2_with fail
              go_roundw
              case rel => exact ⟨i, j + 1, k + 1, false, by go_num, by go_num, rfl, by omega, by omega, HE⟩
              case measure => simp [intOf]; omega
        · have h1p : (i : Int) < (K : Int) := by omega
          have h2p : (j : Int) < (L : Int) := by omega
          obtain ⟨k1, k2, k3, k4⟩ := HK.out
          have m1 : (0 : Int) ≤ (i : Int) := by omega
          have m2 : (i : Int) ≤ (K : Int) := by omega
          have m3 : (K : Int) ≤ (kca : Int) := by omega
          have m4 : (0 : Int) ≤ (j : Int) := by omega
          have m5 : (j : Int) ≤ (L : Int) := by omega
          have m6 : (L : Int) ≤ (kcb : Int) := by omega
          have HC : Hid (∀ (qa qb : Option Addr) (c1 c2 : Nat), (0 < K - i → qa = Option.map (fun x => x.add i) koa) → (0 < L - j → qb = Option.map (fun x => x.add j) kob) → ∀ (d : Nat) (os : Array Obj), Calls Try.prog 48 #[.slice qa (K - i) c1, .slice qb (L - j) c2] (grow (redrawn wr d) os) fun e w' => e = .returned (.int .i64 (0)) ∧ Below (grow (redrawn wr d) os).heap.size (grow (redrawn wr d) os) w') := by
            refine Hid.mk fun qa qb c1 c2 hqa hqb d os => ?_
            rw [← hC]
            refine w_nearer _ _ _ _ _ _ (ka i) (kb j) _ (fun h => ?_) (fun h => ?_)
            · obtain ⟨b, off, e, _, hc⟩ := HS.out.ka i (by omega)
              exact ⟨b, off + i, by rw [hqa h, e]; first | (exfalso; omega) | simp [Addr.add], cell_regrown hc d os⟩
            · obtain ⟨b, off, e, _, hc⟩ := HS.out.kb j (by omega)
              exact ⟨b, off + j, by rw [hqb h, e]; first | (exfalso; omega) | simp [Addr.add], cell_regrown hc d os⟩
          gi_upto_region 3 with fail
          have F0 := fun d os => cell_regrown c3 d os
          have F1 := fun d os => cell_regrown d3 d os
          refine wpIn_wide.2 (wp_region_quiet_below (by kernel_rfl) (by kernel_rfl) ?_)
          repeat (go_big_quiet_step (exact Calls.regrown_of (HC.out _ _ _ _ (by intro h; first | rfl | (exfalso; omega) | (rw [if_neg (by omega)])) (by intro h; first | rfl | (exfalso; omega) | (rw [if_neg (by omega)])) _ _)))
          refine wpQuiet_nil ?_
          intro w9 hw'
          have hb9 : Below wr.heap.size wr w9 := by
            obtain ⟨⟨dq, osq⟩, rfl⟩ := hw'
            exact below_regrown wr dq osq
          clear hw' F0 F1 HC
          have HN : Hid (∃ f, k < U.length ∧ U.getD k (.inl 0) = .inr j ∧ (K - (i + 1)) + (L - (j + 1)) ≤ f ∧ U.drop (k + 1) = uniF ka kb K L f (i + 1) (j + 1) ∧ W.heap.size ≤ w9.heap.size ∧ UnS w9 n₀ A1 A2 A3 K L koa kca ioa ica kob kcb iob icb ka kb ca cb ∧ ∃ pre : List { i : Nat // i < U.length }, pre.map (·.1) = List.range k ∧ J pre w9) := by
            obtain ⟨hs, hwr, f, hf, hd, pre, hp, hJp⟩ := HQ.out.1 rfl
            cases f with
            | zero => omega
            | succ f =>
              have e : uniF ka kb K L (f + 1) i j = .inr j :: uniF ka kb K L f (i + 1) (j + 1) := by
                rw [uniF, if_pos hlt]
                first | rw [if_neg (by rw [hC]; decide), if_neg (by rw [hC]; decide)] | rw [if_neg (by rw [hC]; decide), if_pos hC] | rw [if_pos (show nearI (K - i) (L - j) (ka i) (kb j) = -1 from hC)]
              obtain ⟨u1, u2, u3⟩ := uni_more hd e
              exact ⟨f, u1, u2, by omega, u3, Nat.le_trans hwr hb9.size, hs.keep (hb9.mono (Nat.le_trans hn0 hwr)), pre, hp, HJ.out _ _ _ none hJp ⟨hb9.os, hb9.tape, hb9.output, hb9.size, fun j hj _ => hb9.block j hj⟩ (fun r e => by cases e)⟩
          clear hb9 HQ
          obtain ⟨f, hkU, hx, hf, hd, hw9, hs9, pre, hpre, hJp⟩ := HN.out
          clear HN
          obtain ⟨b, off, e1, hb1, q0⟩ := hs9.kb j (by omega)
          obtain ⟨b2, off2, e2, hb2, a0, a1, a2, a3, a4⟩ := hs9.ib j (by omega)
          obtain ⟨b3, off3, e3, hb3, p0, p1, p2, p3, p4⟩ := hs9.ia i (by omega)
          obtain ⟨ik, inm, itx, iio, iN, iicap, iko, iK, ikcap, o0, o1, o2, o3, o4⟩ := HO.out.2 j (by omega)
          obtain ⟨jk, jnm, jtx, jio, jN, jicap, jko, jK, jkcap, r0, r1, r2, r3, r4⟩ := HO.out.1 i (by omega)
          have z3 := hs9.b3
          have z4 := hs9.b4
          have y3 := hs9.a3
          have zf := hs9.fn
          obtain ⟨l1, l2, l3⟩ := hs9.lt
          subst e1 e2 e3
          rw [o0] at a0; rw [o1] at a1; rw [o2] at a2; rw [o3] at a3; rw [o4] at a4
          rw [r0] at p0; rw [r1] at p1; rw [r2] at p2; rw [r3] at p3; rw [r4] at p4
          have hY1 : ∀ w1, J pre w1 → YieldAt Fence.wide (6 - 1) Try.prog l #[.string (kb j), .agg #[.int .i64 ik, .string inm, .string itx, .slice iio iN iicap, .slice iko iK ikcap]] w1 fun e W' => (e = .returned (.bool true) ∧ J (pre ++ [⟨k, hkU⟩]) W' ∧ KpG n₀ B w1 W') ∨ (e = .returned (.bool false) ∧ Jx (pre ++ [⟨k, hkU⟩]) W') := fun w1 h1 => by
            have h2 := HY.out pre ⟨k, hkU⟩ w1 h1 (by have := congrArg List.length hpre; simp at this; omega)
            unfold encK at h2
            dsimp only at h2
            rw [hx] at h2
            dsimp only [kyU, cU] at h2
            rw [o0, o1, o2, o3, o4] at h2
            exact h2
          have HYY := Hid.mk hY1
          have HPr : Hid ((pre ++ [(⟨k, hkU⟩ : { i : Nat // i < U.length })]).map (·.1) = List.range (k + 1)) := by show _ = _; rw [List.map_append, hpre, List.range_succ]; rfl
          clear hY1 o0 o1 o2 o3 o4 r0 r1 r2 r3 r4 hx
          have n1 : (j : Int) < (L : Int) := by omega
          have n2 : (0 : Int) ≤ (j : Int) := by omega
          have n3 : j < L := by omega
          have n4 : (i : Int) < (K : Int) := by omega
          have n5 : (0 : Int) ≤ (i : Int) := by omega
          have n6 : i < K := by omega
          have nz : n₀ ≤ w9.heap.size := Nat.le_trans hn0 hw9
          gi_upto_region 4 with fail
          have hbd : Below w9.heap.size w9 w9.drew := ⟨rfl, rfl, rfl, Nat.le_refl _, fun _ _ => rfl⟩
          refine wpIn_region_G 18 (S := fun u => Below w9.heap.size w9 u ∧ J pre u) (by kernel_rfl) ⟨hbd, HJ.out _ _ _ none hJp ⟨hbd.os, hbd.tape, hbd.output, hbd.size, fun j hj _ => hbd.block j hj⟩ (fun r e => by cases e)⟩ (fun hS => ?_)
          clear hbd
          refine wpAnyG_take 0 (.func (.yield l) #[] #[]) rfl rfl (by kernel_rfl) (fun _ _ _ h => h) ⟨Or.inl ⟨by rfl, ?_⟩, fun _ => rfl⟩ (by assumption) ?_
          · intro w hSw
            go_simp
          try simp only [Act.put, List.setIfInBounds_toArray, List.set_cons_zero, List.set_cons_succ]
          refine wpAnyG_take 1 (.pointer (some ⟨A2, 4, none⟩)) rfl rfl (by kernel_rfl) (fun _ _ _ h => h) ⟨Or.inl ⟨by rfl, ?_⟩, fun _ => rfl⟩ (by assumption) ?_
          · intro w hSw
            go_simp
          try simp only [Act.put, List.setIfInBounds_toArray, List.set_cons_zero, List.set_cons_succ]
          refine wpAnyG_take 2 (.slice (some ⟨b, off, none⟩) L kcb) rfl rfl (by kernel_rfl) (fun _ _ _ h => h) ⟨Or.inl ⟨by rfl, ?_⟩, fun _ => rfl⟩ (by assumption) ?_
          · intro w hSw
            have hs0 := (hSw.1.cell (p := ⟨_, _, _⟩) (Nat.lt_of_lt_of_le l2 nz)).trans z4
            go_simp
          try simp only [Act.put, List.setIfInBounds_toArray, List.set_cons_zero, List.set_cons_succ]
          refine wpAnyG_take 3 (.int .i64 (j : Int)) rfl rfl (by kernel_rfl) (fun _ _ _ h => h) ⟨Or.inl ⟨by rfl, ?_⟩, fun _ => rfl⟩ (by assumption) ?_
          · intro w hSw
            go_simp
          try simp only [Act.put, List.setIfInBounds_toArray, List.set_cons_zero, List.set_cons_succ]
          refine wpAnyG_take 4 (.pointer (some ⟨b, off + j, none⟩)) rfl rfl (by kernel_rfl) (fun _ _ _ h => h) ⟨Or.inl ⟨by rfl, ?_⟩, fun _ => rfl⟩ (by assumption) ?_
          · intro w hSw
            go_simp
          try simp only [Act.put, List.setIfInBounds_toArray, List.set_cons_zero, List.set_cons_succ]
          refine wpAnyG_take 5 (.string (kb j)) rfl rfl (by kernel_rfl) (fun _ _ _ h => h) ⟨Or.inl ⟨by rfl, ?_⟩, fun _ => rfl⟩ (by assumption) ?_
          · intro w hSw
            have hs0 := (hSw.1.cell (p := ⟨_, _, _⟩) (Nat.lt_of_lt_of_le hb1 nz)).trans q0
            go_simp
          try simp only [Act.put, List.setIfInBounds_toArray, List.set_cons_zero, List.set_cons_succ]
          refine wpAnyG_take 6 (.func (.func 29) #[] #[]) rfl rfl (by kernel_rfl) (fun _ _ _ h => h) ⟨Or.inl ⟨by rfl, ?_⟩, fun _ => rfl⟩ (by assumption) ?_
          · intro w hSw
            have hs0 := (hSw.1.cell (p := ⟨_, _, _⟩) (Nat.lt_of_lt_of_le l3 nz)).trans zf
            go_simp
          try simp only [Act.put, List.setIfInBounds_toArray, List.set_cons_zero, List.set_cons_succ]
          refine wpAnyG_take 7 (.pointer (some ⟨A1, 3, none⟩)) rfl rfl (by kernel_rfl) (fun _ _ _ h => h) ⟨Or.inl ⟨by rfl, ?_⟩, fun _ => rfl⟩ (by assumption) ?_
          · intro w hSw
            go_simp
          try simp only [Act.put, List.setIfInBounds_toArray, List.set_cons_zero, List.set_cons_succ]
          refine wpAnyG_take 8 (.slice (some ⟨b3, off3, none⟩) K ica) rfl rfl (by kernel_rfl) (fun _ _ _ h => h) ⟨Or.inl ⟨by rfl, ?_⟩, fun _ => rfl⟩ (by assumption) ?_
          · intro w hSw
            have hs0 := (hSw.1.cell (p := ⟨_, _, _⟩) (Nat.lt_of_lt_of_le l1 nz)).trans y3
            go_simp
          try simp only [Act.put, List.setIfInBounds_toArray, List.set_cons_zero, List.set_cons_succ]
          refine wpAnyG_take 9 (.int .i64 (i : Int)) rfl rfl (by kernel_rfl) (fun _ _ _ h => h) ⟨Or.inl ⟨by rfl, ?_⟩, fun _ => rfl⟩ (by assumption) ?_
          · intro w hSw
            go_simp
          try simp only [Act.put, List.setIfInBounds_toArray, List.set_cons_zero, List.set_cons_succ]
          refine wpAnyG_take 10 (.pointer (some ⟨b3, off3 + i * 5, none⟩)) rfl rfl (by kernel_rfl) (fun _ _ _ h => h) ⟨Or.inl ⟨by rfl, ?_⟩, fun _ => rfl⟩ (by assumption) ?_
          · intro w hSw
            go_simp
          try simp only [Act.put, List.setIfInBounds_toArray, List.set_cons_zero, List.set_cons_succ]
          refine wpAnyG_take 11 (.agg #[.int .i64 jk, .string jnm, .string jtx, .slice jio jN jicap, .slice jko jK jkcap]) rfl rfl (by kernel_rfl) (fun _ _ _ h => h) ⟨Or.inl ⟨by rfl, ?_⟩, fun _ => rfl⟩ (by assumption) ?_
          · intro w hSw
            have hs0 := (hSw.1.cell (p := ⟨_, _, _⟩) (Nat.lt_of_lt_of_le hb3 nz)).trans p0
            have hs1 := (hSw.1.cell (p := ⟨_, _, _⟩) (Nat.lt_of_lt_of_le hb3 nz)).trans p1
            have hs2 := (hSw.1.cell (p := ⟨_, _, _⟩) (Nat.lt_of_lt_of_le hb3 nz)).trans p2
            have hs3 := (hSw.1.cell (p := ⟨_, _, _⟩) (Nat.lt_of_lt_of_le hb3 nz)).trans p3
            have hs4 := (hSw.1.cell (p := ⟨_, _, _⟩) (Nat.lt_of_lt_of_le hb3 nz)).trans p4
            go_simp
          try simp only [Act.put, List.setIfInBounds_toArray, List.set_cons_zero, List.set_cons_succ]
          refine wpAnyG_take 12 (.pointer (some ⟨A2, 3, none⟩)) rfl rfl (by kernel_rfl) (fun _ _ _ h => h) ⟨Or.inl ⟨by rfl, ?_⟩, fun _ => rfl⟩ (by assumption) ?_
          · intro w hSw
            go_simp
          try simp only [Act.put, List.setIfInBounds_toArray, List.set_cons_zero, List.set_cons_succ]
          refine wpAnyG_take 13 (.slice (some ⟨b2, off2, none⟩) L icb) rfl rfl (by kernel_rfl) (fun _ _ _ h => h) ⟨Or.inl ⟨by rfl, ?_⟩, fun _ => rfl⟩ (by assumption) ?_
          · intro w hSw
            have hs0 := (hSw.1.cell (p := ⟨_, _, _⟩) (Nat.lt_of_lt_of_le l2 nz)).trans z3
            go_simp
          try simp only [Act.put, List.setIfInBounds_toArray, List.set_cons_zero, List.set_cons_succ]
          refine wpAnyG_take 14 (.int .i64 (j : Int)) rfl rfl (by kernel_rfl) (fun _ _ _ h => h) ⟨Or.inl ⟨by rfl, ?_⟩, fun _ => rfl⟩ (by assumption) ?_
          · intro w hSw
            go_simp
          try simp only [Act.put, List.setIfInBounds_toArray, List.set_cons_zero, List.set_cons_succ]
          refine wpAnyG_take 15 (.pointer (some ⟨b2, off2 + j * 5, none⟩)) rfl rfl (by kernel_rfl) (fun _ _ _ h => h) ⟨Or.inl ⟨by rfl, ?_⟩, fun _ => rfl⟩ (by assumption) ?_
          · intro w hSw
            go_simp
          try simp only [Act.put, List.setIfInBounds_toArray, List.set_cons_zero, List.set_cons_succ]
          refine wpAnyG_take 16 (.agg #[.int .i64 ik, .string inm, .string itx, .slice iio iN iicap, .slice iko iK ikcap]) rfl rfl (by kernel_rfl) (fun _ _ _ h => h) ⟨Or.inl ⟨by rfl, ?_⟩, fun _ => rfl⟩ (by assumption) ?_
          · intro w hSw
            have hs0 := (hSw.1.cell (p := ⟨_, _, _⟩) (Nat.lt_of_lt_of_le hb2 nz)).trans a0
            have hs1 := (hSw.1.cell (p := ⟨_, _, _⟩) (Nat.lt_of_lt_of_le hb2 nz)).trans a1
            have hs2 := (hSw.1.cell (p := ⟨_, _, _⟩) (Nat.lt_of_lt_of_le hb2 nz)).trans a2
            have hs3 := (hSw.1.cell (p := ⟨_, _, _⟩) (Nat.lt_of_lt_of_le hb2 nz)).trans a3
            have hs4 := (hSw.1.cell (p := ⟨_, _, _⟩) (Nat.lt_of_lt_of_le hb2 nz)).trans a4
            go_simp
          try simp only [Act.put, List.setIfInBounds_toArray, List.set_cons_zero, List.set_cons_succ]
          clear z3 z4 y3 zf q0 a0 a1 a2 a3 a4 p0 p1 p2 p3 p4
          refine wpAnyG_one (i := 17) (o := _) (by kernel_rfl) rfl (fun K1 hK1 => ?_)
          rw [if_pos (by rfl)]
          refine wpIn_of_enter rfl (fun _ => by decide) (fun _ _ => trivial) (by kernel_rfl) (callsIn_wide.2 ((w_second jk jnm jtx jio jN jicap jko jK jkcap ik inm itx iio iN iicap iko iK ikcap w9.drew).mono ?_))
          rintro e u ⟨rfl, hbu⟩
          have hbu2 : Below w9.heap.size w9 u := hS.1.trans (hbu.mono hS.1.size)
          have hSu : Below w9.heap.size w9 u ∧ J pre u := ⟨hbu2, HJ.out _ _ _ none hJp ⟨hbu2.os, hbu2.tape, hbu2.output, hbu2.size, fun j hj _ => hbu2.block j hj⟩ (fun r e => by cases e)⟩
          refine ⟨_, rfl, hK1 _ _ (fun _ _ => hSu) ?_⟩
          clear hK1 K1 hbu hbu2 hS
          try simp only [Act.put, List.setIfInBounds_toArray, List.set_cons_zero, List.set_cons_succ]
          refine wpAnyG_one (i := 18) (o := _) (by kernel_rfl) rfl (fun K2 hK2 => ?_)
          have hYS := HYY.out _ hSu.2
          rw [if_pos (by rfl)]
          have hSk : ∀ {W4 : World}, KpG n₀ B u W4 → UnS W4 n₀ A1 A2 A3 K L koa kca (some ⟨b3, off3, none⟩) ica (some ⟨b, off, none⟩) kcb (some ⟨b2, off2, none⟩) icb ka kb ca cb := fun hk => hs9.keep ((hSu.1.mono nz).trans hk.below)
          have hZk : ∀ {W4 : World}, KpG n₀ B u W4 → W.heap.size ≤ W4.heap.size := fun hk => Nat.le_trans hw9 (Nat.le_trans hSu.1.size hk.below.size)
          clear hs9 hSu
          refine wpIn_of_yield rfl (fun _ => by decide) (by kernel_rfl) (by kernel_rfl) hYS ?_
          clear hYS
          rintro e W4 (⟨rfl, hJ4, hk4⟩ | ⟨rfl, hJx4⟩)
          · have HE : Hid ((true = true → UnS W4 n₀ A1 A2 A3 K L koa kca (some ⟨b3, off3, none⟩) ica (some ⟨b, off, none⟩) kcb (some ⟨b2, off2, none⟩) icb ka kb ca cb ∧ W.heap.size ≤ W4.heap.size ∧ ∃ f, (K - (i + 1)) + (L - (j + 1)) ≤ f ∧ U.drop (k + 1) = uniF ka kb K L f (i + 1) (j + 1) ∧ ∃ pre : List { i : Nat // i < U.length }, pre.map (·.1) = List.range (k + 1) ∧ J pre W4) ∧ (true = false → ∃ pre, Jx pre W4)) := ⟨fun _ => ⟨hSk hk4, hZk hk4, f, hf, hd, _, HPr.out, hJ4⟩, by intro h; cases h⟩
            clear hJ4 hk4 hSk hZk hd
            refine ⟨_, rfl, hK2 _ _ (fun _ h => absurd rfl h) ?_⟩
            try simp only [Act.put, List.setIfInBounds_toArray, List.set_cons_zero, List.set_cons_succ]
            refine wpAnyG_one (i := 19) (o := _) (by kernel_rfl) rfl (fun K3 hK3 => ?_)
            rw [if_pos (by rfl)]
            refine wpIn_of_value (.bool true) rfl (by kernel_rfl) (by kernel_rfl) (hK3 _ _ (fun h => absurd h (by decide)) ?_)
            try simp only [Act.put, List.setIfInBounds_toArray, List.set_cons_zero, List.set_cons_succ]
            refine wpAnyG_done (by kernel_rfl) ?_ _
            clear hK2 hK3 K2 K3
            gi_wp2_with fail
            go_roundw
            case rel => exact ⟨i + 1, j + 1, k + 1, true, by go_num, by go_num, rfl, by omega, by omega, HE⟩
            case measure => simp [intOf]; omega
          · have HE : Hid ((false = true → UnS W4 n₀ A1 A2 A3 K L koa kca (some ⟨b3, off3, none⟩) ica (some ⟨b, off, none⟩) kcb (some ⟨b2, off2, none⟩) icb ka kb ca cb ∧ W.heap.size ≤ W4.heap.size ∧ ∃ f, (K - (i + 1)) + (L - (j + 1)) ≤ f ∧ U.drop (k + 1) = uniF ka kb K L f (i + 1) (j + 1) ∧ ∃ pre : List { i : Nat // i < U.length }, pre.map (·.1) = List.range (k + 1) ∧ J pre W4) ∧ (false = false → ∃ pre, Jx pre W4)) := ⟨(by intro h; cases h), fun _ => ⟨_, hJx4⟩⟩
            clear hJx4 hSk hZk hd
            refine ⟨_, rfl, hK2 _ _ (fun _ h => absurd rfl h) ?_⟩
            try simp only [Act.put, List.setIfInBounds_toArray, List.set_cons_zero, List.set_cons_succ]
            refine wpAnyG_one (i := 19) (o := _) (by kernel_rfl) rfl (fun K3 hK3 => ?_)
            rw [if_pos (by rfl)]
            refine wpIn_of_value (.bool false) rfl (by kernel_rfl) (by kernel_rfl) (hK3 _ _ (fun h => absurd h (by decide)) ?_)
            try simp only [Act.put, List.setIfInBounds_toArray, List.set_cons_zero, List.set_cons_succ]
            refine wpAnyG_done (by kernel_rfl) ?_ _
            clear hK2 hK3 K2 K3
            gi_wp2_with fail
            go_roundw
            case rel => exact ⟨i + 1, j + 1, k + 1, false, by go_num, by go_num, rfl, by omega, by omega, HE⟩
            case measure => simp [intOf]; omega
      · have h1 : ¬ (i : Int) < (K : Int) := by omega
        have h2 : ¬ (j : Int) < (L : Int) := by omega
        have HF : Hid (∃ xs : List { i : Nat // i < U.length }, xs.map (·.1) = List.range U.length ∧ J xs wr) := by
          obtain ⟨_, _, f, _, hd, pre, hp, hJp⟩ := HQ.out.1 rfl
          have e : uniF ka kb K L f i j = [] := by
            cases f with
            | zero => rfl
            | succ f => rw [uniF, if_neg hlt]
          rw [e] at hd
          have hl : k = U.length := by
            have h1 : U.length ≤ k := List.drop_eq_nil_iff.1 hd
            have h2 : pre.length = k := by have := congrArg List.length hp; simpa using this
            rcases Nat.lt_or_ge U.length k with h3 | h3
            · have : U.length ∈ pre.map (·.1) := by rw [hp]; simpa using h3
              obtain ⟨x, _, hx⟩ := List.mem_map.1 this
              exact absurd x.2 (by omega)
            · omega
          exact ⟨pre, by rw [hp, hl], hJp⟩
        gi_wp2_with fail
        go_end0
        exact ⟨⟨_, rfl⟩, .inl HF.out⟩
end Go.Proofs.Ytbaknnpjbokilaa
