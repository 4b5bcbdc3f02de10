import Derived.Test.YtfjmgccbpiolhaaGreatDoorM47
import Derived.Lib.QuietBelow
import Derived.BigQuiet
namespace Go.Proofs.YtfjmgccbpiolhaaGreatDoor
open Go.RowKit Go.Shelf Go.Sort
set_option linter.unusedVariables false
set_option linter.unusedSimpArgs false
attribute [local go_sem] Oper.semAt_some

theorem InD.toHW {D : Nat → Prop} {W : World} : ∀ {h : Nat} {T : VT} {v : Value}, InD D W h T v → InH W h T v
  | 0, _, _, h => h
  | h + 1, T, v, hI => by
    obtain ⟨io, icap, ko, kcap, e, a1, a2, a3, a4, a5, a6, a7, hk, hi⟩ := hI
    refine ⟨io, icap, ko, kcap, e, a1, a2, a3, a4, a5, a6, a7, ⟨fun h0 => ?_⟩, fun h0 => ?_⟩
    · obtain ⟨b, off, e2, _, hl, hc⟩ := hk h0
      exact ⟨b, off, e2, hl, hc⟩
    · obtain ⟨b, off, e2, _, hl, hc⟩ := hi h0
      refine ⟨b, off, e2, hl, fun i hil => ?_⟩
      obtain ⟨v0, v1, v2, v3, v4, c, ht⟩ := hc i hil
      exact ⟨v0, v1, v2, v3, v4, c, InD.toHW ht⟩
theorem mn_at {Vb lo H k cap : Nat} {io : Option Addr} {c : Nat → Fin 5 → Value} {xs : List VT} {w : World} (h : MnC Vb lo H k io cap c xs w) (hk : 0 < k) : ∃ g, io = some ⟨g, 0, none⟩ ∧ k ≤ cap ∧ g < w.heap.size ∧ ∀ i, i < k → ∀ j : Fin 5, w.cell? ⟨g, i * 5 + j.1, none⟩ = some (c i j) := by
  rcases id h.own.2 with ⟨e, h0⟩ | ⟨g, cap', cur, e, e1, e2, e3, e4, e5, e6⟩
  · omega
  · simp only [Value.slice.injEq] at e
    obtain ⟨rfl, _, rfl⟩ := e
    refine ⟨g, rfl, e3, (Array.getElem?_eq_some_iff.1 e2).1, fun i hi j => ?_⟩
    have hu := flat_get c k i j hi
    have hc : w.cell? ⟨g, i * 5 + j.1, none⟩ = cur[i * 5 + j.1]? := cell_of_row _ _ _ _ _ _ e2
    rw [hc]
    rw [← e6, List.getElem?_take] at hu
    split at hu
    · rw [← Array.getElem?_toList]; exact hu
    · cases hu
theorem join3 (a b : ByteArray) : (a ++ ⟨#[32]⟩ ++ b ++ ⟨#[10]⟩ : ByteArray).data.toList = a.data.toList ++ 32 :: (b ++ ⟨#[10]⟩ : ByteArray).data.toList := by simp
theorem onl_pb {s : ByteArray} {e q : Nat} (ss : s.size ≤ 1073741824) (h : onlL s.data.toList (vL s) 0 = .bad e q) : e ≠ 0 ∧ q ≤ s.size := by
  have hl : s.data.toList.length = s.size := size_lst s
  unfold onlL at h
  split at h
  · next e1 q1 hm =>
    injection h with h1 h2
    subst h1 h2
    exact ⟨must_nz _ _ _ _ hm, by rw [← hl]; exact must_pb _ _ _ _ hm⟩
  · next t p1 hm =>
    have hup := mustL_up (l := s.data.toList) (Nat.zero_le _) hm
    split at h
    · next e1 q1 hv =>
      injection h with h1 h2
      subst h1 h2
      refine ⟨val_nz ss 64 1 rfl t p1 (by rw [← hl]; exact hup.2) _ _ hv, by rw [← hl]; exact val_pb 64 1 _ _ (must_at hm) _ _ hv⟩
    · next T q1 hv =>
      unfold endL at h
      split at h
      · next h3 =>
        split at h
        · injection h with h1 h2
          subst h1 h2
          exact ⟨by omega, by rw [← hl]; exact (nextT_le h3).1⟩
        · next h4 =>
          injection h with h1 h2
          subst h1 h2
          exact ⟨h4, by rw [← hl]; exact (nextT_le h3).1⟩
      · cases h

set_option maxRecDepth 100000 in
set_option maxHeartbeats 6400000 in
theorem w_WholeBytes (s : ByteArray) (ss : s.size ≤ 1048576) (w : World) (hwd : WordsAt w) (hE : ErrIn w) :
    Calls Tryz.prog 4 #[.string s] w fun e w' => e = .returned (.bool true) ∧ Below w.heap.size w w' := by
  have HOs := Hid.mk (w_One5 s (by omega) w hE)
  cases hon : onlL s.data.toList (vL s) 0 with
  | bad er q =>
    obtain ⟨hnz, hqs⟩ := onl_pb (by omega) hon
    rw [hon] at HOs
    have g1 : (((er : Nat) : Int) == 0) = false := by rw [beq_eq_false_iff_ne]; omega
    have g2 : ¬ (er : Int) = 0 := by omega
    have g3 : (q : Int) ≤ (s.size : Int) := by omega
    have g4 : (0 : Int) ≤ (q : Int) := by omega
    clear hon hnz hqs hwd hE ss
    go_enter Tryz.func4, Tryz.ntmps4
    go_wp2_with fail
    refine HOs.out.mono ?_
    rintro e w1 ⟨hb1, he⟩
    have he' : e = .returned (.tuple #[v0V, .int .i64 (er : Int), .int .i64 (q : Int)]) := he
    subst he'
    have HB1 := Hid.mk hb1
    have HB2 := Hid.mk (hb1.trans ((below1 w1 (.cells #[.int .i64 0, .string ⟨#[]⟩, .string ⟨#[]⟩, .slice none 0 0, .slice none 0 0] 49)).mono hb1.size))
    clear hb1 HOs he
    unfold v0V
    go_wp2_with fail
    refine bodyPost_ret (v := .bool true) (by simp [results, Tryz.results4, go_sem]) rfl ?_
    exact ⟨rfl, HB2.out⟩
  | ok T q =>
    obtain ⟨hbl, hsz, hrt⟩ := onl_wt hon
    obtain ⟨H, hH⟩ : ∃ H, 64 + 1 = H := ⟨_, rfl⟩
    have hf65 : formN H T = true := by rw [← hH]; exact (rt_form 64 T hrt).1
    have hd65 : dpN H T ≤ 64 := by rw [← hH]; exact (rt_form 64 T hrt).2
    have hbl' : blN H T ≤ s.size := by rw [← hH]; exact hbl
    have hsz' : szN H T ≤ s.size := by rw [← hH]; exact hsz
    have toH : ∀ {W : World} {v : Value}, InH W (64 + 1) T v → InH W H T v := fun h => by rw [← hH]; exact h
    clear hbl hsz hrt hH
    have hsh : ShV H T := bl_sh H T (by omega)
    have he1 := each_one (by omega) hon
    rw [hon] at HOs
    obtain ⟨A, hA⟩ : ∃ A : ByteArray, A = ⟨(wrV none H 0 T).toArray⟩ := ⟨_, rfl⟩
    have el : A.data.toList = wrV none H 0 T := by rw [hA]
    have hln := wr_len0 H T 0 hf65
    have hAz : A.size ≤ 27262976 := by
      have h1 : A.data.toList.length = A.size := size_lst A
      rw [el] at h1
      omega
    obtain ⟨q2, hq2⟩ := one_wr hf65 hsh hd65 el
    have hB10 : (A ++ ⟨#[10]⟩ : ByteArray).size = A.size + 1 := by rw [ByteArray.size_append]; rfl
    have hM : (s ++ ⟨#[32]⟩ ++ A ++ ⟨#[10]⟩ : ByteArray).size = s.size + 1 + A.size + 1 := by rw [ByteArray.size_append, ByteArray.size_append, ByteArray.size_append]; rfl
    have hM2 : (s ++ ⟨#[32]⟩ ++ A : ByteArray).size = s.size + 1 + A.size := by rw [ByteArray.size_append, ByteArray.size_append]; rfl
    have hM1 : (s ++ ⟨#[32]⟩ : ByteArray).size = s.size + 1 := by rw [ByteArray.size_append]; rfl
    have he2 := each_wr hf65 hsh hd65 (b := A ++ ⟨#[10]⟩) (by omega) (by rw [← el]; simp)
    obtain ⟨hj1, hj2⟩ := each_join s (A ++ ⟨#[10]⟩) (s ++ ⟨#[32]⟩ ++ A ++ ⟨#[10]⟩) (join3 s A) (by omega) (by omega) (by omega) he1 he2
    have HTx : Hid (∀ u v, InH u H T v → WordsAt u → Calls Tryz.prog 8 #[v] u fun e w' => e = .returned (.tuple #[.string A, .int .i64 0]) ∧ Below u.heap.size u w') := fun u v hv hu => by
      obtain ⟨k, n, t, io, a, ic, ko, b, kc, rfl⟩ := inH_shapeW hv
      refine (w_TextB H T u _ _ _ _ _ _ _ _ _ hv hsh (by omega) hu).mono ?_
      rintro e w' ⟨he, hb⟩
      exact ⟨by rw [he, if_pos hf65, if_pos hf65, hA], hb⟩
    have HOt : Hid (∀ u, ErrIn u → Calls Tryz.prog 17 #[.string A] u fun e w' => Below u.heap.size u w' ∧ ∃ v, e = .returned (.tuple #[v, .int .i64 0, .int .i64 0]) ∧ InH w' H T v) := fun u hu => by
      refine (w_One5 A (by omega) u hu).mono ?_
      rintro e2 w' ⟨hb2, hm⟩
      rw [hq2] at hm
      obtain ⟨v, rfl, hF⟩ := hm
      exact ⟨hb2, v, rfl, toH hF.toH⟩
    have HFm : Hid (∀ u v, InH u H T v → Calls Tryz.prog 18 #[v] u fun e w' => e = .returned (.bool true) ∧ Below u.heap.size u w') := fun u v hv => (w_rFormed H T v u hv).mono fun e w' ⟨he, hb⟩ => ⟨by rw [he, hf65], hb⟩
    have HSm : Hid (∀ u v x, InH u H T v → InH u H T x → Calls Tryz.prog 19 #[v, x] u fun e w' => e = .returned (.bool true) ∧ Below u.heap.size u w') := fun u v x hv hx => w_rSame H T v x u hv hx hf65
    obtain ⟨J, hJ⟩ : ∃ J : ByteArray, s ++ ⟨#[32]⟩ ++ A ++ ⟨#[10]⟩ = J := ⟨_, rfl⟩
    rw [hJ] at hj1 hj2 hM
    have hJz : J.size ≤ 1073741824 := by omega
    obtain ⟨R, hR⟩ : ∃ R, eachL J.data.toList (vL J) (J.size + 1) [] 0 = R := ⟨_, rfl⟩
    rw [hR] at hj1 hj2
    have HMn : Hid (∀ u, ErrIn u → Calls Tryz.prog 20 #[.string J] u fun e w' => Below u.heap.size u w' ∧ ∃ io cap c, e = .returned (.tuple #[.slice io 2 cap, .int .i64 0, .int .i64 0]) ∧ MnC u.heap.size (u.heap.size + 1 + 1 + 1) 64 2 io cap c [T, T] w') := fun u hu => by
      have h0 := w_Many5 J hJz u hu
      rw [hR] at h0
      refine h0.mono ?_
      rintro e w' ⟨hb, hm⟩
      refine ⟨hb, ?_⟩
      rcases hm with ⟨_, k, io, cap, c, rfl, hM⟩ | ⟨h0, _⟩
      · rw [hj1] at hM
        have hk : 2 = k := hM.len
        subst hk
        exact ⟨io, cap, c, rfl, hM⟩
      · exact absurd hj2 h0
    rw [← hJ] at HMn
    clear hR hJ hJz
    have n1 : ¬ 9223372036854775807 < s.size + 1 := by omega
    have n2 : ¬ (9223372036854775807 : Int) < (s.size : Int) + 1 := by omega
    have n3 : ¬ 9223372036854775807 < s.size + 1 + A.size := by omega
    have n4 : ¬ (9223372036854775807 : Int) < (s.size : Int) + 1 + (A.size : Int) := by omega
    have n5 : ¬ 9223372036854775807 < (s ++ ⟨#[32]⟩ : ByteArray).size + A.size := by omega
    have n6 : ¬ (9223372036854775807 : Int) < ((s ++ ⟨#[32]⟩ : ByteArray).size : Int) + (A.size : Int) := by omega
    have n7 : ¬ 9223372036854775807 < (s ++ ⟨#[32]⟩ ++ A : ByteArray).size + 1 := by omega
    have n8 : ¬ (9223372036854775807 : Int) < ((s ++ ⟨#[32]⟩ ++ A : ByteArray).size : Int) + 1 := by omega
    have n9 : ¬ 9223372036854775807 < s.size + 1 + A.size + 1 := by omega
    have n0 : ¬ (9223372036854775807 : Int) < (s.size : Int) + 1 + (A.size : Int) + 1 := by omega
    have HE := Hid.mk hE
    have HW := Hid.mk hwd
    clear hE hwd hA el hln hq2 hB10 hM hM1 hM2 he1 he2 hj1 hj2 hf65 hd65 hsh hbl' hsz' hon hAz ss
    go_enter Tryz.func4, Tryz.ntmps4
    go_wp2_with fail
    refine HOs.out.mono ?_
    rintro e w1 ⟨hb1, v1, rfl, hv1⟩
    have HB1 := Hid.mk hb1
    have HI1 := Hid.mk (toH hv1.toH)
    obtain ⟨k, n, t, io, N, ic, ko, K, kc, rfl⟩ := inH_shapeW HI1.out
    have HX := Hid.mk (vbx_new w1 (.int .i64 k) (.string n) (.string t) (.slice io N ic) (.slice ko K kc))
    obtain ⟨W2, hW2⟩ : ∃ W2, w1.alloc (.cells #[.int .i64 k, .string n, .string t, .slice io N ic, .slice ko K kc] 49) = W2 := ⟨_, rfl⟩
    rw [hW2] at HX
    obtain ⟨_, c0, c1, c2, c3, c4, _⟩ := HX.out
    have HT2 := Hid.mk (HTx.out W2 _ (HI1.out.keep HX.out.below) ((HW.out.keep HB1.out).keep HX.out.below))
    clear hb1 hv1 HOs HTx
    go_wp2_with fail
    refine HT2.out.mono ?_
    rintro e w3 ⟨rfl, hb3⟩
    have HX3 := Hid.mk (HX.out.keep hb3)
    clear hb3 HX c0 c1 c2 c3 c4 hW2 HT2
    have HO3 := Hid.mk (HOt.out w3 ((HE.out.keep HB1.out).keep HX3.out.below))
    go_wp2_with fail
    refine HO3.out.mono ?_
    rintro e w4 ⟨hb4, va, rfl, hva⟩
    obtain ⟨ak, an, at_, aio, aa, aic, ako, ab, akc, rfl⟩ := inH_shapeW hva
    obtain ⟨W5, hW5⟩ : ∃ W5, w4.alloc (.cells #[.int .i64 ak, .string an, .string at_, .slice aio aa aic, .slice ako ab akc] 49) = W5 := ⟨_, rfl⟩
    have hb5 : Below w4.heap.size w4 W5 := by rw [← hW5]; exact below1 w4 _
    have HY5 : Hid (W5.heap[w4.heap.size]? = some (.cells #[.int .i64 ak, .string an, .string at_, .slice aio aa aic, .slice ako ab akc] 49 (0, 0))) := by show _ = _; rw [← hW5]; exact heap_alloc_new w4 _
    have HX5 := Hid.mk ((HX3.out.keep hb4).keep hb5)
    have HV5 := Hid.mk (hva.keep hb5)
    have HF5 := Hid.mk (HFm.out W5 _ (HI1.out.keep HX5.out.below))
    obtain ⟨_, c0, c1, c2, c3, c4, _⟩ := HX5.out
    clear hb4 hb5 hva HX3 HO3 HOt HFm
    go_wp2_with fail
    refine HF5.out.mono ?_
    rintro e w6 ⟨rfl, hb6⟩
    have HX6 := Hid.mk (HX5.out.keep hb6)
    have HY6 : Hid (w6.heap[w4.heap.size]? = some (.cells #[.int .i64 ak, .string an, .string at_, .slice aio aa aic, .slice ako ab akc] 49 (0, 0))) := heap_lowT hb6 (Array.getElem?_eq_some_iff.1 HY5.out).1 HY5.out
    have HS6 := Hid.mk (HSm.out w6 _ _ (HI1.out.keep HX6.out.below) (HV5.out.keep hb6))
    clear hb6 c0 c1 c2 c3 c4 hW5 HX5 HY5 HV5 HF5
    obtain ⟨y0, y1, y2, y3, y4, _⟩ := vbox_cells HY6.out
    obtain ⟨_, c0, c1, c2, c3, c4, _⟩ := HX6.out
    go_wp2_with fail
    refine HS6.out.mono ?_
    rintro e w7 ⟨rfl, hb7⟩
    have HX7 := Hid.mk (HX6.out.keep hb7)
    have HM7 := Hid.mk (HMn.out w7 ((HE.out.keep HB1.out).keep HX7.out.below))
    clear hb7 c0 c1 c2 c3 c4 y0 y1 y2 y3 y4 HX6 HY6 HS6 HMn
    go_wp2_with fail
    refine HM7.out.mono ?_
    rintro e w8 ⟨hb8, mo, mc, cc, rfl, hM⟩
    have HX8 := Hid.mk (HX7.out.keep hb8)
    obtain ⟨g, rfl, hcap, hgl, hcl⟩ := mn_at hM (by omega)
    have hA0 : InH w8 H T (.agg #[cc 0 0, cc 0 1, cc 0 2, cc 0 3, cc 0 4]) := toH (hM.trees 0 (by show 0 < 2; omega)).toHW
    have hA1 : InH w8 H T (.agg #[cc 1 0, cc 1 1, cc 1 2, cc 1 3, cc 1 4]) := toH (hM.trees 1 (by show 1 < 2; omega)).toHW
    have HA0 := Hid.mk hA0
    have HA1 := Hid.mk hA1
    have a0 : w8.cell? ⟨g, 0, none⟩ = some (cc 0 0) := hcl 0 (by omega) 0
    have a1 : w8.cell? ⟨g, 1, none⟩ = some (cc 0 1) := hcl 0 (by omega) 1
    have a2 : w8.cell? ⟨g, 2, none⟩ = some (cc 0 2) := hcl 0 (by omega) 2
    have a3 : w8.cell? ⟨g, 3, none⟩ = some (cc 0 3) := hcl 0 (by omega) 3
    have a4 : w8.cell? ⟨g, 4, none⟩ = some (cc 0 4) := hcl 0 (by omega) 4
    have b0 : w8.cell? ⟨g, 5, none⟩ = some (cc 1 0) := hcl 1 (by omega) 0
    have b1 : w8.cell? ⟨g, 6, none⟩ = some (cc 1 1) := hcl 1 (by omega) 1
    have b2 : w8.cell? ⟨g, 7, none⟩ = some (cc 1 2) := hcl 1 (by omega) 2
    have b3 : w8.cell? ⟨g, 8, none⟩ = some (cc 1 3) := hcl 1 (by omega) 3
    have b4 : w8.cell? ⟨g, 9, none⟩ = some (cc 1 4) := hcl 1 (by omega) 4
    obtain ⟨pk0, pn, pt, po, pN, pc, pk, pK, pkc, s0, s1, s2, s3, s4⟩ := hA0.shape
    obtain ⟨qk0, qn, qt, qo, qN, qc, qk, qK, qkc, r0, r1, r2, r3, r4⟩ := hA1.shape
    rw [s0] at a0 HA0
    rw [s1] at a1 HA0
    rw [s2] at a2 HA0
    rw [s3] at a3 HA0
    rw [s4] at a4 HA0
    rw [r0] at b0 HA1
    rw [r1] at b1 HA1
    rw [r2] at b2 HA1
    rw [r3] at b3 HA1
    rw [r4] at b4 HA1
    obtain ⟨_, c0, c1, c2, c3, c4, _⟩ := HX8.out
    have HC0 := Hid.mk (fun (d : Nat) (os : Array Obj) => HSm.out (grow (redrawn w8 d) os) _ _ (HA0.out.keep (below_regrown w8 d os)) ((HI1.out.keep HX8.out.below).keep (below_regrown w8 d os)))
    have HC1 := Hid.mk (fun (d : Nat) (os : Array Obj) => HSm.out (grow (redrawn w8 d) os) _ _ (HA1.out.keep (below_regrown w8 d os)) ((HI1.out.keep HX8.out.below).keep (below_regrown w8 d os)))
    have HBw : Hid (Below w.heap.size w w8) := HB1.out.trans (HX8.out.below.mono HB1.out.size)
    have Ra0 := fun d os => cell_regrown a0 d os
    have Ra1 := fun d os => cell_regrown a1 d os
    have Ra2 := fun d os => cell_regrown a2 d os
    have Ra3 := fun d os => cell_regrown a3 d os
    have Ra4 := fun d os => cell_regrown a4 d os
    have Rb0 := fun d os => cell_regrown b0 d os
    have Rb1 := fun d os => cell_regrown b1 d os
    have Rb2 := fun d os => cell_regrown b2 d os
    have Rb3 := fun d os => cell_regrown b3 d os
    have Rb4 := fun d os => cell_regrown b4 d os
    have Rc0 := fun d os => cell_regrown c0 d os
    have Rc1 := fun d os => cell_regrown c1 d os
    have Rc2 := fun d os => cell_regrown c2 d os
    have Rc3 := fun d os => cell_regrown c3 d os
    have Rc4 := fun d os => cell_regrown c4 d os
    clear hb8 hM hcl hA0 hA1 a0 a1 a2 a3 a4 b0 b1 b2 b3 b4 c0 c1 c2 c3 c4 s0 s1 s2 s3 s4 r0 r1 r2 r3 r4 HM7 n1 n2 n3 n4 n5 n6 n7 n8 n9 n0
    go_wp2_with fail
    refine wp_region_quiet_below (by kernel_rfl) (by kernel_rfl) ?_
    repeat (go_big_quiet_step (first | exact Calls.regrown_of (HC0.out _ _) | exact Calls.regrown_of (HC1.out _ _)))
    refine wpQuiet_nil ?_
    intro wz hw'
    have HBz : Hid (Below w.heap.size w wz) := by
      obtain ⟨⟨dq, osq⟩, rfl⟩ := hw'
      exact HBw.out.trans ((below_regrown w8 dq osq).mono HBw.out.size)
    clear hw'
    go_wp2_with fail
    refine bodyPost_ret (v := .bool true) (by simp [results, Tryz.results4, go_sem]) rfl ?_
    exact ⟨rfl, HBz.out⟩
end Go.Proofs.YtfjmgccbpiolhaaGreatDoor
