import Derived.Test.YtcbngdkekdhfeaaGreatDoorZB2
import Derived.Test.YtcbngdkekdhfeaaGreatDoorZRR19
import Derived.Lib.QuietBelow
import Derived.BigQuiet
namespace Go.Proofs.YtcbngdkekdhfeaaGreatDoor
open Go.RowKit Go.Shelf Go.Sort
set_option linter.unusedVariables false
set_option linter.unusedSimpArgs false
attribute [local go_sem] Oper.semAt_some

def one1 (s : ByteArray) : VT × Nat := match onlL s.data.toList (vL s) 0 with
  | .ok T _ => (T, 0)
  | .bad e _ => (.mk 0 .empty .empty [] [], e)
def man1 (s : ByteArray) : List VT × Nat := if (eachL s.data.toList (vL s) (s.size + 1) [] 0).2.1 = 0 then ((eachL s.data.toList (vL s) (s.size + 1) [] 0).1, 0) else ([], (eachL s.data.toList (vL s) (s.size + 1) [] 0).2.1)
theorem inH_zero (w : World) (h : Nat) : InH w (h + 1) (.mk 0 .empty .empty [] []) v0V :=
  ⟨none, 0, none, 0, rfl, Nat.zero_le _, Nat.zero_le _, Nat.zero_le _, Nat.zero_le _, Nat.le_refl _, Nat.le_refl _, (fun k hk => by cases hk), ⟨fun h0 => absurd h0 (by show ¬ 0 < 0; omega)⟩, fun h0 => absurd h0 (by show ¬ 0 < 0; omega)⟩
theorem w_OneS (s : ByteArray) (ss : s.size ≤ 16777216) (w : World) (hE : ErrIn w) : Calls Tryz.prog 9 #[.string s] w fun e w' => Below w.heap.size w w' ∧ ∃ v pl, e = .returned (.tuple #[v, .int .i64 ((one1 s).2 : Int), .int .i64 pl]) ∧ InH w' 65 (one1 s).1 v := by
  refine (w_One5 s ss w hE).mono ?_
  rintro e w' ⟨hb, hm⟩
  refine ⟨hb, ?_⟩
  unfold one1
  cases hr : onlL s.data.toList (vL s) 0 with
  | ok T q =>
    rw [hr] at hm
    obtain ⟨v, rfl, hF⟩ := hm
    exact ⟨v, 0, rfl, hF.toH⟩
  | bad er q =>
    rw [hr] at hm
    dsimp only at hm
    subst hm
    exact ⟨v0V, _, rfl, inH_zero w' 64⟩
theorem w_ManyS (s : ByteArray) (ss : s.size ≤ 16777216) (w : World) (hE : ErrIn w) : Calls Tryz.prog 17 #[.string s] w fun e w' => Below w.heap.size w w' ∧ ∃ io k cap pl, e = .returned (.tuple #[.slice io k cap, .int .i64 ((man1 s).2 : Int), .int .i64 pl]) ∧ VRw w' 65 (man1 s).1 io ∧ (man1 s).1.length = k ∧ k ≤ cap := by
  refine (w_Many5 s ss w hE).mono ?_
  rintro e w' ⟨hb, hm⟩
  refine ⟨hb, ?_⟩
  unfold man1
  rcases hm with ⟨h0, k, io, cap, c, rfl, hM⟩ | ⟨h0, rfl⟩
  · obtain ⟨hV, hc⟩ := VRw.of hM.len hM.own hM.trees
    rw [if_pos h0]
    exact ⟨io, k, cap, 0, rfl, hV, hM.len, hc⟩
  · rw [if_neg h0]
    exact ⟨none, 0, 0, _, rfl, VRw.nil _ _ _, rfl, Nat.le_refl _⟩
theorem man1_len (s : ByteArray) (ss : s.size ≤ 16777216) : (man1 s).1.length ≤ s.size := by
  unfold man1
  split
  · exact eachL_len s (vL s) (vL_up ss) (s.size + 1) [] 0 (Nat.zero_le _) (Nat.zero_le _)
  · exact Nat.zero_le _
theorem one1_wd {s1 s2 : ByteArray} (z1 : s1.size ≤ 16777216) (z2 : s2.size ≤ 16777216) (h : Wd s1.data.toList s2.data.toList) : one1 s2 = one1 s1 := by
  have hr := only_wd z1 z2 h
  unfold one1
  cases e1 : onlL s1.data.toList (vL s1) 0 with
  | ok T q => rw [e1] at hr; obtain ⟨q2, h2, _⟩ := hr; rw [h2]
  | bad e q => rw [e1] at hr; obtain ⟨q2, h2, _⟩ := hr trivial; rw [h2]
theorem man1_wd {s1 s2 : ByteArray} (z1 : s1.size ≤ 16777216) (z2 : s2.size ≤ 16777216) (h : Wd s1.data.toList s2.data.toList) : man1 s2 = man1 s1 := by
  obtain ⟨h1, h2⟩ := many_wd z1 z2 h
  unfold man1
  rw [h1, h2]
structure GpR (w : World) (ps : List (ByteArray × ByteArray)) (io : Option Addr) : Prop where
  row : 0 < ps.length → ∃ b off, io = some ⟨b, off, none⟩ ∧ b < w.heap.size ∧ ∀ i, (hi : i < ps.length) → w.cell? ⟨b, off + i * 2, none⟩ = some (.string ps[i].1) ∧ w.cell? ⟨b, off + i * 2 + 1, none⟩ = some (.string ps[i].2)
def gsz : List (ByteArray × ByteArray) → Nat
  | [] => 0
  | p :: ps => p.1.size + p.2.size + gsz ps
def lsP (ps : List (ByteArray × ByteArray)) : List (List UInt8 × List UInt8) := ps.map fun p => (p.1.data.toList, p.2.data.toList)
theorem gsz_take : ∀ (ps : List (ByteArray × ByteArray)) (k : Nat), gsz (ps.take k) ≤ gsz ps
  | [], k => by simp
  | p :: ps, 0 => Nat.zero_le _
  | p :: ps, k + 1 => by have := gsz_take ps k; show p.1.size + p.2.size + gsz (ps.take k) ≤ p.1.size + p.2.size + gsz ps; omega
theorem gsz_mem : ∀ (ps : List (ByteArray × ByteArray)) (i : Nat) (hi : i < ps.length), ps[i].1.size + ps[i].2.size ≤ gsz ps
  | p :: ps, 0, _ => by show p.1.size + p.2.size ≤ p.1.size + p.2.size + gsz ps; omega
  | p :: ps, i + 1, hi => by
    have hi' : i < ps.length := by simpa using hi
    have := gsz_mem ps i hi'
    show ps[i].1.size + ps[i].2.size ≤ p.1.size + p.2.size + gsz ps
    omega
theorem plain_len : ∀ ps : List (ByteArray × ByteArray), (plainT (lsP ps)).length ≤ gsz ps + ps.length
  | [] => Nat.le_refl _
  | p :: ps => by
    have ih := plain_len ps
    have e : p.1.data.toList.length = p.1.size := size_lst p.1
    show (p.1.data.toList ++ 32 :: plainT (lsP ps)).length ≤ p.1.size + p.2.size + gsz ps + (ps.length + 1)
    rw [List.length_append, List.length_cons]; omega
theorem wide_len : ∀ ps : List (ByteArray × ByteArray), (wideT (lsP ps)).length ≤ 2 * gsz ps + 2 * ps.length
  | [] => Nat.le_refl _
  | p :: ps => by
    have ih := wide_len ps
    have e : p.1.data.toList.length = p.1.size := size_lst p.1
    have e2 : p.2.data.toList.length = p.2.size := size_lst p.2
    show (32 :: (p.2.data.toList ++ (p.1.data.toList ++ (p.2.data.toList ++ 10 :: wideT (lsP ps))))).length ≤ 2 * (p.1.size + p.2.size + gsz ps) + 2 * (ps.length + 1)
    simp only [List.length_cons, List.length_append]; omega
theorem plain_snoc : ∀ (ps : List (List UInt8 × List UInt8)) (p : List UInt8 × List UInt8), plainT (ps ++ [p]) = plainT ps ++ (p.1 ++ [32])
  | [], p => rfl
  | q :: ps, p => by show q.1 ++ 32 :: plainT (ps ++ [p]) = _; rw [plain_snoc ps p]; simp [plainT]
theorem wide_snoc : ∀ (ps : List (List UInt8 × List UInt8)) (p : List UInt8 × List UInt8), wideT (ps ++ [p]) = wideT ps ++ (32 :: (p.2 ++ (p.1 ++ (p.2 ++ [10]))))
  | [], p => rfl
  | q :: ps, p => by show 32 :: (q.2 ++ (q.1 ++ (q.2 ++ 10 :: wideT (ps ++ [p])))) = _; rw [wide_snoc ps p]; simp [wideT]
theorem lsP_take {ps : List (ByteArray × ByteArray)} {k : Nat} (hk : k < ps.length) : lsP (ps.take (k + 1)) = lsP (ps.take k) ++ [(ps[k].1.data.toList, ps[k].2.data.toList)] := by
  unfold lsP
  rw [List.take_succ_eq_append_getElem hk, List.map_append]; rfl

set_option maxRecDepth 100000 in
set_option maxHeartbeats 6400000 in
theorem w_ReaderBlanks (ps : List (ByteArray × ByteArray)) (N cap : Nat) (io : Option Addr) (w : World) (hN : ps.length = N) (hk : GpR w ps io) (hcap : N ≤ cap) (sz : N ≤ 1048576) (hsum : gsz ps ≤ 1048576) (hE : ErrIn w) : Calls Tryz.prog 6 #[.slice io N cap] w fun e w' => Below w.heap.size w w' ∧ e = .returned (.bool true) := by
  have HF := Hid.mk (w_fixed5 w hE)
  have HE := Hid.mk hE
  have HK := Hid.mk hk
  have HN := Hid.mk hN
  have HSum := Hid.mk hsum
  have HBl := Hid.mk (fun (x : ByteArray) (u : World) (hx : x.size ≤ 1048576) => w_5blanks x u (by omega))
  have HWh := Hid.mk (fun (x : ByteArray) (u : World) (hx : x.size ≤ 1048576) => w_5Whole x u hx)
  have HSame := Hid.mk (fun (T : VT) (va vb : Value) (u : World) (h1 : InH u 65 T va) (h2 : InH u 65 T vb) => w_5Same 65 T va vb u h1 h2)
  clear hE hk hN hsum
  go_enter Tryz.func6, Tryz.ntmps6
  go_wp2_with fail
  refine HF.out.mono ?_
  rintro e w1 ⟨hb1, rfl⟩
  have HB1 := Hid.mk hb1
  clear hb1 HF
  go_wp2_with fail
  go_loopw [3, 4, 5] (fun a b i wr => ∃ (k : Nat) (P Q : ByteArray), k ≤ N ∧ a = .string P ∧ b = .string Q ∧ i = .int .i64 (k : Int) ∧ Hid (P.data.toList = plainT (lsP (ps.take k)) ∧ Q.data.toList = wideT (lsP (ps.take k))) ∧ Hid (∀ p ∈ lsP (ps.take k), Wh p.1 0 ∧ ∀ c ∈ p.2, cBl.contains c = true) ∧ Hid (Below w.heap.size w wr)) (fun _ _ i _ => N - (intOf i).toNat)
  case atStart => exact ⟨0, ⟨#[]⟩, ⟨#[]⟩, Nat.zero_le _, rfl, rfl, rfl, ⟨rfl, rfl⟩, (fun p hp => by simp [lsP] at hp), HB1⟩
  case round =>
    clear HB1
    obtain ⟨k, P, Q, hk, rfl, rfl, rfl, HT, HW, HB⟩ := hrel
    have hP : P.size ≤ 2097152 := by
      have h1 := plain_len (ps.take k)
      have h2 := gsz_take ps k
      have h3 : (ps.take k).length ≤ k := by rw [List.length_take]; omega
      have h4 : P.data.toList.length = P.size := size_lst P
      have h5 := HSum.out
      rw [HT.out.1] at h4
      omega
    have hQ : Q.size ≤ 4194304 := by
      have h1 := wide_len (ps.take k)
      have h2 := gsz_take ps k
      have h3 : (ps.take k).length ≤ k := by rw [List.length_take]; omega
      have h4 : Q.data.toList.length = Q.size := size_lst Q
      have h5 := HSum.out
      rw [HT.out.2] at h4
      omega
    by_cases hlt : k < N
    · have hl1 : (k : Int) < (N : Int) := by omega
      have hl0 : (0 : Int) ≤ (k : Int) := by omega
      have hkl : k < ps.length := by rw [HN.out]; exact hlt
      obtain ⟨ab, aoff, hao, habl, harow⟩ := HK.out.row (by omega)
      subst hao
      obtain ⟨c0, c1⟩ := harow k hkl
      have hmm := gsz_mem ps k hkl
      have HT2 : Hid (P.data.toList ++ (ps[k].1.data.toList ++ [32]) = plainT (lsP (ps.take (k + 1))) ∧ Q.data.toList ++ (32 :: (ps[k].2.data.toList ++ (ps[k].1.data.toList ++ (ps[k].2.data.toList ++ [10])))) = wideT (lsP (ps.take (k + 1)))) := by
        show _ ∧ _
        rw [lsP_take hkl, plain_snoc, wide_snoc, HT.out.1, HT.out.2]
        exact ⟨rfl, rfl⟩
      have HW2 : Hid (Wh ps[k].1.data.toList 0 → (∀ c ∈ ps[k].2.data.toList, cBl.contains c = true) → ∀ p ∈ lsP (ps.take (k + 1)), Wh p.1 0 ∧ ∀ c ∈ p.2, cBl.contains c = true) := by
        intro h1 h2 p hp
        rw [lsP_take hkl] at hp
        rcases List.mem_append.1 hp with h | h
        · exact HW.out p h
        · rw [List.mem_singleton.1 h]; exact ⟨h1, h2⟩
      have ca := (World.cell?_of_block (a := ⟨ab, aoff + k * 2, none⟩) (HB.out.block ab habl)).trans c0
      have cb := (World.cell?_of_block (a := ⟨ab, aoff + k * 2 + 1, none⟩) (HB.out.block ab habl)).trans c1
      have hA : ps[k].1.size ≤ 1048576 := by have := HSum.out; omega
      have hB : ps[k].2.size ≤ 1048576 := by have := HSum.out; omega
      generalize ps[k].1 = A at *
      generalize ps[k].2 = B at *
      have HBl1 := Hid.mk (HBl.out B wr hB)
      have HHh := Hid.mk (And.intro habl (And.intro c0 c1))
      clear HT HW harow hkl hmm c0 c1 habl
      go_wp2_with fail
      refine HBl1.out.mono ?_
      rintro e w2 ⟨b1, rfl, hb1, rfl⟩
      cases b1 with
      | false =>
        clear hb1 HT2 HW2
        go_wp2_with fail
        refine bodyPost_ret (v := .bool true) (by simp [results, Tryz.results6, go_sem]) rfl ?_
        exact ⟨HB.out, rfl⟩
      | true =>
        have HBB := Hid.mk (hb1 rfl)
        have HWh1 := Hid.mk (HWh.out A w2 hA)
        clear hb1 HBl1
        go_wp2_with fail
        refine HWh1.out.mono ?_
        rintro e w3 ⟨b2, rfl, hb2, hb3⟩
        have HB3 : Hid (Below w.heap.size w w3) := HB.out.trans (hb3.mono HB.out.size)
        cases b2 with
        | false =>
          clear hb2 hb3 HT2 HW2
          go_wp2_with fail
          refine bodyPost_ret (v := .bool true) (by simp [results, Tryz.results6, go_sem]) rfl ?_
          exact ⟨HB3.out, rfl⟩
        | true =>
          have HWW := Hid.mk (HW2.out (hb2 rfl) HBB.out)
          have habl := HHh.out.1
          have ca := (World.cell?_of_block (a := ⟨ab, aoff + k * 2, none⟩) (HB3.out.block ab habl)).trans HHh.out.2.1
          have cb := (World.cell?_of_block (a := ⟨ab, aoff + k * 2 + 1, none⟩) (HB3.out.block ab habl)).trans HHh.out.2.2
          have s1 : (A ++ ⟨#[32]⟩ : ByteArray).size = A.size + 1 := by rw [ByteArray.size_append]; rfl
          have s2 : ((⟨#[32]⟩ : ByteArray) ++ B).size = 1 + B.size := by rw [ByteArray.size_append]; rfl
          have s3 : ((⟨#[32]⟩ : ByteArray) ++ B ++ A).size = 1 + B.size + A.size := by rw [ByteArray.size_append, s2]
          have s4 : ((⟨#[32]⟩ : ByteArray) ++ B ++ A ++ B).size = 1 + B.size + A.size + B.size := by rw [ByteArray.size_append, s3]
          have s5 : ((⟨#[32]⟩ : ByteArray) ++ B ++ A ++ B ++ ⟨#[10]⟩).size = 1 + B.size + A.size + B.size + 1 := by rw [ByteArray.size_append, s4]; rfl
          have n1 : ¬ 9223372036854775807 < A.size + 1 := by omega
          have n2 : ¬ (9223372036854775807 : Int) < (A.size : Int) + 1 := by omega
          have n3 : ¬ 9223372036854775807 < P.size + (A ++ ⟨#[32]⟩ : ByteArray).size := by omega
          have n4 : ¬ (9223372036854775807 : Int) < (P.size : Int) + ((A ++ ⟨#[32]⟩ : ByteArray).size : Int) := by omega
          have n5 : ¬ 9223372036854775807 < P.size + (A.size + 1) := by omega
          have n6 : ¬ (9223372036854775807 : Int) < (P.size : Int) + ((A.size : Int) + 1) := by omega
          have m1 : ¬ 9223372036854775807 < 1 + B.size := by omega
          have m2 : ¬ (9223372036854775807 : Int) < 1 + (B.size : Int) := by omega
          have m3 : ¬ 9223372036854775807 < 1 + B.size + A.size := by omega
          have m4 : ¬ (9223372036854775807 : Int) < 1 + (B.size : Int) + (A.size : Int) := by omega
          have m5 : ¬ 9223372036854775807 < 1 + B.size + A.size + B.size := by omega
          have m6 : ¬ (9223372036854775807 : Int) < 1 + (B.size : Int) + (A.size : Int) + (B.size : Int) := by omega
          have m7 : ¬ 9223372036854775807 < 1 + B.size + A.size + B.size + 1 := by omega
          have m8 : ¬ (9223372036854775807 : Int) < 1 + (B.size : Int) + (A.size : Int) + (B.size : Int) + 1 := by omega
          have m9 : ¬ 9223372036854775807 < Q.size + (1 + B.size + A.size + B.size + 1) := by omega
          have ma : ¬ (9223372036854775807 : Int) < (Q.size : Int) + (1 + (B.size : Int) + (A.size : Int) + (B.size : Int) + 1) := by omega
          have R0 := fun d os => cell_regrown ca d os
          have R1 := fun d os => cell_regrown cb d os
          clear hb2 hb3 habl HWh1 HW2 HBB
          go_wp2_with fail
          refine wp_region_quiet_below (by kernel_rfl) (by kernel_rfl) ?_
          repeat (go_big_quiet_step (fail))
          refine wpQuiet_nil ?_
          intro w4 hw'
          have HB4 : Hid (Below w.heap.size w w4) := by
            obtain ⟨⟨dq, osq⟩, rfl⟩ := hw'
            exact HB3.out.trans ((below_regrown w3 dq osq).mono HB3.out.size)
          clear hw' R0 R1
          go_wp2_with fail
          go_roundw
          case rel => exact ⟨k + 1, P ++ (A ++ ⟨#[32]⟩), Q ++ (⟨#[32]⟩ ++ B ++ A ++ B ++ ⟨#[10]⟩), hlt, rfl, rfl, by go_num, ⟨by rw [← HT2.out.1]; simp, by rw [← HT2.out.2]; simp⟩, HWW, HB4⟩
          case measure => simp [intOf]; omega
    · have hl1 : ¬ (k : Int) < (N : Int) := by omega
      obtain rfl : N = k := by omega
      have HWd : Hid (Wd P.data.toList Q.data.toList) := by
        show Wd _ _
        rw [HT.out.1, HT.out.2]; exact wd_texts _ HW.out
      have HO1 := Hid.mk (fun u (h : ErrIn u) => w_OneS P (by omega) u h)
      have HO2 := Hid.mk (fun u (h : ErrIn u) => w_OneS Q (by omega) u h)
      have HM1 := Hid.mk (fun u (h : ErrIn u) => w_ManyS P (by omega) u h)
      have HM2 := Hid.mk (fun u (h : ErrIn u) => w_ManyS Q (by omega) u h)
      have e1 := one1_wd (by omega) (by omega) HWd.out
      have e2 := man1_wd (by omega) (by omega) HWd.out
      have HLn := Hid.mk (man1_len P (by omega))
      rw [e1] at HO2
      rw [e2] at HM2
      clear e1 e2 HWd HT HW hlt hk HBl HWh
      generalize one1 P = o1 at *
      generalize man1 P = o2 at *
      obtain ⟨T, er⟩ := o1
      obtain ⟨xs, em⟩ := o2
      dsimp only at HO1 HO2 HM1 HM2 HLn
      have hPs : Hid (xs.length ≤ 2097152) := by have := HLn.out; show _ ≤ _; omega
      go_wp2_with fail
      refine (HO1.out _ (HE.out.keep HB.out)).mono ?_
      rintro e w2 ⟨hb2, va, pa, rfl, hva⟩
      have HB2 : Hid (Below w.heap.size w w2) := HB.out.trans (hb2.mono HB.out.size)
      obtain ⟨ak, an, at_, aio, aa, aic, ako, ab, akc, rfl⟩ := inH_shape hva
      have HVa := Hid.mk hva
      clear hb2 hva HO1 HB
      go_wp2_with fail
      obtain ⟨W3, hW3⟩ : ∃ W3, w2.alloc (.cells #[.int .i64 ak, .string an, .string at_, .slice aio aa aic, .slice ako ab akc] 27) = W3 := ⟨_, rfl⟩
      have hb3 : Below w2.heap.size w2 W3 := by rw [← hW3]; exact below1 w2 _
      have hx3 : W3.heap[w2.heap.size]? = some (.cells #[.int .i64 ak, .string an, .string at_, .slice aio aa aic, .slice ako ab akc] 27 (0, 0)) := by rw [← hW3]; exact heap_alloc_new w2 _
      have HB3 : Hid (Below w.heap.size w W3) := HB2.out.trans (hb3.mono HB2.out.size)
      have HVa3 := Hid.mk (HVa.out.keep hb3)
      have HX3 := Hid.mk hx3
      rw [hW3]
      clear hb3 hx3 hW3 HVa HB2
      refine (HO2.out _ (HE.out.keep HB3.out)).mono ?_
      rintro e w4 ⟨hb4, vb, pb, rfl, hvb⟩
      obtain ⟨bk, bn, bt, bio, ba, bic, bko, bb, bkc, rfl⟩ := inH_shape hvb
      obtain ⟨W5, hW5⟩ : ∃ W5, w4.alloc (.cells #[.int .i64 bk, .string bn, .string bt, .slice bio ba bic, .slice bko bb bkc] 27) = W5 := ⟨_, rfl⟩
      have hb5 : Below w4.heap.size w4 W5 := by rw [← hW5]; exact below1 w4 _
      have HX5 : Hid (W5.heap[w4.heap.size]? = some (.cells #[.int .i64 bk, .string bn, .string bt, .slice bio ba bic, .slice bko bb bkc] 27 (0, 0))) := by show _ = _; rw [← hW5]; exact heap_alloc_new w4 _
      have hb35 : Below W3.heap.size W3 W5 := hb4.trans (hb5.mono hb4.size)
      have HB5 : Hid (Below w.heap.size w W5) := HB3.out.trans (hb35.mono HB3.out.size)
      have HXa5 : Hid (W5.heap[w2.heap.size]? = some (.cells #[.int .i64 ak, .string an, .string at_, .slice aio aa aic, .slice ako ab akc] 27 (0, 0))) := heap_lowT hb35 (Array.getElem?_eq_some_iff.1 HX3.out).1 HX3.out
      have HSm := Hid.mk (HSame.out T _ _ W5 (HVa3.out.keep hb35) (hvb.keep hb5))
      obtain ⟨x0, x1, x2, x3, x4, _⟩ := vbox_cells HXa5.out
      obtain ⟨y0, y1, y2, y3, y4, _⟩ := vbox_cells HX5.out
      clear hb4 hb5 hb35 hvb HVa3 HX3 HO2 HB3
      have g1 : ((er : Int) == (er : Int)) = true := by simp
      have g2 : ((er : Int) != (er : Int)) = false := by simp
      go_wp2_with fail
      refine HSm.out.mono ?_
      rintro e w6 ⟨rfl, hb6⟩
      have HB6 : Hid (Below w.heap.size w w6) := HB5.out.trans (hb6.mono HB5.out.size)
      clear hb6 HSm HB5 HXa5 HX5 x0 x1 x2 x3 x4 y0 y1 y2 y3 y4 g1 g2 hW5
      go_wp2_with fail
      refine (HM1.out _ (HE.out.keep HB6.out)).mono ?_
      rintro e w7 ⟨hb7, ioa, ka, capa, pla, rfl, hVa, hka, hca⟩
      have HB7 : Hid (Below w.heap.size w w7) := HB6.out.trans (hb7.mono HB6.out.size)
      have HVA := Hid.mk hVa
      have HKA := Hid.mk hka
      clear hb7 hVa hka HM1 HB6
      go_wp2_with fail
      refine (HM2.out _ (HE.out.keep HB7.out)).mono ?_
      rintro e w8 ⟨hb8, iob, kb, capb, plb, rfl, hVb, hkb, hcb⟩
      have HB8 : Hid (Below w.heap.size w w8) := HB7.out.trans (hb8.mono HB7.out.size)
      obtain rfl : kb = ka := by have := HKA.out; omega
      have HAl := Hid.mk (w_alike5 65 kb xs ioa iob capa capb w8 hkb (HVA.out.keep hb8) hVb hca hcb (by have := hPs.out; omega))
      have g1 : ((em : Int) == (em : Int)) = true := by simp
      clear hb8 hVb hkb HM2 HB7 HVA
      go_wp2_with fail
      refine HAl.out.mono ?_
      rintro e w9 ⟨rfl, hb9⟩
      have HB9 : Hid (Below w.heap.size w w9) := HB8.out.trans (hb9.mono HB8.out.size)
      clear hb9 HAl HB8 g1
      go_wp2_with fail
      refine bodyPost_ret (v := .bool true) (by simp [results, Tryz.results6, go_sem]) rfl ?_
      exact ⟨HB9.out, rfl⟩
end Go.Proofs.YtcbngdkekdhfeaaGreatDoor
