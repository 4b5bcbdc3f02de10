import Derived.Test.YtfcbeohkhljboaaDoorM24
import Derived.Test.YtfcbeohkhljboaaDoorM25
import Derived.Test.YtfcbeohkhljboaaDoorM7
namespace Go.Proofs.YtfcbeohkhljboaaDoor
open Go.RowKit
set_option linter.unusedVariables false
set_option linter.unusedSimpArgs false

theorem dvl_append (l m : List UInt8) : Pl.dvl (l ++ m) = Pl.dvl l * 10 ^ m.length + Pl.dvl m := by
  induction l with
  | nil => simp [Pl.dvl_nil]
  | cons c r ih =>
    rw [List.cons_append, Pl.dvl_cons, Pl.dvl_cons, ih, List.length_append, Nat.pow_add, Nat.add_mul]
    have : 10 ^ r.length * 10 ^ m.length * (c.toNat - 48) = 10 ^ r.length * (c.toNat - 48) * 10 ^ m.length := by rw [Nat.mul_assoc, Nat.mul_comm (10 ^ m.length), Nat.mul_assoc]
    omega

/-- while a text is read by groups -/
structure GrpSt (w2 wr : World) (l : List UInt8) (r : ByteArray) (v : Value) (gs : List Nat) : Prop where
  own : wr.ownsRow w2.heap.size 76 1 v gs.length (vals .u64 gs)
  bw : Below w2.heap.size w2 wr
  dg : Pl.dig 1000000000 gs
  pre : ∃ m, l = r.data.toList ++ m
  vl : Pl.dvl l = Pl.dvl r.data.toList * 1000000000 ^ gs.length + Pl.val 1000000000 gs
  ln : gs.length + r.size ≤ l.length

theorem extract_front (r : ByteArray) (k : Nat) (hk : k ≤ r.size) : (r.extract 0 k).data.toList = r.data.toList.take k := by
  rw [Lib.extract_data]; simp
theorem extract_back (r : ByteArray) (k : Nat) : (r.extract k r.size).data.toList = r.data.toList.drop k := by
  rw [Lib.extract_data]
  exact List.take_of_length_le (by simp)

theorem GrpSt.step {w2 wr w4 : World} {l : List UInt8} {r : ByteArray} {v v' : Value} {gs : List Nat} (h : GrpSt w2 wr l r v gs) (k : Nat) (hk : k < r.size) (hk9 : k = 0 ∨ r.size = k + 9) (hsz : r.size ≤ k + 9) (hd : l.all Pl.isDig = true)
    (hown : w4.ownsRow w2.heap.size 76 1 v' (gs.length + 1) (vals .u64 gs ++ [.int .u64 ((Pl.dvl (r.data.toList.drop k) : Nat) : Int)])) (hb : Below w2.heap.size w2 w4) : GrpSt w2 w4 l (r.extract 0 k) v' (gs ++ [Pl.dvl (r.data.toList.drop k)]) := by
  obtain ⟨m, hm⟩ := h.pre
  have hdd : (r.data.toList.drop k).all Pl.isDig = true := by
    rw [List.all_eq_true] at hd ⊢
    exact fun x hx => hd x (by rw [hm]; exact List.mem_append_left _ (List.mem_of_mem_drop hx))
  have hlen : (r.data.toList.drop k).length = r.size - k := by simp
  have hlt : Pl.dvl (r.data.toList.drop k) < 1000000000 := by
    have h1 := Pl.dvl_lt _ hdd
    have h2 : 10 ^ (r.data.toList.drop k).length ≤ 10 ^ 9 := Nat.pow_le_pow_right (by decide) (by omega)
    have h3 : (10 : Nat) ^ 9 = 1000000000 := by decide
    omega
  refine ⟨?_, hb, Pl.dig_append.2 ⟨h.dg, by intro y hy; simp at hy; omega⟩, ?_, ?_, ?_⟩
  · rw [List.length_append, vals_append]; exact hown
  · exact ⟨r.data.toList.drop k ++ m, by rw [extract_front r k (by omega), ← List.append_assoc, List.take_append_drop]; exact hm⟩
  · rw [h.vl, extract_front r k (by omega), Pl.val_snoc, List.length_append]
    have e : Pl.dvl r.data.toList = Pl.dvl (r.data.toList.take k) * 10 ^ (r.size - k) + Pl.dvl (r.data.toList.drop k) := by
      conv => lhs; rw [← List.take_append_drop k r.data.toList]
      rw [dvl_append, hlen]
    rw [e]
    generalize hP : 1000000000 ^ gs.length = P
    have hP1 : 1000000000 ^ (gs.length + [Pl.dvl (r.data.toList.drop k)].length) = P * 1000000000 := by
      rw [← hP, List.length_singleton, Nat.pow_succ]
    rw [hP1]
    rcases hk9 with h0 | h9
    · subst h0
      simp only [List.take_zero, Pl.dvl_nil, Nat.zero_mul, Nat.zero_add]
      rw [Nat.mul_comm P]; omega
    · rw [show r.size - k = 9 by omega, Nat.add_mul]
      have e3 : (10 : Nat) ^ 9 = 1000000000 := by decide
      rw [e3, Nat.mul_assoc, Nat.mul_comm 1000000000 P, Nat.mul_comm P (Pl.dvl (r.data.toList.drop k))]; omega
  · have := h.ln
    have e : (r.extract 0 k).size = k := by
      have := Pl.size_toList (r.extract 0 k); rw [extract_front r k (by omega), List.length_take, Pl.size_toList] at this; omega
    rw [List.length_append, e]
    simp; omega

/-- what read answers of a number's text -/
def NumAt (w' : World) (v : Value) (n : Nat) : Prop := ∃ zs, Got w' v zs ∧ Pl.val 1000000000 zs = n ∧ zs.length ≤ 17179869184

set_option maxRecDepth 100000 in
set_option maxHeartbeats 6400000 in
theorem w_tread (s : ByteArray) (w : World) (hs : s.size ≤ 4294967296) (hf : Pl.formed s.data.toList = true) :
    Calls Tryd.prog 47 #[.string s] w fun e w' => ∃ v, e = .returned (.tuple #[.agg #[.bool (Pl.neg s.data.toList), v], .bool true]) ∧ NumAt w' v (Pl.dvl (Pl.body s.data.toList)) ∧ Below w.heap.size w w' := by
  obtain ⟨i0, hi0, hz0, hz1, hz2⟩ := info_parts Tryd.infoU
  have hms : s.size ≤ maxLen := by unfold maxLen; omega
  have HF := Hid.mk hf
  have HD := Hid.mk (Pl.canon_dig (Pl.formed_canon hf))
  have hbl := Pl.body_le s
  have HBl := Hid.mk hbl
  clear hf hbl
  go_enter Tryd.func47, Tryd.ntmps47
  go_wp2_with fail
  refine (w_Formed s _ hms).mono ?_
  rintro e w1 ⟨rfl, hb1⟩
  rw [HF.out]
  have HB1 := Hid.mk hb1
  clear hb1
  go_wp2_with fail
  refine (w_cutMinus s _ hms).mono ?_
  rintro e w2 ⟨r, rfl, hr, hsz, hb2⟩
  have HR := Hid.mk hr
  have HB2 := Hid.mk hb2
  have hrs : r.size ≤ 4294967296 := by omega
  have hmk := fun (u : World) => run_make_two 0 (r.size / 9 + 1) 0 ((r.size : Int) / 9 + 1) rfl (by omega) (by omega) (by omega) u
  have HSt : Hid (GrpSt w2 (w2.alloc (zrow2 0 (r.size / 9 + 1))) (Pl.body s.data.toList) r (.slice (some ⟨w2.heap.size, 0, none⟩) 0 (r.size / 9 + 1)) []) :=
    ⟨by simpa using own_two w2 0 (r.size / 9 + 1) (by omega) (by omega), (Below.refl _ _).alloc (Nat.le_refl _) _, Pl.dig_nil _, ⟨[], by rw [hr]; simp⟩, by rw [hr]; simp [Pl.val], by rw [← hr]; simp⟩
  clear hr hb2
  go_wp2_with fail
  have hBB : w.heap.size + 1 ≤ w2.heap.size := by have h1 := HB1.out.size; have h2 := HB2.out.size; simp at h1; omega
  have HBB : Hid (Below w2.heap.size (w.alloc (.cells #[.bool false, .slice none 0 0] 58)) w2 → True) := fun _ => trivial
  have HC0 : Hid (w2.cell? ⟨w.heap.size, 0, none⟩ = some (.bool false) ∧ w2.cell? ⟨w.heap.size, 1, none⟩ = some (.slice none 0 0) ∧ w2.frozen? ⟨w.heap.size, 0, none⟩ = false ∧ w2.frozen? ⟨w.heap.size, 1, none⟩ = false) := by
    have hs1 : w.heap.size < (w.alloc (.cells #[.bool false, .slice none 0 0] 58)).heap.size := by simp
    have hs2 : w.heap.size < w1.heap.size := Nat.lt_of_lt_of_le hs1 HB1.out.size
    exact ⟨below_cells HB2.out hs2 (below_cells HB1.out hs1 (by simp)), below_cells HB2.out hs2 (below_cells HB1.out hs1 (by simp)), below_frees HB2.out hs2 (below_frees HB1.out hs1 (by simp)), below_frees HB2.out hs2 (below_frees HB1.out hs1 (by simp))⟩
  have HBw2 : Hid (Below w.heap.size w w2) := by
    have a1 := (Below.refl w.heap.size w).alloc (Nat.le_refl _) (.cells #[.bool false, .slice none 0 0] 58)
    have a2 := a1.trans (HB1.out.mono a1.size)
    exact a2.trans (HB2.out.mono a2.size)
  clear hmk HBB hsz
  go_loopw [0, 5] (fun sv v wr => ∃ (r : ByteArray) (gs : List Nat), sv = .string r ∧ (∃ ao n cap, v = .slice ao n cap) ∧ r.size ≤ 4294967296 ∧ Hid (GrpSt w2 wr (Pl.body s.data.toList) r v gs)) (fun sv _ _ => match sv with | .string r => r.size | _ => 0)
  case atStart => exact ⟨r, [], rfl, ⟨_, _, _, rfl⟩, hrs, HSt⟩
  case round =>
    obtain ⟨r1, gs, rfl, ⟨ao1, n1, cap1, rfl⟩, hr1, HG⟩ := hrel
    have hgl : gs.length ≤ 4294967296 := by have h1 := HG.out.ln; have h2 := HBl.out; omega
    by_cases h0 : r1.size = 0
    · have he : r1.toList.isEmpty = true := by rw [Pl.isEmpty_of]; simp [h0]
      have HV : Hid (Pl.val 1000000000 (Pl.trimN gs) = Pl.dvl (Pl.body s.data.toList)) := by
        have hn : r1.data.toList = [] := by have := Pl.size_toList r1; rw [h0] at this; exact List.eq_nil_of_length_eq_zero this
        have := HG.out.vl
        rw [hn, Pl.dvl_nil, Nat.zero_mul, Nat.zero_add] at this
        show _ = _
        rw [Pl.val_trim]; exact this.symm
      obtain ⟨c0, c1, f0, f1⟩ := HC0.out
      have d0 := below_cells HG.out.bw (by omega) c0
      have d1 := below_cells HG.out.bw (by omega) c1
      have g0 := below_frees HG.out.bw (by omega) f0
      have g1 := below_frees HG.out.bw (by omega) f1
      clear c0 c1 f0 f1
      go_wp2_with fail
      refine (w_tTrim _ gs _ (own_nums HG.out.own) (by unfold maxLen; omega)).mono ?_
      rintro e w5 ⟨v5, rfl, hw5, hn5, ho5⟩
      subst hw5
      have HN5 := Hid.mk hn5
      have HO5 : Hid (v5.ownBlock ≠ some w.heap.size) := fun e => by
        have := own_base HG.out.own w.heap.size (by rw [← ho5]; exact e)
        omega
      obtain ⟨ao5, cap5, hvv, q1, q2⟩ := hn5
      clear q1 q2 ho5
      subst hvv
      have HG5 := Hid.mk (grown_trans (grown_set w5 w.heap.size 0 (.bool (Pl.neg s.data.toList))) (grown_set _ w.heap.size 1 (.slice ao5 (Pl.trimN gs).length cap5)))
      have HB5 : Hid (Below w.heap.size w ((w5.setCell ⟨w.heap.size, 0, none⟩ (.bool (Pl.neg s.data.toList))).setCell ⟨w.heap.size, 1, none⟩ (.slice ao5 (Pl.trimN gs).length cap5))) :=
        ((HBw2.out.trans (HG.out.bw.mono (by omega))).setCell (by simp) _).setCell (by simp) _
      go_wp2_with fail
      refine bodyPost_ret (v := .tuple #[.agg #[.bool (Pl.neg s.data.toList), .slice ao5 (Pl.trimN gs).length cap5], .bool true]) (by simp [results, Tryd.results47, go_sem, d0, d1]) rfl ?_
      exact ⟨_, rfl, ⟨Pl.trimN gs, ⟨HN5.out.off HO5.out HG5.out, Pl.dig_trim HG.out.dg, Pl.top_trim _⟩, HV.out, Nat.le_trans (Pl.trim_len _) (by omega)⟩, HB5.out⟩
    · have he : r1.toList.isEmpty = false := by rw [Pl.isEmpty_of]; simp [h0]
      have hp1 : 0 < r1.size := by omega
      by_cases h9 : 9 < r1.size
      · have e9 : ((r1.size : Int) - 9).toNat = r1.size - 9 := by omega
        have hmem : ∀ x ∈ r1.data.toList, x ∈ Pl.body s.data.toList := by
          obtain ⟨m, hm⟩ := HG.out.pre
          intro x hx
          rw [hm]; exact List.mem_append_left _ hx
        have HDg : Hid ((r1.extract (r1.size - 9) r1.size).data.toList.all Pl.isDig = true) := by
          show _ = _
          rw [extract_back]
          have := HD.out
          rw [List.all_eq_true] at this ⊢
          exact fun x hx => this x (hmem x (List.mem_of_mem_drop hx))
        clear hmem
        have hes : (r1.extract (r1.size - 9) r1.size).size ≤ 9 := by
          have := Pl.size_toList (r1.extract (r1.size - 9) r1.size); rw [extract_back, List.length_drop, Pl.size_toList] at this; omega
        have hown := HG.out.own
        have hwr : w2.heap.size ≤ wr.heap.size := HG.out.bw.size
        have hfs : (r1.extract 0 (r1.size - 9)).size ≤ 4294967296 ∧ (r1.extract 0 (r1.size - 9)).size < r1.size := by
          have := Pl.size_toList (r1.extract 0 (r1.size - 9)); rw [extract_front r1 (r1.size - 9) (by omega), List.length_take, Pl.size_toList] at this; omega
        obtain ⟨hfs1, hfs2⟩ := hfs
        have HStep := Hid.mk (fun w4 v' => @GrpSt.step w2 wr w4 (Pl.body s.data.toList) r1 (.slice ao1 n1 cap1) v' gs HG.out (r1.size - 9) (by omega) (by omega) (by omega) HD.out)
        have hn1 : n1 = gs.length := by
          rcases hown.2 with ⟨e, e2⟩ | ⟨g, cap, cur, e, _⟩
          · cases e; omega
          · cases e; rfl
        subst hn1
        have HDx : Hid ((r1.extract (r1.size - 9) r1.size).data.toList = r1.data.toList.drop (r1.size - 9)) := extract_back r1 (r1.size - 9)
        go_wp2_with fail
        refine (w_readGroup (r1.extract (r1.size - 9) r1.size) wr hes HDg).mono ?_
        rintro e w3 ⟨rfl, hw3⟩
        subst hw3
        rw [HDx.out]
        obtain ⟨x, hx⟩ : ∃ x, x = Pl.dvl (r1.data.toList.drop (r1.size - 9)) := ⟨_, rfl⟩
        rw [← hx]
        have HX := Hid.mk hx
        clear hx
        go_wp2_with (at_builtin; refine wpList_append_own _ rfl _ _ 56 rfl w2.heap.size 76 i0 (.int .u64 0) 1 8 Tryd.underlying56 hi0 hz0 hz1 hz2 rfl (by decide) _ _ _ rfl (hown.alloc _) ⟨w3.heap.size, 0, none⟩ 1 1 [.int .u64 (x : Int)] rfl rfl (World.news_of_block (cs := #[.int .u64 (x : Int)]) (t := 76) (fr := (0, 0)) (heap_alloc_new w3 _)) (by intro u hu; simp at hu; subst hu; rfl) (by unfold maxLen; omega) (by omega) (by simp; omega) ?_)
        intro v4 w4 hown4 hgrow4 _
        have hb4 : Below w2.heap.size w2 w4 := HG.out.bw.trans (((Below.refl w2.heap.size w3).alloc hwr _).grown hgrow4 (by simp; omega) (own_base hown))
        have HN4 := Hid.mk (HStep.out w4 v4 (by rw [← HX.out]; exact hown4) hb4)
        obtain ⟨ao4, cap4, hvv, q1, q2⟩ := own_nums HN4.out.own
        clear q1 q2 hown4 hgrow4 hb4 hown
        subst hvv
        go_wp2_with fail
        go_roundw
        case measure => exact hfs2
        exact ⟨_, _, rfl, ⟨_, _, _, rfl⟩, hfs1, HN4⟩
      · have e9 : ¬ (0 : Int) < (r1.size : Int) - 9 := by omega
        have hmem : ∀ x ∈ r1.data.toList, x ∈ Pl.body s.data.toList := by
          obtain ⟨m, hm⟩ := HG.out.pre
          intro x hx
          rw [hm]; exact List.mem_append_left _ hx
        have HDg : Hid (r1.data.toList.all Pl.isDig = true) := by
          show _ = _
          have := HD.out
          rw [List.all_eq_true] at this ⊢
          exact fun x hx => this x (hmem x hx)
        clear hmem
        have hes : (r1.extract (0) r1.size).size ≤ 9 := by
          have := Pl.size_toList (r1.extract (0) r1.size); rw [extract_back, List.length_drop, Pl.size_toList] at this; omega
        have hown := HG.out.own
        have hwr : w2.heap.size ≤ wr.heap.size := HG.out.bw.size
        have hfs : (r1.extract 0 (0)).size ≤ 4294967296 ∧ (r1.extract 0 (0)).size < r1.size := by
          have := Pl.size_toList (r1.extract 0 (0)); rw [extract_front r1 (0) (by omega), List.length_take, Pl.size_toList] at this; omega
        obtain ⟨hfs1, hfs2⟩ := hfs
        have HStep := Hid.mk (fun w4 v' => @GrpSt.step w2 wr w4 (Pl.body s.data.toList) r1 (.slice ao1 n1 cap1) v' gs HG.out (0) (by omega) (by omega) (by omega) HD.out)
        have hn1 : n1 = gs.length := by
          rcases hown.2 with ⟨e, e2⟩ | ⟨g, cap, cur, e, _⟩
          · cases e; omega
          · cases e; rfl
        subst hn1
        have HDx : Hid (r1.data.toList = r1.data.toList.drop (0)) := rfl
        go_wp2_with fail
        refine (w_readGroup r1 wr (by omega) HDg).mono ?_
        rintro e w3 ⟨rfl, hw3⟩
        subst hw3
        obtain ⟨x, hx⟩ : ∃ x, x = Pl.dvl r1.data.toList := ⟨_, rfl⟩
        rw [← hx]
        have HX := Hid.mk hx
        clear hx
        go_wp2_with (at_builtin; refine wpList_append_own _ rfl _ _ 56 rfl w2.heap.size 76 i0 (.int .u64 0) 1 8 Tryd.underlying56 hi0 hz0 hz1 hz2 rfl (by decide) _ _ _ rfl (hown.alloc _) ⟨w3.heap.size, 0, none⟩ 1 1 [.int .u64 (x : Int)] rfl rfl (World.news_of_block (cs := #[.int .u64 (x : Int)]) (t := 76) (fr := (0, 0)) (heap_alloc_new w3 _)) (by intro u hu; simp at hu; subst hu; rfl) (by unfold maxLen; omega) (by omega) (by simp; omega) ?_)
        intro v4 w4 hown4 hgrow4 _
        have hb4 : Below w2.heap.size w2 w4 := HG.out.bw.trans (((Below.refl w2.heap.size w3).alloc hwr _).grown hgrow4 (by simp; omega) (own_base hown))
        have HN4 := Hid.mk (HStep.out w4 v4 (by rw [List.drop_zero, ← HX.out]; exact hown4) hb4)
        obtain ⟨ao4, cap4, hvv, q1, q2⟩ := own_nums HN4.out.own
        clear q1 q2 hown4 hgrow4 hb4 hown
        subst hvv
        go_wp2_with fail
        have eE : Hid (r1.extract 0 0 = ByteArray.empty) := by show _ = _; simp
        go_roundw
        case measure => show ByteArray.empty.size < r1.size; rw [← eE.out]; exact hfs2
        exact ⟨_, _, rfl, ⟨_, _, _, rfl⟩, by decide, by rw [← eE.out]; exact HN4⟩
end Go.Proofs.YtfcbeohkhljboaaDoor
