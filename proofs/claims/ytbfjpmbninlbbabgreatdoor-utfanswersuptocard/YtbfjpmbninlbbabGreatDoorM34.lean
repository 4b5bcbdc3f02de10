import Derived.Test.YtbfjpmbninlbbabGreatDoorM33
import Derived.Test.YtbfjpmbninlbbabGreatDoorM16
namespace Go.Proofs.YtbfjpmbninlbbabGreatDoor
open Go.RowKit Go.Shelf
set_option linter.unusedVariables false
set_option linter.unusedSimpArgs false
attribute [local go_sem] Oper.semAt_some

set_option maxRecDepth 100000 in
set_option maxHeartbeats 4000000 in
theorem w_Split_nil (s p : ByteArray) (hs0 : s.size = 0) (w : World) :
    Calls Tryz.prog 24 #[.string s, .string p] w fun e w' => ∃ v, e = .returned v ∧ Hid (w'.ownsRow w.heap.size 9 1 v 0 (svals [])) ∧ Below w.heap.size w w' := by
  have hne1 : (s.toList.isEmpty) = true := by
    rw [Lib.toList_data]
    have e := size_len s
    cases h : s.data.toList with
    | nil => rfl
    | cons _ _ => rw [h] at e; simp at e; omega
  have HF : Hid (Below w.heap.size w ((w.alloc (.cells #[.string s] 9)).alloc (.cells #[.string p] 9))) := ((Below.refl _ _).alloc (Nat.le_refl _) _).alloc (by simp) _
  refine (callsIn_wide (n := 5)).1 ?_
  refine callsIn_of_wp_marks Tryz.func24 rfl trivial ?_ rfl
  simp only [Tryz.ntmps24, List.size_toArray, List.length_cons, List.length_nil, Nat.reduceAdd, Nat.reduceSub, Array.replicate_succ, Array.replicate_zero, List.push_toArray, List.append_toArray, List.nil_append, List.cons_append]
  gi_wp2_with fail
  exact ⟨.slice none 0 0, by simp [results, Tryz.results24, go_sem], _, rfl, World.ownsRow_nil _ _ _ _, HF.out⟩

set_option maxRecDepth 100000 in
set_option maxHeartbeats 4000000 in
theorem w_Split_pieces (s p : ByteArray) (ss : s.size ≤ 1048576) (hp : p.size = 0) (hs0 : 0 < s.size) (w : World) :
    Calls Tryz.prog 24 #[.string s, .string p] w fun e w' => ∃ v, e = .returned v ∧ Hid (w'.ownsRow w.heap.size 9 1 v (runes s.data.toList).length (svals (pcl s (runes s.data.toList).length))) ∧ Below w.heap.size w w' := by
  have hne1 : (s.toList.isEmpty) = false := by
    rw [Lib.toList_data]
    have e := size_len s
    cases h : s.data.toList with
    | nil => rw [h] at e; exact absurd e (by simp; omega)
    | cons _ _ => rfl
  have hne2 : (p.toList.isEmpty) = true := by
    rw [Lib.toList_data]
    have e := size_len p
    cases h : p.data.toList with
    | nil => rfl
    | cons _ _ => rw [h] at e; simp at e; omega
  have HF : Hid (Below w.heap.size w ((w.alloc (.cells #[.string s] 9)).alloc (.cells #[.string p] 9))) := ((Below.refl _ _).alloc (Nat.le_refl _) _).alloc (by simp) _
  refine (callsIn_wide (n := 5)).1 ?_
  refine callsIn_of_wp_marks Tryz.func24 rfl trivial ?_ rfl
  simp only [Tryz.ntmps24, List.size_toArray, List.length_cons, List.length_nil, Nat.reduceAdd, Nat.reduceSub, Array.replicate_succ, Array.replicate_zero, List.push_toArray, List.append_toArray, List.nil_append, List.cons_append]
  gi_wp2_with fail
  refine ⟨trivial, (callsIn_wide.2 (w_pieces s _ hs0 ss)).mono ?_⟩
  rintro e w6 ⟨v, rfl, ho, hb⟩
  obtain ⟨so, sc, rfl⟩ := own_shape ho.out
  have HB := Hid.mk (below_more HF.out hb)
  have HO : Hid (w6.ownsRow w.heap.size 9 1 (.slice so (runes s.data.toList).length sc) (runes s.data.toList).length (svals (pcl s (runes s.data.toList).length))) := by
    have h3 := ho.out
    exact ⟨h3.1, h3.2.imp id (fun ⟨g, cap, cur, e, hb, rest⟩ => ⟨g, cap, cur, e, by simp at hb; omega, rest⟩)⟩
  clear ho hb
  gi_wp2_with fail
  exact ⟨.slice so (runes s.data.toList).length sc, by simp [results, Tryz.results24, go_sem], _, rfl, HO, HB.out⟩
end Go.Proofs.YtbfjpmbninlbbabGreatDoor
namespace Go.Proofs.YtbfjpmbninlbbabGreatDoor
open Go.RowKit
set_option linter.unusedVariables false
set_option linter.unusedSimpArgs false

theorem jl_up (p : List UInt8) (ts : List ByteArray) (k : Nat) (hk : k ≤ ts.length) : (jl p ts k).length ≤ (jp p (ts.take k)).length ∧ (jp p (ts.take k)).length + (ts.getD k .empty).size ≤ (jl p ts (k + 1)).length := by
  refine ⟨?_, ?_⟩
  · cases k with
    | zero => simp [jl]
    | succ k => rw [← jl_part p ts k (by omega), List.length_append]; omega
  · show _ ≤ (jp p (ts.take k) ++ (ts.getD k .empty).data.toList).length
    rw [List.length_append, size_len]; omega
theorem jl_mono (p : List UInt8) (ts : List ByteArray) {i k : Nat} (h : i ≤ k) (hk : k ≤ ts.length) : (jl p ts i).length ≤ (jl p ts k).length := by
  induction k with
  | zero => obtain rfl : i = 0 := by omega
            exact Nat.le_refl _
  | succ k ih =>
    rcases Nat.lt_or_ge i (k + 1) with g | g
    · have := ih (by omega) (by omega)
      have := jl_up p ts k (by omega)
      omega
    · obtain rfl : i = k + 1 := by omega
      exact Nat.le_refl _

/-- what a split is -/
structure SpR (s p : ByteArray) (L : List ByteArray) : Prop where
  nil : s.size = 0 → L = []
  ne : 0 < s.size → 0 < L.length
  join : 0 < s.size → jl p.data.toList L L.length = s.data.toList
  noin : 0 < p.size → ∀ t ∈ L, NoIn p.data.toList t
  cnt : 0 < s.size → p.size = 0 → L.length = (runes s.data.toList).length
  few : L.length ≤ s.size + 1

theorem w_Split (s p : ByteArray) (ss : s.size ≤ 1048576) (w : World) :
    Calls Tryz.prog 24 #[.string s, .string p] w fun e w' => ∃ so sc n L, e = .returned (.slice so n sc) ∧ n = L.length ∧ Hid (w'.ownsRow w.heap.size 9 1 (.slice so n sc) n (svals L)) ∧ Hid (SpR s p L) ∧ Below w.heap.size w w' := by
  by_cases h0 : s.size = 0
  · refine (w_Split_nil s p h0 w).mono ?_
    rintro e w' ⟨v, rfl, ho, hb⟩
    obtain ⟨so, sc, rfl⟩ := own_shape ho.out
    exact ⟨so, sc, 0, [], rfl, rfl, ho, ⟨fun _ => rfl, fun h => by omega, fun h => by omega, fun _ t ht => by simp at ht, fun h => by omega, by simp⟩, hb⟩
  · by_cases hp : p.size = 0
    · refine (w_Split_pieces s p ss hp (by omega) w).mono ?_
      rintro e w' ⟨v, rfl, ho, hb⟩
      obtain ⟨so, sc, rfl⟩ := own_shape ho.out
      have hN := runes_len_le s.data.toList
      rw [size_len] at hN
      have hpe : p.data.toList = [] := List.length_eq_zero_iff.1 (by rw [size_len]; exact hp)
      have hN0 : 0 < (runes s.data.toList).length := by
        have : s.data.toList ≠ [] := fun e => by have := size_len s; rw [e] at this; simp at this; omega
        rw [runes_cons this]; simp
      refine ⟨so, sc, _, pcl s (runes s.data.toList).length, rfl, (pcl_len _ _).symm, ho, ⟨fun h => absurd h h0, fun _ => ?_, fun _ => ?_, fun h => by omega, fun _ _ => pcl_len _ _, ?_⟩, hb⟩
      · rw [pcl_len]; exact hN0
      · rw [hpe, pcl_len]; exact pcl_join s
      · rw [pcl_len]; omega
    · refine (w_Split_part s p ss (by omega) (by omega) w).mono ?_
      rintro e w' ⟨v, rfl, ho, hb⟩
      obtain ⟨so, sc, rfl⟩ := own_shape ho.out
      have hok := splt_ok s p (by omega)
      have hpl : (plcs s p).length ≤ s.size := by
        unfold plcs
        rw [if_neg hp]
        exact occs_len s.size
      have hfw := spl_few s p.size (plcs s p)
      exact ⟨so, sc, _, splt s p, rfl, by simp [splt], ho, ⟨fun h => absurd h h0, fun _ => by simp [splt], fun _ => hok.2, fun _ => hok.1, fun _ h => absurd h hp, by simp [splt]; omega⟩, hb⟩

theorem own_cell {w : World} {B n sc : Nat} {so : Option Addr} {L : List ByteArray} (h : w.ownsRow B 9 1 (.slice so n sc) n (svals L)) (hn : n = L.length) {i : Nat} (hi : i < n) : ∃ g, so = some ⟨g, 0, none⟩ ∧ ∀ j, j < n → w.cell? ⟨g, j, none⟩ = some (.string (L.getD j .empty)) := by
  rcases h.2 with ⟨e, e2⟩ | ⟨g, cap, cur, e, _⟩
  · simp only [Value.slice.injEq] at e; omega
  · simp only [Value.slice.injEq] at e
    obtain ⟨rfl, _, rfl⟩ := e
    refine ⟨g, rfl, fun j hj => ?_⟩
    have := h.cellAt j (by omega)
    rw [this]
    have hjL : j < L.length := by omega
    simp [svals, List.getD, hjL]

theorem beq_self_str {a b : ByteArray} (h : a.data.toList = b.data.toList) : (a.toList == b.toList) = true := by rw [Lib.toList_data, Lib.toList_data, h]; simp
theorem empty_str {a : ByteArray} (h : a.size = 0) : a.toList.isEmpty = true := by
  rw [Lib.toList_data]
  have e := size_len a
  cases hh : a.data.toList with
  | nil => rfl
  | cons _ _ => rw [hh] at e; simp at e; omega
theorem nonempty_str {a : ByteArray} (h : 0 < a.size) : a.toList.isEmpty = false := by
  rw [Lib.toList_data]
  have e := size_len a
  cases hh : a.data.toList with
  | nil => rw [hh] at e; simp at e; omega
  | cons _ _ => rfl
theorem size_of {a : ByteArray} {l : List UInt8} (h : a.data.toList = l) : a.size = l.length := by rw [← h, size_len]

/-- the part does not stand there -/
theorem not_there {p t : ByteArray} (h : NoIn p.data.toList t) {m : Nat} (hm : m + p.size ≤ t.size) : ((t.extract m (m + p.size)).toList == p.toList) = false := by
  cases hq : ((t.extract m (m + p.size)).toList == p.toList) with
  | false => rfl
  | true =>
    have e := eq_of_beq hq
    rw [Lib.toList_data, Lib.toList_data, ext_list] at e
    refine absurd ⟨by rw [size_len, size_len]; exact hm, ?_⟩ (h m)
    rw [size_len]
    rw [List.drop_take, show m + p.size - m = p.size by omega] at e
    exact e
end Go.Proofs.YtbfjpmbninlbbabGreatDoor
namespace Go.Proofs.YtbfjpmbninlbbabGreatDoor
open Go.RowKit
set_option linter.unusedVariables false
set_option linter.unusedSimpArgs false

/-- places that are passed change nothing -/
theorem spl_skip (s : ByteArray) (p : List UInt8) (n : Nat) : ∀ d, (∀ q, OccAt p s.data.toList q → n < q + p.length → q + p.length ≤ n + d → q < (spl s p.length (occs p s.data.toList n)).2) → spl s p.length (occs p s.data.toList (n + d)) = spl s p.length (occs p s.data.toList n) := by
  intro d
  induction d with
  | zero => intro _; rfl
  | succ d ih =>
    intro h
    have ih' := ih (fun q h1 h2 h3 => h q h1 h2 (by omega))
    rw [show n + (d + 1) = n + d + 1 by omega, occs_up]
    split
    · rename_i hc
      rw [spl_snoc, ih']
      have := h _ hc.2 (by omega) (by omega)
      unfold splS
      rw [if_neg (by omega)]
    · rw [List.append_nil]; exact ih'

/-- while the reference splits: at place a -/
structure RsSt (s p : ByteArray) (w wr : World) (v : Value) (n a bg : Nat) : Prop where
  own : wr.ownsRow w.heap.size 9 1 v n (svals (spl s p.size (occs p.data.toList s.data.toList (a + p.size - 1))).1)
  len : n = (spl s p.size (occs p.data.toList s.data.toList (a + p.size - 1))).1.length
  bgAt : bg = (spl s p.size (occs p.data.toList s.data.toList (a + p.size - 1))).2
  below : Below w.heap.size w wr

theorem spl_none (s p : ByteArray) (hp : 0 < p.size) (a : Nat) (h : ¬ OccAt p.data.toList s.data.toList a) : spl s p.size (occs p.data.toList s.data.toList (a + 1 + p.size - 1)) = spl s p.size (occs p.data.toList s.data.toList (a + p.size - 1)) := by
  rw [show a + 1 + p.size - 1 = (a + p.size - 1) + 1 by omega, occs_up]
  rw [if_neg, List.append_nil]
  rintro ⟨_, h2⟩
  rw [size_len, show a + p.size - 1 + 1 - p.size = a by omega] at h2
  exact h h2
theorem spl_hit (s p : ByteArray) (hp : 0 < p.size) (a : Nat) (h : OccAt p.data.toList s.data.toList a) (hle : (spl s p.size (occs p.data.toList s.data.toList (a + p.size - 1))).2 ≤ a) :
    spl s p.size (occs p.data.toList s.data.toList (a + p.size + p.size - 1)) = ((spl s p.size (occs p.data.toList s.data.toList (a + p.size - 1))).1 ++ [s.extract (spl s p.size (occs p.data.toList s.data.toList (a + p.size - 1))).2 a], a + p.size) := by
  have h1 : spl s p.size (occs p.data.toList s.data.toList (a + p.size - 1 + 1)) = ((spl s p.size (occs p.data.toList s.data.toList (a + p.size - 1))).1 ++ [s.extract (spl s p.size (occs p.data.toList s.data.toList (a + p.size - 1))).2 a], a + p.size) := by
    rw [occs_up, size_len, show a + p.size - 1 + 1 - p.size = a by omega, if_pos ⟨by omega, h⟩, spl_snoc]
    unfold splS
    rw [if_pos hle]
  have h2 := spl_skip s p.data.toList (a + p.size - 1 + 1) (p.size - 1) (fun q _ _ h4 => by
    rw [size_len] at h4 ⊢
    rw [h1]
    show q < a + p.size
    omega)
  rw [size_len] at h2
  rw [show a + p.size + p.size - 1 = a + p.size - 1 + 1 + (p.size - 1) by omega, h2, h1]
theorem spl_last (s p : ByteArray) (hp : 0 < p.size) : spl s p.size (occs p.data.toList s.data.toList (s.size + p.size - 1)) = spl s p.size (plcs s p) := by
  have h2 := spl_skip s p.data.toList s.size (p.size - 1) (fun q h1 h3 _ => by
    have := h1.1
    rw [size_len, size_len] at this
    rw [size_len] at h3
    omega)
  rw [size_len] at h2
  rw [plcs_occs s p hp, show s.size + p.size - 1 = s.size + (p.size - 1) by omega, h2]
theorem spl_start (s p : ByteArray) (hp : 0 < p.size) : spl s p.size (occs p.data.toList s.data.toList (0 + p.size - 1)) = ([], 0) := by
  have : occs p.data.toList s.data.toList (0 + p.size - 1) = [] := by
    rw [List.eq_nil_iff_forall_not_mem]
    intro q hq
    rw [occs_mem (by rw [size_len]; exact hp), size_len] at hq
    omega
  rw [this]; rfl
theorem spl_short (s p : ByteArray) (hp : 0 < p.size) (hs : s.size ≤ 1048576) (n : Nat) (hn : n ≤ s.size + p.size) : (spl s p.size (occs p.data.toList s.data.toList n)).1.length ≤ n := by
  have h1 := spl_few s p.size (occs p.data.toList s.data.toList n)
  have h2 := occs_len (p := p.data.toList) (t := s.data.toList) n
  omega

set_option maxRecDepth 100000 in
set_option maxHeartbeats 4000000 in
theorem w_rSplit_part (s p : ByteArray) (ss : s.size ≤ 1048576) (sp : p.size ≤ 1048576) (hp : 0 < p.size) (hs0 : 0 < s.size) (w : World) :
    Calls Tryz.prog 26 #[.string s, .string p] w fun e w' => ∃ v, e = .returned v ∧ Hid (w'.ownsRow w.heap.size 9 1 v (splt s p).length (svals (splt s p))) ∧ Below w.heap.size w w' := by
  obtain ⟨i0, hi0, hz0, hz1, hz2⟩ := info_parts Tryz.infoS
  have e1 : ((s.size : Int) == 0) = false := by rw [beq_eq_false_iff_ne]; omega
  have e2 : ((p.size : Int) == 0) = false := by rw [beq_eq_false_iff_ne]; omega
  have HS : Hid (RsSt s p w (w.alloc (.cells #[] 9)) (.slice (some ⟨w.heap.size, 0, none⟩) 0 0) 0 0 0) := by
    refine ⟨?_, ?_, ?_, below1 w _⟩ <;> rw [spl_start s p hp]
    · exact own_empty w 9
    · rfl
  go_enter Tryz.func26, Tryz.ntmps26
  go_wp2_with fail
  go_loopw [5, 8, 9] (fun l b t wr => ∃ (n a bg : Nat) (ao : Option Addr) (cap : Nat), a ≤ s.size ∧ bg ≤ a ∧ l = .slice ao n cap ∧ b = .int .i64 (bg : Int) ∧ t = .int .i64 (a : Int) ∧ Hid (RsSt s p w wr (.slice ao n cap) n a bg)) (fun _ _ t _ => s.size - (intOf t).toNat)
  case atStart => exact ⟨0, 0, 0, _, 0, Nat.zero_le _, Nat.le_refl _, rfl, rfl, rfl, HS⟩
  case round =>
    obtain ⟨n, a, bg, ao, cap, ha, hbg, rfl, rfl, rfl, HQ⟩ := hrel
    have hnb : n ≤ 2097152 := by
      have h1 := HQ.out.len
      have := spl_short s p hp ss (a + p.size - 1) (by omega)
      omega
    by_cases hlt : a < s.size
    · have hl1 : (a : Int) < (s.size : Int) := by omega
      have hcv := Lib.run_convert_string_bytes (P := Tryz.prog) wr 9 55 5 p (u := .string) Tryz.underlying9 Tryz.underlying55 Tryz.underlying5
      obtain ⟨hbc, hbb⟩ := bcells_conv wr p
      obtain ⟨cp, hcp⟩ : ∃ cp, cp = grownCap wr p.size 0 5 := ⟨_, rfl⟩
      obtain ⟨W1, hW1⟩ : ∃ W1, W1 = Lib.bytesWorld wr 5 p := ⟨_, rfl⟩
      rw [← hcp, ← hW1] at hcv
      rw [← hW1] at hbc hbb
      have HSm := Hid.mk (w_sameC s a wr.heap.size cp p.data.toList W1 hbc (by omega) (by omega) (by rw [size_len]; omega))
      rw [size_len] at HSm
      have HBB := Hid.mk hbb
      clear hcp hW1 hbc hbb
      go_wp2_with fail
      refine HSm.out.mono ?_
      rintro e w1 ⟨rfl, hb1⟩
      have HB1 := Hid.mk (HBB.out.trans (hb1.mono HBB.out.size))
      have hown := own_below' HQ.out.own HB1.out
      have HBw := Hid.mk (HQ.out.below.trans (HB1.out.mono HQ.out.below.size))
      have hsz := HBw.out.size
      clear hb1 HSm hcv
      by_cases hst : stands s a p.data.toList
      · rw [decide_eq_true hst]
        have hfit := hst.1
        rw [size_len] at hfit
        have g2 : (bg : Int) ≤ (a : Int) := by omega
        have g3 : (a : Int) ≤ (s.size : Int) := by omega
        have g4 : (0 : Int) ≤ (bg : Int) := by omega
        have HH := Hid.mk (spl_hit s p hp a ((stands_occ s a _).1 hst) (by rw [← HQ.out.bgAt]; exact hbg))
        clear hst
        go_wp2_with (at_builtin; refine wpList_append_own _ rfl (.tmp 51) (.tmp 56) 46 rfl w.heap.size 9 i0 (.string ⟨#[]⟩) 1 16 Tryz.underlying46 hi0 hz0 hz1 hz2 rfl (by decide) _ _ _ rfl (hown.alloc _) ⟨w1.heap.size, 0, none⟩ 1 1 [.string (s.extract bg a)] rfl rfl (by intro j u hj; match j, hj with | 0, hj => simp at hj; subst hj; simp [Addr.add]) (by intro u hu; simp at hu; subst hu; rfl) (by unfold maxLen; omega) (by omega) (by simp; omega) ?_)
        intro v4 w4 hown4 hgrow4 hnn
        obtain ⟨so4, c4, hv4⟩ := own_shape hown4
        subst hv4
        have HN : Hid (RsSt s p w w4 (.slice so4 (n + 1) c4) (n + 1) (a + p.size) (a + p.size)) := by
          refine ⟨?_, ?_, ?_, below_app hown hsz HBw.out hgrow4⟩ <;> rw [HH.out]
          · rw [← HQ.out.bgAt, ← svals_snoc]; exact hown4
          · rw [List.length_append, ← HQ.out.len]; rfl
        clear hown4 hgrow4 hnn hown
        go_wp2_with fail
        go_roundw
        case rel => exact ⟨n + 1, a + p.size, a + p.size, so4, c4, hfit, Nat.le_refl _, rfl, by go_num, by go_num, HN⟩
        case measure => simp [intOf]; omega
      · rw [decide_eq_false hst]
        have HN : Hid (RsSt s p w w1 (.slice ao n cap) n (a + 1) bg) := by
          have e := spl_none s p hp a (fun h => hst ((stands_occ s a _).2 h))
          refine ⟨?_, ?_, ?_, HBw.out⟩ <;> rw [e]
          · exact hown
          · exact HQ.out.len
          · exact HQ.out.bgAt
        clear hst hown
        go_wp2_with fail
        go_roundw
        case rel => exact ⟨n, a + 1, bg, ao, cap, hlt, by omega, rfl, rfl, by go_num, HN⟩
        case measure => simp [intOf]; omega
    · have hl1 : ¬ (a : Int) < (s.size : Int) := by omega
      have hown := HQ.out.own
      have hsz := HQ.out.below.size
      have g3 : (bg : Int) ≤ (s.size : Int) := by omega
      have g4 : (0 : Int) ≤ (bg : Int) := by omega
      go_wp2_with (at_builtin; refine wpList_append_own _ rfl (.tmp 65) (.tmp 69) 46 rfl w.heap.size 9 i0 (.string ⟨#[]⟩) 1 16 Tryz.underlying46 hi0 hz0 hz1 hz2 rfl (by decide) _ _ _ rfl (hown.alloc _) ⟨wr.heap.size, 0, none⟩ 1 1 [.string (s.extract bg s.size)] rfl rfl (by intro j u hj; match j, hj with | 0, hj => simp at hj; subst hj; simp [Addr.add]) (by intro u hu; simp at hu; subst hu; rfl) (by unfold maxLen; omega) (by omega) (by simp; omega) ?_)
      intro v4 w4 hown4 hgrow4 hnn
      have HB4 : Hid (Below w.heap.size w w4) := below_app hown hsz HQ.out.below hgrow4
      have HO4 : Hid (w4.ownsRow w.heap.size 9 1 v4 (splt s p).length (svals (splt s p))) := by
        have ea : a = s.size := by omega
        have b := HQ.out.bgAt
        have d := HQ.out.len
        rw [ea, spl_last s p hp] at b d hown4
        unfold splt
        rw [List.length_append, ← svals_snoc, ← d, ← b]
        exact hown4
      obtain ⟨so4, c4, hv4⟩ := own_shape hown4
      have HV4 : Hid (n + 1 = (splt s p).length) := HO4.out.2.elim (fun h => by have := h.2; simp [splt] at this) (fun ⟨g, cap, cur, e, _⟩ => by rw [hv4] at e; simp only [Value.slice.injEq] at e; exact e.2.1)
      subst hv4
      clear hown4 hgrow4 hnn hown
      go_wp2_with fail
      go_ret
      exact ⟨_, rfl, HO4, HB4.out⟩
end Go.Proofs.YtbfjpmbninlbbabGreatDoor
