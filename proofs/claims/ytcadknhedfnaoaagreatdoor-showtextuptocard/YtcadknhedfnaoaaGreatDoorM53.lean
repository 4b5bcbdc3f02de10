import Derived.Test.YtcadknhedfnaoaaGreatDoorM45
import Derived.Test.YtcadknhedfnaoaaGreatDoorM40
import Derived.Test.YtcadknhedfnaoaaGreatDoorM39
import Derived.Test.YtcadknhedfnaoaaGreatDoorM50
import Derived.Test.YtcadknhedfnaoaaGreatDoorM52
namespace Go.Proofs.YtcadknhedfnaoaaGreatDoor
open Go.RowKit
set_option linter.unusedVariables false
set_option linter.unusedSimpArgs false

theorem size_lenV (s : ByteArray) : s.data.toList.length = s.size := Array.length_toList
theorem prow_lenV (s : ByteArray) (n : Nat) : (prow s n).length = n * 4 := by
  induction n with
  | zero => rfl
  | succ n ih => rw [prow_up, List.length_append, ih]; simp [pcC]; omega
theorem prow_getV (s : ByteArray) {k N : Nat} (h : k < N) (j : Nat) (hj : j < 4) : (prow s N)[k * 4 + j]? = (pcC s (off s.data.toList k))[j]? := by
  obtain ⟨m, rfl⟩ : ∃ m, N = (k + 1) + m := ⟨N - (k + 1), by omega⟩
  induction m with
  | zero =>
    rw [Nat.add_zero, prow_up, List.getElem?_append_right (by rw [prow_lenV]; omega), prow_lenV]
    congr 1; omega
  | succ m ih =>
    rw [show k + 1 + (m + 1) = k + 1 + m + 1 by omega, prow_up, List.getElem?_append_left (by rw [prow_lenV]; omega)]
    exact ih (by omega)

/-- the pieces' row, as it lies -/
structure PRowV (s : ByteArray) (w : World) (g : Nat) : Prop where
  row : ∃ cur, w.heap[g]? = some (.cells cur 66 (0, 0)) ∧ cur.toList.take ((runes s.data.toList).length * 4) = prow s (runes s.data.toList).length
theorem PRowV.get {s : ByteArray} {w : World} {g k : Nat} (h : PRowV s w g) (hk : k < (runes s.data.toList).length) (j : Nat) (hj : j < 4) : w.cell? ⟨g, k * 4 + j, none⟩ = (pcC s (off s.data.toList k))[j]? := by
  obtain ⟨cur, h1, h2⟩ := h.row
  rw [cell_of_row w g _ _ _ _ h1, ← prow_getV s hk j hj, ← h2, List.getElem?_take, if_pos (by omega), Array.getElem?_toList]

theorem ok_stepV (l : List UInt8) {k : Nat} (hk : k < (runes l).length) : okB (l.drop (off l k)) = if strayL (l.drop (off l k)) = true then false else okB (l.drop (off l (k + 1))) := by
  have hl := off_lt k l hk
  have hne : l.drop (off l k) ≠ [] := by
    intro e
    have := congrArg List.length e
    rw [List.length_drop, List.length_nil] at this
    omega
  have hs := off_step l k hne
  rcases stray_or _ hne with ⟨n, post, hn, he, hst⟩ | ⟨hd, hst⟩
  · rw [if_neg (by rw [hst]; decide)]
    have hd := dec_enc n hn post
    rw [← he] at hd
    have : l.drop (off l (k + 1)) = post := by
      rw [hs, hd, ← List.drop_drop, he]
      exact List.drop_left' rfl
    rw [this, he, ok_enc n hn post]
  · rw [if_pos hst, ok_stray _ hne hd]

theorem rows_ofV {s : ByteArray} {w w1 : World} {so : Option Addr} {sc N : Nat} (hN : N = (runes s.data.toList).length) (ho : w1.ownsRow w.heap.size 66 4 (.slice so N sc) N (prow s N)) : 0 < N → ∃ g, so = some ⟨g, 0, none⟩ ∧ PRowV s w1 g := by
  intro h0
  rcases ho.2 with ⟨_, e⟩ | ⟨g, cap, cur, e, _, hr, _, _, _, ht⟩
  · omega
  · simp only [Value.slice.injEq] at e
    exact ⟨g, e.1, ⟨cur, hr, by rw [← hN]; exact ht⟩⟩

set_option maxRecDepth 100000 in
set_option maxHeartbeats 1600000 in
theorem w_rValidV (s : ByteArray) (w : World) (hs : s.size ≤ 16777216) :
    Calls Tryz.prog 17 #[.string s] w fun e w' => e = .returned (.bool (okB s.data.toList)) ∧ Below w.heap.size w w' := by
  have hrl := runes_len_le s.data.toList
  rw [size_lenV] at hrl
  have HPc := Hid.mk (fun u => w_Pieces s u (by omega))
  obtain ⟨N, hN⟩ : ∃ N, N = (runes s.data.toList).length := ⟨_, rfl⟩
  have HNN := Hid.mk hN
  rw [← hN] at HPc hrl
  clear hN
  go_enter Tryz.func17, Tryz.ntmps17
  go_wp2_with fail
  refine (HPc.out _).mono ?_
  rintro e w1 ⟨so, sc, rfl, ho, hb1⟩
  have HB := Hid.mk hb1
  have HR := Hid.mk (rows_ofV HNN.out ho.out)
  clear hb1 ho HPc
  go_wp2_with fail
  go_loopw [4] (fun i wr => ∃ k : Nat, k ≤ N ∧ i = .int .i64 (k : Int) ∧ wr = w1 ∧ Hid (okB s.data.toList = okB (s.data.toList.drop (off s.data.toList k)))) (fun i _ => N - (intOf i).toNat)
  case atStart => exact ⟨0, Nat.zero_le _, rfl, rfl, rfl⟩
  case round =>
    obtain ⟨k, hk, rfl, rfl, HQ⟩ := hrel
    by_cases hlt : k < N
    · have hl1 : (k : Int) < (N : Int) := by omega
      have hkN : k < (runes s.data.toList).length := by rw [← HNN.out]; exact hlt
      obtain ⟨g, hg, hpr⟩ := HR.out (by omega)
      subst hg
      have c3 : wr.cell? ⟨g, k * 4 + 3, none⟩ = some (.bool (strayL (s.data.toList.drop (off s.data.toList k)))) := hpr.get hkN 3 (by omega)
      have HS := Hid.mk (ok_stepV s.data.toList hkN)
      cases hst : strayL (s.data.toList.drop (off s.data.toList k)) with
      | true =>
        rw [hst] at c3 HS
        have HF : Hid (okB s.data.toList = false) := by rw [HQ.out, HS.out]; rfl
        clear hpr hkN hst
        go_wp2_with fail
        go_ret
        exact ⟨by rw [HF.out]; rfl, HB.out⟩
      | false =>
        rw [hst] at c3 HS
        have HN : Hid (okB s.data.toList = okB (s.data.toList.drop (off s.data.toList (k + 1)))) := by
          rw [HQ.out, HS.out]; rfl
        clear hpr hkN hst
        go_wp2_with fail
        go_roundw
        case rel => exact ⟨k + 1, by omega, by go_num, trivial, HN⟩
        case measure => simp [intOf]; omega
    · have hl1 : ¬ (k : Int) < (N : Int) := by omega
      have HF : Hid (okB s.data.toList = true) := by
        show _ = _
        rw [HQ.out, off_end k s.data.toList (by rw [← HNN.out]; omega), List.drop_length]
        rfl
      go_wp2_with fail
      go_ret
      exact ⟨by rw [HF.out]; rfl, HB.out⟩

end Go.Proofs.YtcadknhedfnaoaaGreatDoor
namespace Go.Proofs.YtcadknhedfnaoaaGreatDoor
open Go.RowKit Go.Shelf Go.Sort
set_option linter.unusedVariables false
set_option linter.unusedSimpArgs false
attribute [local go_sem] Oper.semAt_some

def nnS : NT := .mk 1 0 .empty vt0 [] []
theorem inA_self (w : World) : InA w 1 nnS (.agg #[.int .i64 1, .int .i64 0, .string ⟨#[]⟩, .int .i64 0, .string ⟨#[]⟩, .string ⟨#[]⟩, .slice none 0 0, .slice none 0 0, .slice none 0 0, .slice none 0 0]) := by
  refine ⟨none, 0, none, 0, none, 0, none, 0, rfl, by decide, InV.ofH (inH_0 w 0), ⟨Nat.le_refl _, by decide, fun k hk => by cases hk⟩, ⟨Nat.le_refl _, by decide⟩, fun h => absurd h (by decide), fun h => absurd h (by decide)⟩
theorem fp_self : fpN 1 nnS = true := by
  rw [fpN]
  have e1 : sq vt0 vt0 = true := sq_iff.2 rfl
  simp [nnS, NT.op, NT.kids, NT.text, NT.value, NT.names, mfB, ttB, nmO, vfB, nsB, e1]
theorem sh_self : shT 1 nnS = [46] := by rw [shT_up]; rfl
theorem tx_self : TxB 1 nnS := ⟨by decide, fun i hi => absurd hi (Nat.not_lt_zero i)⟩
theorem ky_end : pKy ⟨#[101, 110, 100]⟩ = [101, 110, 100] ∧ pKe1 ⟨#[101, 110, 100]⟩ = 0 := by
  have h1 : okB [101, 110, 100] = true := by decide
  have h2 : namedB [101, 110, 100] = true := by decide
  unfold pKy pKe1
  simp only [h1, h2]
  exact ⟨rfl, rfl⟩

set_option maxRecDepth 100000 in
set_option maxHeartbeats 1600000 in
theorem w_works (w : World) (hT : PTabIn w) : Calls Tryz.prog 6 #[] w fun e w' => e = .returned (.bool true) ∧ Below w.heap.size w w' := by
  have HTx := Hid.mk (w_TextP 1 nnS _ w (inA_self w) hT tx_self (by rw [sh_self]; decide))
  have HKy := Hid.mk (fun u => w_KeyP ⟨#[101, 110, 100]⟩ u (by decide))
  unfold txA txE at HTx
  rw [fp_self, if_pos rfl, if_pos rfl, sh_self] at HTx
  rw [ky_end.1, ky_end.2] at HKy
  clear hT
  go_enter Tryz.func6, Tryz.ntmps6
  go_wp2_with fail
  refine HTx.out.mono ?_
  rintro e w1 ⟨rfl, hb1⟩
  have HB1 := Hid.mk hb1
  clear hb1
  go_wp2_with fail
  refine (HKy.out _).mono ?_
  rintro e w2 ⟨rfl, hb2⟩
  have HB2 := Hid.mk (HB1.out.trans (hb2.mono HB1.out.size))
  clear hb2
  go_wp2_with fail
  go_ret
  exact ⟨rfl, HB2.out⟩

set_option maxRecDepth 100000 in
set_option maxHeartbeats 1600000 in
theorem w_rKey (s : ByteArray) (w : World) (hs : s.size ≤ 1048576) : Calls Tryz.prog 9 #[.string s] w fun e w' => e = .returned (.tuple #[.string ⟨(pKy s).toArray⟩, .int .i64 (pKe1 s)]) ∧ Below w.heap.size w w' := by
  have HV := Hid.mk (fun u => w_rValidV s u (by omega))
  have HN := Hid.mk (fun u => w_rNamed s u (by omega))
  have HQ := Hid.mk (fun u => w_rQuote s u hs)
  cases hv : okB s.data.toList with
  | false =>
    rw [hv] at HV
    have e1 : pKy s = [] := by unfold pKy; rw [if_pos hv]
    have e2 : pKe1 s = 1 := by unfold pKe1; rw [if_pos hv]
    rw [e1, e2]
    clear hv e1 e2
    go_enter Tryz.func9, Tryz.ntmps9
    go_wp2_with fail
    refine (HV.out _).mono ?_
    rintro e w1 ⟨rfl, hb1⟩
    have HB1 := Hid.mk hb1
    clear hb1
    go_wp2_with fail
    go_ret2
    exact ⟨rfl, HB1.out⟩
  | true =>
    rw [hv] at HV
    have e2 : pKe1 s = 0 := by unfold pKe1; rw [if_neg (by rw [hv]; decide)]
    rw [e2]
    cases hn : namedB s.data.toList with
    | true =>
      rw [hn] at HN
      have e1 : pKy s = s.data.toList := by unfold pKy; rw [if_neg (by rw [hv]; decide), if_pos hn]
      rw [e1, show (⟨s.data.toList.toArray⟩ : ByteArray) = s from rfl]
      clear hv hn e1 e2
      go_enter Tryz.func9, Tryz.ntmps9
      go_wp2_with fail
      refine (HV.out _).mono ?_
      rintro e w1 ⟨rfl, hb1⟩
      have HB1 := Hid.mk hb1
      clear hb1
      go_wp2_with fail
      refine (HN.out _).mono ?_
      rintro e w2 ⟨rfl, hw2⟩
      obtain rfl := hw2.symm
      go_wp2_with fail
      go_ret2
      exact ⟨rfl, HB1.out⟩
    | false =>
      rw [hn] at HN
      have e1 : pKy s = pQt s := by unfold pKy; rw [if_neg (by rw [hv]; decide), if_neg (by rw [hn]; decide)]
      rw [e1]
      unfold pQt
      clear hv hn e1 e2
      generalize (⟨(34 :: (qb (runes s.data.toList) ++ [34])).toArray⟩ : ByteArray) = y at *
      go_enter Tryz.func9, Tryz.ntmps9
      go_wp2_with fail
      refine (HV.out _).mono ?_
      rintro e w1 ⟨rfl, hb1⟩
      have HB1 := Hid.mk hb1
      clear hb1
      go_wp2_with fail
      refine (HN.out _).mono ?_
      rintro e w2 ⟨rfl, hw2⟩
      obtain rfl := hw2.symm
      go_wp2_with fail
      refine (HQ.out _).mono ?_
      rintro e w3 ⟨rfl, hb3⟩
      have HB3 := Hid.mk (HB1.out.trans (hb3.mono HB1.out.size))
      clear hb3
      go_wp2_with fail
      go_ret2
      exact ⟨rfl, HB3.out⟩

set_option maxRecDepth 100000 in
set_option maxHeartbeats 1600000 in
theorem w_ShowKey (s : ByteArray) (hs : s.size ≤ 1048576) (w : World) (hT : PTabIn w) : Calls Tryz.prog 4 #[.string s] w fun e w' => e = .returned (.bool true) ∧ Below w.heap.size w w' := by
  have HR := Hid.mk (w_rKey s w hs)
  have HK := Hid.mk (fun u => w_KeyP s u (by omega))
  have HW : Hid (∀ u, Below w.heap.size w u → Calls Tryz.prog 6 #[] u fun e w' => e = .returned (.bool true) ∧ Below u.heap.size u w') := fun u hu => w_works u (hT.keep hu)
  generalize (⟨(pKy s).toArray⟩ : ByteArray) = y at *
  generalize pKe1 s = er at *
  clear hT hs
  go_enter Tryz.func4, Tryz.ntmps4
  go_wp2_with fail
  refine HR.out.mono ?_
  rintro e w1 ⟨rfl, hb1⟩
  have HB1 := Hid.mk hb1
  clear hb1
  go_wp2_with fail
  refine (HK.out _).mono ?_
  rintro e w2 ⟨rfl, hb2⟩
  have HB2 := Hid.mk (HB1.out.trans (hb2.mono HB1.out.size))
  clear hb2
  go_wp2_with fail
  refine (HW.out _ HB2.out).mono ?_
  rintro e w3 ⟨rfl, hb3⟩
  have HB3 := Hid.mk (HB2.out.trans (hb3.mono HB2.out.size))
  clear hb3
  go_wp2_with fail
  go_ret
  exact ⟨rfl, HB3.out⟩
end Go.Proofs.YtcadknhedfnaoaaGreatDoor
namespace Go.Proofs.YtcadknhedfnaoaaGreatDoor
open Go.RowKit Go.Shelf Go.Sort
set_option linter.unusedVariables false
set_option linter.unusedSimpArgs false
attribute [local go_sem] Oper.semAt_some

/-- a text of bytes -/
def bs (l : List UInt8) : ByteArray := ⟨l.toArray⟩
theorem bs_list (l : List UInt8) : (bs l).data.toList = l := rfl
theorem bs_app (a b : List UInt8) : bs a ++ bs b = bs (a ++ b) := by
  apply ByteArray.ext
  apply Array.ext'
  simp [bs]
theorem bs_of (x : ByteArray) : x = bs x.data.toList := rfl
theorem bs_size (l : List UInt8) : (bs l).size = l.length := by show Array.size _ = _; simp
theorem pRow_none {op : Int} (h : op ≠ 12 ∧ op ≠ 13 ∧ op ≠ 14 ∧ op ≠ 15 ∧ op ≠ 16 ∧ op ≠ 17 ∧ op ≠ 18 ∧ op ≠ 19 ∧ op ≠ 20 ∧ op ≠ 21 ∧ op ≠ 22 ∧ op ≠ 23 ∧ op ≠ 24 ∧ op ≠ 25 ∧ op ≠ 26 ∧ op ≠ 27 ∧ op ≠ 36 ∧ op ≠ 37 ∧ op ≠ 38 ∧ op ≠ 39 ∧ op ≠ 40 ∧ op ≠ 41 ∧ op ≠ 42 ∧ op ≠ 43) : pRow op = ([], 0, 0, 0) := by
  have hd : ∀ m : Fin 44, (([12, 13, 14, 15, 16, 17, 18, 19, 20, 21, 22, 23, 24, 25, 26, 27, 36, 37, 38, 39, 40, 41, 42, 43] : List Nat).contains m.1 || decide (pRow (m.1 : Int) = ([], 0, 0, 0))) = true := by decide
  by_cases h0 : op < 0
  · unfold pRow; rw [if_pos h0]
  · obtain ⟨m, rfl⟩ : ∃ m : Nat, op = (m : Int) := ⟨op.toNat, by omega⟩
    by_cases hm : m < 44
    · have := hd ⟨m, hm⟩
      simp only [Bool.or_eq_true, decide_eq_true_eq] at this
      rcases this with this | this
      · simp at this
        omega
      · exact this
    · unfold pRow
      rw [if_neg h0, Int.toNat_natCast, List.getD_eq_getElem?_getD, List.getElem?_eq_none (by rw [pTab_len]; omega)]
      rfl

set_option maxRecDepth 100000 in
set_option maxHeartbeats 3200000 in
theorem w_ptighter (op : Int) (h : op ≠ 12 ∧ op ≠ 13 ∧ op ≠ 36 ∧ op ≠ 37 ∧ op ≠ 38 ∧ op ≠ 39 ∧ op ≠ 40 ∧ op ≠ 41 ∧ op ≠ 42 ∧ op ≠ 43 ∧ op ≠ 27 ∧ op ≠ 26 ∧ op ≠ 25) (w : World) : Calls Tryz.prog 55 #[.int .i64 op] w fun e w' => e = .returned (.tuple #[.string (bs (pRow op).1), .int .i64 ((pRow op).2.2.1 : Int), .int .i64 ((pRow op).2.2.2 : Int)]) ∧ w' = w := by
  by_cases k19 : op = 19
  · subst k19
    go_enter Tryz.func55, Tryz.ntmps55
    go_wp2_with fail
    go_ret3
    exact ⟨rfl, rfl⟩
  have b19 : (op == 19) = false := by rw [beq_eq_false_iff_ne]; exact k19
  by_cases k20 : op = 20
  · subst k20
    go_enter Tryz.func55, Tryz.ntmps55
    go_wp2_with fail
    go_ret3
    exact ⟨rfl, rfl⟩
  have b20 : (op == 20) = false := by rw [beq_eq_false_iff_ne]; exact k20
  by_cases k21 : op = 21
  · subst k21
    go_enter Tryz.func55, Tryz.ntmps55
    go_wp2_with fail
    go_ret3
    exact ⟨rfl, rfl⟩
  have b21 : (op == 21) = false := by rw [beq_eq_false_iff_ne]; exact k21
  by_cases k22 : op = 22
  · subst k22
    go_enter Tryz.func55, Tryz.ntmps55
    go_wp2_with fail
    go_ret3
    exact ⟨rfl, rfl⟩
  have b22 : (op == 22) = false := by rw [beq_eq_false_iff_ne]; exact k22
  by_cases k23 : op = 23
  · subst k23
    go_enter Tryz.func55, Tryz.ntmps55
    go_wp2_with fail
    go_ret3
    exact ⟨rfl, rfl⟩
  have b23 : (op == 23) = false := by rw [beq_eq_false_iff_ne]; exact k23
  by_cases k24 : op = 24
  · subst k24
    go_enter Tryz.func55, Tryz.ntmps55
    go_wp2_with fail
    go_ret3
    exact ⟨rfl, rfl⟩
  have b24 : (op == 24) = false := by rw [beq_eq_false_iff_ne]; exact k24
  by_cases k14 : op = 14
  · subst k14
    go_enter Tryz.func55, Tryz.ntmps55
    go_wp2_with fail
    go_ret3
    exact ⟨rfl, rfl⟩
  have b14 : (op == 14) = false := by rw [beq_eq_false_iff_ne]; exact k14
  by_cases k15 : op = 15
  · subst k15
    go_enter Tryz.func55, Tryz.ntmps55
    go_wp2_with fail
    go_ret3
    exact ⟨rfl, rfl⟩
  have b15 : (op == 15) = false := by rw [beq_eq_false_iff_ne]; exact k15
  by_cases k16 : op = 16
  · subst k16
    go_enter Tryz.func55, Tryz.ntmps55
    go_wp2_with fail
    go_ret3
    exact ⟨rfl, rfl⟩
  have b16 : (op == 16) = false := by rw [beq_eq_false_iff_ne]; exact k16
  by_cases k17 : op = 17
  · subst k17
    go_enter Tryz.func55, Tryz.ntmps55
    go_wp2_with fail
    go_ret3
    exact ⟨rfl, rfl⟩
  have b17 : (op == 17) = false := by rw [beq_eq_false_iff_ne]; exact k17
  by_cases k18 : op = 18
  · subst k18
    go_enter Tryz.func55, Tryz.ntmps55
    go_wp2_with fail
    go_ret3
    exact ⟨rfl, rfl⟩
  have b18 : (op == 18) = false := by rw [beq_eq_false_iff_ne]; exact k18
  rw [pRow_none (by omega)]
  clear h k19 k20 k21 k22 k23 k24 k14 k15 k16 k17 k18
  go_enter Tryz.func55, Tryz.ntmps55
  go_wp2_with fail
  go_ret3
  exact ⟨rfl, rfl⟩

set_option maxRecDepth 100000 in
set_option maxHeartbeats 3200000 in
theorem w_psign (op : Int) (w : World) : Calls Tryz.prog 31 #[.int .i64 op] w fun e w' => e = .returned (.tuple #[.string (bs (pRow op).1), .int .i64 ((pRow op).2.2.1 : Int), .int .i64 ((pRow op).2.2.2 : Int)]) ∧ w' = w := by
  by_cases k12 : op = 12
  · subst k12
    go_enter Tryz.func31, Tryz.ntmps31
    go_wp2_with fail
    go_ret3
    exact ⟨rfl, rfl⟩
  have b12 : (op == 12) = false := by rw [beq_eq_false_iff_ne]; exact k12
  by_cases k13 : op = 13
  · subst k13
    go_enter Tryz.func31, Tryz.ntmps31
    go_wp2_with fail
    go_ret3
    exact ⟨rfl, rfl⟩
  have b13 : (op == 13) = false := by rw [beq_eq_false_iff_ne]; exact k13
  by_cases k36 : op = 36
  · subst k36
    go_enter Tryz.func31, Tryz.ntmps31
    go_wp2_with fail
    go_ret3
    exact ⟨rfl, rfl⟩
  have b36 : (op == 36) = false := by rw [beq_eq_false_iff_ne]; exact k36
  by_cases k37 : op = 37
  · subst k37
    go_enter Tryz.func31, Tryz.ntmps31
    go_wp2_with fail
    go_ret3
    exact ⟨rfl, rfl⟩
  have b37 : (op == 37) = false := by rw [beq_eq_false_iff_ne]; exact k37
  by_cases k38 : op = 38
  · subst k38
    go_enter Tryz.func31, Tryz.ntmps31
    go_wp2_with fail
    go_ret3
    exact ⟨rfl, rfl⟩
  have b38 : (op == 38) = false := by rw [beq_eq_false_iff_ne]; exact k38
  by_cases k39 : op = 39
  · subst k39
    go_enter Tryz.func31, Tryz.ntmps31
    go_wp2_with fail
    go_ret3
    exact ⟨rfl, rfl⟩
  have b39 : (op == 39) = false := by rw [beq_eq_false_iff_ne]; exact k39
  by_cases k40 : op = 40
  · subst k40
    go_enter Tryz.func31, Tryz.ntmps31
    go_wp2_with fail
    go_ret3
    exact ⟨rfl, rfl⟩
  have b40 : (op == 40) = false := by rw [beq_eq_false_iff_ne]; exact k40
  by_cases k41 : op = 41
  · subst k41
    go_enter Tryz.func31, Tryz.ntmps31
    go_wp2_with fail
    go_ret3
    exact ⟨rfl, rfl⟩
  have b41 : (op == 41) = false := by rw [beq_eq_false_iff_ne]; exact k41
  by_cases k42 : op = 42
  · subst k42
    go_enter Tryz.func31, Tryz.ntmps31
    go_wp2_with fail
    go_ret3
    exact ⟨rfl, rfl⟩
  have b42 : (op == 42) = false := by rw [beq_eq_false_iff_ne]; exact k42
  by_cases k43 : op = 43
  · subst k43
    go_enter Tryz.func31, Tryz.ntmps31
    go_wp2_with fail
    go_ret3
    exact ⟨rfl, rfl⟩
  have b43 : (op == 43) = false := by rw [beq_eq_false_iff_ne]; exact k43
  by_cases k27 : op = 27
  · subst k27
    go_enter Tryz.func31, Tryz.ntmps31
    go_wp2_with fail
    go_ret3
    exact ⟨rfl, rfl⟩
  have b27 : (op == 27) = false := by rw [beq_eq_false_iff_ne]; exact k27
  by_cases k26 : op = 26
  · subst k26
    go_enter Tryz.func31, Tryz.ntmps31
    go_wp2_with fail
    go_ret3
    exact ⟨rfl, rfl⟩
  have b26 : (op == 26) = false := by rw [beq_eq_false_iff_ne]; exact k26
  by_cases k25 : op = 25
  · subst k25
    go_enter Tryz.func31, Tryz.ntmps31
    go_wp2_with fail
    go_ret3
    exact ⟨rfl, rfl⟩
  have b25 : (op == 25) = false := by rw [beq_eq_false_iff_ne]; exact k25
  have HT := Hid.mk (w_ptighter op (by omega) w)
  generalize pRow op = r at *
  clear k12 k13 k36 k37 k38 k39 k40 k41 k42 k43 k27 k26 k25
  go_enter Tryz.func31, Tryz.ntmps31
  go_wp2_with fail
  refine HT.out.mono ?_
  rintro e w2 ⟨rfl, hw2⟩
  obtain rfl := hw2.symm
  go_wp2_with fail
  go_ret3
  exact ⟨rfl, rfl⟩

set_option maxRecDepth 100000 in
set_option maxHeartbeats 3200000 in
theorem w_rLoose (h : Nat) (A : NT) (va : Value) (w : World) (hA : InA w h A va) (hf : fpN h A = true) : Calls Tryz.prog 56 #[va] w fun e w' => e = .returned (.int .i64 (pLo A)) ∧ Below w.heap.size w w' := by
  cases h with
  | zero => exact hA.elim
  | succ h =>
  have hm := (fp_open hf).1
  obtain ⟨io, ic, yo, yc, no, nc, ko, kc, e, -, -, -, ⟨-, hbig⟩, -, -⟩ := hA
  subst e
  have hb1 := Hid.mk (below1 w (.cells #[.int .i64 A.op, .int .i64 A.at_, .string A.text, .int .i64 A.value.kind, .string A.value.num, .string A.value.text, .slice io A.value.items.length ic, .slice yo A.value.keys.length yc, .slice no A.names.length nc, .slice ko A.kids.length kc] 28))
  unfold pLo
  generalize A.kids.length = N at *
  generalize A.op = op at *
  clear hf
  by_cases k12 : op = 12
  · subst k12
    clear hm
    go_enter Tryz.func56, Tryz.ntmps56
    go_wp2_with fail
    go_ret
    exact ⟨rfl, hb1.out⟩
  have b12 : (op == 12) = false := by rw [beq_eq_false_iff_ne]; exact k12
  by_cases k29 : op = 29
  · subst k29
    clear hm
    go_enter Tryz.func56, Tryz.ntmps56
    go_wp2_with fail
    go_ret
    exact ⟨rfl, hb1.out⟩
  have b29 : (op == 29) = false := by rw [beq_eq_false_iff_ne]; exact k29
  by_cases k32 : op = 32
  · subst k32
    clear hm
    go_enter Tryz.func56, Tryz.ntmps56
    go_wp2_with fail
    go_ret
    exact ⟨rfl, hb1.out⟩
  have b32 : (op == 32) = false := by rw [beq_eq_false_iff_ne]; exact k32
  by_cases k34 : op = 34
  · subst k34
    clear hm
    go_enter Tryz.func56, Tryz.ntmps56
    go_wp2_with fail
    go_ret
    exact ⟨rfl, hb1.out⟩
  have b34 : (op == 34) = false := by rw [beq_eq_false_iff_ne]; exact k34
  by_cases k13 : op = 13
  · subst k13
    clear hm
    go_enter Tryz.func56, Tryz.ntmps56
    go_wp2_with fail
    go_ret
    exact ⟨rfl, hb1.out⟩
  have b13 : (op == 13) = false := by rw [beq_eq_false_iff_ne]; exact k13
  by_cases k36 : op = 36
  · subst k36
    clear hm
    go_enter Tryz.func56, Tryz.ntmps56
    go_wp2_with fail
    go_ret
    exact ⟨rfl, hb1.out⟩
  have b36 : (op == 36) = false := by rw [beq_eq_false_iff_ne]; exact k36
  by_cases k37 : op = 37
  · subst k37
    clear hm
    go_enter Tryz.func56, Tryz.ntmps56
    go_wp2_with fail
    go_ret
    exact ⟨rfl, hb1.out⟩
  have b37 : (op == 37) = false := by rw [beq_eq_false_iff_ne]; exact k37
  by_cases k38 : op = 38
  · subst k38
    clear hm
    go_enter Tryz.func56, Tryz.ntmps56
    go_wp2_with fail
    go_ret
    exact ⟨rfl, hb1.out⟩
  have b38 : (op == 38) = false := by rw [beq_eq_false_iff_ne]; exact k38
  by_cases k39 : op = 39
  · subst k39
    clear hm
    go_enter Tryz.func56, Tryz.ntmps56
    go_wp2_with fail
    go_ret
    exact ⟨rfl, hb1.out⟩
  have b39 : (op == 39) = false := by rw [beq_eq_false_iff_ne]; exact k39
  by_cases k40 : op = 40
  · subst k40
    clear hm
    go_enter Tryz.func56, Tryz.ntmps56
    go_wp2_with fail
    go_ret
    exact ⟨rfl, hb1.out⟩
  have b40 : (op == 40) = false := by rw [beq_eq_false_iff_ne]; exact k40
  by_cases k41 : op = 41
  · subst k41
    clear hm
    go_enter Tryz.func56, Tryz.ntmps56
    go_wp2_with fail
    go_ret
    exact ⟨rfl, hb1.out⟩
  have b41 : (op == 41) = false := by rw [beq_eq_false_iff_ne]; exact k41
  by_cases k42 : op = 42
  · subst k42
    clear hm
    go_enter Tryz.func56, Tryz.ntmps56
    go_wp2_with fail
    go_ret
    exact ⟨rfl, hb1.out⟩
  have b42 : (op == 42) = false := by rw [beq_eq_false_iff_ne]; exact k42
  by_cases k43 : op = 43
  · subst k43
    clear hm
    go_enter Tryz.func56, Tryz.ntmps56
    go_wp2_with fail
    go_ret
    exact ⟨rfl, hb1.out⟩
  have b43 : (op == 43) = false := by rw [beq_eq_false_iff_ne]; exact k43
  by_cases k27 : op = 27
  · subst k27
    clear hm
    go_enter Tryz.func56, Tryz.ntmps56
    go_wp2_with fail
    go_ret
    exact ⟨rfl, hb1.out⟩
  have b27 : (op == 27) = false := by rw [beq_eq_false_iff_ne]; exact k27
  by_cases k26 : op = 26
  · subst k26
    clear hm
    go_enter Tryz.func56, Tryz.ntmps56
    go_wp2_with fail
    go_ret
    exact ⟨rfl, hb1.out⟩
  have b26 : (op == 26) = false := by rw [beq_eq_false_iff_ne]; exact k26
  by_cases k25 : op = 25
  · subst k25
    clear hm
    go_enter Tryz.func56, Tryz.ntmps56
    go_wp2_with fail
    go_ret
    exact ⟨rfl, hb1.out⟩
  have b25 : (op == 25) = false := by rw [beq_eq_false_iff_ne]; exact k25
  by_cases k19 : op = 19
  · subst k19
    clear hm
    go_enter Tryz.func56, Tryz.ntmps56
    go_wp2_with fail
    go_ret
    exact ⟨rfl, hb1.out⟩
  have b19 : (op == 19) = false := by rw [beq_eq_false_iff_ne]; exact k19
  by_cases k20 : op = 20
  · subst k20
    clear hm
    go_enter Tryz.func56, Tryz.ntmps56
    go_wp2_with fail
    go_ret
    exact ⟨rfl, hb1.out⟩
  have b20 : (op == 20) = false := by rw [beq_eq_false_iff_ne]; exact k20
  by_cases k21 : op = 21
  · subst k21
    clear hm
    go_enter Tryz.func56, Tryz.ntmps56
    go_wp2_with fail
    go_ret
    exact ⟨rfl, hb1.out⟩
  have b21 : (op == 21) = false := by rw [beq_eq_false_iff_ne]; exact k21
  by_cases k22 : op = 22
  · subst k22
    clear hm
    go_enter Tryz.func56, Tryz.ntmps56
    go_wp2_with fail
    go_ret
    exact ⟨rfl, hb1.out⟩
  have b22 : (op == 22) = false := by rw [beq_eq_false_iff_ne]; exact k22
  by_cases k23 : op = 23
  · subst k23
    clear hm
    go_enter Tryz.func56, Tryz.ntmps56
    go_wp2_with fail
    go_ret
    exact ⟨rfl, hb1.out⟩
  have b23 : (op == 23) = false := by rw [beq_eq_false_iff_ne]; exact k23
  by_cases k24 : op = 24
  · subst k24
    clear hm
    go_enter Tryz.func56, Tryz.ntmps56
    go_wp2_with fail
    go_ret
    exact ⟨rfl, hb1.out⟩
  have b24 : (op == 24) = false := by rw [beq_eq_false_iff_ne]; exact k24
  by_cases k14 : op = 14
  · subst k14
    clear hm
    go_enter Tryz.func56, Tryz.ntmps56
    go_wp2_with fail
    go_ret
    exact ⟨rfl, hb1.out⟩
  have b14 : (op == 14) = false := by rw [beq_eq_false_iff_ne]; exact k14
  by_cases k15 : op = 15
  · subst k15
    clear hm
    go_enter Tryz.func56, Tryz.ntmps56
    go_wp2_with fail
    go_ret
    exact ⟨rfl, hb1.out⟩
  have b15 : (op == 15) = false := by rw [beq_eq_false_iff_ne]; exact k15
  by_cases k16 : op = 16
  · subst k16
    clear hm
    go_enter Tryz.func56, Tryz.ntmps56
    go_wp2_with fail
    go_ret
    exact ⟨rfl, hb1.out⟩
  have b16 : (op == 16) = false := by rw [beq_eq_false_iff_ne]; exact k16
  by_cases k17 : op = 17
  · subst k17
    clear hm
    go_enter Tryz.func56, Tryz.ntmps56
    go_wp2_with fail
    go_ret
    exact ⟨rfl, hb1.out⟩
  have b17 : (op == 17) = false := by rw [beq_eq_false_iff_ne]; exact k17
  by_cases k18 : op = 18
  · subst k18
    clear hm
    go_enter Tryz.func56, Tryz.ntmps56
    go_wp2_with fail
    go_ret
    exact ⟨rfl, hb1.out⟩
  have b18 : (op == 18) = false := by rw [beq_eq_false_iff_ne]; exact k18
  by_cases k11 : op = 11
  · subst k11
    clear hm
    go_enter Tryz.func56, Tryz.ntmps56
    go_wp2_with fail
    go_ret
    exact ⟨rfl, hb1.out⟩
  have b11 : (op == 11) = false := by rw [beq_eq_false_iff_ne]; exact k11
  rw [if_neg (by omega), if_neg k11]
  by_cases k10 : op = 10
  · subst k10
    rw [if_pos rfl]
    have hN : N = 1 ∨ N = 2 := by
      simp [mfB] at hm
      omega
    rcases hN with rfl | rfl
    · clear hm
      go_enter Tryz.func56, Tryz.ntmps56
      go_wp2_with fail
      go_ret
      exact ⟨rfl, hb1.out⟩
    · clear hm
      go_enter Tryz.func56, Tryz.ntmps56
      go_wp2_with fail
      go_ret
      exact ⟨rfl, hb1.out⟩
  have b10 : (op == 10) = false := by rw [beq_eq_false_iff_ne]; exact k10
  rw [if_neg k10]
  have hp : pSg op = [] := by unfold pSg; rw [pRow_none (by omega)]
  rw [hp, if_neg (by simp)]
  clear hm hp k12 k29 k32 k34 k13 k36 k37 k38 k39 k40 k41 k42 k43 k27 k26 k25 k19 k20 k21 k22 k23 k24 k14 k15 k16 k17 k18 k11 k10
  go_enter Tryz.func56, Tryz.ntmps56
  go_wp2_with fail
  go_ret
  exact ⟨rfl, hb1.out⟩

set_option maxRecDepth 100000 in
set_option maxHeartbeats 3200000 in
theorem w_risText (h : Nat) (A : NT) (va : Value) (w : World) (hA : InA w h A va) : Calls Tryz.prog 58 #[va] w fun e w' => e = .returned (.bool (pTx A)) ∧ Below w.heap.size w w' := by
  cases h with
  | zero => exact hA.elim
  | succ h =>
  obtain ⟨io, ic, yo, yc, no, nc, ko, kc, e, -, -, -, ⟨-, hbig⟩, -, -⟩ := hA
  subst e
  have hb1 := Hid.mk (below1 w (.cells #[.int .i64 A.op, .int .i64 A.at_, .string A.text, .int .i64 A.value.kind, .string A.value.num, .string A.value.text, .slice io A.value.items.length ic, .slice yo A.value.keys.length yc, .slice no A.names.length nc, .slice ko A.kids.length kc] 28))
  unfold pTx
  generalize A.op = op at *
  generalize A.value.kind = kd at *
  by_cases h2 : op = 2
  · subst h2
    by_cases h4 : kd = 4
    · subst h4
      go_enter Tryz.func58, Tryz.ntmps58
      go_wp2_with fail
      go_ret
      exact ⟨rfl, hb1.out⟩
    · have b4 : (kd == 4) = false := by rw [beq_eq_false_iff_ne]; exact h4
      rw [decide_eq_false h4]
      go_enter Tryz.func58, Tryz.ntmps58
      go_wp2_with fail
      go_ret
      exact ⟨rfl, hb1.out⟩
  · have b2 : (op == 2) = false := by rw [beq_eq_false_iff_ne]; exact h2
    rw [decide_eq_false h2]
    go_enter Tryz.func58, Tryz.ntmps58
    go_wp2_with fail
    go_ret
    exact ⟨rfl, hb1.out⟩

set_option maxRecDepth 100000 in
set_option maxHeartbeats 3200000 in
theorem w_rpiece (x : ByteArray) (w : World) (hs : x.size ≤ 1048576) (hl : (pPc x).length ≤ 140737488355328) : Calls Tryz.prog 57 #[.string x] w fun e w' => e = .returned (.string (bs (pPc x))) ∧ Below w.heap.size w w' := by
  have HQ : Hid (Calls Tryz.prog 19 #[.string x] w fun e w' => e = .returned (.string (bs (34 :: (pPc x ++ [34])))) ∧ Below w.heap.size w w') := w_rQuote x w hs
  have HSz : Hid ((bs (34 :: (pPc x ++ [34]))).size = (pPc x).length + 2) := by
    show _ = _
    rw [bs_size]
    simp
  have HY : Hid ((bs (34 :: (pPc x ++ [34]))).extract 1 ((bs (34 :: (pPc x ++ [34]))).size - 1) = bs (pPc x)) := by
    show _ = _
    apply ByteArray.ext
    apply Array.ext'
    rw [HSz.out, show (pPc x).length + 2 - 1 = (pPc x).length + 1 by omega, ByteArray.data_extract, Array.toList_extract]
    simp [bs]
  generalize bs (34 :: (pPc x ++ [34])) = Z at *
  have z2 : (1 : Int) ≤ (Z.size : Int) - 1 := by have hsz := HSz.out; omega
  have z3 : (Z.size : Int) - 1 ≤ (Z.size : Int) := by omega
  have z4 : IntKind.i64.wrap ((Z.size : Int) - 1) = (Z.size : Int) - 1 := by have hsz := HSz.out; rw [IntKind.wrap_i64]; omega
  go_enter Tryz.func57, Tryz.ntmps57
  go_wp2_with fail
  refine HQ.out.mono ?_
  rintro e w1 ⟨rfl, hb1⟩
  have HB1 := Hid.mk hb1
  clear hb1
  go_wp2_with fail
  go_ret
  exact ⟨by rw [← HY.out]; rfl, HB1.out⟩

set_option maxRecDepth 100000 in
set_option maxHeartbeats 3200000 in
theorem w_rconstant (V : VT) (io yo : Option Addr) (ni nic ny nyc : Nat) (w : World) (hs : V.text.size ≤ 1048576) : Calls Tryz.prog 33 #[.agg #[.int .i64 V.kind, .string V.num, .string V.text, .slice io ni nic, .slice yo ny nyc]] w fun e w' => e = .returned (.string (bs (pCn V))) ∧ Below w.heap.size w w' := by
  have hb1 := Hid.mk (below1 w (.cells #[.int .i64 V.kind, .string V.num, .string V.text, .slice io ni nic, .slice yo ny nyc] 25))
  have HQ : Hid (∀ u, Calls Tryz.prog 19 #[.string V.text] u fun e w' => e = .returned (.string (bs (pQt V.text))) ∧ Below u.heap.size u w') := fun u => w_rQuote V.text u hs
  clear hs
  unfold pCn
  generalize V.kind = kd at *
  generalize V.text = tx at *
  generalize V.num = nu at *
  by_cases k0 : kd = 0
  · subst k0
    rw [if_pos rfl]
    go_enter Tryz.func33, Tryz.ntmps33
    go_wp2_with fail
    go_ret
    exact ⟨rfl, hb1.out⟩
  have b0 : (kd == 0) = false := by rw [beq_eq_false_iff_ne]; exact k0
  by_cases k1 : kd = 1
  · subst k1
    rw [if_neg (by decide), if_pos rfl]
    go_enter Tryz.func33, Tryz.ntmps33
    go_wp2_with fail
    go_ret
    exact ⟨rfl, hb1.out⟩
  have b1 : (kd == 1) = false := by rw [beq_eq_false_iff_ne]; exact k1
  by_cases k2 : kd = 2
  · subst k2
    rw [if_neg (by decide), if_neg (by decide), if_pos rfl]
    go_enter Tryz.func33, Tryz.ntmps33
    go_wp2_with fail
    go_ret
    exact ⟨rfl, hb1.out⟩
  have b2 : (kd == 2) = false := by rw [beq_eq_false_iff_ne]; exact k2
  by_cases k3 : kd = 3
  · subst k3
    rw [if_neg (by decide), if_neg (by decide), if_neg (by decide), if_pos rfl]
    go_enter Tryz.func33, Tryz.ntmps33
    go_wp2_with fail
    go_ret
    exact ⟨rfl, hb1.out⟩
  have b3 : (kd == 3) = false := by rw [beq_eq_false_iff_ne]; exact k3
  rw [if_neg k0, if_neg k1, if_neg k2, if_neg k3]
  clear k0 k1 k2 k3
  generalize bs (pQt tx) = Z at *
  go_enter Tryz.func33, Tryz.ntmps33
  go_wp2_with fail
  refine (HQ.out _).mono ?_
  rintro e w2 ⟨rfl, hb2⟩
  have HB2 := Hid.mk (hb1.out.trans (hb2.mono hb1.out.size))
  clear hb2
  go_wp2_with fail
  go_ret
  exact ⟨rfl, HB2.out⟩
end Go.Proofs.YtcadknhedfnaoaaGreatDoor
