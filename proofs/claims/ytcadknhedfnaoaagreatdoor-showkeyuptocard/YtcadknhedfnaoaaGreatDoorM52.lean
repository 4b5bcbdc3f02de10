import Derived.Test.YtcadknhedfnaoaaGreatDoorM46
import Derived.Test.YtcadknhedfnaoaaGreatDoorM41
namespace Go.Proofs.YtcadknhedfnaoaaGreatDoor
open Go.RowKit
set_option linter.unusedVariables false
set_option linter.unusedSimpArgs false

theorem size_lenV (s : ByteArray) : s.data.toList.length = s.size := Array.length_toList
theorem prow_lenV (s : ByteArray) (n : Nat) : (prow s n).length = n * 4 := by
  induction n with
  | zero => rfl
  | succ n ih => rw [prow_up, List.length_append, ih]; simp [pcC]; omega
theorem prow_getV (s : ByteArray) {k N : Nat} (h : k < N) (j : Nat) (hj : j < 4) : (prow s N)[k * 4 + j]? = (pcC s (off s.data.toList k))[j]? := by
  obtain ⟨m, rfl⟩ : ∃ m, N = (k + 1) + m := ⟨N - (k + 1), by omega⟩
  induction m with
  | zero =>
    rw [Nat.add_zero, prow_up, List.getElem?_append_right (by rw [prow_lenV]; omega), prow_lenV]
    congr 1; omega
  | succ m ih =>
    rw [show k + 1 + (m + 1) = k + 1 + m + 1 by omega, prow_up, List.getElem?_append_left (by rw [prow_lenV]; omega)]
    exact ih (by omega)

/-- the pieces' row, as it lies -/
structure PRowV (s : ByteArray) (w : World) (g : Nat) : Prop where
  row : ∃ cur, w.heap[g]? = some (.cells cur 66 (0, 0)) ∧ cur.toList.take ((runes s.data.toList).length * 4) = prow s (runes s.data.toList).length
theorem PRowV.get {s : ByteArray} {w : World} {g k : Nat} (h : PRowV s w g) (hk : k < (runes s.data.toList).length) (j : Nat) (hj : j < 4) : w.cell? ⟨g, k * 4 + j, none⟩ = (pcC s (off s.data.toList k))[j]? := by
  obtain ⟨cur, h1, h2⟩ := h.row
  rw [cell_of_row w g _ _ _ _ h1, ← prow_getV s hk j hj, ← h2, List.getElem?_take, if_pos (by omega), Array.getElem?_toList]

theorem ok_stepV (l : List UInt8) {k : Nat} (hk : k < (runes l).length) : okB (l.drop (off l k)) = if strayL (l.drop (off l k)) = true then false else okB (l.drop (off l (k + 1))) := by
  have hl := off_lt k l hk
  have hne : l.drop (off l k) ≠ [] := by
    intro e
    have := congrArg List.length e
    rw [List.length_drop, List.length_nil] at this
    omega
  have hs := off_step l k hne
  rcases stray_or _ hne with ⟨n, post, hn, he, hst⟩ | ⟨hd, hst⟩
  · rw [if_neg (by rw [hst]; decide)]
    have hd := dec_enc n hn post
    rw [← he] at hd
    have : l.drop (off l (k + 1)) = post := by
      rw [hs, hd, ← List.drop_drop, he]
      exact List.drop_left' rfl
    rw [this, he, ok_enc n hn post]
  · rw [if_pos hst, ok_stray _ hne hd]

theorem rows_ofV {s : ByteArray} {w w1 : World} {so : Option Addr} {sc N : Nat} (hN : N = (runes s.data.toList).length) (ho : w1.ownsRow w.heap.size 66 4 (.slice so N sc) N (prow s N)) : 0 < N → ∃ g, so = some ⟨g, 0, none⟩ ∧ PRowV s w1 g := by
  intro h0
  rcases ho.2 with ⟨_, e⟩ | ⟨g, cap, cur, e, _, hr, _, _, _, ht⟩
  · omega
  · simp only [Value.slice.injEq] at e
    exact ⟨g, e.1, ⟨cur, hr, by rw [← hN]; exact ht⟩⟩

set_option maxRecDepth 100000 in
set_option maxHeartbeats 1600000 in
theorem w_rValidV (s : ByteArray) (w : World) (hs : s.size ≤ 16777216) :
    Calls Tryz.prog 17 #[.string s] w fun e w' => e = .returned (.bool (okB s.data.toList)) ∧ Below w.heap.size w w' := by
  have hrl := runes_len_le s.data.toList
  rw [size_lenV] at hrl
  have HPc := Hid.mk (fun u => w_Pieces s u (by omega))
  obtain ⟨N, hN⟩ : ∃ N, N = (runes s.data.toList).length := ⟨_, rfl⟩
  have HNN := Hid.mk hN
  rw [← hN] at HPc hrl
  clear hN
  go_enter Tryz.func17, Tryz.ntmps17
  go_wp2_with fail
  refine (HPc.out _).mono ?_
  rintro e w1 ⟨so, sc, rfl, ho, hb1⟩
  have HB := Hid.mk hb1
  have HR := Hid.mk (rows_ofV HNN.out ho.out)
  clear hb1 ho HPc
  go_wp2_with fail
  go_loopw [4] (fun i wr => ∃ k : Nat, k ≤ N ∧ i = .int .i64 (k : Int) ∧ wr = w1 ∧ Hid (okB s.data.toList = okB (s.data.toList.drop (off s.data.toList k)))) (fun i _ => N - (intOf i).toNat)
  case atStart => exact ⟨0, Nat.zero_le _, rfl, rfl, rfl⟩
  case round =>
    obtain ⟨k, hk, rfl, rfl, HQ⟩ := hrel
    by_cases hlt : k < N
    · have hl1 : (k : Int) < (N : Int) := by omega
      have hkN : k < (runes s.data.toList).length := by rw [← HNN.out]; exact hlt
      obtain ⟨g, hg, hpr⟩ := HR.out (by omega)
      subst hg
      have c3 : wr.cell? ⟨g, k * 4 + 3, none⟩ = some (.bool (strayL (s.data.toList.drop (off s.data.toList k)))) := hpr.get hkN 3 (by omega)
      have HS := Hid.mk (ok_stepV s.data.toList hkN)
      cases hst : strayL (s.data.toList.drop (off s.data.toList k)) with
      | true =>
        rw [hst] at c3 HS
        have HF : Hid (okB s.data.toList = false) := by rw [HQ.out, HS.out]; rfl
        clear hpr hkN hst
        go_wp2_with fail
        go_ret
        exact ⟨by rw [HF.out]; rfl, HB.out⟩
      | false =>
        rw [hst] at c3 HS
        have HN : Hid (okB s.data.toList = okB (s.data.toList.drop (off s.data.toList (k + 1)))) := by
          rw [HQ.out, HS.out]; rfl
        clear hpr hkN hst
        go_wp2_with fail
        go_roundw
        case rel => exact ⟨k + 1, by omega, by go_num, trivial, HN⟩
        case measure => simp [intOf]; omega
    · have hl1 : ¬ (k : Int) < (N : Int) := by omega
      have HF : Hid (okB s.data.toList = true) := by
        show _ = _
        rw [HQ.out, off_end k s.data.toList (by rw [← HNN.out]; omega), List.drop_length]
        rfl
      go_wp2_with fail
      go_ret
      exact ⟨by rw [HF.out]; rfl, HB.out⟩

end Go.Proofs.YtcadknhedfnaoaaGreatDoor
