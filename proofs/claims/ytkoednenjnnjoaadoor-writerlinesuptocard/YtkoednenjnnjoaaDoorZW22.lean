import Derived.Test.YtkoednenjnnjoaaDoorM27
namespace Go.Proofs.YtkoednenjnnjoaaDoor
open Go.RowKit
set_option linter.unusedVariables false
set_option linter.unusedSimpArgs false

/-- the lines of a list -/
def lnsG (h : Nat) (ts : List VT) (i : Nat) : List UInt8 := (ts[i]?.map (wrV none h 0)).getD [] ++ [10]
def lnsW (h : Nat) (ts : List VT) (k : Nat) : List UInt8 := joinR (lnsG h ts) k
theorem lnsG_at {h : Nat} {ts : List VT} {i : Nat} (hi : i < ts.length) : lnsG h ts i = wrV none h 0 ts[i] ++ [10] := by unfold lnsG; rw [List.getElem?_eq_getElem hi]; rfl
theorem lnsW_len (h : Nat) (ts : List VT) (hf : ∀ t ∈ ts, formN h t = true) (hsh : ∀ t ∈ ts, ShV h t) (hsz : sumL (ts.map (szN h)) ≤ 20000) : (lnsW h ts ts.length).length ≤ 33554432 * sumL (ts.map (szN h)) := by
  have hb := joinR_len (lnsG h ts) (fun i => 33554432 * (ts[i]?.map (szN h)).getD 0) ts.length (by
    intro i hil
    have hm := List.getElem_mem hil
    have h1 : szN h ts[i] ≤ sumL (ts.map (szN h)) := sumL_mem (List.mem_map.2 ⟨_, hm, rfl⟩)
    have h2 := wrV_len none (fun s e => by cases e) h 0 ts[i] (hf _ hm) (hsh _ hm) (by omega)
    rw [lnsG_at hil, List.getElem?_eq_getElem hil]
    simp only [List.length_append, List.length_cons, List.length_nil, Option.map_some, Option.getD_some]
    omega)
  rw [sum_rng (szN h) 33554432 _ (fun i hil => by rw [List.getElem?_eq_getElem hil]; rfl)] at hb
  exact hb
theorem all_at {h : Nat} {ts : List VT} (hf : ts.all (formN h) = true) : ∀ t ∈ ts, formN h t = true := fun t ht => List.all_eq_true.1 hf t ht

set_option maxRecDepth 100000 in
set_option maxHeartbeats 1600000 in
theorem w_rLines (h : Nat) (io : Option Addr) (N icap : Nat) (ts : List VT) (w : World) (hts : ts.length = N) (hI : IIn w h io ts) (hN : N ≤ icap) (hN2 : N ≤ 140737488355328) (hsh : ∀ t ∈ ts, ShV h t) (hsz : sumL (ts.map (szN h)) ≤ 20000) :
    Calls Tryd.prog 17 #[.slice io N icap] w fun e w' => e = .returned (.tuple #[.string ⟨(if ts.all (formN h) = true then lnsW h ts N else []).toArray⟩, .int .i64 (if ts.all (formN h) = true then 0 else 1)]) ∧ Below w.heap.size w w' := by
  have HAll := Hid.mk (w_All h (w_rFormed h) io N icap ts w hI hts hN hN2)
  cases hf : ts.all (formN h) with
  | false =>
    rw [hf] at HAll
    simp only [Bool.false_eq_true, if_false]
    clear hf hI hsh hsz hts
    go_enter Tryd.func17, Tryd.ntmps17
    go_wp2_with fail
    refine HAll.out.mono ?_
    rintro e w1 ⟨rfl, hb⟩
    have HB := Hid.mk hb
    clear hb
    go_wp2_with fail
    go_ret2
    exact ⟨rfl, HB.out⟩
  | true =>
    rw [hf] at HAll
    simp only [if_true]
    have hfa := all_at hf
    have hll := lnsW_len h ts hfa hsh hsz
    rw [hts] at hll
    have HI := Hid.mk hI
    have HNN := Hid.mk hts
    clear hf hI
    go_enter Tryd.func17, Tryd.ntmps17
    go_wp2_with fail
    refine HAll.out.mono ?_
    rintro e w1 ⟨rfl, hb⟩
    have HB1 := Hid.mk hb
    clear hb hts
    go_wp2_with fail
    go_loopw [4, 5] (fun sv iv wr => ∃ (k : Nat) (a : ByteArray), k ≤ N ∧ sv = .string a ∧ iv = .int .i64 (k : Int) ∧ Hid (a.data.toList = lnsW h ts k) ∧ Hid (Below w.heap.size w wr)) (fun _ iv _ => N - (intOf iv).toNat)
    case atStart => exact ⟨0, ⟨#[]⟩, Nat.zero_le _, rfl, rfl, rfl, HB1⟩
    case round =>
      obtain ⟨k, a, hk, rfl, rfl, HA, HB⟩ := hrel
      by_cases hlt : k < N
      · have hl1 : (k : Int) < (N : Int) := by omega
        have hkt : k < ts.length := by rw [HNN.out]; exact hlt
        obtain ⟨b, off, hio, hbl, hrow⟩ := (HI.out.keep HB.out).row (by omega)
        subst hio
        obtain ⟨v0, v1, v2, v3, v4, ⟨c0, c1, c2, c3, c4⟩, ht⟩ := hrow k hkt
        have hm := List.getElem_mem hkt
        have h1 : szN h ts[k] ≤ sumL (ts.map (szN h)) := sumL_mem (List.mem_map.2 ⟨_, hm, rfl⟩)
        have hjl : (lnsW h ts (k + 1)).length ≤ (lnsW h ts N).length := joinR_le _ (by omega)
        have hjk : lnsW h ts (k + 1) = lnsW h ts k ++ (wrV none h 0 ts[k] ++ [10]) := by unfold lnsW; rw [joinR, lnsG_at hkt]
        have hjz := congrArg List.length hjk
        simp only [List.length_append, List.length_cons, List.length_nil] at hjz
        obtain ⟨ts_, hts_⟩ : ∃ ts_ : ByteArray, ts_ = ⟨(wrV none h 0 ts[k]).toArray⟩ := ⟨_, rfl⟩
        have htsl : ts_.data.toList = wrV none h 0 ts[k] := by rw [hts_]
        have htz := bsz htsl
        have haz := bsz HA.out
        have HC : Hid (Calls Tryd.prog 27 #[.agg #[v0, v1, v2, v3, v4], .int .i64 0, .int .i64 (-1)] wr fun e w' => e = .returned (.string ts_) ∧ Below wr.heap.size wr w') := by
          have h2 := w_write_p h ts[k] _ wr 0 ht (hfa _ hm) (hsh _ hm) (by omega) (by omega)
          rw [← hts_] at h2
          exact h2
        have hp1 : ¬ 9223372036854775807 < a.size + ts_.size := by omega
        have hp2 : ¬ 9223372036854775807 < (a ++ ts_).size + 1 := by rw [ByteArray.size_append]; omega
        have hp2e : ¬ 9223372036854775807 < a.size + ts_.size + 1 := by omega
        have HFin : Hid ((a ++ ts_ ++ ⟨#[10]⟩).data.toList = lnsW h ts (k + 1)) := by
          show _ = _
          rw [hjk]; simp [HA.out, htsl]
        clear ht hrow hbl hm h1 hjl hjk hjz hts_ htsl htz haz
        go_wp2_with fail
        refine HC.out.mono ?_
        rintro e w2 ⟨rfl, hb2⟩
        have HB2 := Hid.mk (HB.out.trans (hb2.mono HB.out.size))
        clear hb2 c0 c1 c2 c3 c4
        go_wp2_with fail
        go_roundw
        case rel => exact ⟨k + 1, _, hlt, rfl, by go_num, HFin, HB2⟩
        case measure => simp [intOf]; omega
      · have hl1 : ¬ (k : Int) < (N : Int) := by omega
        obtain rfl : k = N := by omega
        have HFin : Hid (a = ⟨(lnsW h ts k).toArray⟩) := bmk HA.out
        go_wp2_with fail
        go_ret2
        exact ⟨by rw [HFin.out]; rfl, HB.out⟩
end Go.Proofs.YtkoednenjnnjoaaDoor
