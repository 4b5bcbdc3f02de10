import Derived.Test.YtfgfgcecbodjeaaGreatDoorM17
import Derived.Test.YtfgfgcecbodjeaaGreatDoorM14
import Derived.Deep.RegionWith
namespace Go.Proofs.YtfgfgcecbodjeaaGreatDoor
open Go.RowKit
set_option linter.unusedVariables false
set_option linter.unusedSimpArgs false

/-- what the reference's Escape answers -/
def EscRx (s : ByteArray) (k : Nat) (w w' : World) (e : Ending) : Prop := e = .returned (.tuple #[.int .i64 ((escL s.data.toList k).1 : Int), .int .i64 ((escL s.data.toList k).2.1 : Int), .int .i64 ((escL s.data.toList k).2.2 : Int)]) ∧ w' = w
theorem escRx_mk {s : ByteArray} {k : Nat} {w : World} {a p c : Nat} {r q z : Int} (h : escL s.data.toList k = (a, p, c)) (hr : r = (a : Int)) (hq : q = (p : Int)) (hz : z = (c : Int)) : EscRx s k w w (.returned (.tuple #[.int .i64 r, .int .i64 q, .int .i64 z])) := by
  subst hr hq hz
  exact ⟨by rw [h], rfl⟩
theorem short_num {l : List UInt8} {k n : Nat} (h : numL (l.drop k) = some n) : shortL (l.drop k) = none := by
  obtain ⟨_, _, _, h1, h2⟩ := numL_ok h
  cases hs : shortL (l.drop k) with
  | none => rfl
  | some r =>
    have := (shortL_ok hs).2.2.2.2
    rw [h2] at this
    have e : shN 117 = none := by decide
    rw [e] at this; cases this

set_option maxRecDepth 100000 in
set_option maxHeartbeats 6400000 in
theorem w_rEscape (s : ByteArray) (k : Nat) (w : World) (hk : k < s.size) (hs : s.size ≤ 1099511627776) :
    Calls Tryz.prog 46 #[.string s, .int .i64 (k : Int)] w fun e w' => EscRx s k w w' e := by
  have hi0 : (k : Int) < (s.size : Int) := by omega
  have hi0' : ¬ (s.size : Int) ≤ (k : Int) := by omega
  have HN := Hid.mk (fun u => w_rnumbered s k u (by omega) hs)
  unfold rnum at HN
  cases hn : numL (s.data.toList.drop k) with
  | none =>
    rw [hn] at HN
    have HN1 : Hid (∀ u, Calls Tryz.prog 56 #[.string s, .int .i64 (k : Int)] u fun e w' => e = .returned (.int .i64 (-1)) ∧ w' = u) := HN.out
    by_cases a0 : s[k] = 92
    · by_cases hend : k + 1 < s.size
      · have hi1 : (k : Int) + 1 < (s.size : Int) := by omega
        obtain ⟨c, hc⟩ : ∃ c, s[k + 1]'hend = c := ⟨_, rfl⟩
        have HSh := Hid.mk (fun u => w_rshort c u)
        have hsl : shortL (s.data.toList.drop k) = shN c := by
          unfold shortL
          rw [if_pos ⟨by rw [getD_dropL, Nat.add_zero, byteD hk]; exact a0, by rw [List.length_drop, size_len]; omega⟩, getD_dropL, byteD hend, hc]
        unfold shI at HSh
        cases hcs : shN c with
        | none =>
          rw [hcs] at HSh hsl
          have HSh1 : Hid (∀ u, Calls Tryz.prog 57 #[.int .u8 ((c.toNat : Nat) : Int)] u fun e w' => e = .returned (.int .i64 (-1)) ∧ w' = u) := HSh.out
          have HF := Hid.mk (escL_none hsl hn)
          clear hsl hn hcs HN HSh
          go_enter Tryz.func46, Tryz.ntmps46
          go_wp2_with fail
          refine (HN1.out _).mono ?_
          rintro e w1 ⟨rfl, hw⟩
          obtain rfl := hw.symm
          go_wp2_with fail
          refine (HSh1.out _).mono ?_
          rintro e w1 ⟨rfl, hw⟩
          obtain rfl := hw.symm
          go_wp2_with fail
          refine bodyPost_ret (v := .tuple #[.int .i64 0, .int .i64 (k : Int), .int .i64 23]) (by simp [results, Tryz.results46, go_sem]) rfl ?_
          exact escRx_mk HF.out rfl rfl rfl
        | some r =>
          rw [hcs] at HSh hsl
          have HSh1 : Hid (∀ u, Calls Tryz.prog 57 #[.int .u8 ((c.toNat : Nat) : Int)] u fun e w' => e = .returned (.int .i64 (r : Int)) ∧ w' = u) := HSh.out
          have HF := Hid.mk (escL_short hsl)
          have hr128 := (shN_ok hcs).2.1
          have hr0 : (0 : Int) ≤ (r : Int) := by omega
          clear hsl hn hcs HN HSh
          go_enter Tryz.func46, Tryz.ntmps46
          go_wp2_with fail
          refine (HN1.out _).mono ?_
          rintro e w1 ⟨rfl, hw⟩
          obtain rfl := hw.symm
          go_wp2_with fail
          refine (HSh1.out _).mono ?_
          rintro e w1 ⟨rfl, hw⟩
          obtain rfl := hw.symm
          go_wp2_with fail
          refine (HSh1.out _).mono ?_
          rintro e w1 ⟨rfl, hw⟩
          obtain rfl := hw.symm
          go_wp2_with fail
          refine bodyPost_ret (v := .tuple #[.int .i64 (r : Int), .int .i64 ((k : Int) + 2), .int .i64 0]) (by simp [results, Tryz.results46, go_sem]) rfl ?_
          exact escRx_mk HF.out rfl (by omega) rfl
      · have hi1 : ¬ (k : Int) + 1 < (s.size : Int) := by omega
        have HF : Hid (escL s.data.toList k = (0, k, 23)) := by
          refine escL_none ?_ hn
          unfold shortL
          rw [if_neg]
          rintro ⟨_, h2⟩
          rw [List.length_drop, size_len] at h2
          omega
        clear hn HN
        go_enter Tryz.func46, Tryz.ntmps46
        go_wp2_with fail
        refine (HN1.out _).mono ?_
        rintro e w1 ⟨rfl, hw⟩
        obtain rfl := hw.symm
        go_wp2_with fail
        refine bodyPost_ret (v := .tuple #[.int .i64 0, .int .i64 (k : Int), .int .i64 23]) (by simp [results, Tryz.results46, go_sem]) rfl ?_
        exact escRx_mk HF.out rfl rfl rfl
    · have HF : Hid (escL s.data.toList k = (0, k, 23)) := by
        refine escL_none ?_ hn
        unfold shortL
        rw [if_neg]
        rintro ⟨h1, _⟩
        rw [getD_dropL, Nat.add_zero, byteD hk] at h1
        exact a0 h1
      have hb : ((((s[k]).toNat : Nat) : Int) == 92) = false := by
        rw [beq_eq_false_iff_ne]; intro e; apply a0; apply UInt8.toNat_inj.1
        have : (92 : UInt8).toNat = 92 := rfl
        omega
      clear hn a0 HN
      go_enter Tryz.func46, Tryz.ntmps46
      go_wp2_with fail
      refine (HN1.out _).mono ?_
      rintro e w1 ⟨rfl, hw⟩
      obtain rfl := hw.symm
      go_wp2_with fail
      refine bodyPost_ret (v := .tuple #[.int .i64 0, .int .i64 (k : Int), .int .i64 23]) (by simp [results, Tryz.results46, go_sem]) rfl ?_
      exact escRx_mk HF.out rfl rfl rfl
  | some n =>
    rw [hn] at HN
    obtain ⟨hk6, hn0, _⟩ := numL_ok hn
    rw [size_len] at hk6
    have hsn := short_num hn
    obtain ⟨z, hz⟩ : ∃ z : Int, (n : Int) = z := ⟨_, rfl⟩
    have HN1 : Hid (∀ u, Calls Tryz.prog 56 #[.string s, .int .i64 (k : Int)] u fun e w' => e = .returned (.int .i64 z) ∧ w' = u) := by
      intro u
      have := HN.out u
      simp only [hz] at this
      exact this
    have hz0 : 0 ≤ z := by omega
    have hz1 : z ≤ 65535 := by omega
    have HZ := Hid.mk hz
    have HSN := Hid.mk hsn
    have HNN := Hid.mk hn
    clear HN hsn hn hn0 hz
    have hcs : z < 55296 ∨ (¬ z < 55296 ∧ 57343 < z) ∨ (¬ z < 55296 ∧ ¬ 57343 < z ∧ 56320 ≤ z) ∨ (¬ z < 55296 ∧ ¬ 57343 < z ∧ ¬ 56320 ≤ z) := by omega
    have hz00 : ¬ z < 0 := by omega
    rcases hcs with h1 | ⟨h1, h2⟩ | ⟨h1, h2, h3⟩ | ⟨h1, h2, h3⟩
    · have HF := Hid.mk (escL_one HSN.out HNN.out (by have := HZ.out; omega))
      go_enter Tryz.func46, Tryz.ntmps46
      go_wp2_with fail
      refine (HN1.out _).mono ?_
      rintro e w1 ⟨rfl, hw⟩
      obtain rfl := hw.symm
      go_wp2_with fail
      refine bodyPost_ret (v := .tuple #[.int .i64 z, .int .i64 ((k : Int) + 6), .int .i64 0]) (by simp [results, Tryz.results46, go_sem]) rfl ?_
      exact escRx_mk HF.out HZ.out.symm (by omega) rfl
    · have HF := Hid.mk (escL_one HSN.out HNN.out (by have := HZ.out; omega))
      go_enter Tryz.func46, Tryz.ntmps46
      go_wp2_with fail
      refine (HN1.out _).mono ?_
      rintro e w1 ⟨rfl, hw⟩
      obtain rfl := hw.symm
      go_wp2_with fail
      refine bodyPost_ret (v := .tuple #[.int .i64 z, .int .i64 ((k : Int) + 6), .int .i64 0]) (by simp [results, Tryz.results46, go_sem]) rfl ?_
      exact escRx_mk HF.out HZ.out.symm (by omega) rfl
    · have HF := Hid.mk (escL_low HSN.out HNN.out (by have := HZ.out; omega) (by have := HZ.out; omega))
      obtain ⟨v, hv⟩ : ∃ v, rnum s.data.toList (k + 6) = v := ⟨_, rfl⟩
      have HN2 : Hid (∀ u, Calls Tryz.prog 56 #[.string s, .int .i64 ((k : Int) + 6)] u fun e w' => e = .returned (.int .i64 v) ∧ w' = u) := by
        intro u
        have := w_rnumbered s (k + 6) u hk6 hs
        rw [show ((k + 6 : Nat) : Int) = (k : Int) + 6 by omega, hv] at this
        exact this
      clear hv
      go_enter Tryz.func46, Tryz.ntmps46
      go_wp2_with fail
      refine (HN1.out _).mono ?_
      rintro e w1 ⟨rfl, hw⟩
      obtain rfl := hw.symm
      go_wp2_with fail
      refine (HN2.out _).mono ?_
      rintro e w1 ⟨rfl, hw⟩
      obtain rfl := hw.symm
      go_wp2_with fail
      refine bodyPost_ret (v := .tuple #[.int .i64 0, .int .i64 (k : Int), .int .i64 24]) (by simp [results, Tryz.results46, go_sem]) rfl ?_
      exact escRx_mk HF.out rfl rfl rfl
    · have HNum := fun u => w_rnumbered s (k + 6) u hk6 hs
      rw [show ((k + 6 : Nat) : Int) = (k : Int) + 6 by omega] at HNum
      unfold rnum at HNum
      cases hm : numL (s.data.toList.drop (k + 6)) with
      | none =>
        rw [hm] at HNum
        have HN2 : Hid (∀ u, Calls Tryz.prog 56 #[.string s, .int .i64 ((k : Int) + 6)] u fun e w' => e = .returned (.int .i64 (-1)) ∧ w' = u) := HNum
        have HF := Hid.mk (escL_alone HSN.out HNN.out (by have := HZ.out; omega) (by have := HZ.out; omega) hm)
        clear hm HNum
        go_enter Tryz.func46, Tryz.ntmps46
        go_wp2_with fail
        refine (HN1.out _).mono ?_
        rintro e w1 ⟨rfl, hw⟩
        obtain rfl := hw.symm
        go_wp2_with fail
        refine (HN2.out _).mono ?_
        rintro e w1 ⟨rfl, hw⟩
        obtain rfl := hw.symm
        go_wp2_with fail
        refine bodyPost_ret (v := .tuple #[.int .i64 0, .int .i64 (k : Int), .int .i64 24]) (by simp [results, Tryz.results46, go_sem]) rfl ?_
        exact escRx_mk HF.out rfl rfl rfl
      | some m =>
        rw [hm] at HNum
        have hm0 := (numL_ok hm).2.1
        obtain ⟨y, hy⟩ : ∃ y : Int, (m : Int) = y := ⟨_, rfl⟩
        have HN2 : Hid (∀ u, Calls Tryz.prog 56 #[.string s, .int .i64 ((k : Int) + 6)] u fun e w' => e = .returned (.int .i64 y) ∧ w' = u) := by
          intro u
          have := HNum u
          simp only [hy] at this
          exact this
        have hy0 : 0 ≤ y := by omega
        have hy1 : y ≤ 65535 := by omega
        have HY := Hid.mk hy
        have HMM := Hid.mk hm
        clear hm hy HNum hm0
        have hls : y < 56320 ∨ (¬ y < 56320 ∧ 57343 < y) ∨ (¬ y < 56320 ∧ ¬ 57343 < y) := by omega
        rcases hls with g1 | ⟨g1, g2⟩ | ⟨g1, g2⟩
        · have HF := Hid.mk (escL_bad HSN.out HNN.out (by have := HZ.out; omega) (by have := HZ.out; omega) HMM.out (by have := HY.out; omega))
          go_enter Tryz.func46, Tryz.ntmps46
          go_wp2_with fail
          refine (HN1.out _).mono ?_
          rintro e w1 ⟨rfl, hw⟩
          obtain rfl := hw.symm
          go_wp2_with fail
          refine (HN2.out _).mono ?_
          rintro e w1 ⟨rfl, hw⟩
          obtain rfl := hw.symm
          go_wp2_with fail
          refine bodyPost_ret (v := .tuple #[.int .i64 0, .int .i64 (k : Int), .int .i64 24]) (by simp [results, Tryz.results46, go_sem]) rfl ?_
          exact escRx_mk HF.out rfl rfl rfl
        · have HF := Hid.mk (escL_bad HSN.out HNN.out (by have := HZ.out; omega) (by have := HZ.out; omega) HMM.out (by have := HY.out; omega))
          go_enter Tryz.func46, Tryz.ntmps46
          go_wp2_with fail
          refine (HN1.out _).mono ?_
          rintro e w1 ⟨rfl, hw⟩
          obtain rfl := hw.symm
          go_wp2_with fail
          refine (HN2.out _).mono ?_
          rintro e w1 ⟨rfl, hw⟩
          obtain rfl := hw.symm
          go_wp2_with fail
          refine bodyPost_ret (v := .tuple #[.int .i64 0, .int .i64 (k : Int), .int .i64 24]) (by simp [results, Tryz.results46, go_sem]) rfl ?_
          exact escRx_mk HF.out rfl rfl rfl
        · have HF := Hid.mk (escL_two HSN.out HNN.out (by have := HZ.out; omega) (by have := HZ.out; omega) HMM.out (by have := HY.out; omega) (by have := HY.out; omega))
          go_enter Tryz.func46, Tryz.ntmps46
          go_wp2_with fail
          refine (HN1.out _).mono ?_
          rintro e w1 ⟨rfl, hw⟩
          obtain rfl := hw.symm
          go_wp2_with fail
          refine (HN2.out _).mono ?_
          rintro e w1 ⟨rfl, hw⟩
          obtain rfl := hw.symm
          go_wp2_with fail
          refine bodyPost_ret (v := .tuple #[.int .i64 (65536 + (z - 55296) * 1024 + y - 56320), .int .i64 ((k : Int) + 12), .int .i64 0]) (by simp [results, Tryz.results46, go_sem]) rfl ?_
          exact escRx_mk HF.out (by have := HZ.out; have := HY.out; omega) (by omega) rfl
end Go.Proofs.YtfgfgcecbodjeaaGreatDoor
namespace Go.Proofs.YtfgfgcecbodjeaaGreatDoor
open Go.RowKit
set_option linter.unusedVariables false
set_option linter.unusedSimpArgs false

/-- while the reference reads a literal -/
structure RqSt (w wr : World) (v : Value) (n : Nat) (acc : List Nat) : Prop where
  own : wr.ownsRow w.heap.size 3 1 v n (ivals .i64 (toI acc))
  len : acc.length = n
  isr : ∀ z ∈ acc, isR z
  below : Below w.heap.size w wr

theorem toI_snoc (acc : List Nat) (r : Nat) : ivals .i64 (toI acc) ++ [.int .i64 (r : Int)] = ivals .i64 (toI (acc ++ [r])) := by simp [ivals, toI]
theorem rtxt_toI (zs : List Nat) (h : ∀ z ∈ zs, isR z) : rtxt (toI zs) = txt zs := txt_toI zs h
theorem isr_snoc {acc : List Nat} {r : Nat} (h : ∀ z ∈ acc, isR z) (hr : isR r) : ∀ z ∈ acc ++ [r], isR z := by
  intro z hz
  rcases List.mem_append.1 hz with h2 | h2
  · exact h z h2
  · have : z = r := by simpa using h2
    rw [this]; exact hr

set_option maxRecDepth 100000 in
set_option maxHeartbeats 8000000 in
theorem w_rUnquote (s : ByteArray) (k : Nat) (w : World) (hk : k < s.size) (hs : s.size ≤ 1048576) (hq : s[k] = 34) :
    Calls Tryz.prog 31 #[.string s, .int .i64 (k : Int)] w fun e w' => UnqX (unqL s.data.toList (k + 1) []) w w' e := by
  obtain ⟨i0, hi0, hz0, hz1, hz2⟩ := info_parts Tryz.infoI
  have hi0' : (k : Int) < (s.size : Int) := by omega
  have hi1 : ¬ (s.size : Int) ≤ (k : Int) := by omega
  obtain ⟨R, hR0⟩ : ∃ R, unqL s.data.toList (k + 1) [] = R := ⟨_, rfl⟩
  rw [hR0]
  have HU0 := Hid.mk hR0
  have HC0 : Hid (RqSt w (w.alloc (.cells #[] 3)) (.slice (some ⟨w.heap.size, 0, none⟩) 0 0) 0 []) :=
    ⟨own_empty w 3, rfl, (fun z hz => by cases hz), below1 w _⟩
  clear hR0
  go_enter Tryz.func31, Tryz.ntmps31
  go_wp2_with fail
  go_loopw [1, 7] (fun b l wr => ∃ (pos n : Nat) (ao : Option Addr) (cap : Nat) (acc : List Nat), pos ≤ s.size ∧ n ≤ pos ∧ b = .int .i64 (pos : Int) ∧ l = .slice ao n cap ∧ Hid (RqSt w wr (.slice ao n cap) n acc) ∧ Hid (unqL s.data.toList pos acc = R)) (fun b _ _ => s.size - (intOf b).toNat)
  case atStart => exact ⟨k + 1, 0, _, 0, [], by omega, by omega, by go_num, rfl, HC0, HU0⟩
  case round =>
    clear HC0 HU0
    obtain ⟨pos, n, ao, cap, acc, hpos, hnp, rfl, rfl, HQ, HU⟩ := hrel
    by_cases hp : pos < s.size
    · have hl1 : (pos : Int) < (s.size : Int) := by omega
      have HAt := Hid.mk (w_at s pos wr hp (by omega))
      unfold pcV at HAt
      have h1 := decL_pos (s.data.toList.drop pos)
      have h2 := step_le hp
      have hR := decL_isR _ (drop_ne hp)
      have HPL : Hid (pos < s.data.toList.length) := by show _ < _; rw [size_len]; exact hp
      obtain ⟨st, hst⟩ : ∃ st, st = strayL (s.data.toList.drop pos) := ⟨_, rfl⟩
      obtain ⟨r, hr⟩ : ∃ r, r = (decL (s.data.toList.drop pos)).1 := ⟨_, rfl⟩
      obtain ⟨q, hqq⟩ : ∃ q, q = pos + (decL (s.data.toList.drop pos)).2 := ⟨_, rfl⟩
      rw [← hst, ← hr, ← hqq] at HAt
      rw [← hqq] at h2
      rw [← hr] at hR
      have hrlt : r ≤ 1114111 := by unfold isR at hR; omega
      have hq1 : pos + 1 ≤ q := by omega
      have HRs := Hid.mk hr
      have HQs := Hid.mk hqq
      have HSB := Hid.mk hst
      have HRI := Hid.mk hR
      clear h1 hr hqq hst hR
      go_wp2_with fail
      refine HAt.out.mono ?_
      rintro e w1 ⟨rfl, hb1⟩
      have hown := own_below' HQ.out.own hb1
      have HB1 := Hid.mk (HQ.out.below.trans (hb1.mono HQ.out.below.size))
      have hsz := HB1.out.size
      have HW2 := Hid.mk (HB1.out.alloc hsz (.cells #[.int .i64 (pos : Int), .int .i64 (q : Int), .int .i64 (r : Int), .bool st] 80))
      clear hb1 HAt
      by_cases hr34 : r = 34
      · subst hr34
        have HF : Hid (R = (acc, pos + 1, 0)) := HU.out.symm.trans (unqL_quote acc HPL.out HRs.out.symm)
        have HQ1 : Hid (q = pos + 1) := by
          show _ = _
          obtain ⟨post, hpost⟩ := dec_quote (drop_ne hp) HRs.out.symm
          have hq0 := HQs.out
          rw [hpost, dec1 post (n := 34) rfl (by omega)] at hq0
          exact hq0
        have HTx : Hid (∀ u, Below w1.heap.size w1 u → Calls Tryz.prog 45 #[.slice ao n cap] u fun e w' => e = .returned (.string ⟨(txt acc).toArray⟩) ∧ Below u.heap.size u w') := by
          intro u hu
          have h := w_refText (.slice ao n cap) (toI acc) u ((own_ints hown).keep hu) (by rw [toI_len, HQ.out.len]; omega)
          rw [rtxt_toI acc HQ.out.isr] at h
          exact h
        have HBd := Hid.mk ((below1 w1 (.cells #[.int .i64 (pos : Int), .int .i64 (q : Int), .int .i64 (34 : Int), .bool st] 80)).drew)
        have HCe : Hid (∀ w3, Below ((w1.alloc (.cells #[.int .i64 (pos : Int), .int .i64 (q : Int), .int .i64 (34 : Int), .bool st] 80)).drew).heap.size ((w1.alloc (.cells #[.int .i64 (pos : Int), .int .i64 (q : Int), .int .i64 (34 : Int), .bool st] 80)).drew) w3 → w3.cell? ⟨w1.heap.size, 1, none⟩ = some (.int .i64 (q : Int))) := by
          intro w3 hb
          rw [hb.cell (p := ⟨w1.heap.size, 1, none⟩) (by simp [World.drew])]
          exact cell_of_row _ _ 1 _ _ _ (heap_alloc_new w1 _)
        have HBf := Hid.mk (fun w3 (hb : Below ((w1.alloc (.cells #[.int .i64 (pos : Int), .int .i64 (q : Int), .int .i64 (34 : Int), .bool st] 80)).drew).heap.size ((w1.alloc (.cells #[.int .i64 (pos : Int), .int .i64 (q : Int), .int .i64 (34 : Int), .bool st] 80)).drew) w3) => below_more HB1.out (below_more HBd.out hb))
        clear hown HQ HU HW2
        go_wp2_with fail
        go_region_with (go_at_call 45; refine (HTx.out _ HBd.out).mono ?_; rintro e w3 ⟨rfl, hb3⟩; have cQ := HCe.out _ hb3; have HBz := Hid.mk (HBf.out _ hb3); clear hb3)
        all_goals go_wp2_with fail
        all_goals refine bodyPost_ret (v := .tuple #[.string ⟨(txt acc).toArray⟩, .int .i64 (q : Int), .int .i64 0]) (by simp [results, Tryz.results31, go_sem]) rfl ?_
        all_goals exact unqX_mk HF.out rfl (by have := HQ1.out; omega) rfl HBz.out
      have q1 : ((r : Int) == 34) = false := by rw [beq_eq_false_iff_ne]; omega
      have H34 : Hid (¬ (decL (s.data.toList.drop pos)).1 = 34) := by rw [← HRs.out]; exact hr34
      by_cases hr32 : r < 32
      · have q2 : (r : Int) < 32 := by omega
        have HF : Hid (R = ([], pos, 22)) := HU.out.symm.trans (unqL_ctl acc HPL.out H34.out (by rw [← HRs.out]; exact hr32))
        clear hr34 hr32 hown
        go_wp2_with fail
        refine bodyPost_ret (v := .tuple #[.string .empty, .int .i64 (pos : Int), .int .i64 22]) (by simp [results, Tryz.results31, go_sem]; try rfl) rfl ?_
        exact unqX_mk HF.out rfl rfl rfl HW2.out
      have q2 : ¬ (r : Int) < 32 := by omega
      have H32 : Hid (¬ (decL (s.data.toList.drop pos)).1 < 32) := by rw [← HRs.out]; exact hr32
      cases st with
      | true =>
        have HF : Hid (R = ([], pos, 20)) := HU.out.symm.trans (unqL_stray acc HPL.out H34.out H32.out HSB.out.symm)
        clear hr34 hr32 hown
        go_wp2_with fail
        refine bodyPost_ret (v := .tuple #[.string .empty, .int .i64 (pos : Int), .int .i64 20]) (by simp [results, Tryz.results31, go_sem]; try rfl) rfl ?_
        exact unqX_mk HF.out rfl rfl rfl HW2.out
      | false =>
        by_cases hr92 : r = 92
        · have H92 : Hid ((decL (s.data.toList.drop pos)).1 = 92) := by show _ = _; rw [← HRs.out]; exact hr92
          have HFa := Hid.mk (fun h5 => esc_fault HU.out HPL.out HSB.out.symm H92.out h5)
          have HLe := Hid.mk (unqL_esc acc HPL.out HSB.out.symm H92.out)
          have hcode := escL_code s.data.toList pos
          have HOk := Hid.mk (fun h5 => escL_ok (l := s.data.toList) (k := pos) h5)
          have HEs := Hid.mk (fun u => w_rEscape s pos u hp (by omega))
          unfold EscRx at HEs
          obtain ⟨er, her⟩ : ∃ er, er = escL s.data.toList pos := ⟨_, rfl⟩
          rw [← her] at HFa HLe hcode HOk HEs
          obtain ⟨z, p', c⟩ := er
          subst hr92
          clear hr34 hr32 q1 q2 her
          rcases hcode with hc | ⟨hc, hz, hp'⟩ | ⟨hc, hz, hp'⟩
          · have hc' : c = 0 := hc
            subst hc'
            obtain ⟨hpl, hple, hzR, _⟩ := HOk.out rfl
            have hple' : p' ≤ s.data.toList.length := hple
            rw [size_len] at hple'
            have hpl' : pos < p' := hpl
            have hzlt : z ≤ 1114111 := by have hzR' : isR z := hzR; unfold isR at hzR'; omega
            have HZR : Hid (isR z) := hzR
            have HUn : Hid (unqL s.data.toList p' (acc ++ [z]) = R) := by
              have h := HLe.out
              rw [if_pos rfl, if_pos hpl] at h
              exact h.symm.trans HU.out
            clear HOk HFa HLe hple hzR hc hpl
            go_wp2_with fail
            refine (HEs.out _).mono ?_
            rintro e w2 ⟨rfl, hw⟩
            obtain rfl := hw.symm
            clear hw HEs
            go_wp2_with (at_builtin; refine wpList_append_own _ rfl (.tmp 70) (.tmp 72) 81 rfl w.heap.size 3 i0 (.int .i64 0) 1 8 Tryz.underlying81 hi0 hz0 hz1 hz2 rfl (by decide) _ _ _ rfl ((hown.alloc _).alloc _) ⟨w1.heap.size + 1, 0, none⟩ 1 1 [.int .i64 (z : Int)] rfl rfl (by intro j u hj; match j, hj with | 0, hj => simp at hj; subst hj; simp [Addr.add]) (by intro u hu; simp at hu; subst hu; rfl) (by unfold maxLen; omega) (by omega) (by simp; omega) ?_)
            intro v4 w4 hown4 hgrow4 hnn
            obtain ⟨so4, c4, hv4⟩ := own_shape hown4
            subst hv4
            have HN : Hid (RqSt w w4 (.slice so4 (n + 1) c4) (n + 1) (acc ++ [z])) := by
              refine ⟨by rw [← toI_snoc]; exact hown4, by rw [List.length_append, HQ.out.len]; rfl, isr_snoc HQ.out.isr HZR.out, (HW2.out.alloc (by simp; omega) _).grown hgrow4 (by simp; omega) (own_base hown)⟩
            clear hown4 hgrow4 hnn hown
            go_wp2_with fail
            go_roundw
            case rel => exact ⟨p', n + 1, so4, c4, acc ++ [z], hple', by omega, rfl, rfl, HN, HUn⟩
            case measure => simp [intOf]; omega
          · have hc' : c = 23 := hc
            subst hc'
            have hpp : p' = pos := hp'
            subst hpp
            have HF := Hid.mk (HFa.out (by simp))
            have hz' : z = 0 := hz
            subst hz'
            clear HOk HFa HLe hc hp' hz hown
            go_wp2_with fail
            refine (HEs.out _).mono ?_
            rintro e w2 ⟨rfl, hw⟩
            obtain rfl := hw.symm
            clear hw HEs
            go_wp2_with fail
            refine bodyPost_ret (v := .tuple #[.string .empty, .int .i64 (p' : Int), .int .i64 23]) (by simp [results, Tryz.results31, go_sem]; try rfl) rfl ?_
            exact unqX_mk HF.out rfl rfl rfl HW2.out
          · have hc' : c = 24 := hc
            subst hc'
            have hpp : p' = pos := hp'
            subst hpp
            have HF := Hid.mk (HFa.out (by simp))
            have hz' : z = 0 := hz
            subst hz'
            clear HOk HFa HLe hc hp' hz hown
            go_wp2_with fail
            refine (HEs.out _).mono ?_
            rintro e w2 ⟨rfl, hw⟩
            obtain rfl := hw.symm
            clear hw HEs
            go_wp2_with fail
            refine bodyPost_ret (v := .tuple #[.string .empty, .int .i64 (p' : Int), .int .i64 24]) (by simp [results, Tryz.results31, go_sem]; try rfl) rfl ?_
            exact unqX_mk HF.out rfl rfl rfl HW2.out
        · have q3 : ((r : Int) != 92) = true := by rw [bne_iff_ne]; omega
          have H92 : Hid (¬ (decL (s.data.toList.drop pos)).1 = 92) := by rw [← HRs.out]; exact hr92
          have HUn := Hid.mk ((unqL_rune acc HPL.out H34.out H32.out HSB.out.symm H92.out).symm.trans HU.out)
          rw [← HRs.out, ← HQs.out] at HUn
          clear hr34 hr32 hr92
          go_wp2_with (at_builtin; refine wpList_append_own _ rfl (.tmp 52) (.tmp 55) 81 rfl w.heap.size 3 i0 (.int .i64 0) 1 8 Tryz.underlying81 hi0 hz0 hz1 hz2 rfl (by decide) _ _ _ rfl ((hown.alloc _).alloc _) ⟨w1.heap.size + 1, 0, none⟩ 1 1 [.int .i64 (r : Int)] rfl rfl (by intro j u hj; match j, hj with | 0, hj => simp at hj; subst hj; simp [Addr.add]) (by intro u hu; simp at hu; subst hu; rfl) (by unfold maxLen; omega) (by omega) (by simp; omega) ?_)
          intro v4 w4 hown4 hgrow4 hnn
          obtain ⟨so4, c4, hv4⟩ := own_shape hown4
          subst hv4
          have cQ : w4.cell? ⟨w1.heap.size, 1, none⟩ = some (.int .i64 (q : Int)) := kept4 hown hgrow4
          have HN : Hid (RqSt w w4 (.slice so4 (n + 1) c4) (n + 1) (acc ++ [r])) := by
            refine ⟨by rw [← toI_snoc]; exact hown4, by rw [List.length_append, HQ.out.len]; rfl, isr_snoc HQ.out.isr HRI.out, (HW2.out.alloc (by simp; omega) _).grown hgrow4 (by simp; omega) (own_base hown)⟩
          clear hown4 hgrow4 hnn hown
          go_wp2_with fail
          go_roundw
          case rel => exact ⟨q, n + 1, so4, c4, acc ++ [r], h2, by omega, rfl, rfl, HN, HUn⟩
          case measure => simp [intOf]; omega
    · have hl1 : ¬ (pos : Int) < (s.size : Int) := by omega
      have HF : Hid (R = ([], s.size, 21)) := by
        have h := HU.out
        rw [unqL_end acc (by rw [size_len]; omega), size_len] at h
        exact h.symm
      go_wp2_with fail
      refine bodyPost_ret (v := .tuple #[.string .empty, .int .i64 (s.size : Int), .int .i64 21]) (by simp [results, Tryz.results31, go_sem]; try rfl) rfl ?_
      exact unqX_mk HF.out rfl rfl rfl HQ.out.below
end Go.Proofs.YtfgfgcecbodjeaaGreatDoor
