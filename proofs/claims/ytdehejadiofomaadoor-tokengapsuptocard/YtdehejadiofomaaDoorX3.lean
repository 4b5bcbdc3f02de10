import Derived.Test.YtdehejadiofomaaDoorX2
namespace Go.Proofs.YtdehejadiofomaaDoor
open Go.RowKit
set_option linter.unusedVariables false
set_option linter.unusedSimpArgs false

theorem escX_mk {s : ByteArray} {k : Nat} {w w' : World} {a p c : Nat} {r q z : Int} (h : escL s.data.toList k = (a, p, c)) (hr : r = (a : Int)) (hq : q = (p : Int)) (hz : z = (c : Int)) (hb : Below w.heap.size w w') : EscX s k w w' (.returned (.tuple #[.int .i32 r, .int .i64 q, .int .i64 z])) := by
  subst hr hq hz
  exact ⟨by rw [h], hb⟩
theorem escL_short {l : List UInt8} {k x : Nat} (h : shortL (l.drop k) = some x) : escL l k = (x, k + 2, 0) := by unfold escL; rw [h]
theorem escL_none {l : List UInt8} {k : Nat} (h : shortL (l.drop k) = none) (h2 : numL (l.drop k) = none) : escL l k = (0, k, 23) := by unfold escL; rw [h, h2]
theorem escL_one {l : List UInt8} {k n : Nat} (h : shortL (l.drop k) = none) (h2 : numL (l.drop k) = some n) (h3 : n < 55296 ∨ 57344 ≤ n) : escL l k = (n, k + 6, 0) := by unfold escL; rw [h, h2]; exact if_pos h3
theorem escL_low {l : List UInt8} {k n : Nat} (h : shortL (l.drop k) = none) (h2 : numL (l.drop k) = some n) (h3 : 56320 ≤ n) (h4 : n < 57344) : escL l k = (0, k, 24) := by
  unfold escL; rw [h, h2]
  simp only
  rw [if_neg (by omega)]
  split
  · rfl
  · rw [if_neg (by omega)]
theorem escL_alone {l : List UInt8} {k n : Nat} (h : shortL (l.drop k) = none) (h2 : numL (l.drop k) = some n) (h3 : 55296 ≤ n) (h4 : n < 57344) (h5 : numL (l.drop (k + 6)) = none) : escL l k = (0, k, 24) := by
  unfold escL; rw [h, h2]
  simp only
  rw [if_neg (by omega), h5]
theorem escL_bad {l : List UInt8} {k n m : Nat} (h : shortL (l.drop k) = none) (h2 : numL (l.drop k) = some n) (h3 : 55296 ≤ n) (h4 : n < 57344) (h5 : numL (l.drop (k + 6)) = some m) (h6 : ¬ (56320 ≤ m ∧ m < 57344)) : escL l k = (0, k, 24) := by
  unfold escL; rw [h, h2]
  simp only
  rw [if_neg (by omega), h5]
  simp only
  rw [if_neg (by omega)]
theorem escL_two {l : List UInt8} {k n m : Nat} (h : shortL (l.drop k) = none) (h2 : numL (l.drop k) = some n) (h3 : 55296 ≤ n) (h4 : n < 56320) (h5 : numL (l.drop (k + 6)) = some m) (h6 : 56320 ≤ m) (h7 : m < 57344) : escL l k = (65536 + (n - 55296) * 1024 + (m - 56320), k + 12, 0) := by
  unfold escL; rw [h, h2]
  simp only
  rw [if_neg (by omega), h5]
  simp only
  rw [if_pos (by omega)]

set_option maxRecDepth 100000 in
set_option maxHeartbeats 6400000 in
theorem w_Escape_ex (s : ByteArray) (k : Nat) (w : World) (hk : k < s.size) (hs : s.size ≤ 4611686018427387904) (hE : ErrIn w) :
    Calls Tryd.prog 56 #[.string s, .int .i64 (k : Int)] w fun e w' => EscX s k w w' e := by
  have HP := Hid.mk (fun u => w_isPlace s k u hk)
  have HS := Hid.mk (fun u => w_shortAt_ex s k u hk hs)
  have HN := Hid.mk (fun u (h : ErrIn u) => w_numberAt_ex s k u (by omega) hs h)
  have HN2 : Hid (∀ u, k + 6 ≤ s.size → ErrIn u → Calls Tryd.prog 64 #[.string s, .int .i64 ((k : Int) + 6)] u fun e w' => RuneB u w' e fun r b => (∃ x : Nat, numL (s.data.toList.drop (k + 6)) = some x ∧ r = (x : Int) ∧ b = true) ∨ (numL (s.data.toList.drop (k + 6)) = none ∧ b = false)) := by
    intro u h h2
    have := w_numberAt_ex s (k + 6) u h hs h2
    rw [show ((k + 6 : Nat) : Int) = (k : Int) + 6 by omega] at this
    exact this
  have HE := Hid.mk hE
  have hk62 : (k : Int) ≤ 4611686018427387904 := by omega
  clear hE
  go_enter Tryd.func56, Tryd.ntmps56
  go_wp2_with fail
  refine (HP.out _).mono ?_
  rintro e w1 ⟨rfl, hw⟩
  obtain rfl := hw.symm
  go_wp2_with fail
  refine (HS.out _).mono ?_
  rintro e w2 ⟨r, b, rfl, hrb, hb2⟩
  have HB2 := Hid.mk hb2
  have HE2 := Hid.mk (HE.out.keep hb2)
  clear hb2
  rcases hrb with ⟨x, hx, rfl, rfl⟩ | ⟨hx, rfl⟩
  · have HX := Hid.mk (escL_short hx)
    clear hx
    go_wp2_with fail
    refine bodyPost_ret (v := .tuple #[.int .i32 (x : Int), .int .i64 ((k : Int) + 2), .int .i64 0]) (by simp [results, Tryd.results56, go_sem]) rfl ?_
    exact escX_mk HX.out rfl (by omega) rfl HB2.out
  · have HSN := Hid.mk hx
    clear hx
    go_wp2_with fail
    refine (HN.out _ HE2.out).mono ?_
    rintro e w3 ⟨n, b, rfl, hnb, hb3⟩
    have HB3 := Hid.mk (below_more HB2.out hb3)
    have HE3 := Hid.mk (HE2.out.keep hb3)
    clear hb3
    rcases hnb with ⟨n', hn, hnr, rfl⟩ | ⟨hn, rfl⟩
    · obtain ⟨hn6, hn0, _, _⟩ := numL_ok hn
      rw [size_len] at hn6
      have HNN := Hid.mk hn
      have HNR := Hid.mk hnr
      have hz0 : 0 ≤ n := by omega
      have hz1 : n ≤ 65535 := by omega
      have HN2' := Hid.mk (HN2.out w3 hn6 HE3.out)
      clear HN HN2 HS HP HE HE2 HE3 hn hn6 hn0 hnr
      have hcs : n < 55296 ∨ (¬ n < 55296 ∧ 57344 ≤ n) ∨ (¬ n < 55296 ∧ ¬ 57344 ≤ n ∧ 56320 ≤ n) ∨ (¬ n < 55296 ∧ ¬ 57344 ≤ n ∧ ¬ 56320 ≤ n) := by omega
      rcases hcs with h1 | ⟨h1, h2⟩ | ⟨h1, h2, h3⟩ | ⟨h1, h2, h3⟩
      · go_wp2_with fail
        refine bodyPost_ret (v := .tuple #[.int .i32 n, .int .i64 ((k : Int) + 6), .int .i64 0]) (by simp [results, Tryd.results56, go_sem]) rfl ?_
        exact escX_mk (escL_one HSN.out HNN.out (by have := HNR.out; omega)) HNR.out (by omega) rfl HB3.out
      · go_wp2_with fail
        refine bodyPost_ret (v := .tuple #[.int .i32 n, .int .i64 ((k : Int) + 6), .int .i64 0]) (by simp [results, Tryd.results56, go_sem]) rfl ?_
        exact escX_mk (escL_one HSN.out HNN.out (by have := HNR.out; omega)) HNR.out (by omega) rfl HB3.out
      · go_wp2_with fail
        refine HN2'.out.mono ?_
        rintro e w4 ⟨l, b, rfl, hlb, hb4⟩
        have HB4 := Hid.mk (below_more HB3.out hb4)
        clear hb4 hlb
        go_wp2_with fail
        refine bodyPost_ret (v := .tuple #[.int .i32 0, .int .i64 (k : Int), .int .i64 24]) (by simp [results, Tryd.results56, go_sem]) rfl ?_
        exact escX_mk (escL_low HSN.out HNN.out (by have := HNR.out; omega) (by have := HNR.out; omega)) rfl (by omega) rfl HB4.out
      · go_wp2_with fail
        refine HN2'.out.mono ?_
        rintro e w4 ⟨l, b, rfl, hlb, hb4⟩
        have HB4 := Hid.mk (below_more HB3.out hb4)
        clear hb4 HN2'
        rcases hlb with ⟨m', hm, hml, rfl⟩ | ⟨hm, rfl⟩
        · have hm0 := (numL_ok hm).2.1
          have HMM := Hid.mk hm
          have HML := Hid.mk hml
          have hl0 : 0 ≤ l := by omega
          have hl1 : l ≤ 65535 := by omega
          clear hm hml hm0
          have hls : l < 56320 ∨ (¬ l < 56320 ∧ 57344 ≤ l) ∨ (¬ l < 56320 ∧ ¬ 57344 ≤ l) := by omega
          rcases hls with g1 | ⟨g1, g2⟩ | ⟨g1, g2⟩
          · go_wp2_with fail
            refine bodyPost_ret (v := .tuple #[.int .i32 0, .int .i64 (k : Int), .int .i64 24]) (by simp [results, Tryd.results56, go_sem]) rfl ?_
            exact escX_mk (escL_bad HSN.out HNN.out (by have := HNR.out; omega) (by have := HNR.out; omega) HMM.out (by have := HML.out; omega)) rfl (by omega) rfl HB4.out
          · go_wp2_with fail
            refine bodyPost_ret (v := .tuple #[.int .i32 0, .int .i64 (k : Int), .int .i64 24]) (by simp [results, Tryd.results56, go_sem]) rfl ?_
            exact escX_mk (escL_bad HSN.out HNN.out (by have := HNR.out; omega) (by have := HNR.out; omega) HMM.out (by have := HML.out; omega)) rfl (by omega) rfl HB4.out
          · go_wp2_with fail
            refine bodyPost_ret (v := .tuple #[.int .i32 (65536 + (n - 55296) * 1024 + (l - 56320)), .int .i64 ((k : Int) + 12), .int .i64 0]) (by simp [results, Tryd.results56, go_sem]) rfl ?_
            exact escX_mk (escL_two HSN.out HNN.out (by have := HNR.out; omega) (by have := HNR.out; omega) HMM.out (by have := HML.out; omega) (by have := HML.out; omega)) (by have := HNR.out; have := HML.out; omega) (by omega) rfl HB4.out
        · have HMM := Hid.mk hm
          clear hm
          go_wp2_with fail
          refine bodyPost_ret (v := .tuple #[.int .i32 0, .int .i64 (k : Int), .int .i64 24]) (by simp [results, Tryd.results56, go_sem]) rfl ?_
          exact escX_mk (escL_alone HSN.out HNN.out (by have := HNR.out; omega) (by have := HNR.out; omega) HMM.out) rfl (by omega) rfl HB4.out
    · have HNN := Hid.mk hn
      clear hn
      go_wp2_with fail
      refine bodyPost_ret (v := .tuple #[.int .i32 0, .int .i64 (k : Int), .int .i64 23]) (by simp [results, Tryd.results56, go_sem]) rfl ?_
      exact escX_mk (escL_none HSN.out HNN.out) rfl (by omega) rfl HB3.out
end Go.Proofs.YtdehejadiofomaaDoor
