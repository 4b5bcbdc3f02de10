import Derived.Test.YtdegoefedkidcaaDoorM33
import Derived.Test.YtdegoefedkidcaaDoorM7
import Derived.Laws.MakeOwn
import Derived.Deep.QuietTactic
import Derived.BigQuiet
namespace Go.Proofs.YtdegoefedkidcaaDoor
open Go.RowKit
set_option linter.unusedVariables false
set_option linter.unusedSimpArgs false

/-- block g is a row that opens with the numbers xs (what stands behind them is spare) -/
def IRow (w : World) (g : Nat) (xs : List Nat) : Prop := ∃ tail : List Value, w.heap[g]? = some (.cells (vals .i64 xs ++ tail).toArray 3 (0, 0))

theorem IRow.lt {w : World} {g : Nat} {xs : List Nat} (h : IRow w g xs) : g < w.heap.size := by
  obtain ⟨tail, h⟩ := h
  exact (Array.getElem?_eq_some_iff.1 h).1

theorem IRow.cell {w : World} {g : Nat} {xs : List Nat} (h : IRow w g xs) (i : Nat) (hi : i < xs.length) : w.cell? ⟨g, i, none⟩ = some (.int .i64 ((xs.getD i 0 : Nat) : Int)) := by
  obtain ⟨tail, h⟩ := h
  rw [cell_of_row w g i _ _ _ h]
  have := vals_get .i64 xs i hi
  rw [List.getElem?_toArray, List.getElem?_append_left (by rw [vals_len]; exact hi)]
  exact this

theorem IRow.free {w : World} {g : Nat} {xs : List Nat} (h : IRow w g xs) (i : Nat) : w.frozen? ⟨g, i, none⟩ = false := by
  obtain ⟨tail, h⟩ := h
  exact frozen_of_row w g i _ _ h

theorem IRow.set {w : World} {g : Nat} {xs : List Nat} (h : IRow w g xs) (i x : Nat) (hi : i < xs.length) : IRow (w.setCell ⟨g, i, none⟩ (.int .i64 (x : Int))) g (xs.set i x) := by
  obtain ⟨tail, h⟩ := h
  refine ⟨tail, ?_⟩
  rw [heap_setCell_same w g i _ _ _ h]
  have e : (vals .i64 xs ++ tail).toArray.setIfInBounds i (.int .i64 (x : Int)) = (vals .i64 (xs.set i x) ++ tail).toArray := by
    rw [List.setIfInBounds_toArray, List.set_append_left _ _ (by rw [vals_len]; exact hi)]
    simp [vals, List.map_set]
  rw [e]

theorem IRow.keep {w w' : World} {g : Nat} {xs : List Nat} (h : IRow w g xs) (hb : Below w.heap.size w w') : IRow w' g xs := by
  have hl := h.lt
  obtain ⟨tail, h⟩ := h
  exact ⟨tail, by rw [hb.block g hl]; exact h⟩

theorem IRow.drew {w : World} {g : Nat} {xs : List Nat} (h : IRow w g xs) : IRow w.drew g xs := h

/-- a piece of a row reads as its numbers -/
theorem IRow.nums {w : World} {g : Nat} {xs pre ys post : List Nat} (h : IRow w g xs) (hx : xs = pre ++ ys ++ post) {o n cap : Nat} (ho : pre.length = o) (hn : ys.length = n) (hc : n ≤ cap) : Nums .i64 w (.slice (some ⟨g, o, none⟩) n cap) ys := by
  refine Nums.mk hn hc h.lt (fun i hi => ?_)
  rw [h.cell (o + i) (by rw [hx]; simp; omega)]
  subst hx ho
  rw [List.append_assoc, List.getD_eq_getElem?_getD, List.getElem?_append_right (by omega), Nat.add_sub_cancel_left, List.getElem?_append_left (by omega), List.getD_eq_getElem?_getD]

/-- a new row of noughts -/
def izrow (n : Nat) : Obj := .cells (vals .i64 (List.replicate n 0)).toArray 3 (0, 0)

theorem imade_zeros (n : Nat) : madeCells #[.int .i64 0] n = (vals .i64 (List.replicate n 0)).toArray := by
  unfold madeCells vals
  apply Array.ext
  · simp
  · intro i h1 h2
    have e : i % 1 = 0 := by omega
    simp [e]

theorem run_make_irow (n : Nat) (hn : n ≤ 1099511627776) (u : World) : (Instr.makeSlice 46 (.int .i64 (n : Int)) (.int .i64 (n : Int))).run Tryd.prog u = .ok (.slice (some ⟨u.heap.size, 0, none⟩) n n) (u.alloc (izrow n)) := by
  obtain ⟨i0, hi, hz0, hz1, hz2⟩ := info_parts Tryd.info3
  have h := run_make (P := Tryd.prog) u 46 3 i0 (.int .i64 0) Tryd.underlying46 hi hz0 .i64 .i64 (n : Int) (n : Int) (by omega) (Int.le_refl _) (by rw [hz2]; omega) (by omega)
  have e : ((n : Int)).toNat = n := by omega
  rw [e] at h
  unfold izrow
  rw [← imade_zeros]
  simpa [hz1, Value.cells] using h

theorem run_make_irow' (n : Nat) (z : Int) (hz : z = (n : Int)) (hn : n ≤ 1099511627776) (u : World) : (Instr.makeSlice 46 (.int .i64 z) (.int .i64 z)).run Tryd.prog u = .ok (.slice (some ⟨u.heap.size, 0, none⟩) n n) (u.alloc (izrow n)) := by
  subst hz; exact run_make_irow n hn u
theorem irow_new (w : World) (n : Nat) : IRow (w.alloc (izrow n)) w.heap.size (List.replicate n 0) := by
  refine ⟨[], ?_⟩
  rw [List.append_nil]
  exact heap_alloc_new w _

/-- of what lies ahead of block g nothing has turned -/
theorem In3.off {w u u' : World} {b1 : Bool} {v1 : Value} {b2 : Bool} {v2 : Value} {g : Nat} (h : In3 w u b1 v1 b2 v2) (hg : u.grownBy u' (some g)) (h3 : w.heap.size + 3 ≤ g) : In3 w u' b1 v1 b2 v2 := by
  have hs := h.size
  have hb : Below (w.heap.size + 3) u u' := below_grown hg h3 hs
  exact ⟨below_cells hb (by omega) h.c00, below_cells hb (by omega) h.c01, below_cells hb (by omega) h.c10, below_cells hb (by omega) h.c11, below_cells hb (by omega) h.c20, below_cells hb (by omega) h.c21,
    below_frees hb (by omega) h.f00, below_frees hb (by omega) h.f01, below_frees hb (by omega) h.f10, below_frees hb (by omega) h.f11, below_frees hb (by omega) h.f20, below_frees hb (by omega) h.f21, Nat.le_trans hs hb.size, h.below.trans (hb.mono (by omega))⟩

theorem rmul_step {B P Q R Y c d r x y z : Nat} (h : Q + c * P = R + x * Y) (hs : z + y * B = c + (r + x * d)) : (Q + P * z) + y * (P * B) = (R + P * r) + x * (Y + P * d) := by
  have h1 : P * (z + y * B) = P * (c + (r + x * d)) := by rw [hs]
  have h2 : y * (P * B) = P * (y * B) := by rw [Nat.mul_left_comm]
  have h3 : c * P = P * c := Nat.mul_comm _ _
  have h4 : x * (P * d) = P * (x * d) := by rw [Nat.mul_left_comm]
  simp only [Nat.mul_add] at h1
  rw [Nat.mul_add, h4]
  omega

/-- inside a row of the product -/
structure TimSt (w wr : World) (b1 : Bool) (v1 : Value) (b2 : Bool) (v2 : Value) (g : Nat) (pre rs ys : List Nat) (x i c : Nat) : Prop where
  out : ∃ qs : List Nat, qs.length = i ∧ Pl.dig 10 qs ∧ IRow wr g (pre ++ (qs ++ rs.drop i) ++ []) ∧ In3 w wr b1 v1 b2 v2 ∧ Pl.val 10 qs + c * 10 ^ i = Pl.val 10 (rs.take i) + x * Pl.val 10 (ys.take i)

theorem TimSt.step {w wr : World} {b1 : Bool} {v1 : Value} {b2 : Bool} {v2 : Value} {g : Nat} {pre rs ys : List Nat} {x i c o z y : Nat} (h : TimSt w wr b1 v1 b2 v2 g pre rs ys x i c) (hg : w.heap.size + 3 ≤ g) (ho : pre.length = o) (hi : i < rs.length) (hz : z < 10) (hs : z + y * 10 = c + (rs.getD i 0 + x * ys.getD i 0)) :
    TimSt w (wr.setCell ⟨g, o + i, none⟩ (.int .i64 (z : Int))) b1 v1 b2 v2 g pre rs ys x (i + 1) y := by
  obtain ⟨qs, hq, hd, hrow, hb, hv⟩ := h.out
  refine ⟨qs ++ [z], by simp [hq], Pl.dig_append.2 ⟨hd, by intro u hu; simp at hu; omega⟩, ?_, hb.off (grown_set _ _ _ _) hg, ?_⟩
  · have := hrow.set (o + i) z (by simp; omega)
    rwa [Pl.mid_set ho hq hi] at this
  · rw [Pl.val_snoc, Pl.val_take_succ, Pl.val_take_succ, hq, Nat.pow_succ]
    exact rmul_step hv hs

theorem TimSt.cell {w wr : World} {b1 : Bool} {v1 : Value} {b2 : Bool} {v2 : Value} {g : Nat} {pre rs ys : List Nat} {x i c o : Nat} (h : TimSt w wr b1 v1 b2 v2 g pre rs ys x i c) (ho : pre.length = o) (hi : i < rs.length) : wr.cell? ⟨g, o + i, none⟩ = some (.int .i64 ((rs.getD i 0 : Nat) : Int)) ∧ wr.frozen? ⟨g, o + i, none⟩ = false := by
  obtain ⟨qs, hq, hd, hrow, hb, hv⟩ := h.out
  have := hrow.cell (o + i) (by simp; omega)
  rw [Pl.mid_get ho hq hi] at this
  exact ⟨this, hrow.free _⟩

/-- between two rows of the product -/
structure PrdSt (w wr : World) (b1 : Bool) (v1 : Value) (b2 : Bool) (v2 : Value) (g n : Nat) (xs ys : List Nat) (i : Nat) : Prop where
  out : ∃ ls : List Nat, ls.length = n ∧ Pl.dig 10 ls ∧ IRow wr g ls ∧ In3 w wr b1 v1 b2 v2 ∧ Pl.val 10 ls = Pl.val 10 (xs.take i) * Pl.val 10 ys

theorem prd_open {w wr : World} {b1 : Bool} {v1 : Value} {b2 : Bool} {v2 : Value} {g n : Nat} {xs ys : List Nat} {i : Nat} (h : PrdSt w wr b1 v1 b2 v2 g n xs ys i) (hi : i ≤ n) :
    ∃ pre rs, pre.length = i ∧ rs.length = n - i ∧ Pl.dig 10 rs ∧ Pl.dig 10 pre ∧ TimSt w wr b1 v1 b2 v2 g pre rs ys (xs.getD i 0) 0 0 ∧ Pl.val 10 pre + 10 ^ i * Pl.val 10 rs = Pl.val 10 (xs.take i) * Pl.val 10 ys := by
  obtain ⟨ls, hl, hd, hrow, hb, hv⟩ := h.out
  have hpl : (ls.take i).length = i := by simp; omega
  refine ⟨ls.take i, ls.drop i, hpl, by simp; omega, Pl.dig_drop i hd, Pl.dig_take i hd, ⟨⟨[], rfl, Pl.dig_nil _, by simpa using hrow, hb, by simp [Pl.val]⟩⟩, ?_⟩
  rw [← hv]
  conv => rhs; rw [← List.take_append_drop i ls]
  rw [Pl.val_append, hpl]

theorem prd_shut {w wr : World} {b1 : Bool} {v1 : Value} {b2 : Bool} {v2 : Value} {g n la : Nat} {xs ys pre rs : List Nat} {i c : Nat} (hla : xs.length = la) (hn : n = la + ys.length + 1) (hi : i < la) (hpl : pre.length = i) (hrl : rs.length = n - i) (hdp : Pl.dig 10 pre) (hdx : Pl.dig 10 xs) (hdy : Pl.dig 10 ys)
    (hv0 : Pl.val 10 pre + 10 ^ i * Pl.val 10 rs = Pl.val 10 (xs.take i) * Pl.val 10 ys) (h : TimSt w wr b1 v1 b2 v2 g pre rs ys (xs.getD i 0) (n - i) c) : PrdSt w wr b1 v1 b2 v2 g n xs ys (i + 1) := by
  obtain ⟨qs, hq, hd, hrow, hb, hv⟩ := h.out
  have hz : rs.drop (n - i) = [] := List.drop_eq_nil_of_le (by omega)
  rw [hz, List.append_nil, List.append_nil] at hrow
  rw [Pl.val_take_all 10 rs (n - i) (by omega), Pl.val_take_all 10 ys (n - i) (by omega)] at hv
  have hgoal : Pl.val 10 (xs.take (i + 1)) * Pl.val 10 ys = Pl.val 10 pre + 10 ^ i * (Pl.val 10 rs + xs.getD i 0 * Pl.val 10 ys) := by
    rw [Pl.val_take_succ, Nat.add_mul, ← hv0, Nat.mul_add, Nat.mul_assoc]; omega
  have hlt : Pl.val 10 (xs.take (i + 1)) * Pl.val 10 ys < 10 ^ n := by
    have h1 := Pl.val_lt (Pl.dig_take (i + 1) hdx)
    have h2 := Pl.val_lt hdy
    have h3 : (xs.take (i + 1)).length = i + 1 := by simp; omega
    rw [h3] at h1
    have h4 : Pl.val 10 (xs.take (i + 1)) * Pl.val 10 ys < 10 ^ (i + 1) * 10 ^ ys.length := Nat.mul_lt_mul'' h1 h2
    rw [← Nat.pow_add] at h4
    exact Nat.lt_of_lt_of_le h4 (Nat.pow_le_pow_right (by decide) (by omega))
  have hc0 : c = 0 := by
    rcases Nat.eq_zero_or_pos c with h0 | h0
    · exact h0
    · exfalso
      have e1 : 10 ^ n = 10 ^ i * 10 ^ (n - i) := by rw [← Nat.pow_add]; congr 1; omega
      have e2 : 10 ^ (n - i) ≤ c * 10 ^ (n - i) := Nat.le_mul_of_pos_left _ h0
      have e3 : 10 ^ i * 10 ^ (n - i) ≤ 10 ^ i * (Pl.val 10 rs + xs.getD i 0 * Pl.val 10 ys) := Nat.mul_le_mul_left _ (by omega)
      omega
  refine ⟨pre ++ qs, by simp; omega, Pl.dig_append.2 ⟨hdp, hd⟩, hrow, hb, ?_⟩
  rw [hgoal, Pl.val_append, hpl]
  congr 2
  rw [hc0] at hv
  omega

theorem prd_start {w : World} {b1 : Bool} {v1 : Value} {b2 : Bool} {v2 : Value} {n : Nat} {xs ys : List Nat} : PrdSt w ((rbox3 w b1 v1 b2 v2).alloc (izrow n)) b1 v1 b2 v2 (w.heap.size + 1 + 1 + 1) n xs ys 0 := by
  refine ⟨List.replicate n 0, by simp, dig_zeros _ _ (by decide), ?_, (in3_rbox w b1 v1 b2 v2).keep ((Below.refl _ _).alloc (Nat.le_refl _) _), by rw [val_zeros]; simp [Pl.val]⟩
  have := irow_new (rbox3 w b1 v1 b2 v2) n
  rw [rbox3_size] at this
  exact this

theorem prd_end {w wr : World} {b1 : Bool} {v1 : Value} {b2 : Bool} {v2 : Value} {g n : Nat} {xs ys : List Nat} (h : PrdSt w wr b1 v1 b2 v2 g n xs ys xs.length) (hn : n ≤ 1099511627776) : RU wr (.slice (some ⟨g, 0, none⟩) n n) (Pl.val 10 xs * Pl.val 10 ys) ∧ In3 w wr b1 v1 b2 v2 := by
  obtain ⟨ls, hl, hd, hrow, hb, hv⟩ := h.out
  refine ⟨⟨ls, hrow.nums (pre := []) (post := []) (by simp) rfl hl (Nat.le_refl _), hd, ?_, by omega⟩, hb⟩
  rw [hv, Pl.val_take_all _ _ _ (Nat.le_refl _)]
end Go.Proofs.YtdegoefedkidcaaDoor
namespace Go.Proofs.YtdegoefedkidcaaDoor
open Go.RowKit
set_option linter.unusedVariables false
set_option linter.unusedSimpArgs false

theorem mul9 {x y : Nat} (hx : x < 10) (hy : y < 10) : (x : Int) * (y : Int) ≤ 81 ∧ 0 ≤ (x : Int) * (y : Int) := by
  have : x * y ≤ 9 * 9 := Nat.mul_le_mul (by omega) (by omega)
  have h2 : ((x * y : Nat) : Int) ≤ 81 := by omega
  exact ⟨by simpa using h2, Int.mul_nonneg (by omega) (by omega)⟩

theorem sgn_mul' (b1 b2 : Bool) (x1 x2 : Nat) : sgn (!(b1 == b2)) (x1 * x2) = sgn b1 x1 * sgn b2 x2 := by
  cases b1 <;> cases b2 <;> simp [sgn, Int.mul_neg, Int.neg_mul]

theorem TimSt.drewN {w wr : World} {b1 : Bool} {v1 : Value} {b2 : Bool} {v2 : Value} {g : Nat} {pre rs ys : List Nat} {x i c : Nat} (n : Nat) (h : TimSt w wr b1 v1 b2 v2 g pre rs ys x i c) : TimSt w (wr.drewN n) b1 v1 b2 v2 g pre rs ys x i c := by
  obtain ⟨qs, hq, hd, hrow, hin, hv⟩ := h.out
  exact ⟨qs, hq, hd, hrow, hin.keep (below_drewN n (Below.refl _ _)), hv⟩
theorem TimSt.ins {w wr : World} {b1 : Bool} {v1 : Value} {b2 : Bool} {v2 : Value} {g : Nat} {pre rs ys : List Nat} {x i c : Nat} (h : TimSt w wr b1 v1 b2 v2 g pre rs ys x i c) : In3 w wr b1 v1 b2 v2 := by
  obtain ⟨qs, hq, hd, hrow, hin, hv⟩ := h.out
  exact hin

set_option maxRecDepth 100000 in
set_option maxHeartbeats 3200000 in
theorem w_rtimes (b1 b2 : Bool) (v1 v2 : Value) (x1 x2 K : Nat) (w : World) (h1 : RV w v1 x1) (h2 : RV w v2 x2) (k1 : x1 < 10 ^ K) (k2 : x2 < 10 ^ K) (hK : K ≤ 274877906944) :
    Calls Tryd.prog 50 #[.agg #[.bool b1, v1], .agg #[.bool b2, v2]] w fun e w' => RN w w' e (sgn b1 x1 * sgn b2 x2) := by
  obtain ⟨xs, a1, a2, a3, a4, a5⟩ := h1.fits k1
  obtain ⟨ys, c1, c2, c3, c4, c5⟩ := h2.fits k2
  clear h1 h2 k1 k2
  have HA := Hid.mk a1
  have HC := Hid.mk c1
  have hdx := Hid.mk a2
  have hdy := Hid.mk c2
  have E1 := Hid.mk a4
  have E2 := Hid.mk c4
  obtain ⟨ao, ca, rfl, q1, q2⟩ := a1
  clear q1 q2
  obtain ⟨bo, cb, rfl, q1, q2⟩ := c1
  clear q1 q2 a2 a3 a4 c2 c3 c4
  generalize hla : xs.length = la at *
  generalize hlb : ys.length = lb at *
  have HLA := Hid.mk hla
  have HLB := Hid.mk hlb
  clear hla hlb
  obtain ⟨N, hN⟩ : ∃ N, N = la + lb + 1 := ⟨_, rfl⟩
  have hmk := fun (u : World) => run_make_irow' N ((la : Int) + (lb : Int) + 1) (by omega) (by omega) u
  have HS : Hid (PrdSt w ((rbox3 w b1 (.slice ao la ca) b2 (.slice bo lb cb)).alloc (izrow N)) b1 (.slice ao la ca) b2 (.slice bo lb cb) (w.heap.size + 1 + 1 + 1) N xs ys 0) := prd_start
  have HNN := Hid.mk hN
  have hNm : N ≤ 1099511627776 := by omega
  clear hN
  go_enter Tryd.func50, Tryd.ntmps50
  go_wp2_with fail
  go_loopw [6] (fun i wr => ∃ (k : Nat), k ≤ la ∧ i = .int .i64 k ∧ Hid (PrdSt w wr b1 (.slice ao la ca) b2 (.slice bo lb cb) (w.heap.size + 1 + 1 + 1) N xs ys k)) (fun i _ => la - (intOf i).toNat)
  case atStart => exact ⟨0, Nat.zero_le _, rfl, HS⟩
  case round =>
    obtain ⟨k, hk, rfl, HR⟩ := hrel
    have g01 : wr.cell? ⟨w.heap.size, 1, none⟩ = some (.slice ao la ca) := by
      obtain ⟨ls, hl, hd, hrow, hb, hv⟩ := HR.out.out
      exact hb.c01
    by_cases hlt : k < la
    · have hk1 : (k : Int) < (la : Int) := by omega
      have hNk : k < N := by have := HNN.out; omega
      obtain ⟨pre, rs, hpl, hrl, hdr, hdp, hm0, hv0⟩ := prd_open HR.out (by omega)
      have HM := Hid.mk hm0
      have HE := Hid.mk (fun wr' c => @prd_shut w wr' b1 (.slice ao la ca) b2 (.slice bo lb cb) (w.heap.size + 1 + 1 + 1) N la xs ys pre rs k c HLA.out (by rw [HLB.out]; exact HNN.out) hlt hpl hrl hdp hdx.out hdy.out hv0)
      have HPL := Hid.mk hpl
      have HRL := Hid.mk hrl
      have HDR := Hid.mk hdr
      clear hpl hrl hm0 hv0 hdr hdp
      have hxk := Pl.dig_getD (by decide) hdx.out k
      obtain ⟨x, hxx⟩ : ∃ x, x = xs.getD k 0 := ⟨_, rfl⟩
      rw [← hxx] at hxk HM HE
      have HXX := Hid.mk hxx
      clear hxx HR
      obtain ⟨wo, rfl⟩ : ∃ wo : World, wo = wr := ⟨_, rfl⟩
      go_wp2_with fail
      go_loopw [7, 8] (fun c j wr => ∃ (m cc : Nat), m ≤ N - k ∧ j = .int .i64 m ∧ c = .int .i64 (cc : Int) ∧ cc < 10 ∧ Hid (TimSt w wr b1 (.slice ao la ca) b2 (.slice bo lb cb) (w.heap.size + 1 + 1 + 1) pre rs ys x m cc)) (fun _ j _ => N - k - (intOf j).toNat)
      case atStart => exact ⟨0, 0, Nat.zero_le _, rfl, rfl, by decide, HM⟩
      case round =>
        obtain ⟨m, cc, hm, rfl, rfl, hcc, HI⟩ := hrel
        by_cases hml : m < N - k
        · have hm1 : (k : Int) + (m : Int) < (N : Int) := by omega
          obtain ⟨c1, f1⟩ := HI.out.cell HPL.out (by rw [HRL.out]; omega)
          have hr := Pl.dig_getD (by decide) HDR.out m
          have hym := Pl.dig_getD (by decide) hdy.out m
          obtain ⟨r, hrr⟩ : ∃ r, r = rs.getD m 0 := ⟨_, rfl⟩
          obtain ⟨y, hyy⟩ : ∃ y, y = ys.getD m 0 := ⟨_, rfl⟩
          rw [← hrr] at c1 hr
          rw [← hyy] at hym
          obtain ⟨qs, hq, hd, hrow, hin, hv⟩ := HI.out.out
          have d01 := hin.c01
          have d11 := hin.c11
          obtain ⟨ba, offa, hao, cx⟩ : ∃ ba offa, ao = some ⟨ba, offa, none⟩ ∧ wr.cell? ⟨ba, offa + k, none⟩ = some (.int .i64 (x : Int)) := by
            rcases (HA.out.keep hin.below).open' with ⟨e, _⟩ | ⟨hp, ba, offa, cap, e, hc, hlt2, hcell⟩
            · have := HLA.out; rw [e] at this; simp at this; omega
            · cases e
              exact ⟨ba, offa, rfl, by rw [HXX.out]; exact hcell k (by have := HLA.out; omega)⟩
          have HDg : Hid (∀ n, Calls Tryd.prog 79 #[.slice bo lb cb, .int .i64 (m : Int)] (wr.drewN n) fun e w' => e = .returned (.int .i64 (y : Int)) ∧ w' = wr.drewN n) := by
            intro n
            have := w_rdigit _ ys m (wr.drewN n) (nums_drewN n (HC.out.keep hin.below)) (by have := HLB.out; omega) (by omega)
            rw [← hyy] at this
            exact this
          subst hao
          have HRr := Hid.mk hrr
          have HY := Hid.mk hyy
          clear hrr hyy hq hd hrow hin hv
          obtain ⟨hxy2, hxy0⟩ := mul9 hxk hym
          go_wp2_with fail
          go_quiet (first | (go_at_call 79; exact Calls.quiet_of_same (HDg.out _)))
          have HI2 := Hid.mk (HI.out.drewN nq)
          clear c1 f1 d01 d11 cx HDg HI
          generalize wr.drewN nq = u at *
          obtain ⟨c1, f1⟩ := HI2.out.cell HPL.out (by rw [HRL.out]; omega)
          rw [← HRr.out] at c1
          go_wp2_with fail
          go_roundw
          case measure => simp [intOf]; omega
          have e : (x : Int) * (y : Int) = ((x * y : Nat) : Int) := by simp
          rw [e] at hxy2 hxy0 ⊢
          generalize hmt : x * y = p at *
          refine ⟨m + 1, (r + p + cc) / 10, by omega, by go_num, r_int_eq (by omega), by omega, ?_⟩
          rw [show ((r : Int) + (p : Int) + (cc : Int)) % 10 = (((r + p + cc) % 10 : Nat) : Int) by omega]
          exact HI2.out.step (Nat.le_refl _) HPL.out (by rw [HRL.out]; omega) (by omega) (by rw [← HRr.out, ← HY.out, hmt]; omega)
        · obtain rfl : m = N - k := by omega
          have hm1 : ¬ (k : Int) + ((N - k : Nat) : Int) < (N : Int) := by omega
          have HN := Hid.mk (HE.out wr cc HI.out)
          clear hml HI
          go_wp2_with fail
          go_roundw
          case measure => simp [intOf]; omega
          exact ⟨k + 1, by omega, by go_num, HN⟩
    · obtain rfl : k = la := by omega
      have hpe := prd_end (by have := HR.out; rw [← HLA.out] at this; exact this) hNm
      have HU := Hid.mk hpe.1
      have HI := Hid.mk hpe.2
      clear hpe HR hmk
      have g00 := HI.out.c00
      have g10 := HI.out.c10
      have HU2 : Hid (RU wr (.slice (some ⟨w.heap.size + 1 + 1 + 1, 0, none⟩) N N) (x1 * x2)) := by
        have := HU.out
        rw [E1.out, E2.out] at this
        exact this
      clear HU
      go_wp2_with fail
      refine (w_trimR (!(b1 == b2)) _ (x1 * x2) _ HU2.out).mono ?_
      rintro e w2 ⟨ro, rn, rc, rfl, HV, hb2⟩
      have HK := HI.out.keep hb2
      have g20 := HK.c20
      have g21 := HK.c21
      have q20 := HK.f20
      have q21 := HK.f21
      have HK' := Hid.mk HK
      clear HK hb2 HI g00 g10
      generalize hfl : (!(b1 == b2) && decide (0 < x1 * x2)) = bl
      have HFL := Hid.mk hfl
      clear hfl
      obtain ⟨r0, r1, r2, r3⟩ := rfill (bl := bl) HK'.out.below (by omega) g20 g21 (by simp) HV.out
      go_wp2_with fail
      refine bodyPost_ret (v := .agg #[.bool bl, .slice ro rn rc]) (by simp [results, Tryd.results50, go_sem, r0, r1]) rfl ?_
      exact ⟨bl, _, _, _, _, rfl, r2, flag_sgn HFL.out (sgn_mul' _ _ _ _), flag_pos HFL.out, r3⟩
end Go.Proofs.YtdegoefedkidcaaDoor
