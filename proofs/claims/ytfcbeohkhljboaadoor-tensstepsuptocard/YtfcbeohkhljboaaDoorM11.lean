import Derived.Test.YtfcbeohkhljboaaDoorM9
import Derived.Test.YtfcbeohkhljboaaDoorM10
import Derived.Deep.QuietTactic
import Derived.BigQuiet
namespace Go.Proofs.YtfcbeohkhljboaaDoor
open Go.RowKit
set_option linter.unusedVariables false
set_option linter.unusedSimpArgs false

theorem r_int_eq {k : IntKind} {a b : Int} (h : a = b) : Value.int k a = Value.int k b := by rw [h]

set_option maxHeartbeats 400000 in
theorem w_rdigit (va : Value) (xs : List Nat) (i : Nat) (w : World) (ha : Nums .i64 w va xs) (hm : xs.length ≤ 1099511627776) (hi : i ≤ 2199023255552) :
    Calls Tryd.prog 79 #[va, .int .i64 (i : Int)] w fun e w' => e = .returned (.int .i64 ((xs.getD i 0 : Nat) : Int)) ∧ w' = w := by
  by_cases hlt : i < xs.length
  · rcases ha.open' with ⟨rfl, _⟩ | ⟨hp, b, off, cap, rfl, hc, hlb, hcell⟩
    · simp at hlt
    · have c := hcell i hlt
      have hli : (i : Int) < (xs.length : Int) := by omega
      obtain ⟨x, hx⟩ : ∃ x, x = xs.getD i 0 := ⟨_, rfl⟩
      rw [← hx] at c ⊢
      clear hx hcell
      generalize xs.length = n at *
      go_enter Tryd.func79, Tryd.ntmps79
      go_wp2
      go_ret
      exact ⟨rfl, rfl⟩
  · have h0 : xs.getD i 0 = 0 := Pl.getD_past (by omega)
    rw [h0]
    obtain ⟨ao, cap, rfl, q1, q2⟩ := ha
    clear q1 q2 h0
    have hli : ¬ (i : Int) < (xs.length : Int) := by omega
    generalize xs.length = n at *
    go_enter Tryd.func79, Tryd.ntmps79
    go_wp2
    go_ret
    exact ⟨rfl, rfl⟩

/-- what a new row of digits is: of the call's own -/
def RFresh (w w' : World) (v : Value) (zs : List Nat) : Prop := Nums .i64 w' v zs ∧ Pl.dig 10 zs ∧ Below w.heap.size w w' ∧ ∀ g, v.ownBlock = some g → w.heap.size ≤ g

/-- a call that answers a new row -/
def RowR (w w' : World) (e : Ending) (P : List Nat → Prop) : Prop := ∃ ro rn rc zs, e = .returned (.slice ro rn rc) ∧ RFresh w w' (.slice ro rn rc) zs ∧ P zs

/-- while two rows are added: behind i digits -/
structure SumSt (w wr : World) (v : Value) (xs ys : List Nat) (i c : Nat) : Prop where
  out : ∃ qs : List Nat, qs.length = i ∧ Pl.dig 10 qs ∧ wr.ownsRow w.heap.size 3 1 v i (vals .i64 qs) ∧ Below w.heap.size w wr ∧ Pl.val 10 qs + c * 10 ^ i = Pl.val 10 (xs.take i) + Pl.val 10 (ys.take i)

theorem own_shape {w : World} {base : Nat} {e : TypeId} {size : Nat} {v : Value} {n : Nat} {xs : List Value} (h : w.ownsRow base e size v n xs) : ∃ ao cap, v = .slice ao n cap := by
  rcases h.2 with ⟨e, e2⟩ | ⟨g, cap, cur, e, _⟩
  · exact ⟨none, 0, by rw [e, e2]⟩
  · exact ⟨_, _, e⟩

theorem vals_snoc (k : IntKind) (qs : List Nat) (x : Nat) (z : Int) (hz : z = (x : Int)) : vals k qs ++ [.int k z] = vals k (qs ++ [x]) := by
  rw [vals_append, hz]; rfl

theorem below_app {w wr w1 : World} {e : TypeId} {size : Nat} {v : Value} {n : Nat} {xs : List Value} {o : Obj} (hown : wr.ownsRow w.heap.size e size v n xs) (hb : Below w.heap.size w wr) (hg : (wr.alloc o).grownBy w1 v.ownBlock) : Below w.heap.size w w1 :=
  (hb.alloc hb.size o).grown hg (by have := hb.size; simp; omega) (own_base hown)

theorem SumSt.step {w w1 : World} {v' : Value} {xs ys qs : List Nat} {i c x y : Nat} {z : Int} (hq : qs.length = i) (hd : Pl.dig 10 qs) (hv : Pl.val 10 qs + c * 10 ^ i = Pl.val 10 (xs.take i) + Pl.val 10 (ys.take i)) (hz : z = (x : Int)) (hx : x < 10) (hs : x + y * 10 = c + ys.getD i 0 + xs.getD i 0)
    (hown : w1.ownsRow w.heap.size 3 1 v' (i + 1) (vals .i64 qs ++ [.int .i64 z])) (hb : Below w.heap.size w w1) : SumSt w w1 v' xs ys (i + 1) y := by
  refine ⟨qs ++ [x], by simp [hq], Pl.dig_append.2 ⟨hd, by intro u hu; simp at hu; omega⟩, ?_, hb, Pl.add_step hq hv hs⟩
  rw [vals_snoc .i64 qs x z hz] at hown
  exact hown

set_option maxRecDepth 100000 in
set_option maxHeartbeats 1600000 in
theorem w_rsum (va vb : Value) (xs ys : List Nat) (w : World) (ha : Nums .i64 w va xs) (hb : Nums .i64 w vb ys) (hma : xs.length ≤ 1099511627776) (hmb : ys.length ≤ 1099511627776) (hx : Pl.dig 10 xs) (hy : Pl.dig 10 ys) :
    Calls Tryd.prog 81 #[va, vb] w fun e w' => RowR w w' e fun zs => Pl.val 10 zs = Pl.val 10 xs + Pl.val 10 ys ∧ zs.length ≤ max xs.length ys.length + 1 := by
  obtain ⟨i0, hi0, hz0, hz1, hz2⟩ := info_parts Tryd.info3
  have HA := Hid.mk ha
  have HB := Hid.mk hb
  obtain ⟨ao, capa, rfl, q1, q2⟩ := ha
  clear q1 q2
  obtain ⟨bo, capb, rfl, q1, q2⟩ := hb
  clear q1 q2
  generalize hla : xs.length = la at *
  generalize hlb : ys.length = lb at *
  have HLA := Hid.mk hla
  have HLB := Hid.mk hlb
  clear hla hlb
  have HS : Hid (SumSt w w (.slice none 0 0) xs ys 0 0) := ⟨⟨[], rfl, Pl.dig_nil _, World.ownsRow_nil _ _ _ _, Below.refl _ _, by simp [Pl.val]⟩⟩
  go_enter Tryd.func81, Tryd.ntmps81
  go_wp2_with fail
  go_loopw [5, 6, 7] (fun l c i wr => ∃ (k cc : Nat) (so : Option Addr) (sc : Nat), k ≤ max la lb + 1 ∧ (cc = 0 ∨ k ≤ max la lb) ∧ l = .slice so k sc ∧ i = .int .i64 k ∧ c = .int .i64 (cc : Int) ∧ cc ≤ 1 ∧ Hid (SumSt w wr (.slice so k sc) xs ys k cc)) (fun _ _ i _ => max la lb + 1 - (intOf i).toNat)
  case atStart => exact ⟨0, 0, none, 0, by omega, by omega, rfl, rfl, rfl, by omega, HS⟩
  case round =>
    obtain ⟨k, cc, so, sc, hk, hk2, rfl, rfl, rfl, hcc, HQ⟩ := hrel
    by_cases hend : la ≤ k ∧ lb ≤ k ∧ cc = 0
    · obtain ⟨he1, he2, rfl⟩ := hend
      have e1 : ¬ (k : Int) < (la : Int) := by omega
      have e2 : ¬ (k : Int) < (lb : Int) := by omega
      have HF : Hid (∃ zs, RFresh w wr (.slice so k sc) zs ∧ Pl.val 10 zs = Pl.val 10 xs + Pl.val 10 ys ∧ zs.length ≤ max la lb + 1) := by
        obtain ⟨qs, hq, hd, hown, hbw, hv⟩ := HQ.out.out
        refine ⟨qs, ⟨own_nums hown, hd, hbw, own_base hown⟩, ?_, by omega⟩
        rw [Pl.val_take_all 10 xs k (by rw [HLA.out]; exact he1), Pl.val_take_all 10 ys k (by rw [HLB.out]; exact he2)] at hv
        omega
      go_wp2_with fail
      go_ret
      obtain ⟨zs, h1, h2, h3⟩ := HF.out
      exact ⟨_, _, _, zs, rfl, h1, h2, h3⟩
    · have hor : (((k : Int) < (la : Int)) ∨ ((k : Int) < (lb : Int))) ∨ (0 : Int) < (cc : Int) := by omega
      obtain ⟨qs, hq, hd, hown, hbw, hv⟩ := HQ.out.out
      have hrx := Pl.dig_getD (by decide) hx k
      have hry := Pl.dig_getD (by decide) hy k
      obtain ⟨x, hxx⟩ : ∃ x, x = xs.getD k 0 := ⟨_, rfl⟩
      obtain ⟨y, hyy⟩ : ∃ y, y = ys.getD k 0 := ⟨_, rfl⟩
      have HD1 : Hid (Calls Tryd.prog 79 #[.slice ao la capa, .int .i64 (k : Int)] wr fun e w' => e = .returned (.int .i64 (x : Int)) ∧ w' = wr) := by
        have := w_rdigit _ xs k wr (HA.out.keep hbw) (by have := HLA.out; omega) (by omega)
        rw [← hxx] at this
        exact this
      have HD2 : Hid (Calls Tryd.prog 79 #[.slice bo lb capb, .int .i64 (k : Int)] wr fun e w' => e = .returned (.int .i64 (y : Int)) ∧ w' = wr) := by
        have := w_rdigit _ ys k wr (HB.out.keep hbw) (by have := HLB.out; omega) (by omega)
        rw [← hyy] at this
        exact this
      have HX0 : Hid (la ≤ k → x = 0) := fun h => by rw [hxx]; exact Pl.getD_past (by rw [HLA.out]; exact h)
      have HY0 : Hid (lb ≤ k → y = 0) := fun h => by rw [hyy]; exact Pl.getD_past (by rw [HLB.out]; exact h)
      rw [← hxx] at hrx
      rw [← hyy] at hry
      have HXX := Hid.mk hxx
      have HYY := Hid.mk hyy
      have HD := Hid.mk hd
      have HV := Hid.mk hv
      have HBW := Hid.mk hbw
      have hsz := hbw.size
      clear hxx hyy hv hd hbw HQ
      have hsp : (k : Int) < (la : Int) ∨ (¬ (k : Int) < (la : Int) ∧ (k : Int) < (lb : Int)) ∨ (¬ (k : Int) < (la : Int) ∧ ¬ (k : Int) < (lb : Int) ∧ (0 : Int) < (cc : Int)) := by omega
      clear hor
      rcases hsp with h1 | ⟨h1, h2⟩ | ⟨h1, h2, h3⟩
      all_goals
        go_wp2_with fail
        refine HD1.out.mono ?_
        rintro e w1 ⟨rfl, hw⟩
        obtain rfl := hw.symm
        go_wp2_with fail
        refine HD2.out.mono ?_
        rintro e w2 ⟨rfl, hw⟩
        obtain rfl := hw.symm
        go_wp2_with (at_builtin; refine wpList_append_own _ rfl _ _ 46 rfl w.heap.size 3 i0 (.int .i64 0) 1 8 Tryd.underlying46 hi0 hz0 hz1 hz2 rfl (by decide) _ _ _ rfl (hown.alloc _) ⟨wr.heap.size, 0, none⟩ 1 1 [.int .i64 (((x : Int) + (y : Int) + (cc : Int)) % 10)] rfl rfl (by intro j u hj; match j, hj with | 0, hj => simp at hj; subst hj; simp [Addr.add]) (by intro u hu; simp at hu; subst hu; rfl) (by unfold maxLen; omega) (by omega) (by simp; omega) ?_)
        intro v1 w1 hown1 hgrow1 hnn
        obtain ⟨so1, sc1, hv1⟩ := own_shape hown1
        have HN : Hid (SumSt w w1 v1 xs ys (k + 1) ((x + y + cc) / 10)) := SumSt.step hq HD.out HV.out (x := (x + y + cc) % 10) (by omega) (by omega) (by rw [← HXX.out, ← HYY.out]; omega) hown1 (below_app hown HBW.out hgrow1)
        subst hv1
        clear hown1 hgrow1 hnn hown
        go_wp2_with fail
        go_roundw
        case rel => exact ⟨k + 1, (x + y + cc) / 10, so1, sc1, by omega, by have := HX0.out; have := HY0.out; omega, rfl, by go_num, r_int_eq (by omega), by omega, HN⟩
        case measure => simp [intOf]; omega
end Go.Proofs.YtfcbeohkhljboaaDoor
namespace Go.Proofs.YtfcbeohkhljboaaDoor
open Go.RowKit
set_option linter.unusedVariables false
set_option linter.unusedSimpArgs false

theorem nums_drewN {k : IntKind} {w : World} {v : Value} {xs : List Nat} (n : Nat) (h : Nums k w v xs) : Nums k (w.drewN n) v xs := h

theorem below_drewN {B : Nat} {w wr : World} (n : Nat) (h : Below B w wr) : Below B w (wr.drewN n) := ⟨h.os, h.tape, h.output, h.size, h.block⟩
theorem owns_drewN {w : World} {base : Nat} {e : TypeId} {size : Nat} {v : Value} {m : Nat} {xs : List Value} (n : Nat) (h : w.ownsRow base e size v m xs) : (w.drewN n).ownsRow base e size v m xs := h

/-- while one row is taken from another: behind i digits -/
structure RestSt (w wr : World) (v : Value) (xs ys : List Nat) (i c : Nat) : Prop where
  out : ∃ qs : List Nat, qs.length = i ∧ Pl.dig 10 qs ∧ wr.ownsRow w.heap.size 3 1 v i (vals .i64 qs) ∧ Below w.heap.size w wr ∧ Pl.val 10 qs + Pl.val 10 (ys.take i) * 1 = Pl.val 10 (xs.take i) + c * 10 ^ i

theorem RestSt.step {w w1 : World} {v' : Value} {xs ys qs : List Nat} {i c x y : Nat} {z : Int} (hq : qs.length = i) (hd : Pl.dig 10 qs) (hv : Pl.val 10 qs + Pl.val 10 (ys.take i) * 1 = Pl.val 10 (xs.take i) + c * 10 ^ i) (hz : z = (x : Int)) (hx : x < 10) (hs : x + (c + ys.getD i 0 * 1) = xs.getD i 0 + y * 10)
    (hown : w1.ownsRow w.heap.size 3 1 v' (i + 1) (vals .i64 qs ++ [.int .i64 z])) (hb : Below w.heap.size w w1) : RestSt w w1 v' xs ys (i + 1) y := by
  refine ⟨qs ++ [x], by simp [hq], Pl.dig_append.2 ⟨hd, by intro u hu; simp at hu; omega⟩, ?_, hb, Pl.take_step hq hv hs⟩
  rw [vals_snoc .i64 qs x z hz] at hown
  exact hown

set_option maxRecDepth 100000 in
set_option maxHeartbeats 1600000 in
theorem w_rrest (va vb : Value) (xs ys : List Nat) (w : World) (ha : Nums .i64 w va xs) (hb : Nums .i64 w vb ys) (hma : xs.length ≤ 1099511627776) (hmb : ys.length ≤ xs.length) (hx : Pl.dig 10 xs) (hy : Pl.dig 10 ys) (hle : Pl.val 10 ys ≤ Pl.val 10 xs) :
    Calls Tryd.prog 82 #[va, vb] w fun e w' => RowR w w' e fun zs => Pl.val 10 zs + Pl.val 10 ys = Pl.val 10 xs ∧ zs.length = xs.length := by
  obtain ⟨i0, hi0, hz0, hz1, hz2⟩ := info_parts Tryd.info3
  have HA := Hid.mk ha
  have HB := Hid.mk hb
  obtain ⟨ao, capa, rfl, q1, q2⟩ := ha
  clear q1 q2
  obtain ⟨bo, capb, rfl, q1, q2⟩ := hb
  clear q1 q2
  generalize hla : xs.length = la at *
  generalize hlb : ys.length = lb at *
  have HLA := Hid.mk hla
  have HLB := Hid.mk hlb
  clear hla hlb
  have HS : Hid (RestSt w w (.slice none 0 0) xs ys 0 0) := ⟨⟨[], rfl, Pl.dig_nil _, World.ownsRow_nil _ _ _ _, Below.refl _ _, by simp [Pl.val]⟩⟩
  have HLE := Hid.mk hle
  clear hle
  go_enter Tryd.func82, Tryd.ntmps82
  go_wp2_with fail
  go_loopw [5, 6, 7] (fun l c i wr => ∃ (k cc : Nat) (so : Option Addr) (sc : Nat), k ≤ la ∧ l = .slice so k sc ∧ i = .int .i64 k ∧ c = .int .i64 (cc : Int) ∧ cc ≤ 1 ∧ Hid (RestSt w wr (.slice so k sc) xs ys k cc)) (fun _ _ i _ => la - (intOf i).toNat)
  case atStart => exact ⟨0, 0, none, 0, by omega, rfl, rfl, rfl, by omega, HS⟩
  case round =>
    obtain ⟨k, cc, so, sc, hk, rfl, rfl, rfl, hcc, HQ⟩ := hrel
    by_cases hend : k = la
    · subst hend
      have HF : Hid (∃ zs, RFresh w wr (.slice so k sc) zs ∧ Pl.val 10 zs + Pl.val 10 ys = Pl.val 10 xs ∧ zs.length = k) := by
        obtain ⟨qs, hq, hd, hown, hbw, hv⟩ := HQ.out.out
        refine ⟨qs, ⟨own_nums hown, hd, hbw, own_base hown⟩, ?_, hq⟩
        have h1 := Pl.take_end hq HLA.out (by rw [HLB.out]; exact hmb) hd hv
        rcases Nat.eq_zero_or_pos cc with h0 | h0
        · rw [h0] at h1; omega
        · have := h1.2.1 h0; have := HLE.out; omega
      go_wp2_with fail
      go_ret
      obtain ⟨zs, h1, h2, h3⟩ := HF.out
      exact ⟨_, _, _, zs, rfl, h1, h2, h3⟩
    · have hlt : (k : Int) < (la : Int) := by omega
      obtain ⟨qs, hq, hd, hown, hbw, hv⟩ := HQ.out.out
      have hrx := Pl.dig_getD (by decide) hx k
      have hry := Pl.dig_getD (by decide) hy k
      obtain ⟨x, hxx⟩ : ∃ x, x = xs.getD k 0 := ⟨_, rfl⟩
      obtain ⟨y, hyy⟩ : ∃ y, y = ys.getD k 0 := ⟨_, rfl⟩
      have HD2 : Hid (∀ n, Calls Tryd.prog 79 #[.slice bo lb capb, .int .i64 (k : Int)] (wr.drewN n) fun e w' => e = .returned (.int .i64 (y : Int)) ∧ w' = wr.drewN n) := by
        intro n
        have := w_rdigit _ ys k (wr.drewN n) (nums_drewN n (HB.out.keep hbw)) (by have := HLB.out; omega) (by omega)
        rw [← hyy] at this
        exact this
      obtain ⟨b, off, hao, cx⟩ : ∃ b off, ao = some ⟨b, off, none⟩ ∧ wr.cell? ⟨b, off + k, none⟩ = some (.int .i64 (x : Int)) := by
        rcases (HA.out.keep hbw).open' with ⟨e, _⟩ | ⟨hp, b, off, cap, e, hc, hlt, hcell⟩
        · have := HLA.out; rw [e] at this; simp at this; omega
        · cases e
          exact ⟨b, off, rfl, by rw [hxx]; exact hcell k (by have := HLA.out; omega)⟩
      subst hao
      rw [← hxx] at hrx
      rw [← hyy] at hry
      have HXX := Hid.mk hxx
      have HYY := Hid.mk hyy
      have HD := Hid.mk hd
      have HV := Hid.mk hv
      have HBW := Hid.mk hbw
      have hsz := hbw.size
      clear hxx hyy hv hd hbw HQ
      go_wp2_with fail
      go_quiet (first | (go_at_call 79; exact Calls.quiet_of_same (HD2.out _)))
      have hown2 := owns_drewN nq hown
      have HB2 := Hid.mk (below_drewN nq HBW.out)
      clear hown HBW HD2 cx hsz
      generalize wr.drewN nq = u at *
      have hsz := HB2.out.size
      by_cases hneg : x < y + cc
      · have hn : (x : Int) - (y : Int) - (cc : Int) < 0 := by omega
        go_wp2_with (at_builtin; refine wpList_append_own _ rfl _ _ 46 rfl w.heap.size 3 i0 (.int .i64 0) 1 8 Tryd.underlying46 hi0 hz0 hz1 hz2 rfl (by decide) _ _ _ rfl (hown2.alloc _) ⟨u.heap.size, 0, none⟩ 1 1 [.int .i64 ((x : Int) - (y : Int) - (cc : Int) + 10)] rfl rfl (by intro j u hj; match j, hj with | 0, hj => simp at hj; subst hj; simp [Addr.add]) (by intro u hu; simp at hu; subst hu; rfl) (by unfold maxLen; omega) (by omega) (by simp; omega) ?_)
        intro v1 w1 hown1 hgrow1 hnn
        obtain ⟨so1, sc1, hv1⟩ := own_shape hown1
        have HN : Hid (RestSt w w1 v1 xs ys (k + 1) 1) := RestSt.step hq HD.out HV.out (x := x + 10 - (y + cc)) (by omega) (by omega) (by rw [← HXX.out, ← HYY.out]; omega) hown1 (below_app hown2 HB2.out hgrow1)
        subst hv1
        clear hown1 hgrow1 hnn hown2
        go_wp2_with fail
        go_roundw
        case rel => exact ⟨k + 1, 1, so1, sc1, by omega, rfl, by go_num, rfl, by omega, HN⟩
        case measure => simp [intOf]; omega
      · have hn : ¬ (x : Int) - (y : Int) - (cc : Int) < 0 := by omega
        go_wp2_with (at_builtin; refine wpList_append_own _ rfl _ _ 46 rfl w.heap.size 3 i0 (.int .i64 0) 1 8 Tryd.underlying46 hi0 hz0 hz1 hz2 rfl (by decide) _ _ _ rfl (hown2.alloc _) ⟨u.heap.size, 0, none⟩ 1 1 [.int .i64 ((x : Int) - (y : Int) - (cc : Int))] rfl rfl (by intro j u hj; match j, hj with | 0, hj => simp at hj; subst hj; simp [Addr.add]) (by intro u hu; simp at hu; subst hu; rfl) (by unfold maxLen; omega) (by omega) (by simp; omega) ?_)
        intro v1 w1 hown1 hgrow1 hnn
        obtain ⟨so1, sc1, hv1⟩ := own_shape hown1
        have HN : Hid (RestSt w w1 v1 xs ys (k + 1) 0) := RestSt.step hq HD.out HV.out (x := x - (y + cc)) (by omega) (by omega) (by rw [← HXX.out, ← HYY.out]; omega) hown1 (below_app hown2 HB2.out hgrow1)
        subst hv1
        clear hown1 hgrow1 hnn hown2
        go_wp2_with fail
        go_roundw
        case rel => exact ⟨k + 1, 0, so1, sc1, by omega, rfl, by go_num, rfl, by omega, HN⟩
        case measure => simp [intOf]; omega
end Go.Proofs.YtfcbeohkhljboaaDoor
