import Derived.Test.YtpjcieieafadfaaDoorF2
namespace Go.Proofs.YtpjcieieafadfaaDoor
open Go.RowKit
set_option linter.unusedVariables false
set_option linter.unusedSimpArgs false

theorem Rws.turn {B : Nat} {w : World} {a b c d : RowA} (h : Rws B w [a, b, c, d]) : Rws B w [d, a, b, c] := h.perm (l' := [d, a, b, c]) (List.perm_middle (l₁ := [a, b, c]) (a := d) (l₂ := []))

def rR (v : Value) (n : Nat) (X : List Int) : RowA := ⟨21, v, n, ivals .i32 X⟩
def rI (v : Value) (n : Nat) (X : List Int) : RowA := ⟨3, v, n, ivals .i64 X⟩

/-- four rows apart, and all that stood before -/
def F4 (B : Nat) (w wr : World) (a b c d : RowA) : Prop := Rws B wr [a, b, c, d] ∧ Below B w wr ∧ B ≤ wr.heap.size
theorem F4.turn {B : Nat} {w wr : World} {a b c d : RowA} (h : F4 B w wr a b c d) : F4 B w wr d a b c := ⟨h.1.turn, h.2⟩
theorem F4.setR {B : Nat} {w wr : World} {n cap g : Nat} {X : List Int} {b c d : RowA} (h : F4 B w wr (rR (.slice (some ⟨g, 0, none⟩) n cap) n X) b c d) {k : Nat} (hk : k < n) (x : Int) : F4 B w (wr.setCell ⟨g, k, none⟩ (.int .i32 x)) (rR (.slice (some ⟨g, 0, none⟩) n cap) n (X.set k x)) b c d := by
  have h1 := h.1.set hk (.int .i32 x)
  rw [ivals_set] at h1
  have h2 := h.2.1.setCell (p := ⟨g, k, none⟩) (own_base h.1.head g rfl) (.int .i32 x)
  exact ⟨h1, h2, Nat.le_trans h.2.2 (grown_set wr g k (.int .i32 x)).size⟩
theorem F4.setI {B : Nat} {w wr : World} {n cap g : Nat} {X : List Int} {b c d : RowA} (h : F4 B w wr (rI (.slice (some ⟨g, 0, none⟩) n cap) n X) b c d) {k : Nat} (hk : k < n) (x : Int) : F4 B w (wr.setCell ⟨g, k, none⟩ (.int .i64 x)) (rI (.slice (some ⟨g, 0, none⟩) n cap) n (X.set k x)) b c d := by
  have h1 := h.1.set hk (.int .i64 x)
  rw [ivals_set] at h1
  have h2 := h.2.1.setCell (p := ⟨g, k, none⟩) (own_base h.1.head g rfl) (.int .i64 x)
  exact ⟨h1, h2, Nat.le_trans h.2.2 (grown_set wr g k (.int .i64 x)).size⟩
theorem F4.growR {B : Nat} {w wr w' : World} {v v' : Value} {n n' m : Nat} {X : List Int} {f : Int} {b c d : RowA} (h : F4 B w wr (rR v n X) b c d) (hg : GwSt .i32 21 B wr w' v v' n' X f m) : F4 B w w' (rR v' n' (cnt X f m)) b c d :=
  ⟨h.1.move (r' := rR v' n' (cnt X f m)) hg.own hg.grown hg.at_, h.2.1.trans hg.below, Nat.le_trans h.2.2 hg.size⟩
theorem F4.growI {B : Nat} {w wr w' : World} {v v' : Value} {n n' m : Nat} {X : List Int} {f : Int} {b c d : RowA} (h : F4 B w wr (rI v n X) b c d) (hg : GwSt .i64 3 B wr w' v v' n' X f m) : F4 B w w' (rI v' n' (cnt X f m)) b c d :=
  ⟨h.1.move (r' := rI v' n' (cnt X f m)) hg.own hg.grown hg.at_, h.2.1.trans hg.below, Nat.le_trans h.2.2 hg.size⟩
theorem F4.ownR {B : Nat} {w wr : World} {v : Value} {n : Nat} {X : List Int} {b c d : RowA} (h : F4 B w wr (rR v n X) b c d) : wr.ownsRow B 21 1 v n (ivals .i32 X) := h.1.head
theorem F4.ownI {B : Nat} {w wr : World} {v : Value} {n : Nat} {X : List Int} {b c d : RowA} (h : F4 B w wr (rI v n X) b c d) : wr.ownsRow B 3 1 v n (ivals .i64 X) := h.1.head
theorem F4.endR {B : Nat} {w wr : World} {v : Value} {n : Nat} {X : List Int} {b c d : RowA} {m f : Int} (h : F4 B w wr (rR v n (mkI m X n)) b c d) (hn : X.length = n) : F4 B w wr (rR v n (mkG m f n 0)) b c d := by
  have e := mkI_end m f X
  rw [hn] at e
  rw [← e]; exact h
theorem F4.endI {B : Nat} {w wr : World} {v : Value} {n : Nat} {X : List Int} {b c d : RowA} {m f : Int} (h : F4 B w wr (rI v n (mkI m X n)) b c d) (hn : X.length = n) : F4 B w wr (rI v n (mkG m f n 0)) b c d := by
  have e := mkI_end m f X
  rw [hn] at e
  rw [← e]; exact h

theorem fr_numbers (so : Option Addr) (cap N : Nat) (zs : List Int) (u : World) (h : Ints .i32 u (.slice so N cap) zs) (hN : zs.length = N) (hr : ∀ i, i < zs.length → -2147483648 ≤ zs.getD i 0 ∧ zs.getD i 0 ≤ 2147483647) (hl : N ≤ 1099511627776) :
    Calls Tryd.prog 12 #[.slice so N cap] u fun e w' => ∃ so' sc, e = .returned (.slice so' N sc) ∧ Hid (Ints .i64 w' (.slice so' N sc) zs) ∧ Below u.heap.size u w' := by
  have := w_numbers _ _ u h hr (by omega)
  unfold ListR at this
  rw [hN] at this
  exact this
theorem mkG_range (m f : Int) (n k : Nat) (hm : -4 ≤ m) (hm2 : m ≤ 0) (hf : 0 ≤ f) (hf2 : f ≤ 4000000) (hn : n ≤ 1048576) (hk : k ≤ 1048593) (i : Nat) (hi : i < (mkG m f n k).length) : -2147483648 ≤ (mkG m f n k).getD i 0 ∧ (mkG m f n k).getD i 0 ≤ 2147483647 := by
  rw [mkG_len] at hi
  rw [mkG_get m f n k i hi]
  split <;> omega

set_option maxRecDepth 100000 in
set_option maxHeartbeats 8000000 in
theorem w_UtfFresh (s p : ByteArray) (w : World) (ss : s.size ≤ 1048576) (sp : p.size ≤ 1048576) :
    Calls Tryd.prog 4 #[.string s, .string p] w fun e w' => e = .returned (.bool true) ∧ Below w.heap.size w w' := by
  have hrl := runes_len_le s.data.toList
  rw [size_len] at hrl
  have hfl := fnd_len s.data.toList (plcs s p) (runes s.data.toList).length
  have hR := runes_isR s.data.toList
  obtain ⟨N, hN⟩ : ∃ N, (runes s.data.toList).length = N := ⟨_, rfl⟩
  have HRu := Hid.mk (fun u => w_RunesO s N u hN (by omega))
  have HrR := Hid.mk (fun u => w_rRunes s u (by omega))
  unfold ListR at HrR
  have hZ : (toI (runes s.data.toList)).length = N := by rw [toI_len]; exact hN
  rw [hZ] at HrR
  have HZR := Hid.mk (fun i (_ : i < (toI (runes s.data.toList)).length) => toI_range (runes s.data.toList) hR i)
  have HFi := Hid.mk (fun u => w_FindO s p u (by omega))
  have HrF := Hid.mk (fun u => w_rFind s p u ss sp)
  obtain ⟨M, hM⟩ : ∃ M, (natI (fnd s.data.toList (plcs s p) (runes s.data.toList).length)).length = M := ⟨_, rfl⟩
  have hM2 : (fnd s.data.toList (plcs s p) (runes s.data.toList).length).length = M := by rw [← hM]; simp [natI]
  rw [hM2] at HFi HrF
  have hNb : N ≤ 1048576 := by omega
  have hMb : M ≤ 1048576 := by omega
  generalize toI (runes s.data.toList) = zs at *
  generalize natI (fnd s.data.toList (plcs s p) (runes s.data.toList).length) = X at *
  have HZ := Hid.mk hZ
  have HX := Hid.mk hM
  obtain ⟨m, hm⟩ : ∃ m, m = s.size + 17 := ⟨_, rfl⟩
  have hmb : m ≤ 1048593 := by omega
  have hmi : (m : Int) = (s.size : Int) + 17 := by omega
  have HMI := Hid.mk hmi
  have HAN : Hid (∀ {va vb : Value} {u : World}, Ints .i64 u va zs → Ints .i64 u vb zs → Calls Tryd.prog 11 #[va, vb] u fun e w' => e = .returned (.bool true) ∧ Below u.heap.size u w') := fun h1 h2 => w_alike _ _ _ _ h1 h2 (by omega)
  have HAM : Hid (∀ {va vb : Value} {u : World}, Ints .i64 u va X → Ints .i64 u vb X → Calls Tryd.prog 11 #[va, vb] u fun e w' => e = .returned (.bool true) ∧ Below u.heap.size u w') := fun h1 h2 => w_alike _ _ _ _ h1 h2 (by omega)
  clear hN hZ hM hM2 hfl hR hrl hm hmi
  go_enter Tryd.func4, Tryd.ntmps4
  go_wp2_with fail
  refine (w_fixed _).mono ?_
  rintro e w1 ⟨rfl, hb1⟩
  have HB1 := Hid.mk hb1
  clear hb1
  go_wp2_with fail
  refine (HrR.out w1).mono ?_
  rintro e w2 ⟨ro, rc, rfl, HIR, hb2⟩
  have HB2 := Hid.mk (below_more HB1.out hb2)
  clear hb2 HB1 HrR
  go_wp2_with fail
  refine (HrF.out w2).mono ?_
  rintro e w3 ⟨fo, fc, nf, rfl, HF3, hb3⟩
  obtain rfl : nf = M := HF3.out.1
  have HB3 := Hid.mk (below_more HB2.out hb3)
  have HWR := Hid.mk (HIR.out.keep hb3)
  have HWF := Hid.mk HF3.out.2
  clear hb3 HB2 HrF HF3 HIR
  go_wp2_with fail
  refine (HRu.out w3).mono ?_
  rintro e w4 ⟨ao, ac, rfl, HO4, hb4⟩
  have H4 : Hid (Rws w3.heap.size w4 [rR (.slice ao N ac) N zs] ∧ Below w3.heap.size w3 w4) := ⟨(Rws.nil w3.heap.size w3).cons (r := rR (.slice ao N ac) N zs) hb4 (Nat.le_refl _) HO4.out, hb4⟩
  clear hb4 HO4
  go_wp2_with fail
  refine (HRu.out w4).mono ?_
  rintro e w5 ⟨bo, bc, rfl, HO5, hb5⟩
  have H5 : Hid (Rws w3.heap.size w5 [rR (.slice bo N bc) N zs, rR (.slice ao N ac) N zs] ∧ Below w3.heap.size w3 w5) := ⟨H4.out.1.cons (r := rR (.slice bo N bc) N zs) hb5 H4.out.2.size HO5.out, below_more H4.out.2 hb5⟩
  clear hb5 HO5 H4
  go_wp2_with fail
  refine (HFi.out w5).mono ?_
  rintro e w6 ⟨co, cc, nf2, rfl, HF6, hb6⟩
  obtain rfl : nf = nf2 := HF6.out.1
  have H6 : Hid (Rws w3.heap.size w6 [rI (.slice co nf cc) nf X, rR (.slice bo N bc) N zs, rR (.slice ao N ac) N zs] ∧ Below w3.heap.size w3 w6) := ⟨H5.out.1.cons (r := rI (.slice co nf cc) nf X) hb6 H5.out.2.size HF6.out.2, below_more H5.out.2 hb6⟩
  clear hb6 HF6 H5
  go_wp2_with fail
  refine (HFi.out w6).mono ?_
  rintro e w7 ⟨dO, dc, nf2, rfl, HF7, hb7⟩
  obtain rfl : nf = nf2 := HF7.out.1
  have H7 : Hid (F4 w3.heap.size w3 w7 (rI (.slice dO nf dc) nf X) (rI (.slice co nf cc) nf X) (rR (.slice bo N bc) N zs) (rR (.slice ao N ac) N zs)) := by
    have hB := below_more H6.out.2 hb7
    exact ⟨H6.out.1.cons (r := rI (.slice dO nf dc) nf X) hb7 H6.out.2.size HF7.out.2, hB, hB.size⟩
  clear hb7 HF7 H6
  generalize nf = M at *
  have HN1 := Hid.mk (fr_numbers ao ac N zs w7 (own_ints H7.out.turn.ownR) HZ.out HZR.out (by omega))
  go_wp2_with fail
  refine HN1.out.mono ?_
  rintro e w8 ⟨xo, xc, rfl, HI8, hb8⟩
  have HB8 := Hid.mk hb8
  have HA1 := Hid.mk (HAN.out HI8.out ((HWR.out.keep H7.out.2.1).keep hb8))
  clear hb8 HN1 HI8
  go_wp2_with fail
  refine HA1.out.mono ?_
  rintro e w9 ⟨rfl, hb9⟩
  have HB9 := Hid.mk (below_more HB8.out hb9)
  clear hb9 HA1 HB8
  have HN1 := Hid.mk (fr_numbers bo bc N zs w9 ((own_ints H7.out.turn.turn.ownR).keep HB9.out) HZ.out HZR.out (by omega))
  go_wp2_with fail
  refine HN1.out.mono ?_
  rintro e w10 ⟨xo', xc', rfl, HI8, hb8⟩
  have HB8 := Hid.mk (below_more HB9.out hb8)
  have HA1 := Hid.mk (HAN.out HI8.out ((HWR.out.keep H7.out.2.1).keep HB8.out))
  clear hb8 HN1 HI8 HB9
  go_wp2_with fail
  refine HA1.out.mono ?_
  rintro e w11 ⟨rfl, hb9⟩
  have HB9 := Hid.mk (below_more HB8.out hb9)
  clear hb9 HA1 HB8
  have HA1 := Hid.mk (HAM.out ((own_ints H7.out.turn.turn.turn.ownI).keep HB9.out) ((HWF.out.keep H7.out.2.1).keep HB9.out))
  go_wp2_with fail
  refine HA1.out.mono ?_
  rintro e w12 ⟨rfl, hb9⟩
  have HB10 := Hid.mk (below_more HB9.out hb9)
  clear hb9 HA1 HB9
  have HA1 := Hid.mk (HAM.out ((own_ints H7.out.ownI).keep HB10.out) ((HWF.out.keep H7.out.2.1).keep HB10.out))
  go_wp2_with fail
  refine HA1.out.mono ?_
  rintro e w13 ⟨rfl, hb9⟩
  have HS : Hid (F4 w3.heap.size w3 w13 (rR (.slice ao N ac) N (mkI (-1) zs 0)) (rI (.slice dO M dc) M X) (rI (.slice co M cc) M X) (rR (.slice bo N bc) N zs)) := by
    have hB := below_more HB10.out hb9
    rw [mkI_zero]
    exact F4.turn ⟨H7.out.1.keep hB, H7.out.2.1.trans (hB.mono H7.out.2.2), Nat.le_trans H7.out.2.2 hB.size⟩
  clear hb9 HA1 HB10 H7
  go_wp2_with fail
  go_loopw [11] (fun i wr => ∃ k : Nat, k ≤ N ∧ i = .int .i64 (k : Int) ∧ Hid (F4 w3.heap.size w3 wr (rR (.slice ao N ac) N (mkI (-1) zs k)) (rI (.slice dO M dc) M X) (rI (.slice co M cc) M X) (rR (.slice bo N bc) N zs))) (fun i _ => N - (intOf i).toNat)
  case atStart => exact ⟨0, Nat.zero_le _, rfl, HS⟩
  case round =>
    clear HS
    obtain ⟨k, hk, rfl, HQ⟩ := hrel
    by_cases hlt : k < N
    · have hl1 : (k : Int) < (N : Int) := by omega
      have hkz : k < zs.length := by rw [HZ.out]; exact hlt
      obtain ⟨g, hg, _, cK⟩ := ownE_cell HQ.out.ownR (by rw [mkI_len _ _ (by omega)]; exact HZ.out) hlt
      subst hg
      have fK := ownE_free HQ.out.ownR k
      have HNx := Hid.mk (HQ.out.setR hlt (-1 - 4 * (k : Int)))
      rw [mkI_up _ _ hkz] at HNx
      clear hkz
      generalize List.getD _ k 0 = old at cK
      go_wp2_with fail
      go_roundw
      case rel => exact ⟨k + 1, hlt, by go_num, HNx⟩
      case measure => simp [intOf]; omega
    · have hl1 : ¬ (k : Int) < (N : Int) := by omega
      obtain rfl : k = N := by omega
      have HS : Hid (F4 w3.heap.size w3 wr (rR (.slice bo k bc) k (mkI (-2) zs 0)) (rR (.slice ao k ac) k (mkG (-1) 1000000 k 0)) (rI (.slice dO M dc) M X) (rI (.slice co M cc) M X)) := by
        rw [mkI_zero]; exact (HQ.out.endR HZ.out).turn
      clear HQ hlt hk
      generalize k = N at *
      go_wp2_with fail
      go_loopw [12] (fun i wr => ∃ k : Nat, k ≤ N ∧ i = .int .i64 (k : Int) ∧ Hid (F4 w3.heap.size w3 wr (rR (.slice bo N bc) N (mkI (-2) zs k)) (rR (.slice ao N ac) N (mkG (-1) 1000000 N 0)) (rI (.slice dO M dc) M X) (rI (.slice co M cc) M X))) (fun i _ => N - (intOf i).toNat)
      case atStart => exact ⟨0, Nat.zero_le _, rfl, HS⟩
      case round =>
        clear HS
        obtain ⟨k, hk, rfl, HQ⟩ := hrel
        by_cases hlt : k < N
        · have hl1 : (k : Int) < (N : Int) := by omega
          have hkz : k < zs.length := by rw [HZ.out]; exact hlt
          obtain ⟨g, hg, _, cK⟩ := ownE_cell HQ.out.ownR (by rw [mkI_len _ _ (by omega)]; exact HZ.out) hlt
          subst hg
          have fK := ownE_free HQ.out.ownR k
          have HNx := Hid.mk (HQ.out.setR hlt (-2 - 4 * (k : Int)))
          rw [mkI_up _ _ hkz] at HNx
          clear hkz
          generalize List.getD _ k 0 = old at cK
          go_wp2_with fail
          go_roundw
          case rel => exact ⟨k + 1, hlt, by go_num, HNx⟩
          case measure => simp [intOf]; omega
        · have hl1 : ¬ (k : Int) < (N : Int) := by omega
          obtain rfl : k = N := by omega
          have HS : Hid (F4 w3.heap.size w3 wr (rI (.slice co M cc) M (mkI (-3) X 0)) (rR (.slice bo k bc) k (mkG (-2) 2000000 k 0)) (rR (.slice ao k ac) k (mkG (-1) 1000000 k 0)) (rI (.slice dO M dc) M X)) := by
            rw [mkI_zero]; exact (HQ.out.endR HZ.out).turn
          clear HQ hlt hk
          generalize k = N at *
          go_wp2_with fail
          go_loopw [13] (fun i wr => ∃ k : Nat, k ≤ M ∧ i = .int .i64 (k : Int) ∧ Hid (F4 w3.heap.size w3 wr (rI (.slice co M cc) M (mkI (-3) X k)) (rR (.slice bo N bc) N (mkG (-2) 2000000 N 0)) (rR (.slice ao N ac) N (mkG (-1) 1000000 N 0)) (rI (.slice dO M dc) M X))) (fun i _ => M - (intOf i).toNat)
          case atStart => exact ⟨0, Nat.zero_le _, rfl, HS⟩
          case round =>
            clear HS
            obtain ⟨k, hk, rfl, HQ⟩ := hrel
            by_cases hlt : k < M
            · have hl1 : (k : Int) < (M : Int) := by omega
              have hkz : k < X.length := by rw [HX.out]; exact hlt
              obtain ⟨g, hg, _, cK⟩ := ownE_cell HQ.out.ownI (by rw [mkI_len _ _ (by omega)]; exact HX.out) hlt
              subst hg
              have fK := ownE_free HQ.out.ownI k
              have HNx := Hid.mk (HQ.out.setI hlt (-3 - 4 * (k : Int)))
              rw [mkI_up _ _ hkz] at HNx
              clear hkz
              generalize List.getD _ k 0 = old at cK
              go_wp2_with fail
              go_roundw
              case rel => exact ⟨k + 1, hlt, by go_num, HNx⟩
              case measure => simp [intOf]; omega
            · have hl1 : ¬ (k : Int) < (M : Int) := by omega
              obtain rfl : k = M := by omega
              have HS : Hid (F4 w3.heap.size w3 wr (rI (.slice dO k dc) k (mkI (-4) X 0)) (rI (.slice co k cc) k (mkG (-3) 3000000 k 0)) (rR (.slice bo N bc) N (mkG (-2) 2000000 N 0)) (rR (.slice ao N ac) N (mkG (-1) 1000000 N 0))) := by
                rw [mkI_zero]; exact (HQ.out.endI HX.out).turn
              clear HQ hlt hk
              generalize k = M at *
              go_wp2_with fail
              go_loopw [14] (fun i wr => ∃ k : Nat, k ≤ M ∧ i = .int .i64 (k : Int) ∧ Hid (F4 w3.heap.size w3 wr (rI (.slice dO M dc) M (mkI (-4) X k)) (rI (.slice co M cc) M (mkG (-3) 3000000 M 0)) (rR (.slice bo N bc) N (mkG (-2) 2000000 N 0)) (rR (.slice ao N ac) N (mkG (-1) 1000000 N 0)))) (fun i _ => M - (intOf i).toNat)
              case atStart => exact ⟨0, Nat.zero_le _, rfl, HS⟩
              case round =>
                clear HS
                obtain ⟨k, hk, rfl, HQ⟩ := hrel
                by_cases hlt : k < M
                · have hl1 : (k : Int) < (M : Int) := by omega
                  have hkz : k < X.length := by rw [HX.out]; exact hlt
                  obtain ⟨g, hg, _, cK⟩ := ownE_cell HQ.out.ownI (by rw [mkI_len _ _ (by omega)]; exact HX.out) hlt
                  subst hg
                  have fK := ownE_free HQ.out.ownI k
                  have HNx := Hid.mk (HQ.out.setI hlt (-4 - 4 * (k : Int)))
                  rw [mkI_up _ _ hkz] at HNx
                  clear hkz
                  generalize List.getD _ k 0 = old at cK
                  go_wp2_with fail
                  go_roundw
                  case rel => exact ⟨k + 1, hlt, by go_num, HNx⟩
                  case measure => simp [intOf]; omega
                · have hl1 : ¬ (k : Int) < (M : Int) := by omega
                  obtain rfl : k = M := by omega
                  have HS : Hid (F4 w3.heap.size w3 wr (rR (.slice ao N ac) N (mkG (-1) 1000000 N 0)) (rI (.slice dO k dc) k (mkG (-4) 4000000 k 0)) (rI (.slice co k cc) k (mkG (-3) 3000000 k 0)) (rR (.slice bo N bc) N (mkG (-2) 2000000 N 0))) := (HQ.out.endI HX.out).turn
                  clear HQ hlt hk
                  generalize k = M at *
                  obtain ⟨w14, rfl⟩ : ∃ wo : World, wo = wr := ⟨_, rfl⟩
                  have HG1 := Hid.mk (w_grownR w3.heap.size N m ao ac _ 1000000 w14 HS.out.ownR HS.out.2.2 hNb hmb (by omega) (by omega))
                  rw [HMI.out] at HG1
                  unfold GwR at HG1
                  go_wp2_with fail
                  refine HG1.out.mono ?_
                  rintro e w15 ⟨lao, lac, rfl, HW⟩
                  have HS2 := Hid.mk ((HS.out.growR HW.out).turn)
                  rw [cnt_mkG] at HS2
                  clear HG1 HW HS
                  have HG1 := Hid.mk (w_grownR w3.heap.size N m bo bc _ 2000000 w15 HS2.out.ownR HS2.out.2.2 hNb hmb (by omega) (by omega))
                  rw [HMI.out] at HG1
                  unfold GwR at HG1
                  go_wp2_with fail
                  refine HG1.out.mono ?_
                  rintro e w16 ⟨lbo, lbc, rfl, HW⟩
                  have HS := Hid.mk ((HS2.out.growR HW.out).turn)
                  rw [cnt_mkG] at HS
                  clear HG1 HW HS2
                  have HG1 := Hid.mk (w_grownI w3.heap.size M m co cc _ 3000000 w16 HS.out.ownI HS.out.2.2 hMb hmb (by omega) (by omega))
                  rw [HMI.out] at HG1
                  unfold GwR at HG1
                  go_wp2_with fail
                  refine HG1.out.mono ?_
                  rintro e w17 ⟨lco, lcc, rfl, HW⟩
                  have HS2 := Hid.mk ((HS.out.growI HW.out).turn)
                  rw [cnt_mkG] at HS2
                  clear HG1 HW HS
                  have HG1 := Hid.mk (w_grownI w3.heap.size M m dO dc _ 4000000 w17 HS2.out.ownI HS2.out.2.2 hMb hmb (by omega) (by omega))
                  rw [HMI.out] at HG1
                  unfold GwR at HG1
                  go_wp2_with fail
                  refine HG1.out.mono ?_
                  rintro e w18 ⟨ldo, ldc, rfl, HW⟩
                  have HS := Hid.mk (HS2.out.growI HW.out)
                  rw [cnt_mkG] at HS
                  have HIA := Hid.mk (own_ints HS.out.turn.ownR)
                  have HID := Hid.mk (own_ints HS.out.ownI)
                  have HIB := Hid.mk (own_ints HS.out.turn.turn.ownR)
                  have HIC := Hid.mk (own_ints HS.out.turn.turn.turn.ownI)
                  have HWR2 := Hid.mk (HWR.out.keep HS.out.2.1)
                  have HWF2 := Hid.mk (HWF.out.keep HS.out.2.1)
                  have HBB := Hid.mk (below_more HB3.out HS.out.2.1)
                  clear HG1 HW HS2 HS HWR HWF HB3
                  have HN1 := Hid.mk (fr_numbers lao lac (N + m) _ w18 HIA.out (mkG_len _ _ _ _) (mkG_range _ _ _ _ (by omega) (by omega) (by omega) (by omega) hNb hmb) (by omega))
                  go_wp2_with fail
                  refine HN1.out.mono ?_
                  rintro e w19 ⟨xo, xc, rfl, HI8, hb8⟩
                  have HC := Hid.mk hb8
                  have HK1 := Hid.mk (w_marked xo xc N m (-1) 1000000 w19 HI8.out hNb hmb (by omega) (by omega) (by omega) (by omega))
                  clear hb8 HN1 HI8 HIA
                  go_wp2_with fail
                  refine HK1.out.mono ?_
                  rintro e w20 ⟨rfl, hb8⟩
                  have HC2 := Hid.mk (below_more HC.out hb8)
                  clear hb8 HC HK1
                  have HN1 := Hid.mk (fr_numbers lbo lbc (N + m) _ w20 (HIB.out.keep HC2.out) (mkG_len _ _ _ _) (mkG_range _ _ _ _ (by omega) (by omega) (by omega) (by omega) hNb hmb) (by omega))
                  go_wp2_with fail
                  refine HN1.out.mono ?_
                  rintro e w21 ⟨xo', xc', rfl, HI8, hb8⟩
                  have HC := Hid.mk (below_more HC2.out hb8)
                  have HK1 := Hid.mk (w_marked xo' xc' N m (-2) 2000000 w21 HI8.out hNb hmb (by omega) (by omega) (by omega) (by omega))
                  clear hb8 HN1 HI8 HIB HC2
                  go_wp2_with fail
                  refine HK1.out.mono ?_
                  rintro e w22 ⟨rfl, hb8⟩
                  have HC2 := Hid.mk (below_more HC.out hb8)
                  clear hb8 HC HK1
                  have HK1 := Hid.mk (w_marked lco lcc M m (-3) 3000000 w22 (HIC.out.keep HC2.out) hMb hmb (by omega) (by omega) (by omega) (by omega))
                  go_wp2_with fail
                  refine HK1.out.mono ?_
                  rintro e w23 ⟨rfl, hb8⟩
                  have HC := Hid.mk (below_more HC2.out hb8)
                  clear hb8 HC2 HK1 HIC
                  have HK1 := Hid.mk (w_marked ldo ldc M m (-4) 4000000 w23 (HID.out.keep HC.out) hMb hmb (by omega) (by omega) (by omega) (by omega))
                  go_wp2_with fail
                  refine HK1.out.mono ?_
                  rintro e w24 ⟨rfl, hb8⟩
                  have HC2 := Hid.mk (below_more HC.out hb8)
                  clear hb8 HC HK1 HID
                  go_wp2_with fail
                  refine (HRu.out w24).mono ?_
                  rintro e w25 ⟨eo, ec, rfl, HO, hb8⟩
                  have HC := Hid.mk (below_more HC2.out hb8)
                  have HN1 := Hid.mk (fr_numbers eo ec N zs w25 (own_ints HO.out) HZ.out HZR.out (by omega))
                  clear hb8 HO HC2
                  go_wp2_with fail
                  refine HN1.out.mono ?_
                  rintro e w26 ⟨xo2, xc2, rfl, HI8, hb8⟩
                  have HC2 := Hid.mk (below_more HC.out hb8)
                  have HA1 := Hid.mk (HAN.out HI8.out (HWR2.out.keep HC2.out))
                  clear hb8 HN1 HI8 HC
                  go_wp2_with fail
                  refine HA1.out.mono ?_
                  rintro e w27 ⟨rfl, hb8⟩
                  have HC := Hid.mk (below_more HC2.out hb8)
                  clear hb8 HA1 HC2
                  go_wp2_with fail
                  refine (HFi.out w27).mono ?_
                  rintro e w28 ⟨eo2, ec2, nf2, rfl, HF6, hb8⟩
                  obtain rfl : M = nf2 := HF6.out.1
                  have HC2 := Hid.mk (below_more HC.out hb8)
                  have HA1 := Hid.mk (HAM.out (own_ints HF6.out.2) (HWF2.out.keep HC2.out))
                  clear hb8 HC HF6
                  go_wp2_with fail
                  refine HA1.out.mono ?_
                  rintro e w29 ⟨rfl, hb8⟩
                  have HC := Hid.mk (below_more HBB.out (below_more HC2.out hb8))
                  clear hb8 HA1 HC2
                  go_wp2_with fail
                  go_ret
                  exact ⟨by first | rfl | simp, HC.out⟩
end Go.Proofs.YtpjcieieafadfaaDoor
