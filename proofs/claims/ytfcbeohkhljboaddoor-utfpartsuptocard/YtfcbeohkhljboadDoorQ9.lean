import Derived.Test.YtfcbeohkhljboadDoorQ8
namespace Go.Proofs.YtfcbeohkhljboadDoor
open Go.RowKit
set_option linter.unusedVariables false
set_option linter.unusedSimpArgs false

theorem Txs.at {w : World} {so : Option Addr} {n sc : Nat} {L : List ByteArray} (h : Txs w (.slice so n sc) L) {k : Nat} (hk : k < n) : ∃ g, so = some ⟨g, 0, none⟩ ∧ g < w.heap.size ∧ w.cell? ⟨g, k, none⟩ = some (.string (L.getD k .empty)) := by
  obtain ⟨ao, cap, e, h2⟩ := h
  simp only [Value.slice.injEq] at e
  obtain ⟨rfl, rfl, _⟩ := e
  obtain ⟨g, hg, hl, hc⟩ := h2 (by omega)
  exact ⟨g, hg, hl, hc k hk⟩

theorem paSt_start {w2 w3 w4 w5 : World} {so so' : Option Addr} {n sc sc' : Nat} {L : List ByteArray} (h1 : w3.ownsRow w2.heap.size 9 1 (.slice so n sc) n (svals L)) (hb3 : Below w2.heap.size w2 w3) (h2 : w4.ownsRow w3.heap.size 9 1 (.slice so' n sc') n (svals L)) (hb4 : Below w3.heap.size w3 w4) (hb5 : Below w4.heap.size w4 w5) : PaSt w2 w5 (.slice so n sc) n L (.slice so' n sc') n L := by
  have o1 := own_below' (own_below' h1 hb4) hb5
  have o2 := own_below' h2 hb5
  refine ⟨o1, ⟨o2.1, o2.2.imp id (fun ⟨g, cap, cur, e, hb, rest⟩ => ⟨g, cap, cur, e, Nat.le_trans hb3.size hb, rest⟩)⟩, fun g e e2 => ?_, below_more (below_more hb3 hb4) hb5⟩
  have l1 := own_lt h1 e
  have l2 := own_base h2 g e2
  omega

set_option maxRecDepth 100000 in
set_option maxHeartbeats 8000000 in
theorem w_UtfParts (s p : ByteArray) (w : World) (ss : s.size ≤ 1048576) (sp : p.size ≤ 1048576) :
    Calls Tryd.prog 8 #[.string s, .string p] w fun e w' => e = .returned (.bool true) ∧ Below w.heap.size w w' := by
  obtain ⟨i0, hi0, hz0, hz1, hz2⟩ := info_parts Tryd.infoS
  have HU := Hid.mk (fun u => w_uSplit s p ss u)
  have HR := Hid.mk (fun u => w_rSplit s p ss sp u)
  have hfew := spL_few s p
  unfold SplR at HU HR
  generalize spL s p = L at HU HR hfew
  go_enter Tryd.func8, Tryd.ntmps8
  go_wp2_with fail
  refine (w_fixed _).mono ?_
  rintro e w1 ⟨rfl, hb1⟩
  have HB1 := Hid.mk hb1
  clear hb1
  go_wp2_with fail
  refine (HR.out w1).mono ?_
  rintro e w2 ⟨wo, wc, n, rfl, hn, HO2, hb2⟩
  have HB2 := Hid.mk (below_more HB1.out hb2)
  have HW := Hid.mk (Txs.of HO2.out hn)
  have HNL := Hid.mk hn
  have hnb : n ≤ 1048577 := by omega
  clear hb2 HB1 HO2 HR hn
  go_wp2_with fail
  refine (HU.out w2).mono ?_
  rintro e w3 ⟨so, sc, n3, rfl, hn3, HO3, hb3⟩
  obtain rfl : n3 = n := hn3.trans HNL.out.symm
  have HB3 := Hid.mk hb3
  clear hb3 hn3
  go_wp2_with fail
  refine (HU.out w3).mono ?_
  rintro e w4 ⟨so', sc', n4, rfl, hn4, HO4, hb4⟩
  obtain rfl : n4 = n3 := hn4.trans HNL.out.symm
  have HB4 := Hid.mk hb4
  have HA1 := Hid.mk (w_alikeTexts _ _ L w4 ((Txs.of HO3.out HNL.out).keep hb4) ((HW.out.keep HB3.out).keep hb4) (by have := HNL.out; omega))
  clear hb4 hn4
  go_wp2_with fail
  refine HA1.out.mono ?_
  rintro e w5 ⟨rfl, hb5⟩
  have HB5 := Hid.mk hb5
  have HA2 := Hid.mk (w_alikeTexts _ _ L w5 ((Txs.of HO4.out HNL.out).keep hb5) (((HW.out.keep HB3.out).keep HB4.out).keep hb5) (by have := HNL.out; omega))
  clear hb5 HA1
  go_wp2_with fail
  refine HA2.out.mono ?_
  rintro e w6 ⟨rfl, hb6⟩
  have HS : Hid (PaSt w2 w6 (.slice so n4 sc) n4 (mixT (⟨#[102, 105, 114, 115, 116]⟩ : ByteArray) L 0) (.slice so' n4 sc') n4 L) := paSt_start HO3.out HB3.out HO4.out HB4.out (below_more HB5.out hb6)
  clear hb6 HA2 HB5 HB4 HB3 HO4 HO3
  generalize n4 = n at *
  obtain ⟨m, hm⟩ : ∃ m, m = s.size + 17 := ⟨_, rfl⟩
  have HM := Hid.mk hm
  have hmb : m ≤ 1048593 := by omega
  have hmi : (m : Int) = (s.size : Int) + 17 := by omega
  have HMI := Hid.mk hmi
  clear hm hmi hfew
  go_wp2_with fail
  go_loopw [8] (fun i wr => ∃ k : Nat, k ≤ n ∧ i = .int .i64 (k : Int) ∧ Hid (PaSt w2 wr (.slice so n sc) n (mixT (⟨#[102, 105, 114, 115, 116]⟩ : ByteArray) L k) (.slice so' n sc') n L)) (fun i _ => n - (intOf i).toNat)
  case atStart => exact ⟨0, Nat.zero_le _, rfl, HS⟩
  case round =>
    clear HS
    obtain ⟨k, hk, rfl, HQ⟩ := hrel
    by_cases hlt : k < n
    · have hl1 : (k : Int) < (n : Int) := by omega
      have hkL : k < L.length := by have := HNL.out; omega
      obtain ⟨g, hg, hc⟩ := own_cell HQ.out.oa (by rw [mixT_len _ _ (by omega)]; exact HNL.out) hlt
      subst hg
      have cK := hc k hlt
      have fK := own_freeS HQ.out.oa k
      have HN := Hid.mk (HQ.out.set hlt (⟨#[102, 105, 114, 115, 116]⟩ : ByteArray))
      rw [mixT_up _ _ hkL] at HN
      clear hc hkL
      generalize List.getD _ k ByteArray.empty = old at cK
      go_wp2_with fail
      go_roundw
      case rel => exact ⟨k + 1, hlt, by go_num, HN⟩
      case measure => simp [intOf]; omega
    · have hl1 : ¬ (k : Int) < (n : Int) := by omega
      have HS : Hid (PaSt w2 wr (.slice so n sc) n (List.replicate n (⟨#[102, 105, 114, 115, 116]⟩ : ByteArray)) (.slice so' n sc') n (mixT (⟨#[115, 101, 99, 111, 110, 100]⟩ : ByteArray) L 0)) := by
        have h := HQ.out
        have e : k = n := by omega
        rw [e, HNL.out, mixT_end, ← HNL.out] at h
        exact h
      clear HQ hlt hk
      go_wp2_with fail
      go_loopw [9] (fun i wr => ∃ k : Nat, k ≤ n ∧ i = .int .i64 (k : Int) ∧ Hid (PaSt w2 wr (.slice so n sc) n (List.replicate n (⟨#[102, 105, 114, 115, 116]⟩ : ByteArray)) (.slice so' n sc') n (mixT (⟨#[115, 101, 99, 111, 110, 100]⟩ : ByteArray) L k))) (fun i _ => n - (intOf i).toNat)
      case atStart => exact ⟨0, Nat.zero_le _, rfl, HS⟩
      case round =>
        clear HS
        obtain ⟨k, hk, rfl, HQ⟩ := hrel
        by_cases hlt : k < n
        · have hl1 : (k : Int) < (n : Int) := by omega
          have hkL : k < L.length := by have := HNL.out; omega
          obtain ⟨g, hg, hc⟩ := own_cell HQ.out.ob (by rw [mixT_len _ _ (by omega)]; exact HNL.out) hlt
          subst hg
          have cK := hc k hlt
          have fK := own_freeS HQ.out.ob k
          have HN := Hid.mk ((HQ.out.swap.set hlt (⟨#[115, 101, 99, 111, 110, 100]⟩ : ByteArray)).swap)
          rw [mixT_up _ _ hkL] at HN
          clear hc hkL
          generalize List.getD _ k ByteArray.empty = old at cK
          go_wp2_with fail
          go_roundw
          case rel => exact ⟨k + 1, hlt, by go_num, HN⟩
          case measure => simp [intOf]; omega
        · have hl1 : ¬ (k : Int) < (n : Int) := by omega
          have HS : Hid (PaSt w2 wr (.slice so n sc) (n + 0) (dblT (⟨#[102, 105, 114, 115, 116]⟩ : ByteArray) (⟨#[116, 104, 105, 114, 100]⟩ : ByteArray) n 0) (.slice so' n sc') n (List.replicate n (⟨#[115, 101, 99, 111, 110, 100]⟩ : ByteArray))) := by
            have h := HQ.out
            have e : k = n := by omega
            rw [e, HNL.out, mixT_end, ← HNL.out] at h
            unfold dblT; rw [List.replicate_zero, List.append_nil]; exact h
          clear HQ hlt hk
          go_wp2_with fail
          go_loopw [10, 12] (fun l i wr => ∃ (k : Nat) (lo : Option Addr) (lc : Nat), k ≤ m ∧ l = .slice lo (n + k) lc ∧ i = .int .i64 (k : Int) ∧ Hid (PaSt w2 wr (.slice lo (n + k) lc) (n + k) (dblT (⟨#[102, 105, 114, 115, 116]⟩ : ByteArray) (⟨#[116, 104, 105, 114, 100]⟩ : ByteArray) n k) (.slice so' n sc') n (List.replicate n (⟨#[115, 101, 99, 111, 110, 100]⟩ : ByteArray)))) (fun _ i _ => m - (intOf i).toNat)
          case atStart => exact ⟨0, so, sc, Nat.zero_le _, rfl, rfl, HS⟩
          case round =>
            clear HS
            obtain ⟨k, lo, lc, hk, rfl, rfl, HQ⟩ := hrel
            have hown := HQ.out.oa
            have hsz := HQ.out.below.size
            by_cases hlt : k < m
            · have hl1 : (k : Int) < (s.size : Int) + 17 := by have := HMI.out; omega
              go_wp2_with (at_builtin; refine wpList_append_lies _ rfl (.tmp 64) (.tmp 65) 35 rfl w2.heap.size 9 i0 (.string ⟨#[]⟩) 1 16 Tryd.underlying35 hi0 hz0 hz1 hz2 rfl (by decide) _ _ _ rfl (hown.alloc _) ⟨wr.heap.size, 0, none⟩ 1 1 [.string (⟨#[116, 104, 105, 114, 100]⟩ : ByteArray)] rfl rfl (by intro j u hj; match j, hj with | 0, hj => simp at hj; subst hj; simp [Addr.add]) (by intro u hu; simp at hu; subst hu; rfl) (by omega) (by unfold maxLen; omega) (by omega) (by simp; omega) (wr.heap.size + 1) (by simp) ?_)
              intro g4 c4 w4 hown4 hgrow4 hat4 hlt4
              have HN := Hid.mk (HQ.out.app hown4 hgrow4 hat4)
              rw [dblT_up] at HN
              clear hown4 hgrow4 hat4 hlt4 hown
              go_wp2_with fail
              go_roundw
              case rel => exact ⟨k + 1, some ⟨g4, 0, none⟩, c4, hlt, rfl, by go_num, HN⟩
              case measure => simp [intOf]; omega
            · have hl1 : ¬ (k : Int) < (s.size : Int) + 17 := by have := HMI.out; omega
              clear hown
              obtain rfl : k = m := by omega
              obtain ⟨ao, hao⟩ : ∃ ao, ao = lo := ⟨_, rfl⟩
              obtain ⟨ac, hac⟩ : ∃ ac, ac = lc := ⟨_, rfl⟩
              rw [← hao, ← hac] at HQ ⊢
              clear hao hac
              generalize k = m at *
              have HS : Hid (PaSt w2 wr (.slice ao (n + m) ac) (n + m) (dblT (⟨#[102, 105, 114, 115, 116]⟩ : ByteArray) (⟨#[116, 104, 105, 114, 100]⟩ : ByteArray) n m) (.slice so' n sc') (n + 0) (dblT (⟨#[115, 101, 99, 111, 110, 100]⟩ : ByteArray) (⟨#[102, 111, 117, 114, 116, 104]⟩ : ByteArray) n 0)) := by
                have h := HQ.out
                unfold dblT at h ⊢
                rw [List.replicate_zero, List.append_nil]
                exact h
              clear HQ hlt hk hsz
              go_wp2_with fail
              go_loopw [11, 13] (fun l i wr => ∃ (k : Nat) (lo : Option Addr) (lc : Nat), k ≤ m ∧ l = .slice lo (n + k) lc ∧ i = .int .i64 (k : Int) ∧ Hid (PaSt w2 wr (.slice ao (n + m) ac) (n + m) (dblT (⟨#[102, 105, 114, 115, 116]⟩ : ByteArray) (⟨#[116, 104, 105, 114, 100]⟩ : ByteArray) n m) (.slice lo (n + k) lc) (n + k) (dblT (⟨#[115, 101, 99, 111, 110, 100]⟩ : ByteArray) (⟨#[102, 111, 117, 114, 116, 104]⟩ : ByteArray) n k))) (fun _ i _ => m - (intOf i).toNat)
              case atStart => exact ⟨0, so', sc', Nat.zero_le _, rfl, rfl, HS⟩
              case round =>
                clear HS
                obtain ⟨k, lo, lc, hk, rfl, rfl, HQ⟩ := hrel
                have hown := HQ.out.ob
                have hsz := HQ.out.below.size
                by_cases hlt : k < m
                · have hl1 : (k : Int) < (s.size : Int) + 17 := by have := HMI.out; omega
                  go_wp2_with (at_builtin; refine wpList_append_lies _ rfl (.tmp 74) (.tmp 75) 35 rfl w2.heap.size 9 i0 (.string ⟨#[]⟩) 1 16 Tryd.underlying35 hi0 hz0 hz1 hz2 rfl (by decide) _ _ _ rfl (hown.alloc _) ⟨wr.heap.size, 0, none⟩ 1 1 [.string (⟨#[102, 111, 117, 114, 116, 104]⟩ : ByteArray)] rfl rfl (by intro j u hj; match j, hj with | 0, hj => simp at hj; subst hj; simp [Addr.add]) (by intro u hu; simp at hu; subst hu; rfl) (by omega) (by unfold maxLen; omega) (by omega) (by simp; omega) (wr.heap.size + 1) (by simp) ?_)
                  intro g4 c4 w4 hown4 hgrow4 hat4 hlt4
                  have HN := Hid.mk ((HQ.out.swap.app hown4 hgrow4 hat4).swap)
                  rw [dblT_up] at HN
                  clear hown4 hgrow4 hat4 hlt4 hown
                  go_wp2_with fail
                  go_roundw
                  case rel => exact ⟨k + 1, some ⟨g4, 0, none⟩, c4, hlt, rfl, by go_num, HN⟩
                  case measure => simp [intOf]; omega
                · have hl1 : ¬ (k : Int) < (s.size : Int) + 17 := by have := HMI.out; omega
                  clear hown
                  obtain rfl : k = m := by omega
                  generalize k = m at *
                  have HTA := Hid.mk (Txs.of HQ.out.oa (dblT_len _ _ _ _).symm)
                  have HTB := Hid.mk (Txs.of HQ.out.ob (dblT_len _ _ _ _).symm)
                  have HB7 := Hid.mk HQ.out.below
                  obtain ⟨w7, rfl⟩ : ∃ w7 : World, w7 = wr := ⟨_, rfl⟩
                  clear hlt hk hsz HQ
                  go_wp2_with fail
                  go_loopw [14] (fun i wr => ∃ k : Nat, k ≤ n + m ∧ i = .int .i64 (k : Int) ∧ Hid (Below w7.heap.size w7 wr)) (fun i _ => n + m - (intOf i).toNat)
                  case atStart => exact ⟨0, Nat.zero_le _, rfl, Below.refl _ _⟩
                  case round =>
                    obtain ⟨k, hk, rfl, HQ⟩ := hrel
                    by_cases hlt : k < n + m
                    · have hl1 : (k : Int) < (n : Int) + (m : Int) := by omega
                      obtain ⟨g, hg, hgl, hc⟩ := HTA.out.at hlt
                      subst hg
                      have cX := (HQ.out.cell (p := ⟨g, k, none⟩) hgl).trans hc
                      clear hc
                      by_cases hkn : k < n
                      · have hk1 : (k : Int) < (n : Int) := by omega
                        have hk2 : ¬ (n : Int) ≤ (k : Int) := by omega
                        rw [dblT_lo _ _ hkn] at cX
                        go_wp2_with fail
                        go_roundw
                        case rel => exact ⟨k + 1, hlt, by go_num, HQ⟩
                        case measure => simp [intOf]; omega
                      · have hk1 : ¬ (k : Int) < (n : Int) := by omega
                        have hk2 : (n : Int) ≤ (k : Int) := by omega
                        rw [dblT_hi _ _ (by omega) hlt] at cX
                        go_wp2_with fail
                        go_roundw
                        case rel => exact ⟨k + 1, hlt, by go_num, HQ⟩
                        case measure => simp [intOf]; omega
                    · have hl1 : ¬ (k : Int) < (n : Int) + (m : Int) := by omega
                      have HTB := Hid.mk (HTB.out.keep HQ.out)
                      have HB7 := Hid.mk (HB7.out.trans (HQ.out.mono HB7.out.size))
                      obtain ⟨w8, rfl⟩ : ∃ w8 : World, w8 = wr := ⟨_, rfl⟩
                      clear hlt hk HQ HTA
                      go_wp2_with fail
                      go_loopw [15] (fun i wr => ∃ k : Nat, k ≤ n + m ∧ i = .int .i64 (k : Int) ∧ Hid (Below w8.heap.size w8 wr)) (fun i _ => n + m - (intOf i).toNat)
                      case atStart => exact ⟨0, Nat.zero_le _, rfl, Below.refl _ _⟩
                      case round =>
                        obtain ⟨k, hk, rfl, HQ⟩ := hrel
                        by_cases hlt : k < n + m
                        · have hl1 : (k : Int) < (n : Int) + (m : Int) := by omega
                          obtain ⟨g, hg, hgl, hc⟩ := HTB.out.at hlt
                          subst hg
                          have cX := (HQ.out.cell (p := ⟨g, k, none⟩) hgl).trans hc
                          clear hc
                          by_cases hkn : k < n
                          · have hk1 : (k : Int) < (n : Int) := by omega
                            have hk2 : ¬ (n : Int) ≤ (k : Int) := by omega
                            rw [dblT_lo _ _ hkn] at cX
                            go_wp2_with fail
                            go_roundw
                            case rel => exact ⟨k + 1, hlt, by go_num, HQ⟩
                            case measure => simp [intOf]; omega
                          · have hk1 : ¬ (k : Int) < (n : Int) := by omega
                            have hk2 : (n : Int) ≤ (k : Int) := by omega
                            rw [dblT_hi _ _ (by omega) hlt] at cX
                            go_wp2_with fail
                            go_roundw
                            case rel => exact ⟨k + 1, hlt, by go_num, HQ⟩
                            case measure => simp [intOf]; omega
                        · have hl1 : ¬ (k : Int) < (n : Int) + (m : Int) := by omega
                          have HB9 := Hid.mk (HB7.out.trans (HQ.out.mono HB7.out.size))
                          clear hlt hk HQ HTB HB7
                          go_wp2_with fail
                          refine (HU.out _).mono ?_
                          rintro e w10 ⟨eo, ec, n10, rfl, hn10, HO10, hb10⟩
                          obtain rfl : n10 = n := hn10.trans HNL.out.symm
                          have HB10 := Hid.mk (HB9.out.trans (hb10.mono HB9.out.size))
                          have HA3 := Hid.mk (w_alikeTexts _ _ L w10 (Txs.of HO10.out HNL.out) (HW.out.keep HB10.out) (by have := HNL.out; omega))
                          clear hb10 hn10 HO10
                          go_wp2_with fail
                          refine HA3.out.mono ?_
                          rintro e w11 ⟨rfl, hb11⟩
                          have HBf := Hid.mk (below_more HB2.out (below_more HB10.out hb11))
                          clear hb11 HA3
                          go_wp2_with fail
                          go_ret
                          exact ⟨rfl, HBf.out⟩
end Go.Proofs.YtfcbeohkhljboadDoor
