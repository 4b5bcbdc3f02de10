import Derived.Test.YtbfjpmbninlbbabGreatDoorV18
namespace Go.Proofs.YtbfjpmbninlbbabGreatDoor
open Go.RowKit
set_option linter.unusedVariables false
set_option linter.unusedSimpArgs false

/-- what Quote writes between its quotes -/
def qb (zs : List Nat) : List UInt8 := zs.flatMap qd
theorem qb_cons (z : Nat) (r : List Nat) : qb (z :: r) = qd z ++ qb r := rfl
theorem qb_len (zs : List Nat) : (qb zs).length ≤ 6 * zs.length := by
  induction zs with
  | nil => exact Nat.le_refl _
  | cons z r ih =>
    have := (qd_len z).2
    rw [qb_cons, List.length_append, List.length_cons]; omega

theorem iterPos_of {w : World} {k : Nat} {s : ByteArray} {p : Nat} (h : w.heap[k]? = some (.stringIter s p)) : w.iterPos k = p := by simp [World.iterPos, h]
theorem drop_ne' {s : ByteArray} {p : Nat} (h : p < s.size) : s.data.toList.drop p ≠ [] := by
  intro e
  have := congrArg List.length e
  rw [List.length_drop, Array.length_toList, List.length_nil] at this
  have e2 : s.data.size = s.size := rfl
  omega
theorem step_le' {s : ByteArray} {p : Nat} (h : p < s.size) : p + (decL (s.data.toList.drop p)).2 ≤ s.size := by
  have := decL_le _ (drop_ne' h)
  rw [List.length_drop, Array.length_toList] at this
  have e2 : s.data.size = s.size := rfl
  omega
theorem drop_all' {s : ByteArray} {p : Nat} (h : ¬ p < s.size) : s.data.toList.drop p = [] := List.drop_eq_nil_of_le (by simp; omega)

/-- while Quote writes -/
structure QuSt (B k0 : Nat) (w wr : World) (v : Value) (n : Nat) (s : ByteArray) (pos : Nat) : Prop where
  iter : wr.heap[k0]? = some (.stringIter s pos)
  own : ∃ l, l.length = n ∧ wr.ownsRow B 5 1 v n (Lib.byteCells l) ∧ l ++ qb (runes (s.data.toList.drop pos)) = 34 :: qb (runes s.data.toList)
  below : Below B w wr

set_option maxRecDepth 100000 in
set_option maxHeartbeats 3200000 in
theorem w_Quote (s : ByteArray) (w : World) (hs : s.size ≤ 68719476736) :
    Calls Tryz.prog 9 #[.string s] w fun e w' => e = .returned (.string ⟨(34 :: (qb (runes s.data.toList) ++ [34])).toArray⟩) ∧ Below w.heap.size w w' := by
  obtain ⟨i0, hi0, hz0, hz1, hz2⟩ := info_parts Tryz.infoB
  have hmk := fun (u : World) => run_make_bytes (s.size + 2) ((s.size : Int) + 2) (by omega) (by omega) u
  have hown0 := own_bytes w (s.size + 2) (by omega)
  have hnews : ∀ (j : Nat) (u : Value), ([.int .u8 34] : List Value)[j]? = some u → ((w.alloc (brow (s.size + 2))).alloc (.cells #[.int .u8 34] 5)).cell? ((⟨w.heap.size + 1, 0, none⟩ : Addr).add j) = some u := by
    intro j u hj
    match j, hj with
    | 0, hj =>
      simp at hj
      subst hj
      have h := heap_alloc_new (w.alloc (brow (s.size + 2))) (.cells #[.int .u8 34] 5)
      rw [World.size_alloc] at h
      show World.cell? _ ⟨w.heap.size + 1, 0, none⟩ = _
      rw [cell_of_row _ _ _ _ _ _ h]
      rfl
  go_enter Tryz.func9, Tryz.ntmps9
  go_wp2_with (at_builtin; refine wpList_append_own _ rfl (.tmp 10) (.tmp 11) 55 rfl w.heap.size 5 i0 (.int .u8 0) 1 1 Tryz.underlying55 hi0 hz0 hz1 hz2 rfl (by decide) _ _ _ rfl (hown0.alloc _) ⟨w.heap.size + 1, 0, none⟩ 1 1 [.int .u8 34] rfl rfl hnews (by intro u hu; simp at hu; subst hu; rfl) (by decide) (by omega) (by simp; omega) ?_)
  intro v1 w1 hown1 hgrow1 hnn
  obtain ⟨so, sc, hv⟩ := own_shape hown1
  have HB1 : Hid (Below w.heap.size w w1) := below_app hown0 (by simp) (below1 w _) hgrow1
  have HO1 : Hid (w1.ownsRow w.heap.size 5 1 v1 1 (Lib.byteCells [34])) := hown1
  subst hv
  clear hown1 hgrow1 hnn hown0 hmk hnews
  have HS : Hid (QuSt w.heap.size w1.heap.size w (w1.iter s 0) (.slice so 1 sc) 1 s 0) :=
    ⟨World.iter_heap w1 s 0, ⟨[34], rfl, HO1.out.alloc _, rfl⟩, HB1.out.alloc HB1.out.size _⟩
  clear HO1
  obtain ⟨k0, hk0⟩ : ∃ k0, k0 = w1.heap.size := ⟨_, rfl⟩
  rw [← hk0] at HS
  go_wp2_with fail
  rw [← hk0]
  have HWK : Hid (w.heap.size ≤ k0) := by show _ ≤ _; rw [hk0]; exact HB1.out.size
  clear hk0 HB1
  go_loopw [3, 5] (fun l _ wr => ∃ (pos n : Nat) (ao : Option Addr) (cap : Nat), pos ≤ s.size ∧ n ≤ 1 + 6 * pos ∧ l = .slice ao n cap ∧ Hid (QuSt w.heap.size k0 w wr (.slice ao n cap) n s pos)) (fun _ _ wr => s.size - wr.iterPos k0)
  case atStart => exact ⟨0, 1, so, sc, Nat.zero_le _, by omega, rfl, HS⟩
  case round =>
    obtain ⟨pos, n, ao, cap, hpos, hn, rfl, HQ⟩ := hrel
    have hkr := HQ.out.iter
    have HM : Hid (wr.iterPos k0 = pos) := iterPos_of hkr
    by_cases hp : pos < s.size
    · obtain ⟨q, hq⟩ : ∃ q, q = pos + (decL (s.data.toList.drop pos)).2 := ⟨_, rfl⟩
      obtain ⟨r, hr⟩ : ∃ r, r = (decL (s.data.toList.drop pos)).1 := ⟨_, rfl⟩
      have h1 := decL_pos (s.data.toList.drop pos)
      have h2 := step_le' hp
      have hR := decL_isR _ (drop_ne' hp)
      have hdr : runes (s.data.toList.drop pos) = r :: runes (s.data.toList.drop q) := by
        rw [runes_cons (drop_ne' hp), List.drop_drop, ← hq, ← hr]
      obtain ⟨W1, hW1⟩ : ∃ W : World, W = wr.iterAt k0 s q := ⟨_, rfl⟩
      have hn1 := nxtAt wr k0 s pos r q hkr hp (by rw [decode_eq s pos hpos]; exact Prod.ext hr.symm (by show _ = q - pos; omega)) (by omega)
      have hk1 := Lib.iterAt_heap wr k0 s pos q hkr
      obtain ⟨l, hl, hown, hlq⟩ := HQ.out.own
      have ho1 := own_iterAt hown hkr q
      have hwk := HWK.out
      have hB1 := Lib.below_iterAt HQ.out.below hwk s q
      rw [← hW1] at hn1 hk1 ho1 hB1
      rw [← hr] at hR
      rw [← hq] at h2
      clear hW1
      have HCall := Hid.mk (w_appendQuoted w.heap.size n (.slice ao n cap) l r W1 ho1 hB1.size (by omega) hR)
      have HK1 := Hid.mk hk1
      have HO1 := Hid.mk ho1
      have HBW := Hid.mk hB1
      have HX : Hid ((l ++ qd r) ++ qb (runes (s.data.toList.drop q)) = 34 :: qb (runes s.data.toList)) := by
        show _ = _
        rw [← hlq, hdr, qb_cons, List.append_assoc]
      have hqd := qd_len r
      have HL := Hid.mk hl
      clear hk1 ho1 hB1 hlq hdr hown hl hR hr
      have hq1 : pos + 1 ≤ q := by omega
      clear hq h1
      go_wp2_with fail
      refine HCall.out.mono ?_
      rintro e w3 ⟨ro, rc, rfl, hown3, hb3, hg3⟩
      have HN : Hid (QuSt w.heap.size k0 w w3 (.slice ro (n + (qd r).length) rc) (n + (qd r).length) s q) :=
        ⟨iter_kept HO1.out HK1.out hg3, ⟨l ++ qd r, by rw [List.length_append, HL.out], hown3, HX.out⟩, HBW.out.trans hb3⟩
      have HM3 : Hid (w3.iterPos k0 = q) := iterPos_of HN.out.iter
      clear hown3 hb3 hg3 HCall
      go_wp2_with fail
      go_roundw
      case rel => exact ⟨q, n + (qd r).length, ro, rc, h2, by omega, rfl, HN⟩
      case measure => rw [HM3.out, HM.out]; omega
    · have hne := fun ty => Lib.run_next_end_at (P := Tryz.prog) wr k0 s pos ty hkr hp
      obtain ⟨l, hl, hown, hlq⟩ := HQ.out.own
      rw [drop_all' hp, runes_nil] at hlq
      have hlq2 : l = 34 :: qb (runes s.data.toList) := by rw [← hlq]; simp [qb]
      have hsz := HQ.out.below.size
      have HLQ := Hid.mk hlq2
      clear hlq hkr hlq2
      go_wp2_with (at_builtin; refine wpList_append_own _ rfl (.tmp 21) (.tmp 22) 55 rfl w.heap.size 5 i0 (.int .u8 0) 1 1 Tryz.underlying55 hi0 hz0 hz1 hz2 rfl (by decide) _ _ _ rfl (hown.alloc _) ⟨wr.heap.size, 0, none⟩ 1 1 [.int .u8 34] rfl rfl (by intro j u hj; match j, hj with | 0, hj => simp at hj; subst hj; simp [Addr.add]) (by intro u hu; simp at hu; subst hu; rfl) (by unfold maxLen; omega) (by omega) (by simp; omega) ?_)
      intro v4 w4 hown4 hgrow4 hnn
      have hown4 : w4.ownsRow w.heap.size 5 1 v4 (n + 1) (Lib.byteCells (l ++ [34])) := by rw [Lib.byteCells_append]; exact hown4
      obtain ⟨g4, c4, hv4⟩ := own_some hown4 (Nat.succ_pos _)
      have HB4 : Hid (Below w.heap.size w w4) := below_app hown HQ.out.below.size HQ.out.below hgrow4
      subst hv4
      have hcv := bytes_conv (n := n + 1) (l := l ++ [34]) (by rw [List.length_append, hl]; rfl) hown4
      have HE : Hid (l ++ [34] = 34 :: (qb (runes s.data.toList) ++ [34])) := by show _ = _; rw [HLQ.out]; rfl
      clear hown4 hgrow4 hnn hown hne
      go_wp2_with fail
      go_ret
      exact ⟨by rw [HE.out]; rfl, HB4.out⟩
end Go.Proofs.YtbfjpmbninlbbabGreatDoor
