import Derived.Test.YtbfjpmbninlbbabGreatDoorM10
import Derived.Test.YtbfjpmbninlbbabGreatDoorM27
import Derived.Test.YtbfjpmbninlbbabGreatDoorM25
import Derived.Deep.AppendLies
namespace Go.Proofs.YtbfjpmbninlbbabGreatDoor
open Go.RowKit
set_option linter.unusedVariables false
set_option linter.unusedSimpArgs false

/-- the reference's letter in its other size -/
def rtB (a b : Nat) (y : Int) (c : UInt8) : UInt8 := if a ≤ c.toNat ∧ c.toNat ≤ b then UInt8.ofNat ((c.toNat : Int) + y).toNat else c
set_option maxRecDepth 100000 in
theorem rtB_low (c : UInt8) : rtB 65 90 32 c = turnB 65 90 c := by
  have : ∀ m : Fin 256, rtB 65 90 32 (UInt8.ofNat m.val) = turnB 65 90 (UInt8.ofNat m.val) := by decide
  have h := this ⟨c.toNat, c.toNat_lt⟩
  simp only [UInt8.ofNat_toNat] at h
  exact h
set_option maxRecDepth 100000 in
theorem rtB_upp (c : UInt8) : rtB 97 122 (-32) c = turnB 97 122 c := by
  have : ∀ m : Fin 256, rtB 97 122 (-32) (UInt8.ofNat m.val) = turnB 97 122 (UInt8.ofNat m.val) := by decide
  have h := this ⟨c.toNat, c.toNat_lt⟩
  simp only [UInt8.ofNat_toNat] at h
  exact h

structure TuSt (w wr : World) (v : Value) (n : Nat) (l : List UInt8) : Prop where
  own : wr.ownsRow w.heap.size 5 1 v n (Lib.byteCells l)
  len : l.length = n
  below : Below w.heap.size w wr
theorem bytes_snoc (l : List UInt8) (c : UInt8) (z : Int) (h : z = (c.toNat : Int)) : Lib.byteCells l ++ [.int .u8 z] = Lib.byteCells (l ++ [c]) := by subst h; simp [Lib.byteCells]
theorem getB {s : ByteArray} {k : Nat} (h : k < s.size) : s.data.toList[k]'(by rw [Array.length_toList]; exact h) = s[k]'h := rfl

set_option maxRecDepth 100000 in
set_option maxHeartbeats 1600000 in
theorem w_rturned (s : ByteArray) (a b : Nat) (y : Int) (ha : a ≤ 255) (hb : b ≤ 255) (hy : ∀ x : Nat, a ≤ x → x ≤ b → 0 ≤ (x : Int) + y ∧ (x : Int) + y ≤ 255) (hy0 : -32 ≤ y) (hy1 : y ≤ 32) (w : World) (hs : s.size ≤ 1048576) :
    Calls Tryz.prog 49 #[.string s, .int .u8 (a : Int), .int .u8 (b : Int), .int .i64 y] w fun e w' => e = .returned (.string ⟨(s.data.toList.map (rtB a b y)).toArray⟩) ∧ Below w.heap.size w w' := by
  obtain ⟨i0, hi0, hz0, hz1, hz2⟩ := info_parts Tryz.infoB
  have HY := Hid.mk hy
  have hsl : s.data.toList.length = s.size := by rw [Array.length_toList]; rfl
  have HSL := Hid.mk hsl
  have HC0 : Hid (TuSt w (w.alloc (.cells #[] 5)) (.slice (some ⟨w.heap.size, 0, none⟩) 0 0) 0 ((s.data.toList.take 0).map (rtB a b y))) := ⟨own_empty w 5, rfl, below1 w _⟩
  clear hy hsl
  go_enter Tryz.func49, Tryz.ntmps49
  go_wp2_with fail
  go_loopw [9, 10] (fun l i wr => ∃ (k : Nat) (ao : Option Addr) (cap : Nat), k ≤ s.size ∧ l = .slice ao k cap ∧ i = .int .i64 (k : Int) ∧ Hid (TuSt w wr (.slice ao k cap) k ((s.data.toList.take k).map (rtB a b y)))) (fun _ i _ => s.size - (intOf i).toNat)
  case atStart => exact ⟨0, _, 0, Nat.zero_le _, rfl, rfl, HC0⟩
  case round =>
    obtain ⟨k, ao, cap, hk, rfl, rfl, HQ⟩ := hrel
    by_cases hlt : k < s.size
    · have hl1 : (k : Int) < (s.size : Int) := by omega
      obtain ⟨c, hc⟩ : ∃ c, s[k]'hlt = c := ⟨_, rfl⟩
      have HT : Hid ((s.data.toList.take (k + 1)).map (rtB a b y) = (s.data.toList.take k).map (rtB a b y) ++ [rtB a b y c]) := by
        show _ = _
        rw [List.take_succ_eq_append_getElem (by rw [HSL.out]; exact hlt), List.map_append, getB hlt, hc]; rfl
      have hown := HQ.out.own
      have hsz := HQ.out.below.size
      have h256 := c.toNat_lt
      obtain ⟨x, hx⟩ : ∃ x : Int, ((c.toNat : Nat) : Int) = x := ⟨_, rfl⟩
      have hx0 : 0 ≤ x := by omega
      have hx1 : x ≤ 255 := by omega
      have HX := Hid.mk hx
      by_cases hin : a ≤ c.toNat ∧ c.toNat ≤ b
      · have i1 : (a : Int) ≤ x := by omega
        have i2 : x ≤ (b : Int) := by omega
        obtain ⟨j1, j2⟩ := HY.out c.toNat hin.1 hin.2
        rw [hx] at j1 j2
        have HR : Hid (x + y = ((rtB a b y c).toNat : Int)) := by
          show _ = _
          have h1 : rtB a b y c = UInt8.ofNat ((c.toNat : Int) + y).toNat := by unfold rtB; rw [if_pos hin]
          rw [h1, HX.out, UInt8.toNat_ofNat']
          omega
        clear hin h256
        go_wp2_with (at_builtin; refine wpList_append_own _ rfl _ _ 55 rfl w.heap.size 5 i0 (.int .u8 0) 1 1 Tryz.underlying55 hi0 hz0 hz1 hz2 rfl (by decide) _ _ _ rfl (hown.alloc _) ⟨wr.heap.size, 0, none⟩ 1 1 [.int .u8 (x + y)] rfl rfl (by intro j u hj; match j, hj with | 0, hj => simp at hj; subst hj; simp [Addr.add]) (by intro u hu; simp at hu; subst hu; rfl) (by unfold maxLen; omega) (by omega) (by simp; omega) ?_)
        intro v1 w1 hown1 hgrow1 hnn
        obtain ⟨so1, sc1, hv1⟩ := own_shape hown1
        have HN1 : Hid (TuSt w w1 v1 (k + 1) ((s.data.toList.take (k + 1)).map (rtB a b y))) := by
          refine ⟨?_, by rw [List.length_map, List.length_take, HSL.out]; omega, below_app hown hsz HQ.out.below hgrow1⟩
          rw [HT.out, ← bytes_snoc _ _ _ HR.out, List.map_take]; exact hown1
        subst hv1
        clear hown1 hgrow1 hnn hown
        go_wp2_with fail
        go_roundw
        case rel => exact ⟨k + 1, so1, sc1, hlt, rfl, by go_num, HN1⟩
        case measure => simp [intOf]; omega
      · have HR : Hid (x = ((rtB a b y c).toNat : Int)) := by
          show _ = _
          have h1 : rtB a b y c = c := by unfold rtB; rw [if_neg hin]
          rw [h1, HX.out]
        have hsp : ¬ (a : Int) ≤ x ∨ ((a : Int) ≤ x ∧ ¬ x ≤ (b : Int)) := by omega
        clear hin h256
        rcases hsp with i1 | ⟨i1, i2⟩
        · go_wp2_with (at_builtin; refine wpList_append_own _ rfl _ _ 55 rfl w.heap.size 5 i0 (.int .u8 0) 1 1 Tryz.underlying55 hi0 hz0 hz1 hz2 rfl (by decide) _ _ _ rfl (hown.alloc _) ⟨wr.heap.size, 0, none⟩ 1 1 [.int .u8 x] rfl rfl (by intro j u hj; match j, hj with | 0, hj => simp at hj; subst hj; simp [Addr.add]) (by intro u hu; simp at hu; subst hu; rfl) (by unfold maxLen; omega) (by omega) (by simp; omega) ?_)
          intro v1 w1 hown1 hgrow1 hnn
          obtain ⟨so1, sc1, hv1⟩ := own_shape hown1
          have HN1 : Hid (TuSt w w1 v1 (k + 1) ((s.data.toList.take (k + 1)).map (rtB a b y))) := by
            refine ⟨?_, by rw [List.length_map, List.length_take, HSL.out]; omega, below_app hown hsz HQ.out.below hgrow1⟩
            rw [HT.out, ← bytes_snoc _ _ _ HR.out, List.map_take]; exact hown1
          subst hv1
          clear hown1 hgrow1 hnn hown
          go_wp2_with fail
          go_roundw
          case rel => exact ⟨k + 1, so1, sc1, hlt, rfl, by go_num, HN1⟩
          case measure => simp [intOf]; omega
        · go_wp2_with (at_builtin; refine wpList_append_own _ rfl _ _ 55 rfl w.heap.size 5 i0 (.int .u8 0) 1 1 Tryz.underlying55 hi0 hz0 hz1 hz2 rfl (by decide) _ _ _ rfl (hown.alloc _) ⟨wr.heap.size, 0, none⟩ 1 1 [.int .u8 x] rfl rfl (by intro j u hj; match j, hj with | 0, hj => simp at hj; subst hj; simp [Addr.add]) (by intro u hu; simp at hu; subst hu; rfl) (by unfold maxLen; omega) (by omega) (by simp; omega) ?_)
          intro v1 w1 hown1 hgrow1 hnn
          obtain ⟨so1, sc1, hv1⟩ := own_shape hown1
          have HN1 : Hid (TuSt w w1 v1 (k + 1) ((s.data.toList.take (k + 1)).map (rtB a b y))) := by
            refine ⟨?_, by rw [List.length_map, List.length_take, HSL.out]; omega, below_app hown hsz HQ.out.below hgrow1⟩
            rw [HT.out, ← bytes_snoc _ _ _ HR.out, List.map_take]; exact hown1
          subst hv1
          clear hown1 hgrow1 hnn hown
          go_wp2_with fail
          go_roundw
          case rel => exact ⟨k + 1, so1, sc1, hlt, rfl, by go_num, HN1⟩
          case measure => simp [intOf]; omega
    · have hl1 : ¬ (k : Int) < (s.size : Int) := by omega
      have hcv := conv_own' HQ.out.len HQ.out.own
      rw [List.take_of_length_le (by rw [HSL.out]; omega)] at hcv
      have HB := Hid.mk HQ.out.below
      go_wp2_with fail
      go_ret
      exact ⟨rfl, HB.out⟩

set_option maxRecDepth 100000 in
theorem w_rLower (s : ByteArray) (w : World) (hs : s.size ≤ 1048576) : Calls Tryz.prog 28 #[.string s] w fun e w' => e = .returned (.string (low s)) ∧ Below w.heap.size w w' := by
  have HT := Hid.mk (w_rturned s 65 90 32 (by decide) (by decide) (fun x h1 h2 => by omega) (by decide) (by decide) w hs)
  have e : s.data.toList.map (rtB 65 90 32) = s.data.toList.map (turnB 65 90) := List.map_congr_left fun c _ => rtB_low c
  rw [e] at HT
  go_enter Tryz.func28, Tryz.ntmps28
  go_wp2_with fail
  refine HT.out.mono ?_
  rintro e w1 ⟨rfl, hb⟩
  have HB := Hid.mk hb
  clear hb
  go_wp2_with fail
  go_ret
  exact ⟨rfl, HB.out⟩
set_option maxRecDepth 100000 in
theorem w_rUpper (s : ByteArray) (w : World) (hs : s.size ≤ 1048576) : Calls Tryz.prog 30 #[.string s] w fun e w' => e = .returned (.string (upp s)) ∧ Below w.heap.size w w' := by
  have HT := Hid.mk (w_rturned s 97 122 (-32) (by decide) (by decide) (fun x h1 h2 => by omega) (by decide) (by decide) w hs)
  have e : s.data.toList.map (rtB 97 122 (-32)) = s.data.toList.map (turnB 97 122) := List.map_congr_left fun c _ => rtB_upp c
  rw [e] at HT
  go_enter Tryz.func30, Tryz.ntmps30
  go_wp2_with fail
  refine HT.out.mono ?_
  rintro e w1 ⟨rfl, hb⟩
  have HB := Hid.mk hb
  clear hb
  go_wp2_with fail
  go_ret
  exact ⟨rfl, HB.out⟩

set_option maxRecDepth 100000 in
theorem hx_tab : ∀ m : Fin 16, (((hx m.val).toNat : Nat) : Int) = if m.val < 10 then 48 + (m.val : Int) else 97 + (m.val : Int) - 10 := by decide
set_option maxRecDepth 100000 in
set_option maxHeartbeats 400000 in
theorem w_rhex (m : Int) (w : World) (h0 : 0 ≤ m) (h1 : m < 16) :
    Calls Tryz.prog 67 #[.int .i64 m] w fun e w' => e = .returned (.int .u8 (((hx m.toNat).toNat : Nat) : Int)) ∧ w' = w := by
  have ht := hx_tab ⟨m.toNat, by omega⟩
  simp only at ht
  by_cases h : m < 10
  · have HT : Hid ((((hx m.toNat).toNat : Nat) : Int) = 48 + m) := by show _ = _; rw [ht, if_pos (by omega)]; omega
    clear ht
    go_enter Tryz.func67, Tryz.ntmps67
    go_wp2_with fail
    go_ret
    exact ⟨by rw [HT.out]; rfl, rfl⟩
  · have HT : Hid ((((hx m.toNat).toNat : Nat) : Int) = 97 + m - 10) := by show _ = _; rw [ht, if_neg (by omega)]; omega
    clear ht
    go_enter Tryz.func67, Tryz.ntmps67
    go_wp2_with fail
    go_ret
    exact ⟨by rw [HT.out]; rfl, rfl⟩

set_option maxRecDepth 100000 in
set_option maxHeartbeats 1600000 in
theorem w_rUnit (n : Nat) (w : World) (hn : n < 65536) :
    Calls Tryz.prog 51 #[.int .i64 (n : Int)] w fun e w' => BytesR w w' e (unit n) := by
  obtain ⟨m, hm⟩ : ∃ m : Int, (n : Int) = m := ⟨_, rfl⟩
  have HS : Hid (unit n = [92, 117, hx (m / 4096 % 16).toNat, hx (m / 256 % 16).toNat, hx (m / 16 % 16).toNat, hx (m % 16).toNat]) := by
    show _ = _
    rw [show (m / 4096 % 16).toNat = n / 4096 by omega, show (m / 256 % 16).toNat = n / 256 % 16 by omega, show (m / 16 % 16).toNat = n / 16 % 16 by omega, show (m % 16).toNat = n % 16 by omega]
    rfl
  have h0 : 0 ≤ m := by omega
  have h1 : m < 65536 := by omega
  have b1 : 0 ≤ m / 4096 % 16 := by omega
  have b2 : m / 4096 % 16 < 16 := by omega
  have b3 : 0 ≤ m / 256 % 16 := by omega
  have b4 : m / 256 % 16 < 16 := by omega
  have b5 : 0 ≤ m / 16 % 16 := by omega
  have b6 : m / 16 % 16 < 16 := by omega
  have b7 : 0 ≤ m % 16 := by omega
  have b8 : m % 16 < 16 := by omega
  have c1 : 0 ≤ m / 4096 := by omega
  have c2 : 0 ≤ m / 256 := by omega
  have c3 : 0 ≤ m / 16 := by omega
  have HX := Hid.mk (fun (x : Int) (g0 : 0 ≤ x) (g1 : x < 16) u => w_rhex x u g0 g1)
  rw [hm]
  unfold BytesR
  clear hm hn
  go_enter Tryz.func51, Tryz.ntmps51
  go_wp2_with fail
  refine (HX.out (m / 4096 % 16) b1 b2 _).mono ?_
  rintro e w1 ⟨rfl, hw⟩
  obtain rfl := hw.symm
  go_wp2_with fail
  refine (HX.out (m / 256 % 16) b3 b4 _).mono ?_
  rintro e w1 ⟨rfl, hw⟩
  obtain rfl := hw.symm
  go_wp2_with fail
  refine (HX.out (m / 16 % 16) b5 b6 _).mono ?_
  rintro e w1 ⟨rfl, hw⟩
  obtain rfl := hw.symm
  go_wp2_with fail
  refine (HX.out (m % 16) b7 b8 _).mono ?_
  rintro e w1 ⟨rfl, hw⟩
  obtain rfl := hw.symm
  go_wp2_with fail
  go_ret
  refine ⟨w.heap.size, rfl, Nat.le_refl _, ?_, below1 w _⟩
  show BRow _ _ _
  rw [HS.out]
  exact heap_alloc_new w _

theorem brow_own {w : World} {base g : Nat} {l : List UInt8} (h : BRow w g l) (hb : base ≤ g) (hl : l.length ≤ 1099511627776) : w.ownsRow base 5 1 (.slice (some ⟨g, 0, none⟩) l.length l.length) l.length (Lib.byteCells l) := by
  refine ⟨by simp [Lib.byteCells], .inr ⟨g, l.length, _, rfl, hb, h, Nat.le_refl _, by unfold maxLen; omega, by simp [Lib.byteCells], by rw [Nat.mul_one]; exact List.take_of_length_le (by simp [Lib.byteCells])⟩⟩
theorem brow_cells {w : World} {g : Nat} {l : List UInt8} (h : BRow w g l) : ∀ (j : Nat) (u : Value), (Lib.byteCells l)[j]? = some u → w.cell? ((⟨g, 0, none⟩ : Addr).add j) = some u := by
  intro j u hj
  have hjl : j < l.length := by
    have := (List.getElem?_eq_some_iff.1 hj).1
    simpa [Lib.byteCells] using this
  have e : (⟨g, 0, none⟩ : Addr).add j = ⟨g, j, none⟩ := by
    unfold Addr.add; by_cases h0 : j = 0 <;> simp [h0]
  rw [e, h.cell j hjl, ← hj]
  simp [Lib.byteCells, hjl]
theorem bytes_one (l : List UInt8) : ∀ u ∈ Lib.byteCells l, u.oneCell' = true := by
  intro u hu
  simp only [Lib.byteCells, List.mem_map] at hu
  obtain ⟨c, _, rfl⟩ := hu
  rfl
theorem BRow.keep {w w' : World} {g : Nat} {l : List UInt8} (h : BRow w g l) (hb : Below w.heap.size w w') : BRow w' g l := by
  unfold BRow at *
  rw [hb.block g (Array.getElem?_eq_some_iff.1 h).1]; exact h

set_option maxRecDepth 100000 in
set_option maxHeartbeats 1600000 in
theorem w_rEscaped_in (n : Nat) (w : World) (hv : Lib.validRune (n : Int) = true) :
    Calls Tryz.prog 35 #[.int .i64 (n : Int)] w fun e w' => e = .returned (.string ⟨(esc n).toArray⟩) ∧ Below w.heap.size w w' := by
  obtain ⟨i0, hi0, hz0, hz1, hz2⟩ := info_parts Tryz.infoB
  have HI := Hid.mk (fun u => w_IsRune (n : Int) u)
  rw [hv] at HI
  have hR : n ≤ 1114111 := by
    have hv' : decide ((0 ≤ (n : Int) ∧ (n : Int) < 0xD800) ∨ (0xDFFF < (n : Int) ∧ (n : Int) ≤ 0x10FFFF)) = true := hv
    have h := of_decide_eq_true hv'
    omega
  by_cases hlo : n < 65536
  · have hl1 : (n : Int) < 65536 := by omega
    have HE : Hid (esc n = unit n) := by show _ = _; unfold esc; rw [if_pos hlo]
    have HU := Hid.mk (fun u => w_rUnit n u hlo)
    unfold BytesR at HU
    rw [show (unit n).length = 6 from rfl] at HU
    clear hv hlo
    go_enter Tryz.func35, Tryz.ntmps35
    go_wp2_with fail
    refine (HI.out _).mono ?_
    rintro e w1 ⟨rfl, hw⟩
    obtain rfl := hw.symm
    go_wp2_with fail
    refine (HU.out _).mono ?_
    rintro e w2 ⟨g, rfl, hg, HBR, hb2⟩
    have hcv := conv_own' (ao := some ⟨g, 0, none⟩) (cap := 6) rfl (brow_own HBR.out hg (by show 6 ≤ _; omega))
    rw [show (unit n).length = 6 from rfl] at hcv
    have HB2 := Hid.mk hb2
    clear hb2 hg
    go_wp2_with fail
    go_ret
    exact ⟨by rw [HE.out]; rfl, HB2.out⟩
  · have hl1 : ¬ (n : Int) < 65536 := by omega
    obtain ⟨m, hm⟩ : ∃ m : Int, (n : Int) = m := ⟨_, rfl⟩
    obtain ⟨p, hp⟩ : ∃ p : Nat, p = n - 65536 := ⟨_, rfl⟩
    have HE : Hid (esc n = unit (55296 + p / 1024) ++ unit (56320 + p % 1024)) := by show _ = _; unfold esc; rw [if_neg hlo, hp]
    have HU : Hid (∀ u, Calls Tryz.prog 51 #[.int .i64 (55296 + (m - 65536) / 1024)] u fun e w' => BytesR u w' e (unit (55296 + p / 1024))) := by
      intro u
      have := w_rUnit (55296 + p / 1024) u (by omega)
      rw [show ((55296 + p / 1024 : Nat) : Int) = 55296 + (m - 65536) / 1024 by omega] at this
      exact this
    have HU2 : Hid (∀ u, Calls Tryz.prog 51 #[.int .i64 (56320 + (m - 65536) % 1024)] u fun e w' => BytesR u w' e (unit (56320 + p % 1024))) := by
      intro u
      have := w_rUnit (56320 + p % 1024) u (by omega)
      rw [show ((56320 + p % 1024 : Nat) : Int) = 56320 + (m - 65536) % 1024 by omega] at this
      exact this
    unfold BytesR at HU HU2
    have L1 : (unit (55296 + p / 1024)).length = 6 := rfl
    have L2 : (unit (56320 + p % 1024)).length = 6 := rfl
    rw [L1] at HU
    rw [L2] at HU2
    generalize unit (55296 + p / 1024) = A at HU L1 HE
    generalize unit (56320 + p % 1024) = B at HU2 L2 HE
    have HL1 := Hid.mk L1
    have HL2 := Hid.mk L2
    have hm0 : 65536 ≤ m := by omega
    have hm1 : m ≤ 1114111 := by omega
    have hm2 : 0 ≤ m - 65536 := by omega
    have hm3 : 0 ≤ (m - 65536) / 1024 := by omega
    have hm4 : 0 ≤ (m - 65536) % 1024 := by omega
    have hm5 : (m - 65536) / 1024 ≤ 1024 := by omega
    have hm6 : (m - 65536) % 1024 < 1024 := by omega
    rw [hm] at HI hl1 ⊢
    clear hv hlo hp hm L1 L2
    go_enter Tryz.func35, Tryz.ntmps35
    go_wp2_with fail
    refine (HI.out _).mono ?_
    rintro e w1 ⟨rfl, hw⟩
    obtain rfl := hw.symm
    go_wp2_with fail
    refine (HU.out _).mono ?_
    rintro e w2 ⟨g, rfl, hg, HBR, hb2⟩
    have HB2 := Hid.mk hb2
    have HG := Hid.mk hg
    clear hb2 hg
    go_wp2_with fail
    refine (HU2.out _).mono ?_
    rintro e w3 ⟨g', rfl, hg', HBR', hb3⟩
    have HB3 := Hid.mk (below_more HB2.out hb3)
    have hown := brow_own (HBR.out.keep hb3) HG.out (by rw [HL1.out]; omega)
    rw [HL1.out] at hown
    have hcells := brow_cells HBR'.out
    have hone := bytes_one B
    have hnl : (Lib.byteCells B).length = 6 * 1 := by simp [Lib.byteCells, HL2.out]
    have hsz := HB3.out.size
    clear hb3 hg' HB2
    go_wp2_with (at_builtin; refine wpList_append_own _ rfl (.tmp 23) (.tmp 24) 55 rfl w.heap.size 5 i0 (.int .u8 0) 1 1 Tryz.underlying55 hi0 hz0 hz1 hz2 rfl (by decide) _ _ _ rfl hown ⟨g', 0, none⟩ 6 6 (Lib.byteCells B) rfl hnl hcells hone (by unfold maxLen; omega) (by omega) hsz ?_)
    intro v4 w4 hown4 hgrow4 hnn
    obtain ⟨so4, c4, hv4⟩ := own_shape hown4
    subst hv4
    rw [← Lib.byteCells_append] at hown4
    have hcv := conv_own' (by rw [List.length_append, HL1.out, HL2.out]) hown4
    have HB4 := Hid.mk (HB3.out.grown hgrow4 hsz (own_base hown))
    clear hown4 hgrow4 hnn hown hcells hone hnl
    go_wp2_with fail
    go_ret
    exact ⟨by rw [HE.out]; rfl, HB4.out⟩

set_option maxRecDepth 100000 in
set_option maxHeartbeats 1600000 in
theorem w_rEscaped (z : Int) (w : World) :
    Calls Tryz.prog 35 #[.int .i64 z] w fun e w' => e = .returned (.string ⟨(esc (rn z)).toArray⟩) ∧ Below w.heap.size w w' := by
  cases hv : Lib.validRune z with
  | true =>
    obtain ⟨n, hz⟩ : ∃ n : Nat, z = (n : Int) := by
      have hv' : decide ((0 ≤ z ∧ z < 0xD800) ∨ (0xDFFF < z ∧ z ≤ 0x10FFFF)) = true := hv
      have h := of_decide_eq_true hv'
      exact ⟨z.toNat, by omega⟩
    subst hz
    have e : rn (n : Int) = n := by unfold rn; rw [hv]; simp
    rw [e]
    exact w_rEscaped_in n w hv
  | false =>
    have e : rn z = 65533 := by unfold rn; rw [hv]; rfl
    have HE : Hid (esc (rn z) = unit 65533) := by show _ = _; rw [e]; decide
    have HI := Hid.mk (fun u => w_IsRune z u)
    rw [hv] at HI
    have HU := Hid.mk (fun u => w_rUnit 65533 u (by decide))
    unfold BytesR at HU
    rw [show (unit 65533).length = 6 from rfl, show ((65533 : Nat) : Int) = 65533 from rfl] at HU
    clear hv e
    go_enter Tryz.func35, Tryz.ntmps35
    go_wp2_with fail
    refine (HI.out _).mono ?_
    rintro e w1 ⟨rfl, hw⟩
    obtain rfl := hw.symm
    go_wp2_with fail
    refine (HU.out _).mono ?_
    rintro e w2 ⟨g, rfl, hg, HBR, hb2⟩
    have hcv := conv_own' (ao := some ⟨g, 0, none⟩) (cap := 6) rfl (brow_own HBR.out hg (by show 6 ≤ _; omega))
    rw [show (unit 65533).length = 6 from rfl] at hcv
    have HB2 := Hid.mk hb2
    clear hb2 hg
    go_wp2_with fail
    go_ret
    exact ⟨by rw [HE.out]; rfl, HB2.out⟩
end Go.Proofs.YtbfjpmbninlbbabGreatDoor
