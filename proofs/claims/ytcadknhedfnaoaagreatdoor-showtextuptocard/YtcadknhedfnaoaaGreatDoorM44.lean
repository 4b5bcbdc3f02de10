import Derived.Test.YtcadknhedfnaoaaGreatDoorM15
import Derived.Test.YtcadknhedfnaoaaGreatDoorM42
import Derived.Test.YtcadknhedfnaoaaGreatDoorM40
import Derived.Test.YtcadknhedfnaoaaGreatDoorM41
import Derived.Deep.AppendLies
namespace Go.Proofs.YtcadknhedfnaoaaGreatDoor
open Go.RowKit
set_option linter.unusedVariables false
set_option linter.unusedSimpArgs false

/-- a digit's value, or -1 -/
def digI (c : UInt8) : Int := if isHex c = true then (hexd c : Int) else -1
set_option maxRecDepth 100000 in
theorem digI_tab (c : UInt8) : digI c = if 48 ≤ c.toNat ∧ c.toNat ≤ 57 then (c.toNat : Int) - 48 else if 97 ≤ c.toNat ∧ c.toNat ≤ 102 then (c.toNat : Int) - 97 + 10 else if 65 ≤ c.toNat ∧ c.toNat ≤ 70 then (c.toNat : Int) - 65 + 10 else -1 := by
  have : ∀ m : Fin 256, digI (UInt8.ofNat m.val) = if 48 ≤ m.val ∧ m.val ≤ 57 then (m.val : Int) - 48 else if 97 ≤ m.val ∧ m.val ≤ 102 then (m.val : Int) - 97 + 10 else if 65 ≤ m.val ∧ m.val ≤ 70 then (m.val : Int) - 65 + 10 else -1 := by decide
  have h := this ⟨c.toNat, c.toNat_lt⟩
  simp only [UInt8.ofNat_toNat] at h
  exact h

/-- the letter of a rune's short escape -/
def sgN (n : Nat) : Nat := if n = 34 then 34 else if n = 92 then 92 else if n = 8 then 98 else if n = 12 then 102 else if n = 10 then 110 else if n = 13 then 114 else if n = 9 then 116 else 0
theorem sgN_lt (n : Nat) : sgN n < 256 := by unfold sgN; repeat' split
                                             all_goals omega
set_option maxRecDepth 100000 in
set_option maxHeartbeats 1600000 in
theorem w_rsign (n : Nat) (w : World) (hn : n ≤ 2147483647) :
    Calls Tryz.prog 46 #[.int .i64 (n : Int)] w fun e w' => e = .returned (.int .u8 ((sgN n : Nat) : Int)) ∧ w' = w := by
  by_cases a1 : n = 34
  · subst a1
    go_enter Tryz.func46, Tryz.ntmps46
    go_wp2_with fail
    go_ret
    exact ⟨rfl, rfl⟩
  by_cases a2 : n = 92
  · subst a2
    go_enter Tryz.func46, Tryz.ntmps46
    go_wp2_with fail
    go_ret
    exact ⟨rfl, rfl⟩
  by_cases a3 : n = 8
  · subst a3
    go_enter Tryz.func46, Tryz.ntmps46
    go_wp2_with fail
    go_ret
    exact ⟨rfl, rfl⟩
  by_cases a4 : n = 12
  · subst a4
    go_enter Tryz.func46, Tryz.ntmps46
    go_wp2_with fail
    go_ret
    exact ⟨rfl, rfl⟩
  by_cases a5 : n = 10
  · subst a5
    go_enter Tryz.func46, Tryz.ntmps46
    go_wp2_with fail
    go_ret
    exact ⟨rfl, rfl⟩
  by_cases a6 : n = 13
  · subst a6
    go_enter Tryz.func46, Tryz.ntmps46
    go_wp2_with fail
    go_ret
    exact ⟨rfl, rfl⟩
  by_cases a7 : n = 9
  · subst a7
    go_enter Tryz.func46, Tryz.ntmps46
    go_wp2_with fail
    go_ret
    exact ⟨rfl, rfl⟩
  have HT : Hid (sgN n = 0) := by show _ = _; unfold sgN; rw [if_neg a1, if_neg a2, if_neg a3, if_neg a4, if_neg a5, if_neg a6, if_neg a7]
  obtain ⟨z, hz⟩ : ∃ z : Int, (n : Int) = z := ⟨_, rfl⟩
  rw [hz]
  have b1 : (z == 34) = false := by rw [beq_eq_false_iff_ne]; omega
  have b2 : (z == 92) = false := by rw [beq_eq_false_iff_ne]; omega
  have b3 : (z == 8) = false := by rw [beq_eq_false_iff_ne]; omega
  have b4 : (z == 12) = false := by rw [beq_eq_false_iff_ne]; omega
  have b5 : (z == 10) = false := by rw [beq_eq_false_iff_ne]; omega
  have b6 : (z == 13) = false := by rw [beq_eq_false_iff_ne]; omega
  have b7 : (z == 9) = false := by rw [beq_eq_false_iff_ne]; omega
  clear a1 a2 a3 a4 a5 a6 a7 hz
  go_enter Tryz.func46, Tryz.ntmps46
  go_wp2_with fail
  go_ret
  exact ⟨by rw [HT.out]; rfl, rfl⟩

def shI (c : UInt8) : Int := match shN c with
  | some r => (r : Int)
  | none => -1
set_option maxRecDepth 100000 in
theorem sg_sh : ∀ k : Fin 128, sgN k.val ≠ 0 → shN (UInt8.ofNat (sgN k.val)) = some k.val := by decide
set_option maxRecDepth 100000 in
theorem sh_sg (c : UInt8) (r : Nat) (h : shN c = some r) : c = 47 ∨ (r < 128 ∧ sgN r = c.toNat ∧ c.toNat ≠ 0) := by
  have : ∀ m : Fin 256, ∀ r : Fin 128, shN (UInt8.ofNat m.val) = some r.val → UInt8.ofNat m.val = 47 ∨ (sgN r.val = m.val ∧ m.val ≠ 0) := by decide
  have hr := (shN_ok h).2.1
  have h2 := this ⟨c.toNat, c.toNat_lt⟩ ⟨r, hr⟩
  simp only [UInt8.ofNat_toNat] at h2
  exact (h2 h).imp id fun g => ⟨hr, g⟩

def rnum (l : List UInt8) (f : Nat) : Int := match numL (l.drop f) with
  | some n => (n : Int)
  | none => -1

theorem byteD {s : ByteArray} {f : Nat} (h : f < s.size) : s.data.toList.getD f 0 = s[f]'h := by
  have hl0 : f < s.data.toList.length := by rw [size_len]; exact h
  rw [List.getD_eq_getElem?_getD, List.getElem?_eq_getElem hl0]; rfl
theorem take_hex {s : ByteArray} {f i : Nat} (h2 : 2 ≤ i) (h : f + i < s.size) : ((s.data.toList.drop f).drop 2).take (i + 1 - 2) = ((s.data.toList.drop f).drop 2).take (i - 2) ++ [s[f + i]'h] := by
  have hl : i - 2 < ((s.data.toList.drop f).drop 2).length := by rw [List.length_drop, List.length_drop, size_len]; omega
  rw [show i + 1 - 2 = i - 2 + 1 by omega, List.take_add_one, List.getElem?_eq_getElem hl]
  congr 1
  simp only [Option.toList_some, List.getElem_drop]
  congr 1
  have : s.data.toList[f + (2 + (i - 2))]'(by rw [size_len]; omega) = s[f + (2 + (i - 2))]'(by omega) := rfl
  rw [this]
  congr 1
  omega
end Go.Proofs.YtcadknhedfnaoaaGreatDoor
namespace Go.Proofs.YtcadknhedfnaoaaGreatDoor
open Go.RowKit
set_option linter.unusedVariables false
set_option linter.unusedSimpArgs false

/-- the reference's letter in its other size -/
def rtB (a b : Nat) (y : Int) (c : UInt8) : UInt8 := if a ≤ c.toNat ∧ c.toNat ≤ b then UInt8.ofNat ((c.toNat : Int) + y).toNat else c
set_option maxRecDepth 100000 in
theorem rtB_low (c : UInt8) : rtB 65 90 32 c = turnB 65 90 c := by
  have : ∀ m : Fin 256, rtB 65 90 32 (UInt8.ofNat m.val) = turnB 65 90 (UInt8.ofNat m.val) := by decide
  have h := this ⟨c.toNat, c.toNat_lt⟩
  simp only [UInt8.ofNat_toNat] at h
  exact h
set_option maxRecDepth 100000 in
theorem rtB_upp (c : UInt8) : rtB 97 122 (-32) c = turnB 97 122 c := by
  have : ∀ m : Fin 256, rtB 97 122 (-32) (UInt8.ofNat m.val) = turnB 97 122 (UInt8.ofNat m.val) := by decide
  have h := this ⟨c.toNat, c.toNat_lt⟩
  simp only [UInt8.ofNat_toNat] at h
  exact h

structure TuSt (w wr : World) (v : Value) (n : Nat) (l : List UInt8) : Prop where
  own : wr.ownsRow w.heap.size 5 1 v n (Lib.byteCells l)
  len : l.length = n
  below : Below w.heap.size w wr
theorem bytes_snoc (l : List UInt8) (c : UInt8) (z : Int) (h : z = (c.toNat : Int)) : Lib.byteCells l ++ [.int .u8 z] = Lib.byteCells (l ++ [c]) := by subst h; simp [Lib.byteCells]
theorem getB {s : ByteArray} {k : Nat} (h : k < s.size) : s.data.toList[k]'(by rw [Array.length_toList]; exact h) = s[k]'h := rfl

set_option maxRecDepth 100000 in
theorem hx_tab : ∀ m : Fin 16, (((hx m.val).toNat : Nat) : Int) = if m.val < 10 then 48 + (m.val : Int) else 97 + (m.val : Int) - 10 := by decide
set_option maxRecDepth 100000 in
set_option maxHeartbeats 400000 in
theorem w_rhex (m : Int) (w : World) (h0 : 0 ≤ m) (h1 : m < 16) :
    Calls Tryz.prog 85 #[.int .i64 m] w fun e w' => e = .returned (.int .u8 (((hx m.toNat).toNat : Nat) : Int)) ∧ w' = w := by
  have ht := hx_tab ⟨m.toNat, by omega⟩
  simp only at ht
  by_cases h : m < 10
  · have HT : Hid ((((hx m.toNat).toNat : Nat) : Int) = 48 + m) := by show _ = _; rw [ht, if_pos (by omega)]; omega
    clear ht
    go_enter Tryz.func85, Tryz.ntmps85
    go_wp2_with fail
    go_ret
    exact ⟨by rw [HT.out]; rfl, rfl⟩
  · have HT : Hid ((((hx m.toNat).toNat : Nat) : Int) = 97 + m - 10) := by show _ = _; rw [ht, if_neg (by omega)]; omega
    clear ht
    go_enter Tryz.func85, Tryz.ntmps85
    go_wp2_with fail
    go_ret
    exact ⟨by rw [HT.out]; rfl, rfl⟩

set_option maxRecDepth 100000 in
set_option maxHeartbeats 1600000 in
theorem w_rUnit (n : Nat) (w : World) (hn : n < 65536) :
    Calls Tryz.prog 48 #[.int .i64 (n : Int)] w fun e w' => BytesR w w' e (unit n) := by
  obtain ⟨m, hm⟩ : ∃ m : Int, (n : Int) = m := ⟨_, rfl⟩
  have HS : Hid (unit n = [92, 117, hx (m / 4096 % 16).toNat, hx (m / 256 % 16).toNat, hx (m / 16 % 16).toNat, hx (m % 16).toNat]) := by
    show _ = _
    rw [show (m / 4096 % 16).toNat = n / 4096 by omega, show (m / 256 % 16).toNat = n / 256 % 16 by omega, show (m / 16 % 16).toNat = n / 16 % 16 by omega, show (m % 16).toNat = n % 16 by omega]
    rfl
  have h0 : 0 ≤ m := by omega
  have h1 : m < 65536 := by omega
  have b1 : 0 ≤ m / 4096 % 16 := by omega
  have b2 : m / 4096 % 16 < 16 := by omega
  have b3 : 0 ≤ m / 256 % 16 := by omega
  have b4 : m / 256 % 16 < 16 := by omega
  have b5 : 0 ≤ m / 16 % 16 := by omega
  have b6 : m / 16 % 16 < 16 := by omega
  have b7 : 0 ≤ m % 16 := by omega
  have b8 : m % 16 < 16 := by omega
  have c1 : 0 ≤ m / 4096 := by omega
  have c2 : 0 ≤ m / 256 := by omega
  have c3 : 0 ≤ m / 16 := by omega
  have HX := Hid.mk (fun (x : Int) (g0 : 0 ≤ x) (g1 : x < 16) u => w_rhex x u g0 g1)
  rw [hm]
  unfold BytesR
  clear hm hn
  go_enter Tryz.func48, Tryz.ntmps48
  go_wp2_with fail
  refine (HX.out (m / 4096 % 16) b1 b2 _).mono ?_
  rintro e w1 ⟨rfl, hw⟩
  obtain rfl := hw.symm
  go_wp2_with fail
  refine (HX.out (m / 256 % 16) b3 b4 _).mono ?_
  rintro e w1 ⟨rfl, hw⟩
  obtain rfl := hw.symm
  go_wp2_with fail
  refine (HX.out (m / 16 % 16) b5 b6 _).mono ?_
  rintro e w1 ⟨rfl, hw⟩
  obtain rfl := hw.symm
  go_wp2_with fail
  refine (HX.out (m % 16) b7 b8 _).mono ?_
  rintro e w1 ⟨rfl, hw⟩
  obtain rfl := hw.symm
  go_wp2_with fail
  go_ret
  refine ⟨w.heap.size, rfl, Nat.le_refl _, ?_, below1 w _⟩
  show BRow _ _ _
  rw [HS.out]
  exact heap_alloc_new w _

theorem brow_own {w : World} {base g : Nat} {l : List UInt8} (h : BRow w g l) (hb : base ≤ g) (hl : l.length ≤ 1099511627776) : w.ownsRow base 5 1 (.slice (some ⟨g, 0, none⟩) l.length l.length) l.length (Lib.byteCells l) := by
  refine ⟨by simp [Lib.byteCells], .inr ⟨g, l.length, _, rfl, hb, h, Nat.le_refl _, by unfold maxLen; omega, by simp [Lib.byteCells], by rw [Nat.mul_one]; exact List.take_of_length_le (by simp [Lib.byteCells])⟩⟩
theorem brow_cells {w : World} {g : Nat} {l : List UInt8} (h : BRow w g l) : ∀ (j : Nat) (u : Value), (Lib.byteCells l)[j]? = some u → w.cell? ((⟨g, 0, none⟩ : Addr).add j) = some u := by
  intro j u hj
  have hjl : j < l.length := by
    have := (List.getElem?_eq_some_iff.1 hj).1
    simpa [Lib.byteCells] using this
  have e : (⟨g, 0, none⟩ : Addr).add j = ⟨g, j, none⟩ := by
    unfold Addr.add; by_cases h0 : j = 0 <;> simp [h0]
  rw [e, h.cell j hjl, ← hj]
  simp [Lib.byteCells, hjl]
theorem bytes_one (l : List UInt8) : ∀ u ∈ Lib.byteCells l, u.oneCell' = true := by
  intro u hu
  simp only [Lib.byteCells, List.mem_map] at hu
  obtain ⟨c, _, rfl⟩ := hu
  rfl
theorem BRow.keep {w w' : World} {g : Nat} {l : List UInt8} (h : BRow w g l) (hb : Below w.heap.size w w') : BRow w' g l := by
  unfold BRow at *
  rw [hb.block g (Array.getElem?_eq_some_iff.1 h).1]; exact h
end Go.Proofs.YtcadknhedfnaoaaGreatDoor
