import Derived.Test.YtohclfgghobldaaGreatDoorM12
import Derived.Test.YtohclfgghobldaaGreatDoorM31
namespace Go.Proofs.YtohclfgghobldaaGreatDoor
open Go.RowKit
set_option linter.unusedVariables false
set_option linter.unusedSimpArgs false

/-- a digit's value, or -1 -/
def digI (c : UInt8) : Int := if isHex c = true then (hexd c : Int) else -1
set_option maxRecDepth 100000 in
theorem digI_tab (c : UInt8) : digI c = if 48 ≤ c.toNat ∧ c.toNat ≤ 57 then (c.toNat : Int) - 48 else if 97 ≤ c.toNat ∧ c.toNat ≤ 102 then (c.toNat : Int) - 97 + 10 else if 65 ≤ c.toNat ∧ c.toNat ≤ 70 then (c.toNat : Int) - 65 + 10 else -1 := by
  have : ∀ m : Fin 256, digI (UInt8.ofNat m.val) = if 48 ≤ m.val ∧ m.val ≤ 57 then (m.val : Int) - 48 else if 97 ≤ m.val ∧ m.val ≤ 102 then (m.val : Int) - 97 + 10 else if 65 ≤ m.val ∧ m.val ≤ 70 then (m.val : Int) - 65 + 10 else -1 := by decide
  have h := this ⟨c.toNat, c.toNat_lt⟩
  simp only [UInt8.ofNat_toNat] at h
  exact h

set_option maxRecDepth 100000 in
set_option maxHeartbeats 1600000 in
theorem w_rdigit (c : UInt8) (w : World) :
    Calls Tryz.prog 117 #[.int .u8 ((c.toNat : Nat) : Int)] w fun e w' => e = .returned (.int .i64 (digI c)) ∧ w' = w := by
  have ht := digI_tab c
  have hlt := c.toNat_lt
  obtain ⟨x, hx⟩ : ∃ x : Int, ((c.toNat : Nat) : Int) = x := ⟨_, rfl⟩
  have hx0 : 0 ≤ x := by omega
  have hx1 : x < 256 := by omega
  rw [hx] at ht ⊢
  have hcs : (¬ 48 ≤ x ∧ ¬ 97 ≤ x ∧ ¬ 65 ≤ x) ∨ (48 ≤ x ∧ x ≤ 57) ∨ (48 ≤ x ∧ ¬ x ≤ 57 ∧ ¬ 97 ≤ x ∧ ¬ 65 ≤ x) ∨ (48 ≤ x ∧ ¬ x ≤ 57 ∧ ¬ 97 ≤ x ∧ 65 ≤ x ∧ x ≤ 70) ∨ (48 ≤ x ∧ ¬ x ≤ 57 ∧ ¬ 97 ≤ x ∧ 65 ≤ x ∧ ¬ x ≤ 70) ∨ (48 ≤ x ∧ ¬ x ≤ 57 ∧ 97 ≤ x ∧ x ≤ 102) ∨ (48 ≤ x ∧ ¬ x ≤ 57 ∧ 97 ≤ x ∧ ¬ x ≤ 102 ∧ 65 ≤ x ∧ ¬ x ≤ 70) := by omega
  rcases hcs with ⟨a, b, d⟩ | ⟨a, b⟩ | ⟨a, b, d, f⟩ | ⟨a, b, d, f, g⟩ | ⟨a, b, d, f, g⟩ | ⟨a, b, d, f⟩ | ⟨a, b, d, f, g, h⟩
  · have HT : Hid (digI c = -1) := by show _ = _; rw [ht, if_neg (by omega), if_neg (by omega), if_neg (by omega)]
    clear ht hx hlt
    go_enter Tryz.func117, Tryz.ntmps117
    go_wp2_with fail
    go_ret
    exact ⟨by rw [HT.out]; rfl, rfl⟩
  · have HT : Hid (digI c = x - 48) := by show _ = _; rw [ht, if_pos (by omega)]
    clear ht hx hlt
    go_enter Tryz.func117, Tryz.ntmps117
    go_wp2_with fail
    go_ret
    exact ⟨by rw [HT.out]; rfl, rfl⟩
  · have HT : Hid (digI c = -1) := by show _ = _; rw [ht, if_neg (by omega), if_neg (by omega), if_neg (by omega)]
    clear ht hx hlt
    go_enter Tryz.func117, Tryz.ntmps117
    go_wp2_with fail
    go_ret
    exact ⟨by rw [HT.out]; rfl, rfl⟩
  · have HT : Hid (digI c = x - 65 + 10) := by show _ = _; rw [ht, if_neg (by omega), if_neg (by omega), if_pos (by omega)]
    clear ht hx hlt
    go_enter Tryz.func117, Tryz.ntmps117
    go_wp2_with fail
    go_ret
    exact ⟨by rw [HT.out]; rfl, rfl⟩
  · have HT : Hid (digI c = -1) := by show _ = _; rw [ht, if_neg (by omega), if_neg (by omega), if_neg (by omega)]
    clear ht hx hlt
    go_enter Tryz.func117, Tryz.ntmps117
    go_wp2_with fail
    go_ret
    exact ⟨by rw [HT.out]; rfl, rfl⟩
  · have HT : Hid (digI c = x - 97 + 10) := by show _ = _; rw [ht, if_neg (by omega), if_pos (by omega)]
    clear ht hx hlt
    go_enter Tryz.func117, Tryz.ntmps117
    go_wp2_with fail
    go_ret
    exact ⟨by rw [HT.out]; rfl, rfl⟩
  · have HT : Hid (digI c = -1) := by show _ = _; rw [ht, if_neg (by omega), if_neg (by omega), if_neg (by omega)]
    clear ht hx hlt
    go_enter Tryz.func117, Tryz.ntmps117
    go_wp2_with fail
    go_ret
    exact ⟨by rw [HT.out]; rfl, rfl⟩

/-- the letter of a rune's short escape -/
def sgN (n : Nat) : Nat := if n = 34 then 34 else if n = 92 then 92 else if n = 8 then 98 else if n = 12 then 102 else if n = 10 then 110 else if n = 13 then 114 else if n = 9 then 116 else 0
theorem sgN_lt (n : Nat) : sgN n < 256 := by unfold sgN; repeat' split
                                             all_goals omega
set_option maxRecDepth 100000 in
set_option maxHeartbeats 1600000 in
theorem w_rsign (n : Nat) (w : World) (hn : n ≤ 2147483647) :
    Calls Tryz.prog 118 #[.int .i64 (n : Int)] w fun e w' => e = .returned (.int .u8 ((sgN n : Nat) : Int)) ∧ w' = w := by
  by_cases a1 : n = 34
  · subst a1
    go_enter Tryz.func118, Tryz.ntmps118
    go_wp2_with fail
    go_ret
    exact ⟨rfl, rfl⟩
  by_cases a2 : n = 92
  · subst a2
    go_enter Tryz.func118, Tryz.ntmps118
    go_wp2_with fail
    go_ret
    exact ⟨rfl, rfl⟩
  by_cases a3 : n = 8
  · subst a3
    go_enter Tryz.func118, Tryz.ntmps118
    go_wp2_with fail
    go_ret
    exact ⟨rfl, rfl⟩
  by_cases a4 : n = 12
  · subst a4
    go_enter Tryz.func118, Tryz.ntmps118
    go_wp2_with fail
    go_ret
    exact ⟨rfl, rfl⟩
  by_cases a5 : n = 10
  · subst a5
    go_enter Tryz.func118, Tryz.ntmps118
    go_wp2_with fail
    go_ret
    exact ⟨rfl, rfl⟩
  by_cases a6 : n = 13
  · subst a6
    go_enter Tryz.func118, Tryz.ntmps118
    go_wp2_with fail
    go_ret
    exact ⟨rfl, rfl⟩
  by_cases a7 : n = 9
  · subst a7
    go_enter Tryz.func118, Tryz.ntmps118
    go_wp2_with fail
    go_ret
    exact ⟨rfl, rfl⟩
  have HT : Hid (sgN n = 0) := by show _ = _; unfold sgN; rw [if_neg a1, if_neg a2, if_neg a3, if_neg a4, if_neg a5, if_neg a6, if_neg a7]
  obtain ⟨z, hz⟩ : ∃ z : Int, (n : Int) = z := ⟨_, rfl⟩
  rw [hz]
  have b1 : (z == 34) = false := by rw [beq_eq_false_iff_ne]; omega
  have b2 : (z == 92) = false := by rw [beq_eq_false_iff_ne]; omega
  have b3 : (z == 8) = false := by rw [beq_eq_false_iff_ne]; omega
  have b4 : (z == 12) = false := by rw [beq_eq_false_iff_ne]; omega
  have b5 : (z == 10) = false := by rw [beq_eq_false_iff_ne]; omega
  have b6 : (z == 13) = false := by rw [beq_eq_false_iff_ne]; omega
  have b7 : (z == 9) = false := by rw [beq_eq_false_iff_ne]; omega
  clear a1 a2 a3 a4 a5 a6 a7 hz
  go_enter Tryz.func118, Tryz.ntmps118
  go_wp2_with fail
  go_ret
  exact ⟨by rw [HT.out]; rfl, rfl⟩

def shI (c : UInt8) : Int := match shN c with
  | some r => (r : Int)
  | none => -1
set_option maxRecDepth 100000 in
theorem sg_sh : ∀ k : Fin 128, sgN k.val ≠ 0 → shN (UInt8.ofNat (sgN k.val)) = some k.val := by decide
set_option maxRecDepth 100000 in
theorem sh_sg (c : UInt8) (r : Nat) (h : shN c = some r) : c = 47 ∨ (r < 128 ∧ sgN r = c.toNat ∧ c.toNat ≠ 0) := by
  have : ∀ m : Fin 256, ∀ r : Fin 128, shN (UInt8.ofNat m.val) = some r.val → UInt8.ofNat m.val = 47 ∨ (sgN r.val = m.val ∧ m.val ≠ 0) := by decide
  have hr := (shN_ok h).2.1
  have h2 := this ⟨c.toNat, c.toNat_lt⟩ ⟨r, hr⟩
  simp only [UInt8.ofNat_toNat] at h2
  exact (h2 h).imp id fun g => ⟨hr, g⟩

set_option maxRecDepth 100000 in
set_option maxHeartbeats 1600000 in
theorem w_rshort (c : UInt8) (w : World) :
    Calls Tryz.prog 88 #[.int .u8 ((c.toNat : Nat) : Int)] w fun e w' => e = .returned (.int .i64 (shI c)) ∧ w' = w := by
  by_cases h47 : c = 47
  · subst h47
    go_enter Tryz.func88, Tryz.ntmps88
    go_wp2_with fail
    go_ret
    exact ⟨rfl, rfl⟩
  have HSg := Hid.mk (fun (n : Nat) (h : n < 128) u => w_rsign n u (by omega))
  have HSh := Hid.mk (sh_sg c)
  have H47 := Hid.mk h47
  have hlt := c.toNat_lt
  obtain ⟨x, hx⟩ : ∃ x : Nat, c.toNat = x := ⟨_, rfl⟩
  have hb : (((x : Nat) : Int) == 47) = false := by
    rw [beq_eq_false_iff_ne]; intro e; apply h47; apply UInt8.toNat_inj.1
    have : (47 : UInt8).toNat = 47 := rfl
    omega
  rw [hx] at HSh hlt ⊢
  have HX := Hid.mk hx
  clear h47 hx
  go_enter Tryz.func88, Tryz.ntmps88
  go_wp2_with fail
  go_loopw [3] (fun i wr => ∃ k : Nat, k ≤ 128 ∧ i = .int .i64 (k : Int) ∧ wr = w ∧ Hid (∀ j, j < k → ¬ (sgN j = x ∧ x ≠ 0))) (fun i _ => 128 - (intOf i).toNat)
  case atStart => exact ⟨0, by omega, rfl, rfl, fun j hj => by omega⟩
  case round =>
    obtain ⟨k, hk, rfl, rfl, HQ⟩ := hrel
    by_cases hlt2 : k < 128
    · have hl1 : (k : Int) < 128 := by omega
      have HS1 := Hid.mk (HSg.out k hlt2)
      have hsl := sgN_lt k
      obtain ⟨g, hg⟩ : ∃ g, sgN k = g := ⟨_, rfl⟩
      rw [hg] at HS1 hsl
      have HG := Hid.mk hg
      clear hg
      by_cases he : g = x
      · have he1 : ((g : Int) == (x : Int)) = true := by rw [beq_iff_eq]; omega
        by_cases h0 : x = 0
        · have h01 : ((x : Int) != 0) = false := by simp; omega
          have HN : Hid (∀ j, j < k + 1 → ¬ (sgN j = x ∧ x ≠ 0)) := fun j hj hh => hh.2 h0
          clear he h0
          go_wp2_with fail
          refine (HS1.out _).mono ?_
          rintro e w1 ⟨rfl, hw⟩
          obtain rfl := hw.symm
          go_wp2_with fail
          go_roundw
          case rel => exact ⟨k + 1, by omega, by go_num, trivial, HN⟩
          case measure => simp [intOf]; omega
        · have h01 : ((x : Int) != 0) = true := by simp; omega
          have HF : Hid (shI c = (k : Int)) := by
            have := sg_sh ⟨k, hlt2⟩ (by show sgN k ≠ 0; rw [HG.out, he]; exact h0)
            have e1 : sgN k = c.toNat := by rw [HG.out, he, HX.out]
            rw [show sgN (⟨k, hlt2⟩ : Fin 128).val = c.toNat from e1, UInt8.ofNat_toNat] at this
            show shI c = _
            unfold shI
            rw [this]
          clear he h0
          go_wp2_with fail
          refine (HS1.out _).mono ?_
          rintro e w1 ⟨rfl, hw⟩
          obtain rfl := hw.symm
          go_wp2_with fail
          go_ret
          exact ⟨by rw [HF.out]; rfl, rfl⟩
      · have he1 : ((g : Int) == (x : Int)) = false := by rw [beq_eq_false_iff_ne]; omega
        have HN : Hid (∀ j, j < k + 1 → ¬ (sgN j = x ∧ x ≠ 0)) := fun j hj hh => by
          rcases Nat.lt_or_ge j k with g' | g'
          · exact HQ.out j g' hh
          · obtain rfl : j = k := by omega
            exact he (HG.out.symm.trans hh.1)
        clear he
        go_wp2_with fail
        refine (HS1.out _).mono ?_
        rintro e w1 ⟨rfl, hw⟩
        obtain rfl := hw.symm
        go_wp2_with fail
        go_roundw
        case rel => exact ⟨k + 1, by omega, by go_num, trivial, HN⟩
        case measure => simp [intOf]; omega
    · have hl1 : ¬ (k : Int) < 128 := by omega
      have HF : Hid (shI c = -1) := by
        show shI c = -1
        unfold shI
        cases hs : shN c with
        | none => rfl
        | some r =>
          rcases HSh.out r hs with g | ⟨g1, g2, g3⟩
          · exact absurd g H47.out
          · exact absurd ⟨g2, g3⟩ (HQ.out r (by omega))
      go_wp2_with fail
      go_ret
      exact ⟨by rw [HF.out]; rfl, rfl⟩

def rnum (l : List UInt8) (f : Nat) : Int := match numL (l.drop f) with
  | some n => (n : Int)
  | none => -1

theorem byteD {s : ByteArray} {f : Nat} (h : f < s.size) : s.data.toList.getD f 0 = s[f]'h := by
  have hl0 : f < s.data.toList.length := by rw [size_len]; exact h
  rw [List.getD_eq_getElem?_getD, List.getElem?_eq_getElem hl0]; rfl
theorem take_hex {s : ByteArray} {f i : Nat} (h2 : 2 ≤ i) (h : f + i < s.size) : ((s.data.toList.drop f).drop 2).take (i + 1 - 2) = ((s.data.toList.drop f).drop 2).take (i - 2) ++ [s[f + i]'h] := by
  have hl : i - 2 < ((s.data.toList.drop f).drop 2).length := by rw [List.length_drop, List.length_drop, size_len]; omega
  rw [show i + 1 - 2 = i - 2 + 1 by omega, List.take_add_one, List.getElem?_eq_getElem hl]
  congr 1
  simp only [Option.toList_some, List.getElem_drop]
  congr 1
  have : s.data.toList[f + (2 + (i - 2))]'(by rw [size_len]; omega) = s[f + (2 + (i - 2))]'(by omega) := rfl
  rw [this]
  congr 1
  omega

set_option maxRecDepth 100000 in
set_option maxHeartbeats 3200000 in
theorem w_rnumbered (s : ByteArray) (f : Nat) (w : World) (hf : f ≤ s.size) (hs : s.size ≤ 1099511627776) :
    Calls Tryz.prog 87 #[.string s, .int .i64 (f : Int)] w fun e w' => e = .returned (.int .i64 (rnum s.data.toList f)) ∧ w' = w := by
  have none_of : (¬ (6 ≤ (s.data.toList.drop f).length ∧ (s.data.toList.drop f).getD 0 0 = 92 ∧ (s.data.toList.drop f).getD 1 0 = 117 ∧ (((s.data.toList.drop f).drop 2).take 4).all isHex = true)) → rnum s.data.toList f = -1 := by
    intro h
    unfold rnum numL
    rw [if_neg h]
  rw [List.length_drop, size_len, getD_dropL, getD_dropL, Nat.add_zero] at none_of
  by_cases h6 : f + 6 ≤ s.size
  · have hg6 : ¬ (s.size : Int) < (f : Int) + 6 := by omega
    have l0 : f < s.size := by omega
    have l1 : f + 1 < s.size := by omega
    have i0 : (f : Int) < (s.size : Int) := by omega
    have i1 : (f : Int) + 1 < (s.size : Int) := by omega
    rw [byteD l0, byteD l1] at none_of
    by_cases a0 : s[f] = 92
    · by_cases a1 : s[f + 1] = 117
      · have HNO := Hid.mk none_of
        have HYes : Hid ((((s.data.toList.drop f).drop 2).take 4).all isHex = true → rnum s.data.toList f = ((hexN (((s.data.toList.drop f).drop 2).take 4) : Nat) : Int)) := by
          intro h
          unfold rnum numL
          rw [if_pos ⟨by rw [List.length_drop, size_len]; omega, by rw [getD_dropL, Nat.add_zero, byteD l0]; exact a0, by rw [getD_dropL, byteD l1]; exact a1, h⟩]
        clear none_of
        go_enter Tryz.func87, Tryz.ntmps87
        go_wp2_with fail
        go_loopw [5, 6] (fun n i wr => ∃ (j x : Nat), 2 ≤ j ∧ j ≤ 6 ∧ x < 65536 ∧ n = .int .i64 (x : Int) ∧ i = .int .i64 (j : Int) ∧ wr = w ∧ Hid (x = hexN (((s.data.toList.drop f).drop 2).take (j - 2)) ∧ (((s.data.toList.drop f).drop 2).take (j - 2)).all isHex = true)) (fun _ i _ => 6 - (intOf i).toNat)
        case atStart => exact ⟨2, 0, by omega, by omega, by omega, rfl, rfl, rfl, rfl, rfl⟩
        case round =>
          obtain ⟨j, x, hj2, hj, hxl, rfl, rfl, rfl, HQ⟩ := hrel
          by_cases hj4 : j < 6
          · have hl1 : (j : Int) < 6 := by omega
            have lj : f + j < s.size := by omega
            have ij : (f : Int) + (j : Int) < (s.size : Int) := by omega
            obtain ⟨c, hc⟩ : ∃ c, s[f + j]'lj = c := ⟨_, rfl⟩
            have HTk := Hid.mk (take_hex hj2 lj)
            rw [hc] at HTk
            have HD := Hid.mk (fun u => w_rdigit c u)
            cases hh : isHex c with
            | true =>
              have hd : digI c = ((hexd c : Nat) : Int) := by unfold digI; rw [if_pos hh]
              have hdl := hexd_lt hh
              rw [hd] at HD
              obtain ⟨d, hdd⟩ : ∃ d, hexd c = d := ⟨_, rfl⟩
              have hlen4 : (((s.data.toList.drop f).drop 2).take (j + 1 - 2)).length ≤ 4 := by rw [List.length_take]; omega
              have HN : Hid (x * 16 + d = hexN (((s.data.toList.drop f).drop 2).take (j + 1 - 2)) ∧ (((s.data.toList.drop f).drop 2).take (j + 1 - 2)).all isHex = true) := by
                rw [HTk.out, hexN_snoc, ← HQ.out.1, hdd]
                refine ⟨rfl, ?_⟩
                rw [List.all_append, HQ.out.2]
                simp [hh]
              have hx2 : x * 16 + d < 65536 := by
                rw [HN.out.1]; exact hexN_lt _ HN.out.2 4 hlen4
              rw [hdd] at HD hdl
              clear hd hdd hh hlen4
              go_wp2_with fail
              refine (HD.out _).mono ?_
              rintro e w1 ⟨rfl, hw⟩
              obtain rfl := hw.symm
              have hd0 : ¬ (d : Int) < 0 := by omega
              go_wp2_with fail
              go_roundw
              case rel => exact ⟨j + 1, x * 16 + d, by omega, by omega, hx2, by go_num, by go_num, trivial, HN⟩
              case measure => simp [intOf]; omega
            | false =>
              have hd : digI c = -1 := by unfold digI; rw [hh]; rfl
              rw [hd] at HD
              have HF : Hid (rnum s.data.toList f = -1) := by
                apply HNO.out
                rintro ⟨_, _, _, h4⟩
                have hm : c ∈ ((s.data.toList.drop f).drop 2).take 4 := by
                  have hm1 : c ∈ ((s.data.toList.drop f).drop 2).take (j + 1 - 2) := by rw [HTk.out]; simp
                  exact List.mem_of_mem_take (i := j + 1 - 2) (by rw [List.take_take, Nat.min_eq_left (by omega)]; exact hm1)
                have := List.all_eq_true.1 h4 c hm
                rw [hh] at this
                cases this
              clear hd hh
              go_wp2_with fail
              refine (HD.out _).mono ?_
              rintro e w1 ⟨rfl, hw⟩
              obtain rfl := hw.symm
              go_wp2_with fail
              go_ret
              exact ⟨by rw [HF.out]; rfl, rfl⟩
          · have hl1 : ¬ (j : Int) < 6 := by omega
            obtain rfl : j = 6 := by omega
            have HF := Hid.mk (HYes.out HQ.out.2)
            rw [← HQ.out.1] at HF
            go_wp2_with fail
            go_ret
            exact ⟨by rw [HF.out]; rfl, rfl⟩
      · have HF : Hid (rnum s.data.toList f = -1) := none_of (fun h => a1 h.2.2.1)
        have hb : ((((s[f + 1]).toNat : Nat) : Int) != 117) = true := by
          rw [bne_iff_ne]; intro e; apply a1; apply UInt8.toNat_inj.1
          have : (117 : UInt8).toNat = 117 := rfl
          omega
        clear a1 none_of
        go_enter Tryz.func87, Tryz.ntmps87
        go_wp2_with fail
        go_ret
        exact ⟨by rw [HF.out]; rfl, rfl⟩
    · have HF : Hid (rnum s.data.toList f = -1) := none_of (fun h => a0 h.2.1)
      have hb : ((((s[f]).toNat : Nat) : Int) != 92) = true := by
        rw [bne_iff_ne]; intro e; apply a0; apply UInt8.toNat_inj.1
        have : (92 : UInt8).toNat = 92 := rfl
        omega
      clear a0 none_of
      go_enter Tryz.func87, Tryz.ntmps87
      go_wp2_with fail
      go_ret
      exact ⟨by rw [HF.out]; rfl, rfl⟩
  · have hg6 : (s.size : Int) < (f : Int) + 6 := by omega
    have HF : Hid (rnum s.data.toList f = -1) := none_of (fun h => by omega)
    clear none_of h6
    go_enter Tryz.func87, Tryz.ntmps87
    go_wp2_with fail
    go_ret
    exact ⟨by rw [HF.out]; rfl, rfl⟩
end Go.Proofs.YtohclfgghobldaaGreatDoor
namespace Go.Proofs.YtohclfgghobldaaGreatDoor
open Go.RowKit
set_option linter.unusedVariables false
set_option linter.unusedSimpArgs false

/-- what the reference's Escape answers -/
def EscRx (s : ByteArray) (k : Nat) (w w' : World) (e : Ending) : Prop := e = .returned (.tuple #[.int .i64 ((escL s.data.toList k).1 : Int), .int .i64 ((escL s.data.toList k).2.1 : Int), .int .i64 ((escL s.data.toList k).2.2 : Int)]) ∧ w' = w
theorem escRx_mk {s : ByteArray} {k : Nat} {w : World} {a p c : Nat} {r q z : Int} (h : escL s.data.toList k = (a, p, c)) (hr : r = (a : Int)) (hq : q = (p : Int)) (hz : z = (c : Int)) : EscRx s k w w (.returned (.tuple #[.int .i64 r, .int .i64 q, .int .i64 z])) := by
  subst hr hq hz
  exact ⟨by rw [h], rfl⟩
theorem short_num {l : List UInt8} {k n : Nat} (h : numL (l.drop k) = some n) : shortL (l.drop k) = none := by
  obtain ⟨_, _, _, h1, h2⟩ := numL_ok h
  cases hs : shortL (l.drop k) with
  | none => rfl
  | some r =>
    have := (shortL_ok hs).2.2.2.2
    rw [h2] at this
    have e : shN 117 = none := by decide
    rw [e] at this; cases this

set_option maxRecDepth 100000 in
set_option maxHeartbeats 6400000 in
theorem w_rEscape (s : ByteArray) (k : Nat) (w : World) (hk : k < s.size) (hs : s.size ≤ 1099511627776) :
    Calls Tryz.prog 36 #[.string s, .int .i64 (k : Int)] w fun e w' => EscRx s k w w' e := by
  have hi0 : (k : Int) < (s.size : Int) := by omega
  have hi0' : ¬ (s.size : Int) ≤ (k : Int) := by omega
  have HN := Hid.mk (fun u => w_rnumbered s k u (by omega) hs)
  unfold rnum at HN
  cases hn : numL (s.data.toList.drop k) with
  | none =>
    rw [hn] at HN
    have HN1 : Hid (∀ u, Calls Tryz.prog 87 #[.string s, .int .i64 (k : Int)] u fun e w' => e = .returned (.int .i64 (-1)) ∧ w' = u) := HN.out
    by_cases a0 : s[k] = 92
    · by_cases hend : k + 1 < s.size
      · have hi1 : (k : Int) + 1 < (s.size : Int) := by omega
        obtain ⟨c, hc⟩ : ∃ c, s[k + 1]'hend = c := ⟨_, rfl⟩
        have HSh := Hid.mk (fun u => w_rshort c u)
        have hsl : shortL (s.data.toList.drop k) = shN c := by
          unfold shortL
          rw [if_pos ⟨by rw [getD_dropL, Nat.add_zero, byteD hk]; exact a0, by rw [List.length_drop, size_len]; omega⟩, getD_dropL, byteD hend, hc]
        unfold shI at HSh
        cases hcs : shN c with
        | none =>
          rw [hcs] at HSh hsl
          have HSh1 : Hid (∀ u, Calls Tryz.prog 88 #[.int .u8 ((c.toNat : Nat) : Int)] u fun e w' => e = .returned (.int .i64 (-1)) ∧ w' = u) := HSh.out
          have HF := Hid.mk (escL_none hsl hn)
          clear hsl hn hcs HN HSh
          go_enter Tryz.func36, Tryz.ntmps36
          go_wp2_with fail
          refine (HN1.out _).mono ?_
          rintro e w1 ⟨rfl, hw⟩
          obtain rfl := hw.symm
          go_wp2_with fail
          refine (HSh1.out _).mono ?_
          rintro e w1 ⟨rfl, hw⟩
          obtain rfl := hw.symm
          go_wp2_with fail
          refine bodyPost_ret (v := .tuple #[.int .i64 0, .int .i64 (k : Int), .int .i64 23]) (by simp [results, Tryz.results36, go_sem]) rfl ?_
          exact escRx_mk HF.out rfl rfl rfl
        | some r =>
          rw [hcs] at HSh hsl
          have HSh1 : Hid (∀ u, Calls Tryz.prog 88 #[.int .u8 ((c.toNat : Nat) : Int)] u fun e w' => e = .returned (.int .i64 (r : Int)) ∧ w' = u) := HSh.out
          have HF := Hid.mk (escL_short hsl)
          have hr128 := (shN_ok hcs).2.1
          have hr0 : (0 : Int) ≤ (r : Int) := by omega
          clear hsl hn hcs HN HSh
          go_enter Tryz.func36, Tryz.ntmps36
          go_wp2_with fail
          refine (HN1.out _).mono ?_
          rintro e w1 ⟨rfl, hw⟩
          obtain rfl := hw.symm
          go_wp2_with fail
          refine (HSh1.out _).mono ?_
          rintro e w1 ⟨rfl, hw⟩
          obtain rfl := hw.symm
          go_wp2_with fail
          refine (HSh1.out _).mono ?_
          rintro e w1 ⟨rfl, hw⟩
          obtain rfl := hw.symm
          go_wp2_with fail
          refine bodyPost_ret (v := .tuple #[.int .i64 (r : Int), .int .i64 ((k : Int) + 2), .int .i64 0]) (by simp [results, Tryz.results36, go_sem]) rfl ?_
          exact escRx_mk HF.out rfl (by omega) rfl
      · have hi1 : ¬ (k : Int) + 1 < (s.size : Int) := by omega
        have HF : Hid (escL s.data.toList k = (0, k, 23)) := by
          refine escL_none ?_ hn
          unfold shortL
          rw [if_neg]
          rintro ⟨_, h2⟩
          rw [List.length_drop, size_len] at h2
          omega
        clear hn HN
        go_enter Tryz.func36, Tryz.ntmps36
        go_wp2_with fail
        refine (HN1.out _).mono ?_
        rintro e w1 ⟨rfl, hw⟩
        obtain rfl := hw.symm
        go_wp2_with fail
        refine bodyPost_ret (v := .tuple #[.int .i64 0, .int .i64 (k : Int), .int .i64 23]) (by simp [results, Tryz.results36, go_sem]) rfl ?_
        exact escRx_mk HF.out rfl rfl rfl
    · have HF : Hid (escL s.data.toList k = (0, k, 23)) := by
        refine escL_none ?_ hn
        unfold shortL
        rw [if_neg]
        rintro ⟨h1, _⟩
        rw [getD_dropL, Nat.add_zero, byteD hk] at h1
        exact a0 h1
      have hb : ((((s[k]).toNat : Nat) : Int) == 92) = false := by
        rw [beq_eq_false_iff_ne]; intro e; apply a0; apply UInt8.toNat_inj.1
        have : (92 : UInt8).toNat = 92 := rfl
        omega
      clear hn a0 HN
      go_enter Tryz.func36, Tryz.ntmps36
      go_wp2_with fail
      refine (HN1.out _).mono ?_
      rintro e w1 ⟨rfl, hw⟩
      obtain rfl := hw.symm
      go_wp2_with fail
      refine bodyPost_ret (v := .tuple #[.int .i64 0, .int .i64 (k : Int), .int .i64 23]) (by simp [results, Tryz.results36, go_sem]) rfl ?_
      exact escRx_mk HF.out rfl rfl rfl
  | some n =>
    rw [hn] at HN
    obtain ⟨hk6, hn0, _⟩ := numL_ok hn
    rw [size_len] at hk6
    have hsn := short_num hn
    obtain ⟨z, hz⟩ : ∃ z : Int, (n : Int) = z := ⟨_, rfl⟩
    have HN1 : Hid (∀ u, Calls Tryz.prog 87 #[.string s, .int .i64 (k : Int)] u fun e w' => e = .returned (.int .i64 z) ∧ w' = u) := by
      intro u
      have := HN.out u
      simp only [hz] at this
      exact this
    have hz0 : 0 ≤ z := by omega
    have hz1 : z ≤ 65535 := by omega
    have HZ := Hid.mk hz
    have HSN := Hid.mk hsn
    have HNN := Hid.mk hn
    clear HN hsn hn hn0 hz
    have hcs : z < 55296 ∨ (¬ z < 55296 ∧ 57343 < z) ∨ (¬ z < 55296 ∧ ¬ 57343 < z ∧ 56320 ≤ z) ∨ (¬ z < 55296 ∧ ¬ 57343 < z ∧ ¬ 56320 ≤ z) := by omega
    have hz00 : ¬ z < 0 := by omega
    rcases hcs with h1 | ⟨h1, h2⟩ | ⟨h1, h2, h3⟩ | ⟨h1, h2, h3⟩
    · have HF := Hid.mk (escL_one HSN.out HNN.out (by have := HZ.out; omega))
      go_enter Tryz.func36, Tryz.ntmps36
      go_wp2_with fail
      refine (HN1.out _).mono ?_
      rintro e w1 ⟨rfl, hw⟩
      obtain rfl := hw.symm
      go_wp2_with fail
      refine bodyPost_ret (v := .tuple #[.int .i64 z, .int .i64 ((k : Int) + 6), .int .i64 0]) (by simp [results, Tryz.results36, go_sem]) rfl ?_
      exact escRx_mk HF.out HZ.out.symm (by omega) rfl
    · have HF := Hid.mk (escL_one HSN.out HNN.out (by have := HZ.out; omega))
      go_enter Tryz.func36, Tryz.ntmps36
      go_wp2_with fail
      refine (HN1.out _).mono ?_
      rintro e w1 ⟨rfl, hw⟩
      obtain rfl := hw.symm
      go_wp2_with fail
      refine bodyPost_ret (v := .tuple #[.int .i64 z, .int .i64 ((k : Int) + 6), .int .i64 0]) (by simp [results, Tryz.results36, go_sem]) rfl ?_
      exact escRx_mk HF.out HZ.out.symm (by omega) rfl
    · have HF := Hid.mk (escL_low HSN.out HNN.out (by have := HZ.out; omega) (by have := HZ.out; omega))
      obtain ⟨v, hv⟩ : ∃ v, rnum s.data.toList (k + 6) = v := ⟨_, rfl⟩
      have HN2 : Hid (∀ u, Calls Tryz.prog 87 #[.string s, .int .i64 ((k : Int) + 6)] u fun e w' => e = .returned (.int .i64 v) ∧ w' = u) := by
        intro u
        have := w_rnumbered s (k + 6) u hk6 hs
        rw [show ((k + 6 : Nat) : Int) = (k : Int) + 6 by omega, hv] at this
        exact this
      clear hv
      go_enter Tryz.func36, Tryz.ntmps36
      go_wp2_with fail
      refine (HN1.out _).mono ?_
      rintro e w1 ⟨rfl, hw⟩
      obtain rfl := hw.symm
      go_wp2_with fail
      refine (HN2.out _).mono ?_
      rintro e w1 ⟨rfl, hw⟩
      obtain rfl := hw.symm
      go_wp2_with fail
      refine bodyPost_ret (v := .tuple #[.int .i64 0, .int .i64 (k : Int), .int .i64 24]) (by simp [results, Tryz.results36, go_sem]) rfl ?_
      exact escRx_mk HF.out rfl rfl rfl
    · have HNum := fun u => w_rnumbered s (k + 6) u hk6 hs
      rw [show ((k + 6 : Nat) : Int) = (k : Int) + 6 by omega] at HNum
      unfold rnum at HNum
      cases hm : numL (s.data.toList.drop (k + 6)) with
      | none =>
        rw [hm] at HNum
        have HN2 : Hid (∀ u, Calls Tryz.prog 87 #[.string s, .int .i64 ((k : Int) + 6)] u fun e w' => e = .returned (.int .i64 (-1)) ∧ w' = u) := HNum
        have HF := Hid.mk (escL_alone HSN.out HNN.out (by have := HZ.out; omega) (by have := HZ.out; omega) hm)
        clear hm HNum
        go_enter Tryz.func36, Tryz.ntmps36
        go_wp2_with fail
        refine (HN1.out _).mono ?_
        rintro e w1 ⟨rfl, hw⟩
        obtain rfl := hw.symm
        go_wp2_with fail
        refine (HN2.out _).mono ?_
        rintro e w1 ⟨rfl, hw⟩
        obtain rfl := hw.symm
        go_wp2_with fail
        refine bodyPost_ret (v := .tuple #[.int .i64 0, .int .i64 (k : Int), .int .i64 24]) (by simp [results, Tryz.results36, go_sem]) rfl ?_
        exact escRx_mk HF.out rfl rfl rfl
      | some m =>
        rw [hm] at HNum
        have hm0 := (numL_ok hm).2.1
        obtain ⟨y, hy⟩ : ∃ y : Int, (m : Int) = y := ⟨_, rfl⟩
        have HN2 : Hid (∀ u, Calls Tryz.prog 87 #[.string s, .int .i64 ((k : Int) + 6)] u fun e w' => e = .returned (.int .i64 y) ∧ w' = u) := by
          intro u
          have := HNum u
          simp only [hy] at this
          exact this
        have hy0 : 0 ≤ y := by omega
        have hy1 : y ≤ 65535 := by omega
        have HY := Hid.mk hy
        have HMM := Hid.mk hm
        clear hm hy HNum hm0
        have hls : y < 56320 ∨ (¬ y < 56320 ∧ 57343 < y) ∨ (¬ y < 56320 ∧ ¬ 57343 < y) := by omega
        rcases hls with g1 | ⟨g1, g2⟩ | ⟨g1, g2⟩
        · have HF := Hid.mk (escL_bad HSN.out HNN.out (by have := HZ.out; omega) (by have := HZ.out; omega) HMM.out (by have := HY.out; omega))
          go_enter Tryz.func36, Tryz.ntmps36
          go_wp2_with fail
          refine (HN1.out _).mono ?_
          rintro e w1 ⟨rfl, hw⟩
          obtain rfl := hw.symm
          go_wp2_with fail
          refine (HN2.out _).mono ?_
          rintro e w1 ⟨rfl, hw⟩
          obtain rfl := hw.symm
          go_wp2_with fail
          refine bodyPost_ret (v := .tuple #[.int .i64 0, .int .i64 (k : Int), .int .i64 24]) (by simp [results, Tryz.results36, go_sem]) rfl ?_
          exact escRx_mk HF.out rfl rfl rfl
        · have HF := Hid.mk (escL_bad HSN.out HNN.out (by have := HZ.out; omega) (by have := HZ.out; omega) HMM.out (by have := HY.out; omega))
          go_enter Tryz.func36, Tryz.ntmps36
          go_wp2_with fail
          refine (HN1.out _).mono ?_
          rintro e w1 ⟨rfl, hw⟩
          obtain rfl := hw.symm
          go_wp2_with fail
          refine (HN2.out _).mono ?_
          rintro e w1 ⟨rfl, hw⟩
          obtain rfl := hw.symm
          go_wp2_with fail
          refine bodyPost_ret (v := .tuple #[.int .i64 0, .int .i64 (k : Int), .int .i64 24]) (by simp [results, Tryz.results36, go_sem]) rfl ?_
          exact escRx_mk HF.out rfl rfl rfl
        · have HF := Hid.mk (escL_two HSN.out HNN.out (by have := HZ.out; omega) (by have := HZ.out; omega) HMM.out (by have := HY.out; omega) (by have := HY.out; omega))
          go_enter Tryz.func36, Tryz.ntmps36
          go_wp2_with fail
          refine (HN1.out _).mono ?_
          rintro e w1 ⟨rfl, hw⟩
          obtain rfl := hw.symm
          go_wp2_with fail
          refine (HN2.out _).mono ?_
          rintro e w1 ⟨rfl, hw⟩
          obtain rfl := hw.symm
          go_wp2_with fail
          refine bodyPost_ret (v := .tuple #[.int .i64 (65536 + (z - 55296) * 1024 + y - 56320), .int .i64 ((k : Int) + 12), .int .i64 0]) (by simp [results, Tryz.results36, go_sem]) rfl ?_
          exact escRx_mk HF.out (by have := HZ.out; have := HY.out; omega) (by omega) rfl
end Go.Proofs.YtohclfgghobldaaGreatDoor
