import Derived.Test.YtohclfgghobldaaKW2
import Derived.Test.YtohclfgghobldaaKW3
namespace Go.Proofs.Ytohclfgghobldaa
open Go.RowKit
set_option linter.unusedVariables false
set_option linter.unusedSimpArgs false

theorem ext_cut (s : ByteArray) (a b : Nat) (hb : b ≤ s.size) : s.extract a b = ⟨(cut s.data.toList a b).toArray⟩ := by
  have h := extract_lst s a b hb
  have e : (s.extract a b).data = (cut s.data.toList a b).toArray := by rw [← h]
  cases hx : s.extract a b with
  | mk d => rw [hx] at e; exact congrArg ByteArray.mk e
theorem arr_lst (x : List UInt8) : (⟨x.toArray⟩ : ByteArray).data.toList = x := rfl
theorem arr_size (x : List UInt8) : (⟨x.toArray⟩ : ByteArray).size = x.length := by show x.toArray.size = _; simp
theorem cut_len {l : List UInt8} {a b : Nat} (hb : b ≤ l.length) : (cut l a b).length = b - a := by unfold cut; simp; omega
theorem nameW_len {l : List UInt8} {p : Nat} (hp : p ≤ l.length) : p + (nameW l p).length ≤ l.length := by
  unfold nameW
  split
  · next h =>
    have := bhP_ge inB hp
    rw [cut_len this.2]; omega
  · simpa using hp

set_option maxRecDepth 100000 in
set_option maxHeartbeats 1600000 in
theorem w_nameAt (s : ByteArray) (p : Nat) (w : World) (hp : p ≤ s.size) (hs : s.size ≤ 140737488355328) :
    Calls Try.prog 8 #[.string s, .int .i64 (p : Int)] w fun e w' => e = .returned (.string ⟨(nameW s.data.toList p).toArray⟩) ∧ w' = w := by
  by_cases he : p = s.size
  · have HN : Hid (nameW s.data.toList p = []) := by show _ = _; unfold nameW; rw [if_neg (by rw [size_lst]; omega)]
    have hq : ((p : Int) == (s.size : Int)) = true := by rw [he]; simp
    clear he
    go_enter Try.func8, Try.ntmps8
    go_wp2_with fail
    go_ret
    exact ⟨by rw [HN.out]; first | done | rfl, rfl⟩
  · have hlt : p < s.size := by omega
    have hq : ((p : Int) == (s.size : Int)) = false := by rw [beq_eq_false_iff_ne]; omega
    have hi0 : (0 : Int) ≤ (p : Int) := by omega
    have hi1 : (p : Int) < (s.size : Int) := by omega
    have hc := fun u => w_wLetter s[p] u
    have hd := getD_byte hlt
    cases h1 : leB s[p] with
    | false =>
      rw [h1] at hc
      have HC := Hid.mk hc
      have HN : Hid (nameW s.data.toList p = []) := by show _ = _; unfold nameW; rw [if_neg (by rw [hd, h1]; simp)]
      clear he hc hd h1
      go_enter Try.func8, Try.ntmps8
      go_wp2_with fail
      refine (HC.out _).mono ?_
      rintro e w1 ⟨rfl, hw1⟩
      obtain rfl := hw1.symm
      go_wp2_with fail
      go_ret
      exact ⟨by rw [HN.out]; first | done | rfl, rfl⟩
    | true =>
      rw [h1] at hc
      have HC := Hid.mk hc
      have HBh := Hid.mk (fun u => w_bhName s p u hp hs)
      have hbe := bhP_ge inB (l := s.data.toList) (p := p) (by rw [size_lst]; omega)
      have HN : Hid (nameW s.data.toList p = cut s.data.toList p (bhP inB s.data.toList p)) := by show _ = _; unfold nameW; rw [if_pos ⟨by rw [size_lst]; exact hlt, by rw [hd, h1]⟩]
      have HX := Hid.mk (ext_cut s p (bhP inB s.data.toList p) (by rw [← size_lst]; exact hbe.2))
      rw [size_lst] at hbe
      generalize bhP inB s.data.toList p = q at *
      obtain ⟨hpq, hqs⟩ := hbe
      have hj1 : (p : Int) ≤ (q : Int) := by omega
      have hj2 : (q : Int) ≤ (s.size : Int) := by omega
      clear he hc hd h1
      go_enter Try.func8, Try.ntmps8
      go_wp2_with fail
      refine (HC.out _).mono ?_
      rintro e w1 ⟨rfl, hw1⟩
      obtain rfl := hw1.symm
      go_wp2_with fail
      refine (HBh.out _).mono ?_
      rintro e w1 ⟨rfl, hw1⟩
      obtain rfl := hw1.symm
      go_wp2_with fail
      go_ret
      exact ⟨by rw [HN.out, ← HX.out]; first | done | rfl, rfl⟩

theorem named_lst (s : ByteArray) : namedB s.data.toList = (!(s.toList == []) && ((⟨(nameW s.data.toList 0).toArray⟩ : ByteArray).toList == s.toList)) := by
  unfold namedB
  rw [Lib.toList_data, Lib.toList_data]
  show _ = (!(s.data.toList == []) && (nameW s.data.toList 0 == s.data.toList))
  generalize s.data.toList = l
  by_cases h1 : l = []
  · subst h1; simp
  · by_cases h2 : nameW l 0 = l
    · rw [decide_eq_true ⟨h1, h2⟩, h2, beq_eq_false_iff_ne.2 h1]; simp
    · rw [decide_eq_false (fun h => h2 h.2), beq_eq_false_iff_ne.2 h2]; simp

set_option maxRecDepth 100000 in
set_option maxHeartbeats 1600000 in
theorem w_Named (s : ByteArray) (w : World) (hs : s.size ≤ 140737488355328) :
    Calls Try.prog 4 #[.string s] w fun e w' => e = .returned (.bool (namedB s.data.toList)) ∧ w' = w := by
  have HN := Hid.mk (fun u => w_nameAt s 0 u (Nat.zero_le _) hs)
  rw [named_lst]
  generalize (⟨(nameW s.data.toList 0).toArray⟩ : ByteArray) = nm at *
  by_cases h0 : s.toList = []
  · have e1 : (s.toList == []) = true := by rw [h0]; rfl
    have e2 : s.toList.isEmpty = true := by rw [h0]; rfl
    rw [e1]
    clear HN
    go_enter Try.func4, Try.ntmps4
    go_wp2_with fail
    go_ret
    exact ⟨rfl, rfl⟩
  · have e1 : (s.toList == []) = false := beq_eq_false_iff_ne.2 h0
    have e2 : s.toList.isEmpty = false := by simp [h0]
    rw [e1]
    go_enter Try.func4, Try.ntmps4
    go_wp2_with fail
    refine (HN.out _).mono ?_
    rintro e w1 ⟨rfl, hw1⟩
    obtain rfl := hw1.symm
    go_wp2_with fail
    go_ret
    exact ⟨by simp, rfl⟩

set_option maxRecDepth 100000 in
set_option maxHeartbeats 1600000 in
theorem w_Plain (s : ByteArray) (w : World) (hs : s.size ≤ 140737488355328) :
    Calls Try.prog 6 #[.string s] w fun e w' => e = .returned (.bool (plainW s.data.toList)) ∧ w' = w := by
  have HN := Hid.mk (fun u => w_Named s u hs)
  have HO := Hid.mk (fun u => w_wOwn s u)
  unfold plainW
  cases h1 : namedB s.data.toList with
  | false =>
    rw [h1] at HN
    clear h1
    go_enter Try.func6, Try.ntmps6
    go_wp2_with fail
    refine (HN.out _).mono ?_
    rintro e w1 ⟨rfl, hw1⟩
    obtain rfl := hw1.symm
    go_wp2_with fail
    go_ret
    exact ⟨rfl, rfl⟩
  | true =>
    rw [h1] at HN
    clear h1
    generalize ownB s.data.toList = b2 at *
    go_enter Try.func6, Try.ntmps6
    go_wp2_with fail
    refine (HN.out _).mono ?_
    rintro e w1 ⟨rfl, hw1⟩
    obtain rfl := hw1.symm
    go_wp2_with fail
    refine (HO.out _).mono ?_
    rintro e w1 ⟨rfl, hw1⟩
    obtain rfl := hw1.symm
    go_wp2_with fail
    go_ret
    exact ⟨by cases b2 <;> rfl, rfl⟩
end Go.Proofs.Ytohclfgghobldaa
