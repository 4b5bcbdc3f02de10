import Derived.Test.YtdegoefedkidcadDoorV26
namespace Go.Proofs.YtdegoefedkidcadDoor
open Go.RowKit
set_option linter.unusedVariables false
set_option linter.unusedSimpArgs false

set_option maxRecDepth 100000 in
set_option maxHeartbeats 6400000 in
theorem w_UtfOne (q : ByteArray) (w : World) (hs : q.size ≤ 1048576) (hE : ErrIn w) :
    Calls Tryd.prog 3 #[.string q] w fun e w' => e = .returned (.bool true) ∧ Below w.heap.size w w' := by
  have HU : Hid (∀ u, Below w.heap.size w u → Calls Tryd.prog 10 #[.string q, .int .i64 0] u fun e w' => UnqR q u w' e) := fun u hu => w_Unquote_any q u (by omega) (hE.keep hu)
  clear hE
  go_enter Tryd.func3, Tryd.ntmps3
  go_wp2_with fail
  refine (w_fixed _).mono ?_
  rintro e w1 ⟨rfl, hb1⟩
  have HB1 := Hid.mk hb1
  have hst := HU.out _ hb1
  clear hb1 HU
  go_wp2_with fail
  refine hst.mono ?_
  rintro e w2 ⟨t, p, c, rfl, hb2, hor⟩
  have HB2 := Hid.mk (below_more HB1.out hb2)
  clear hb2 hst
  rcases hor with ⟨hc, rfl⟩ | ⟨rfl, zs, hR, ht, htl, k, hk, rfl, h34⟩
  · have hc' : (c != 0) = true := by rw [bne_iff_ne]; exact hc
    clear hc
    go_wp2_with fail
    go_ret
    exact ⟨by first | rfl | simp, HB2.out⟩
  · have htl2 : t.data.toList = txt zs := by rw [ht]
    have hts : t.size = (txt zs).length := by rw [ht]; simp [ByteArray.size]
    have HQ : Hid (∀ u, Calls Tryd.prog 11 #[.string t] u fun e w' => e = .returned (.string ⟨(34 :: (qb zs ++ [34])).toArray⟩) ∧ Below u.heap.size u w') := by
      intro u
      have h := w_Quote t u (by omega)
      rw [htl2, runes_txt zs hR] at h
      exact h
    obtain ⟨o, ho⟩ : ∃ o : ByteArray, o = ⟨(34 :: (qb zs ++ [34])).toArray⟩ := ⟨_, rfl⟩
    rw [← ho] at HQ
    have hos : o.size = (qb zs).length + 2 := by rw [ho]; simp [ByteArray.size]
    have hol : o.data.toList = 34 :: (qb zs ++ [34]) := by rw [ho]
    have hqb := qb_len zs
    have hzt : zs.length ≤ (txt zs).length := by
      have : ∀ l : List Nat, l.length ≤ (txt l).length := by
        intro l
        induction l with
        | nil => exact Nat.le_refl _
        | cons z r ih =>
          have e2 : txt (z :: r) = enc z ++ txt r := rfl
          have := (enc_len z).1
          rw [e2, List.length_append, List.length_cons]; omega
      exact this zs
    have HUL : Hid (∀ u, Calls Tryd.prog 10 #[.string o, .int .i64 0] u fun e w' => e = .returned (.tuple #[.string t, .int .i64 (o.size : Int), .int .i64 0]) ∧ Below u.heap.size u w') := by
      intro u
      have h := w_Unquote_lit o [] [] zs u hR (by rw [hol]; rfl) (by omega)
      rw [← ht] at h
      rw [show (([] : List UInt8).length : Int) + 2 + ((qb zs).length : Int) = (o.size : Int) by rw [hos]; show ((0 : Nat) : Int) + 2 + _ = _; omega] at h
      exact h
    have HV : Hid (∀ u, Calls Tryd.prog 12 #[.string t] u fun e w' => e = .returned (.bool true) ∧ Below u.heap.size u w') := by
      intro u
      have h := w_Valid t u (by omega)
      rw [htl2, ok_txt zs hR] at h
      exact h
    have hki : (k : Int) + 1 ≤ (q.size : Int) := by omega
    have hki2 : (k : Int) < (q.size : Int) := by omega
    have ho40 : o.size ≤ 1099511627776 := by omega
    have e1 : (t.toList == t.toList) = true := by simp
    clear ht htl htl2 hts ho hos hol hqb hzt hR
    go_wp2_with fail
    refine (HQ.out _).mono ?_
    rintro e w3 ⟨rfl, hb3⟩
    have HB3 := Hid.mk (below_more HB2.out hb3)
    clear hb3
    go_wp2_with fail
    refine (HUL.out _).mono ?_
    rintro e w4 ⟨rfl, hb4⟩
    have HB4 := Hid.mk (below_more HB3.out hb4)
    clear hb4
    go_wp2_with fail
    refine (HV.out _).mono ?_
    rintro e w5 ⟨rfl, hb5⟩
    have HB5 := Hid.mk (below_more HB4.out hb5)
    clear hb5
    go_wp2_with fail
    go_ret
    exact ⟨by first | rfl | simp, HB5.out⟩
end Go.Proofs.YtdegoefedkidcadDoor
