import Derived.Test.YtohclfgghobldaaDoorM29
namespace Go.Proofs.YtohclfgghobldaaDoor
open Go.RowKit Go.Shelf
set_option linter.unusedVariables false
set_option linter.unusedSimpArgs false

/-- a plain name is one token -/
theorem sc_plain {l : List UInt8} (h : plainW l = true) : scW l = [⟨1, 0, l.length, l, 0⟩] := by
  unfold plainW at h
  simp only [Bool.and_eq_true, Bool.not_eq_true'] at h
  obtain ⟨hn, ho⟩ := h
  unfold namedB at hn
  obtain ⟨hne, hnm⟩ := of_decide_eq_true hn
  have hlen : 0 < l.length := List.length_pos_iff.2 hne
  have hle : leB (l.getD 0 0) = true := by
    by_cases h : leB (l.getD 0 0) = true
    · exact h
    · unfold nameW at hnm
      rw [if_neg (fun g => h g.2)] at hnm
      exact absurd hnm.symm hne
  have hbl : blB (l.getD 0 0) = false := by
    unfold leB at hle
    have := of_decide_eq_true hle
    unfold blB
    exact decide_eq_false (by omega)
  have hi0 : idW l 0 = 0 := by
    unfold idW
    rw [bhP_stop hlen hbl]
    refine idF_rest (fun g => ?_)
    unfold leB at hle
    have := of_decide_eq_true hle
    omega
  have hie : idW l l.length = l.length := by
    have := idW_ge (l := l) (p := l.length) (Nat.le_refl _)
    omega
  have ht : tokW l [] 0 = ⟨1, 0, l.length, l, 0⟩ := by
    unfold tokW nameT
    rw [if_pos hle, hnm, ho, Nat.zero_add]
    rfl
  unfold scW
  rw [hi0, sc_step hlen (by rw [ht]), ht]
  show _ :: scF l (l.length + 1) (idW l l.length) [] = _
  rw [hie, sc_end (by omega), if_pos rfl]

/-- tokens one behind the other, set like brackets -/
def Nst (l : List UInt8) : Nat → Nat → List Tok → Prop
  | _, n, [] => n = 0
  | a, n, t :: r => a ≤ t.at_ ∧ t.at_ < t.fin ∧ t.fin ≤ l.length ∧ (t.kind = 8 ∨ t.kind = 9 → n ≠ 0) ∧ Nst l t.fin (if t.kind = 7 then n + 1 else if t.kind = 9 then n - 1 else n) r
theorem open_len (t : Tok) (op : List Nat) : (openW t op).length = if t.kind = 7 then op.length + 1 else if t.kind = 9 then op.length - 1 else op.length := by
  unfold openW
  split
  · simp
  · split
    · rw [List.length_dropLast]
    · split
      · exact incL_len op
      · split
        · exact decO_len op
        · rfl
theorem nst_sc {l : List UInt8} : ∀ (f p a : Nat) (op : List Nat), a ≤ p → p ≤ l.length → l.length - p < f → (∀ t ∈ scF l f p op, t.err = 0) → Nst l a op.length (scF l f p op) := by
  intro f
  induction f with
  | zero => intro p a op _ _ h; omega
  | succ f ih =>
    intro p a op ha hp hf hok
    rw [scF] at hok ⊢
    by_cases h1 : p < l.length
    · rw [if_pos h1] at hok ⊢
      by_cases h2 : (tokW l op p).err = 0
      · rw [if_pos h2] at hok ⊢
        obtain ⟨u1, u2, u3⟩ := tok_up h1 h2
        have hi := idW_ge u3
        refine ⟨by rw [u1]; exact ha, by rw [u1]; exact u2, u3, fun hk => ?_, ?_⟩
        · have := (tok_kind (l := l) (op := op) (p := p)).1 hk
          intro e
          have e2 := List.length_eq_zero_iff.1 e
          rw [e2] at this
          exact absurd this (by decide)
        · rw [← open_len]
          exact ih _ _ _ hi.1 hi.2 (by omega) (fun t ht => hok t (List.mem_cons_of_mem _ ht))
      · rw [if_neg h2] at hok
        exact absurd (hok _ (List.mem_singleton.2 rfl)) h2
    · rw [if_neg h1] at hok ⊢
      by_cases ho : op = []
      · rw [if_pos ho]; subst ho; rfl
      · rw [if_neg ho] at hok
        exact absurd (hok _ (List.mem_singleton.2 rfl)) (by simp)
/-- so far: k tokens passed, the last one's end, how many are open -/
def NsS (l : List UInt8) (k a n : Nat) : Prop := ∃ pre rest, scW l = pre ++ rest ∧ pre.length = k ∧ Nst l a n rest
theorem NsS.start {l : List UInt8} (h : ∀ t ∈ scW l, t.err = 0) : NsS l 0 0 0 := by
  have hi := idW_ge (l := l) (p := 0) (Nat.zero_le _)
  exact ⟨[], scW l, rfl, rfl, nst_sc _ _ 0 [] (Nat.zero_le _) hi.2 (by omega) h⟩
theorem NsS.more {l : List UInt8} {k a n : Nat} (h : NsS l k a n) (hk : k < (scW l).length) : a ≤ (scW l)[k].at_ ∧ (scW l)[k].at_ < (scW l)[k].fin ∧ (scW l)[k].fin ≤ l.length ∧ ((scW l)[k].kind = 8 ∨ (scW l)[k].kind = 9 → n ≠ 0) ∧ NsS l (k + 1) (scW l)[k].fin (if (scW l)[k].kind = 7 then n + 1 else if (scW l)[k].kind = 9 then n - 1 else n) := by
  obtain ⟨pre, rest, h1, h2, h3⟩ := h
  cases rest with
  | nil => rw [h1] at hk; simp at hk; omega
  | cons t r =>
    have e : (scW l)[k] = t := by
      have : (scW l)[k]? = some t := by rw [h1, List.getElem?_append_right (by omega), h2, Nat.sub_self]; rfl
      rw [List.getElem?_eq_getElem hk] at this
      exact Option.some.inj this
    rw [e]
    obtain ⟨q1, q2, q3, q4, q5⟩ := h3
    exact ⟨q1, q2, q3, q4, pre ++ [t], r, by rw [h1, List.append_assoc]; rfl, by rw [List.length_append, h2]; rfl, q5⟩
theorem NsS.last {l : List UInt8} {k a n : Nat} (h : NsS l k a n) (hk : k = (scW l).length) : n = 0 := by
  obtain ⟨pre, rest, h1, h2, h3⟩ := h
  cases rest with
  | nil => exact h3
  | cons t r => rw [h1, List.length_append, h2, List.length_cons] at hk; omega
theorem scF_len {l : List UInt8} : ∀ (f p : Nat) (op : List Nat), p ≤ l.length → (scF l f p op).length ≤ l.length - p + 1 := by
  intro f
  induction f with
  | zero => intro p op _; exact Nat.zero_le _
  | succ f ih =>
    intro p op hp
    rw [scF]
    by_cases h1 : p < l.length
    · rw [if_pos h1]
      by_cases h2 : (tokW l op p).err = 0
      · rw [if_pos h2]
        obtain ⟨u1, u2, u3⟩ := tok_up h1 h2
        have hi := idW_ge u3
        have := ih _ (openW (tokW l op p) op) hi.2
        rw [List.length_cons]
        omega
      · rw [if_neg h2]; simp
    · rw [if_neg h1]
      split
      · exact Nat.zero_le _
      · simp
theorem scW_len (l : List UInt8) : (scW l).length ≤ l.length + 1 := by
  have hi := idW_ge (l := l) (p := 0) (Nat.zero_le _)
  have := scF_len (l.length + 1) (idW l 0) [] hi.2
  unfold scW
  omega

set_option maxRecDepth 100000 in
set_option maxHeartbeats 3200000 in
theorem w_WordAlone (s : ByteArray) (w : World) (ss : s.size ≤ 1048576) (hE : ErrIn w) : Calls Tryd.prog 6 #[.string s] w fun e w' => e = .returned (.bool true) ∧ Below w.heap.size w w' := by
  have HE := Hid.mk hE
  have HP := Hid.mk (fun u => w_Plain s u (by omega))
  have HIS : Hid (plainW s.data.toList = true → ∀ u, ErrIn u → Calls Tryd.prog 7 #[.string s, .slice (some ⟨u.heap.size, 0, none⟩) 1 1] (u.alloc (.cells #[.int .i64 1, .int .i64 0, .int .i64 (s.size : Int), .string s] 23)) fun e w' => e = .returned (.bool true) ∧ Below u.heap.size u w') := fun hpl u hu => by
    have hb := below1 u (.cells #[.int .i64 1, .int .i64 0, .int .i64 (s.size : Int), .string s] 23)
    refine (w_is s [⟨1, 0, s.data.toList.length, s.data.toList, 0⟩] (some ⟨u.heap.size, 0, none⟩) 1 _ (by omega) (hu.keep hb) (sc_plain hpl) (by intro t ht; rw [List.mem_singleton.1 ht]) (trow_block (heap_alloc_new u _) ?_) (by simp) (by simp)).mono ?_
    · show _ = [Value.int .i64 1, .int .i64 0, .int .i64 ((s.data.toList.length : Nat) : Int), .string ⟨s.data.toList.toArray⟩]
      rw [size_lst]
      rfl
    · rintro e w' ⟨h1, h2⟩
      exact ⟨h1, hb.trans (h2.mono hb.size)⟩
  clear hE
  cases hpl : plainW s.data.toList with
  | false =>
    rw [hpl] at HP
    clear HIS hpl
    go_enter Tryd.func6, Tryd.ntmps6
    go_wp2_with fail
    refine (w_lWordKnown w HE.out).mono ?_
    rintro e w1 ⟨rfl, hb1⟩
    have HB1 := Hid.mk hb1
    clear hb1
    go_wp2_with fail
    refine (HP.out _).mono ?_
    rintro e wq ⟨rfl, hwq⟩
    obtain rfl := hwq.symm
    go_wp2_with fail
    go_ret
    exact ⟨rfl, HB1.out⟩
  | true =>
    have HIS2 := Hid.mk (HIS.out hpl)
    rw [hpl] at HP
    clear HIS hpl
    go_enter Tryd.func6, Tryd.ntmps6
    go_wp2_with fail
    refine (w_lWordKnown w HE.out).mono ?_
    rintro e w1 ⟨rfl, hb1⟩
    have HB1 := Hid.mk hb1
    clear hb1
    go_wp2_with fail
    refine (HP.out _).mono ?_
    rintro e wq ⟨rfl, hwq⟩
    obtain rfl := hwq.symm
    go_wp2_with fail
    refine (HIS2.out _ (HE.out.keep HB1.out)).mono ?_
    rintro e w2 ⟨rfl, hb2⟩
    have HB2 := Hid.mk (HB1.out.trans (hb2.mono HB1.out.size))
    clear hb2
    go_wp2_with fail
    go_ret
    exact ⟨rfl, HB2.out⟩
end Go.Proofs.YtohclfgghobldaaDoor
