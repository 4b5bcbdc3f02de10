import Derived.Test.YtdehejadiofomaaDoorD9
namespace Go.Proofs.YtdehejadiofomaaDoor
open Go.RowKit Go.Shelf
set_option linter.unusedVariables false
set_option linter.unusedSimpArgs false

def tokC (t : Tok) (j : Nat) : Value := if j = 0 then .int .i64 (t.kind : Int) else if j = 1 then .int .i64 (t.at_ : Int) else if j = 2 then .int .i64 (t.fin : Int) else .string ⟨t.text.toArray⟩
theorem flT_get (l : List Tok) : ∀ (i j : Nat) (h : i < l.length), j < 4 → (flT l)[i * 4 + j]? = some (tokC l[i] j) := by
  induction l with
  | nil => intro i j h; exact absurd h (Nat.not_lt_zero _)
  | cons t l ih =>
    intro i j h hj
    have e : flT (t :: l) = [.int .i64 (t.kind : Int), .int .i64 (t.at_ : Int), .int .i64 (t.fin : Int), .string ⟨t.text.toArray⟩] ++ flT l := rfl
    rw [e]
    cases i with
    | zero =>
      rw [List.getElem?_append_left (by simp; omega)]
      have : j = 0 ∨ j = 1 ∨ j = 2 ∨ j = 3 := by omega
      rcases this with rfl | rfl | rfl | rfl <;> rfl
    | succ i =>
      rw [List.getElem?_append_right (by simp; omega)]
      have e2 : (i + 1) * 4 + j - [Value.int .i64 (t.kind : Int), .int .i64 (t.at_ : Int), .int .i64 (t.fin : Int), .string ⟨t.text.toArray⟩].length = i * 4 + j := by simp; omega
      rw [e2, ih i j (by simpa using h) hj]
      rfl
theorem trow_block {w : World} {g : Nat} {cur : Array Value} {t : TypeId} {l : List Tok} (h : w.heap[g]? = some (.cells cur t (0, 0))) (hc : cur.toList.take (l.length * 4) = flT l) : TRow w (some ⟨g, 0, none⟩) l := fun i hi => by
  have hv : ∀ j, j < 4 → w.cell? ⟨g, 0 + i * 4 + j, none⟩ = some (tokC l[i] j) := fun j hj => by
    rw [cell_of_row _ _ _ _ _ _ h, ← Array.getElem?_toList, Nat.zero_add, ← flT_get l i j hi hj, ← hc, List.getElem?_take_of_lt (by omega)]
  exact ⟨g, 0, rfl, (Array.getElem?_eq_some_iff.1 h).1, hv 0 (by decide), hv 1 (by decide), hv 2 (by decide), hv 3 (by decide)⟩
theorem trow_own {w : World} {base : Nat} {so : Option Addr} {sc : Nat} {l : List Tok} (h : w.ownsRow base 27 4 (.slice so l.length sc) l.length (flT l)) : TRow w so l ∧ l.length ≤ sc := by
  rcases h.2 with ⟨e, h0⟩ | ⟨g, cap, cur, e, h1, h2, h3, h4, h5, h6⟩
  · exact ⟨fun i hi => by omega, by omega⟩
  · simp only [Value.slice.injEq] at e
    obtain ⟨rfl, _, rfl⟩ := e
    exact ⟨trow_block h2 h6, h3⟩

theorem w_ScanK (w : World) (hE : ErrIn w) : Calls Tryd.prog 9 #[.string ⟨kText.toArray⟩] w fun e w' => ∃ so sc, e = .returned (.tuple #[.slice so 11 sc, .int .i64 0, .int .i64 0]) ∧ Hid (TRow w' so kToks ∧ 11 ≤ sc) ∧ Below w.heap.size w w' := by
  refine (w_Scan ⟨kText.toArray⟩ w (by decide) hE).mono ?_
  have e1 : (⟨kText.toArray⟩ : ByteArray).data.toList = kText := rfl
  unfold ScanR
  rw [e1, allY_known]
  rintro e w' ⟨⟨_, so, sc, rfl, hr⟩ | ⟨p2, x2, h1, h2, _⟩, hb⟩
  · obtain ⟨t1, t2⟩ := trow_own hr.out
    exact ⟨so, sc, rfl, ⟨t1, t2⟩, hb⟩
  · have hm : x2 ∈ kToks := by rw [h1]; simp
    have : ∀ t ∈ kToks, t.err = 0 := by
      intro t ht
      simp only [kToks, List.mem_cons, List.mem_nil_iff, or_false] at ht
      rcases ht with rfl | rfl | rfl | rfl | rfl | rfl | rfl | rfl | rfl | rfl | rfl <;> rfl
    exact absurd (this _ hm) h2

set_option maxRecDepth 100000 in
set_option maxHeartbeats 6400000 in
theorem w_lTokenKnown (w : World) (hE : ErrIn w) : Calls Tryd.prog 8 #[] w fun e w' => e = .returned (.bool true) ∧ Below w.heap.size w w' := by
  have HE := Hid.mk hE
  have HS := Hid.mk (w_ScanK w hE)
  unfold kText at HS
  clear hE
  go_enter Tryd.func8, Tryd.ntmps8
  go_wp2_with fail
  refine HS.out.mono ?_
  rintro e w1 ⟨so, sc, rfl, HT, hb1⟩
  have HB1 := Hid.mk hb1
  clear hb1 HS
  go_wp2_with fail
  refine (w_known _).mono ?_
  rintro e w2 ⟨rfl, hw2⟩
  have HB2 : Hid (Below w.heap.size w w2) := by show Below _ _ _; rw [hw2]; exact HB1.out.alloc HB1.out.size _
  have HR : Hid (TRow w2 so kToks ∧ TRow w2 (some ⟨w1.heap.size, 0, none⟩) kToks) := by
    refine ⟨HT.out.1.keep (by rw [hw2]; exact below1 w1 _), trow_block (cur := (flT kToks).toArray) (by rw [hw2]; exact heap_alloc_new w1 _) ?_⟩
    exact List.take_of_length_le (by rw [flT_len]; exact Nat.le_refl _)
  clear hw2
  go_wp2_with fail
  refine (w_SameTokens kToks so (some ⟨w1.heap.size, 0, none⟩) sc 11 w2 (by decide) HR.out.1 HR.out.2 HT.out.2 (by decide)).mono ?_
  rintro e w3 ⟨rfl, hb3⟩
  have HB3 := Hid.mk (HB2.out.trans (hb3.mono HB2.out.size))
  clear hb3 HR HT
  go_wp2_with fail
  refine (w_fails ⟨#[116, 114, 117, 101, 102, 97, 108, 115, 101]⟩ 41 0 _ _ w3 (by decide) (HE.out.keep HB3.out) allY_bad0 rfl (by decide) rfl).mono ?_
  rintro e w4 ⟨rfl, hb4⟩
  have HB4 := Hid.mk (HB3.out.trans (hb4.mono HB3.out.size))
  clear hb4
  go_wp2_with fail
  refine (w_fails ⟨#[91, 49, 46, 53, 93]⟩ 42 1 _ _ w4 (by decide) (HE.out.keep HB4.out) allY_bad1 rfl (by decide) rfl).mono ?_
  rintro e w5 ⟨rfl, hb5⟩
  have HB5 := Hid.mk (HB4.out.trans (hb5.mono HB4.out.size))
  clear hb5
  go_wp2_with fail
  refine (w_fails ⟨#[49, 50, 45, 51]⟩ 42 0 _ _ w5 (by decide) (HE.out.keep HB5.out) allY_bad2 rfl (by decide) rfl).mono ?_
  rintro e w6 ⟨rfl, hb6⟩
  have HB6 := Hid.mk (HB5.out.trans (hb6.mono HB5.out.size))
  clear hb6
  go_wp2_with fail
  refine (w_fails ⟨#[39, 97, 39]⟩ 40 0 _ _ w6 (by decide) (HE.out.keep HB6.out) allY_bad3 rfl (by decide) rfl).mono ?_
  rintro e w7 ⟨rfl, hb7⟩
  have HB7 := Hid.mk (HB6.out.trans (hb7.mono HB6.out.size))
  clear hb7
  go_wp2_with fail
  refine (w_fails ⟨#[43, 49]⟩ 40 0 _ _ w7 (by decide) (HE.out.keep HB7.out) allY_bad4 rfl (by decide) rfl).mono ?_
  rintro e w8 ⟨rfl, hb8⟩
  have HB8 := Hid.mk (HB7.out.trans (hb8.mono HB7.out.size))
  clear hb8
  go_wp2_with fail
  go_ret
  exact ⟨rfl, HB8.out⟩
end Go.Proofs.YtdehejadiofomaaDoor
