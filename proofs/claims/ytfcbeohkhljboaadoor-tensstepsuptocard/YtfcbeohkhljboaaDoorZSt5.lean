import Derived.Test.YtfcbeohkhljboaaDoorZSt4
namespace Go.Proofs.YtfcbeohkhljboaaDoor
open Go.RowKit Go.Shelf
set_option linter.unusedVariables false

theorem st_zero {b : ByteArray} (h : Pl.formed b.data.toList = true) : b.data.toList ≠ [48] ↔ Pl.ival b.data.toList ≠ 0 := by
  constructor
  · intro hn he
    have h1 := dvl_pos h hn
    have h2 := natAbs_ival b.data.toList
    rw [he] at h2
    simp at h2
    omega
  · intro hn he
    rw [he] at hn
    exact hn (by decide)

theorem want_good {w w' : World} {e : Ending} {F T S : Int} {mb : Nat} (h : RStepsR w w' e F T S (mb + 1)) :
    ∃ so sc k l, e = .returned (.slice so k sc) ∧ Hid (WantOk w' (.slice so k sc) l k mb (fun xs => StGood F S xs ∧ ¬ StOn T S (F + (xs.length : Int) * S)) (fun pre => StGood F S pre ∧ ∀ i, i < pre.length → StOn T S (F + (i : Int) * S))) ∧ Below w.heap.size w w' := by
  obtain ⟨so, sc, l, rfl, hs, hg, hon, hle, hend, hb⟩ := h
  refine ⟨so, sc, l.length, l, rfl, ⟨rfl, hle, hs, ?_, ?_⟩, hb⟩
  · rintro pre x h1 h2 ⟨hp, ho⟩
    have hj := ho pre.length (by simp)
    have hlt : pre.length < l.length := by
      rcases Nat.lt_or_ge pre.length l.length with h | h
      · exact h
      · have he : l.length = pre.length := by omega
        rcases hend with h3 | h3
        · omega
        · rw [he] at h3; exact absurd hj h3
    obtain ⟨s, hs1⟩ : ∃ s, l[pre.length]? = some s := ⟨_, List.getElem?_eq_getElem hlt⟩
    have a1 := hg _ _ hs1
    have a2 := hp.last
    rw [hs1, st_text a1.1 a2.1 (a1.2.trans a2.2.symm)]
  · rintro xs ⟨hx, hn⟩ h1 h2
    rcases Nat.lt_or_ge xs.length l.length with h | h
    · exact absurd (hon _ h) hn
    · omega

set_option maxRecDepth 100000 in
theorem w_TensSteps (f t b : ByteArray) (m0 : Int) (w : World) (sf : f.size ≤ 1048576) (st : t.size ≤ 1048576) (sb : b.size ≤ 1048576) (htab : Tab w) :
    Calls Tryd.prog 7 #[.string f, .string t, .string b, .int .i64 m0] w fun e w' => e = .returned (.bool true) ∧ Below w.heap.size w w' := by
  by_cases hok : Pl.formed f.data.toList = true ∧ Pl.formed t.data.toList = true ∧ Pl.formed b.data.toList = true ∧ Pl.ival b.data.toList ≠ 0
  · obtain ⟨ff, ft, fb, hb⟩ := hok
    have hr (mb : Nat) (hm : mb ≤ 200) (u : World) := (w_rSteps f t b (mb + 1) (by omega) sf st sb ff ft fb ((st_zero fb).2 hb) u).mono (fun e w' h => want_good h)
    have hseq : ∀ (u : World) (n Bb Bf Bt : Nat), 1 ≤ n → Tab u → u.cell? ⟨Bb, 0, none⟩ = some (.string b) → u.cell? ⟨Bf, 0, none⟩ = some (.string f) → u.cell? ⟨Bt, 0, none⟩ = some (.string t) → Bb < u.heap.size → Bf < u.heap.size → Bt < u.heap.size →
      SeqStopsK Fence.wide n Tryd.prog 65 #[.pointer (some ⟨Bb, 0, none⟩), .pointer (some ⟨Bf, 0, none⟩), .pointer (some ⟨Bt, 0, none⟩)] (fun s : ByteArray => #[.string s]) (Below u.heap.size)
        (fun xs => StGood (Pl.ival f.data.toList) (Pl.ival b.data.toList) xs ∧ ¬ StOn (Pl.ival t.data.toList) (Pl.ival b.data.toList) (Pl.ival f.data.toList + (xs.length : Int) * Pl.ival b.data.toList))
        (fun pre => StGood (Pl.ival f.data.toList) (Pl.ival b.data.toList) pre ∧ ∀ i, i < pre.length → StOn (Pl.ival t.data.toList) (Pl.ival b.data.toList) (Pl.ival f.data.toList + (i : Int) * Pl.ival b.data.toList)) (stLeft (Pl.ival t.data.toList) (Pl.ival b.data.toList) (Pl.ival f.data.toList) + 1) u :=
      fun u n Bb Bf Bt hn ht cb cf ct lb lf lt l J Jx W hW hJ hJx hY h0 => steps1_in n hn l Bb Bf Bt f t b sf st sb ff ft fb hb _ (Nat.le_refl _) u ht cb cf ct lb lf lt J Jx W hW hJ hJx hY h0
    by_cases h1 : m0 < 0
    · exact w_TensSteps_a f t b m0 _ _ _ w htab h1 (hr 200 (by omega)) hseq
    · by_cases h2 : 200 < m0
      · exact w_TensSteps_b f t b m0 _ _ _ w htab h1 h2 (hr 200 (by omega)) hseq
      · exact w_TensSteps_c f t b m0 m0.toNat _ _ _ (by omega) w htab h1 h2 (by omega) (hr _ (by omega)) hseq
  · have hbad : ¬ (Pl.formed f.data.toList = true ∧ Pl.formed t.data.toList = true ∧ Pl.formed b.data.toList = true ∧ b.data.toList ≠ [48]) := fun h => hok ⟨h.1, h.2.1, h.2.2.1, (st_zero h.2.2.1).1 h.2.2.2⟩
    have hr (mb : Nat) (z : Int) (u : World) : Calls Tryd.prog 34 #[.string f, .string t, .string b, .int .i64 z] u fun e w' => ∃ so sc k l, e = .returned (.slice so k sc) ∧ Hid (WantOk w' (.slice so k sc) l k mb (fun xs => xs = []) (fun _ => False)) ∧ Below u.heap.size u w' :=
      (w_rSteps_no f t b z sf st sb hbad u).mono (by
        rintro e w' ⟨rfl, rfl⟩
        exact ⟨none, 0, 0, [], rfl, ⟨rfl, by omega, ⟨none, 0, rfl, by simp, fun h => by simp at h⟩, fun _ _ _ _ h => h.elim, fun xs h _ _ => by rw [h]; rfl⟩, Below.refl _ _⟩)
    have hseq : ∀ (u : World) (n Bb Bf Bt : Nat), 1 ≤ n → Tab u → u.cell? ⟨Bb, 0, none⟩ = some (.string b) → u.cell? ⟨Bf, 0, none⟩ = some (.string f) → u.cell? ⟨Bt, 0, none⟩ = some (.string t) → Bb < u.heap.size → Bf < u.heap.size → Bt < u.heap.size →
      SeqStopsK Fence.wide n Tryd.prog 65 #[.pointer (some ⟨Bb, 0, none⟩), .pointer (some ⟨Bf, 0, none⟩), .pointer (some ⟨Bt, 0, none⟩)] (fun s : ByteArray => #[.string s]) (Below u.heap.size) (fun xs => xs = []) (fun _ => False) 1 u :=
      fun u n Bb Bf Bt hn ht cb cf ct lb lf lt l J Jx W hW hJ hJx hY h0 => (steps1_none n hn l Bb Bf Bt f t b sf st sb hok u cb cf ct lb lf lt J W hW hJ h0).mono (fun e W' h => ⟨h.1, .inl ⟨[], rfl, h.2⟩⟩)
    by_cases h1 : m0 < 0
    · exact w_TensSteps_a f t b m0 _ _ _ w htab h1 (hr 200 _) hseq
    · by_cases h2 : 200 < m0
      · exact w_TensSteps_b f t b m0 _ _ _ w htab h1 h2 (hr 200 _) hseq
      · exact w_TensSteps_c f t b m0 m0.toNat _ _ _ (by omega) w htab h1 h2 (by omega) (hr _ _) hseq
end Go.Proofs.YtfcbeohkhljboaaDoor
